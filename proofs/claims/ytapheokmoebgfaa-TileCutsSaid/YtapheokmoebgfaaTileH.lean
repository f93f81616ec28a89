/-
  The reference's tiles: how many; which heights lie in one; cut out of a field.
-/
import Derived.Test.YtapheokmoebgfaaTileC
import Derived.Test.YtapheokmoebgfaaCopy
import Derived.IntWalk
set_option linter.unusedVariables false
set_option linter.unusedSimpArgs false
namespace Go.Proofs.Ytapheokmoebgfaa
open Go Go.RowKit Go.Th

theorem ref8Count_any (n : Nat) (h : n ≤ 1000000) : Pure 16 #[.int .i64 n] (.int .i64 (cnt n : Nat)) := by
  intro W
  have hc : ∀ k : Nat, 16 * k < n ↔ k < cnt n := fun k => by unfold cnt; omega
  have hle : cnt n ≤ 1000000 := by unfold cnt; omega
  obtain ⟨c, hcc⟩ : ∃ c, c = cnt n := ⟨_, rfl⟩
  rw [← hcc] at hc hle ⊢
  have HC := Lib.hid hc
  clear hc hcc
  go_enter Try.func16, Try.ntmps16
  go_wp2_with fail
  go_loopw [3] (fun v wx => ∃ k : Nat, k ≤ c ∧ v = .int .i64 k ∧ wx = W) (fun v _ => c - (intOf v).toNat)
  case atStart => exact ⟨0, Nat.zero_le _, rfl, rfl⟩
  case round =>
    obtain ⟨k, hk, rfl, rfl⟩ := hrel
    have hck := HC.out k
    by_cases hlt : k < c
    · have hl := hck.2 hlt
      have hl2 : (16 : Int) * (k : Int) < (n : Int) := by omega
      clear hck
      go_wp2_with fail
      go_roundw
      case rel => exact ⟨k + 1, by omega, by go_num, by trivial⟩
      case measure => simp [intOf]; omega
    · obtain rfl : k = c := by omega
      have hl : ¬ 16 * k < n := fun e => hlt (hck.1 e)
      have hl2 : ¬ ((16 : Int) * (k : Int) < (n : Int)) := by omega
      clear hck
      go_wp2_with fail
      go_ret
      exact ⟨rfl, by trivial⟩

theorem in_any (X Y q1 q2 q3 q4 : Int) (x y : Nat) (e1 : IntKind.i64.wrap (16 * X) = q1) (e2 : IntKind.i64.wrap (q1 + 16) = q2) (e3 : IntKind.i64.wrap (16 * Y) = q3) (e4 : IntKind.i64.wrap (q3 + 16) = q4)
    (hx : x ≤ 1000) (hy : y ≤ 1000) : Pure 30 #[.int .i64 x, .int .i64 y, .int .i64 X, .int .i64 Y] (.bool (decide (0 ≤ X ∧ 0 ≤ Y ∧ q1 ≤ (x : Int) ∧ (x : Int) < q2 ∧ q3 ≤ (y : Int) ∧ (y : Int) < q4))) := by
  intro W
  have w1 : wrap64 (16 * X) = q1 := by rw [← e1, IntKind.wrap_i64]; unfold wrap64; rfl
  have w2 : wrap64 (q1 + 16) = q2 := by rw [← e2, IntKind.wrap_i64]; unfold wrap64; rfl
  have w3 : wrap64 (16 * Y) = q3 := by rw [← e3, IntKind.wrap_i64]; unfold wrap64; rfl
  have w4 : wrap64 (q3 + 16) = q4 := by rw [← e4, IntKind.wrap_i64]; unfold wrap64; rfl
  by_cases c0 : 0 ≤ X
  · by_cases c1 : 0 ≤ Y
    · by_cases c2 : q1 ≤ (x : Int)
      · by_cases c3 : (x : Int) < q2
        · by_cases c4 : q3 ≤ (y : Int)
          · by_cases c5 : (y : Int) < q4
            · rw [show decide (0 ≤ X ∧ 0 ≤ Y ∧ q1 ≤ (x : Int) ∧ (x : Int) < q2 ∧ q3 ≤ (y : Int) ∧ (y : Int) < q4) = true from decide_eq_true ⟨c0, c1, c2, c3, c4, c5⟩]
              go_enter Try.func30, Try.ntmps30
              go_wp2
              go_ret
              exact ⟨rfl, rfl⟩
            · rw [show decide (0 ≤ X ∧ 0 ≤ Y ∧ q1 ≤ (x : Int) ∧ (x : Int) < q2 ∧ q3 ≤ (y : Int) ∧ (y : Int) < q4) = false from decide_eq_false (fun h => c5 h.2.2.2.2.2)]
              go_enter Try.func30, Try.ntmps30
              go_wp2
              go_ret
              exact ⟨rfl, rfl⟩
          · rw [show decide (0 ≤ X ∧ 0 ≤ Y ∧ q1 ≤ (x : Int) ∧ (x : Int) < q2 ∧ q3 ≤ (y : Int) ∧ (y : Int) < q4) = false from decide_eq_false (fun h => c4 h.2.2.2.2.1)]
            go_enter Try.func30, Try.ntmps30
            go_wp2
            go_ret
            exact ⟨rfl, rfl⟩
        · rw [show decide (0 ≤ X ∧ 0 ≤ Y ∧ q1 ≤ (x : Int) ∧ (x : Int) < q2 ∧ q3 ≤ (y : Int) ∧ (y : Int) < q4) = false from decide_eq_false (fun h => c3 h.2.2.2.1)]
          go_enter Try.func30, Try.ntmps30
          go_wp2
          go_ret
          exact ⟨rfl, rfl⟩
      · rw [show decide (0 ≤ X ∧ 0 ≤ Y ∧ q1 ≤ (x : Int) ∧ (x : Int) < q2 ∧ q3 ≤ (y : Int) ∧ (y : Int) < q4) = false from decide_eq_false (fun h => c2 h.2.2.1)]
        go_enter Try.func30, Try.ntmps30
        go_wp2
        go_ret
        exact ⟨rfl, rfl⟩
    · rw [show decide (0 ≤ X ∧ 0 ≤ Y ∧ q1 ≤ (x : Int) ∧ (x : Int) < q2 ∧ q3 ≤ (y : Int) ∧ (y : Int) < q4) = false from decide_eq_false (fun h => c1 h.2.1)]
      go_enter Try.func30, Try.ntmps30
      go_wp2
      go_ret
      exact ⟨rfl, rfl⟩
  · rw [show decide (0 ≤ X ∧ 0 ≤ Y ∧ q1 ≤ (x : Int) ∧ (x : Int) < q2 ∧ q3 ≤ (y : Int) ∧ (y : Int) < q4) = false from decide_eq_false (fun h => c0 h.1)]
    go_enter Try.func30, Try.ntmps30
    go_wp2
    go_ret
    exact ⟨rfl, rfl⟩

/-- Whatever place is asked for, it is told of each height whether it lies there. -/
theorem in_some (X Y : Int) : ∃ p : Nat → Nat → Bool, ∀ r c : Nat, r ≤ 1000 → c ≤ 1000 → Pure 30 #[.int .i64 c, .int .i64 r, .int .i64 X, .int .i64 Y] (.bool (p r c)) :=
  ⟨fun r c => decide (0 ≤ X ∧ 0 ≤ Y ∧ IntKind.i64.wrap (16 * X) ≤ (c : Int) ∧ (c : Int) < IntKind.i64.wrap (IntKind.i64.wrap (16 * X) + 16) ∧ IntKind.i64.wrap (16 * Y) ≤ (r : Int) ∧ (r : Int) < IntKind.i64.wrap (IntKind.i64.wrap (16 * Y) + 16)),
    fun r c hr hc => in_any X Y _ _ _ _ c r rfl rfl rfl rfl hc hr⟩
theorem in_go (X Y : Int) (hX : -1000 ≤ X ∧ X ≤ 1000) (hY : -1000 ≤ Y ∧ Y ≤ 1000) (r c : Nat) (hr : r ≤ 1000) (hc : c ≤ 1000) : Pure 30 #[.int .i64 c, .int .i64 r, .int .i64 X, .int .i64 Y] (.bool (inT X Y r c)) := by
  have := in_any X Y (16 * X) (16 * X + 16) (16 * Y) (16 * Y + 16) c r (IntWalk.i64_in _ (by omega)) (IntWalk.i64_in _ (by omega)) (IntWalk.i64_in _ (by omega)) (IntWalk.i64_in _ (by omega)) hc hr
  exact this

set_option maxRecDepth 20000 in
set_option maxHeartbeats 3200000 in
theorem ref8Cut_any (x y n : Nat) (X Y : Int) (a : Option Addr) (cap : Nat) (F : List Int) (p : Nat → Nat → Bool) (hx : x ≤ 256) (hy : y ≤ 256) (hn : n = x * y) (hl : F.length = n)
    (hp : ∀ r c : Nat, r ≤ 1000 → c ≤ 1000 → Pure 30 #[.int .i64 c, .int .i64 r, .int .i64 X, .int .i64 Y] (.bool (p r c))) (w : World) (hS : Sl w 1 (.slice a n cap) n (i16s F)) :
    Calls Try.prog 13 #[hv x y (.slice a n cap), .int .i64 X, .int .i64 Y] w fun e w' => ∃ v, e = .returned (.tuple #[v, .int .i64 (pickW F p x y : Nat), .int .i64 (pickH F p x y : Nat)]) ∧ w'.ownsRow w.heap.size 30 1 v (pick F p x y).length (i16s (pick F p x y)) ∧ Below w.heap.size w w' := by
  have hPn : ∀ r, pick F p x (r + 1) = pick F p x r ++ pickRow F (p r) (r * x) x := fun r => rfl
  have hWn : ∀ r, pickW F p x (r + 1) = if 0 < (pickRow F (p r) (r * x) x).length then (pickRow F (p r) (r * x) x).length else pickW F p x r := fun r => rfl
  have hHn : ∀ r, pickH F p x (r + 1) = if 0 < (pickRow F (p r) (r * x) x).length then pickH F p x r + 1 else pickH F p x r := fun r => rfl
  have hRy : ∀ r c, p r c = true → pickRow F (p r) (r * x) (c + 1) = pickRow F (p r) (r * x) c ++ [F.getD (r * x + c) 0] := fun r c h => pickRow_yes F (p r) (r * x) c h
  have hRn : ∀ r c, p r c = false → pickRow F (p r) (r * x) (c + 1) = pickRow F (p r) (r * x) c := fun r c h => pickRow_no F (p r) (r * x) c h
  have hR0 : ∀ r, pickRow F (p r) (r * x) 0 = [] := fun r => rfl
  have hPl : ∀ r, (pick F p x r).length ≤ r * x := fun r => pick_le F p x r
  have hRl : ∀ r c, (pickRow F (p r) (r * x) c).length ≤ c := fun r c => pickRow_le F (p r) (r * x) c
  have hWl : ∀ r, pickW F p x r ≤ x := fun r => pickW_le F p x r
  have hHl : ∀ r, pickH F p x r ≤ r := fun r => pickH_le F p x r
  have hP0 : pick F p x 0 = [] := rfl
  have hW0 : pickW F p x 0 = 0 := rfl
  have hH0 : pickH F p x 0 = 0 := rfl
  have hqs : ∀ r, r < y → r * x + x ≤ n := fun r hr => by
    have := Nat.mul_le_mul_right x (Nat.succ_le_of_lt hr)
    rw [hn, Nat.mul_comm x y]
    rwa [Nat.succ_mul] at this
  have hnle : n ≤ 256 * 256 := by rw [hn]; exact Nat.mul_le_mul hx hy
  have hqe : ∀ r : Nat, (r : Int) * (x : Int) = ((r * x : Nat) : Int) := fun r => by simp
  obtain ⟨P, hP⟩ : ∃ P, P = pick F p x := ⟨_, rfl⟩
  obtain ⟨PW, hPW⟩ : ∃ PW, PW = pickW F p x := ⟨_, rfl⟩
  obtain ⟨PH, hPH⟩ : ∃ PH, PH = pickH F p x := ⟨_, rfl⟩
  obtain ⟨PR, hPR⟩ : ∃ PR : Nat → Nat → List Int, PR = fun r c => pickRow F (p r) (r * x) c := ⟨_, rfl⟩
  have hPR' : ∀ r c, pickRow F (p r) (r * x) c = PR r c := fun r c => by rw [hPR]
  simp only [hPR', ← hP, ← hPW, ← hPH] at hPn hWn hHn hRy hRn hR0 hPl hRl hWl hHl hP0 hW0 hH0 ⊢
  have HPN := Lib.hid hPn
  have HWN := Lib.hid hWn
  have HHN := Lib.hid hHn
  have HRY := Lib.hid hRy
  have HRN := Lib.hid hRn
  have HR0 := Lib.hid hR0
  have HPL := Lib.hid hPl
  have HRL := Lib.hid hRl
  have HWL := Lib.hid hWl
  have HHL := Lib.hid hHl
  have HP0 := Lib.hid hP0
  have HW0 := Lib.hid hW0
  have HH0 := Lib.hid hH0
  have HQS := Lib.hid hqs
  have HQE := Lib.hid hqe
  have HIN := Lib.hid hp
  have HL := Lib.hid hl
  have HS := Lib.hid hS
  have hmx := hS.max
  clear hPn hWn hHn hRy hRn hR0 hPl hRl hWl hHl hP0 hW0 hH0 hqs hqe hp hl hS hn hP hPW hPH hPR hPR'
  go_enter Try.func13, Try.ntmps13
  go_wp2_with fail
  obtain ⟨w2, hw2⟩ : ∃ w2, w.alloc (.cells #[.int .i64 x, .int .i64 y, .slice a n cap] 36) = w2 := ⟨_, rfl⟩
  have hB2 : Below w.heap.size w w2 := by rw [← hw2]; exact (Below.refl _ _).alloc (Nat.le_refl _) _
  have K1 : Blk w2 w.heap.size 36 [.int .i64 x, .int .i64 y, .slice a n cap] := by rw [← hw2]; exact Blk.new w _ _
  have hz2 : w.heap.size + 1 ≤ w2.heap.size := by rw [← hw2]; simp
  rw [hw2]
  clear hw2
  go_loopw [9, 10, 11, 12] (fun v u h c wx => ∃ r : Nat, r ≤ y ∧ c = .int .i64 r ∧ u = .int .i64 (PW r : Nat) ∧ h = .int .i64 (PH r : Nat) ∧ wx.ownsRow w2.heap.size 30 1 v (P r).length (i16s (P r)) ∧ Below w2.heap.size w2 wx) (fun _ _ _ c _ => y - (intOf c).toNat)
  case atStart => exact ⟨0, Nat.zero_le _, rfl, by rw [HW0.out]; rfl, by rw [HH0.out]; rfl, by rw [HP0.out]; exact World.ownsRow_nil _ _ _ _, Below.refl _ _⟩
  case round =>
    obtain ⟨r, hr, rfl, rfl, rfl, ho, hB⟩ := hrel
    have hPl := HPL.out r
    have hWl := HWL.out r
    have hHl := HHL.out r
    have c1 := (K1.below hB K1.lt).cell (i := 1) rfl
    by_cases hlt : r < y
    · have hqs := HQS.out r hlt
      have hqe := HQE.out r
      obtain ⟨q, hq⟩ : ∃ q, q = r * x := ⟨_, rfl⟩
      rw [← hq] at hqs hqe hPl
      have HQ := Lib.hid hq
      clear hq
      obtain ⟨uw, huw⟩ : ∃ u, u = PW r := ⟨_, rfl⟩
      obtain ⟨uh, huh⟩ : ∃ u, u = PH r := ⟨_, rfl⟩
      rw [← huw] at hWl ⊢
      rw [← huh] at hHl ⊢
      have HUW := Lib.hid huw
      have HUH := Lib.hid huh
      clear huw huh
      go_wp2_with fail
      clear c1
      go_loopw [9, 13, 14] (fun v k c wx => ∃ j : Nat, j ≤ x ∧ c = .int .i64 j ∧ k = .int .i64 ((PR r j).length : Nat) ∧ wx.ownsRow w2.heap.size 30 1 v (P r ++ PR r j).length (i16s (P r ++ PR r j)) ∧ Below w2.heap.size w2 wx) (fun _ _ c _ => x - (intOf c).toNat)
      case atStart => exact ⟨0, Nat.zero_le _, rfl, by rw [HR0.out]; rfl, by rw [HR0.out, List.append_nil]; exact ho, hB⟩
      case round =>
        clear ho hB
        obtain ⟨j, hj, rfl, rfl, ho, hB⟩ := hrel
        have hRl := HRL.out r j
        have hB0 := hB2.trans (hB.mono (by omega))
        have hK := K1.below hB K1.lt
        have c0 := hK.cell (i := 0) rfl
        have c2 := hK.cell (i := 2) rfl
        have hsz := hB.size
        by_cases hjt : j < x
        · have hI := HIN.out r j (by omega) (by omega)
          by_cases hpt : p r j = true
          · have hRy := HRY.out r j hpt
            rw [hpt] at hI
            obtain ⟨b, o, rfl, hbl, hc⟩ := cell_i16D HS.out (q + j) (by rw [HL.out]; omega)
            have hc' := (hB0.cell (p := ⟨b, o + (q + j), none⟩) hbl).trans hc
            rw [← HQ.out] at hRy
            obtain ⟨u, hu⟩ : ∃ u, u = F.getD (q + j) 0 := ⟨_, rfl⟩
            rw [← hu] at hRy hc'
            have hll : (P r ++ PR r j).length = (P r).length + (PR r j).length := List.length_append
            obtain ⟨L, hL⟩ : ∃ L, L = (P r ++ PR r j).length := ⟨_, rfl⟩
            obtain ⟨l2, hl2⟩ : ∃ l, l = (PR r j).length := ⟨_, rfl⟩
            rw [← hL] at ho hll
            rw [← hl2] at hRl hll ⊢
            have hLb : L ≤ 70000 := by omega
            have HRY' := Lib.hid hRy
            have HLL := Lib.hid hL
            have HL2 := Lib.hid hl2
            have HI := Lib.hid hI
            clear hRy hpt hI hu hc hL hl2 hll
            go_wp2_with fail
            refine (HI.out _).mono ?_
            rintro e wx ⟨rfl, rfl⟩
            go_wp2_with (at_builtin; refine wpList_app E16 rfl (.tmp 32) (.tmp 43) rfl w2.heap.size rfl (ho.alloc _) rfl (Sl.one _ _ _) (by intro u hu; simp at hu; subst hu; rfl) (by unfold maxLen; omega) (by omega) (by simp; omega) ?_)
            intro v2 w3 ho3 hg3 _
            have hB3 := hB.trans (app_below ho hsz hg3)
            clear ho hg3 hB c0 c2
            go_wp2_with fail
            go_roundw
            case rel =>
              refine ⟨j + 1, by omega, by go_num, ?_, ?_, hB3⟩
              · rw [HRY'.out, List.length_append, ← HL2.out]; rfl
              · rw [HRY'.out, ← List.append_assoc, i16s_snoc, List.length_append, ← HLL.out]; exact ho3
            case measure => simp [intOf]; omega
          · have hpf : p r j = false := by simpa using hpt
            have hRn := HRN.out r j hpf
            rw [hpf] at hI
            have HRN' := Lib.hid hRn
            have HI := Lib.hid hI
            clear hRn hpf hpt hI
            go_wp2_with fail
            refine (HI.out _).mono ?_
            rintro e wx ⟨rfl, rfl⟩
            go_wp2_with fail
            go_roundw
            case rel => exact ⟨j + 1, by omega, by go_num, by rw [HRN'.out], by rw [HRN'.out]; exact ho, hB⟩
            case measure => simp [intOf]; omega
        · obtain rfl : j = x := by omega
          have hPn := HPN.out r
          have hWn := HWN.out r
          have hHn := HHN.out r
          rw [← hPn] at ho
          obtain ⟨l2, hl2⟩ : ∃ l, l = (PR r j).length := ⟨_, rfl⟩
          rw [← hl2] at hRl hWn hHn ⊢
          clear hPn
          by_cases h0 : 0 < l2
          · rw [if_pos h0] at hWn hHn
            rw [← HUH.out] at hHn
            have HW := Lib.hid hWn
            have HH := Lib.hid hHn
            clear hWn hHn hl2
            go_wp2_with fail
            go_roundw
            case rel => exact ⟨r + 1, by omega, by go_num, by rw [HW.out], by rw [HH.out]; go_num, ho, hB⟩
            case measure => simp [intOf]; omega
          · rw [if_neg h0] at hWn hHn
            rw [← HUH.out] at hHn
            rw [← HUW.out] at hWn
            have HW := Lib.hid hWn
            have HH := Lib.hid hHn
            clear hWn hHn hl2
            go_wp2_with fail
            go_roundw
            case rel => exact ⟨r + 1, by omega, by go_num, by rw [HW.out], by rw [HH.out], ho, hB⟩
            case measure => simp [intOf]; omega
    · obtain rfl : r = y := by omega
      have hz : w.heap.size ≤ w2.heap.size := by omega
      have hB0 := hB2.trans (hB.mono hz)
      go_wp2_with fail
      go_ret3
      exact ⟨_, rfl, ownsRow_base ho hz, hB0⟩
end Go.Proofs.Ytapheokmoebgfaa
