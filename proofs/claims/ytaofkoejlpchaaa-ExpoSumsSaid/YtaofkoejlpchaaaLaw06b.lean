/-
  The law of logarithms of sums.
-/
import Derived.Test.YtaofkoejlpchaaaLaw06a
set_option linter.unusedVariables false
set_option linter.unusedSimpArgs false
namespace Go.Proofs.Ytaofkoejlpchaaa
open Go Go.RowKit Go.Th Go.Th.Root Go.Th.Wide Go.Th.Expo

set_option maxRecDepth 20000 in
set_option maxHeartbeats 3200000 in
theorem expoSums_long (x y : Int) (zs : List Int) (a : Option Addr) (cap : Nat) (W : World) (hl : 20 < zs.length) :
    Calls Try.prog 7 #[.int .i64 x, .int .i64 y, .slice a zs.length cap] W fun e w' => e = .returned (.bool true) ∧ Below W.heap.size W w' := by
  have C8 := works_any
  have hl1 : decide (20 < (zs.length : Int)) = true := by rw [decide_eq_true_iff]; omega
  clear hl
  have M0 := Mem.start W
  go_enter Try.func7, Try.ntmps7
  go_wp2_with fail
  (refine (C8 _).mono ?_; rintro e w2 ⟨rfl, hBl⟩; replace M0 := M0.call hBl; clear hBl C8)
  go_wp2_with fail
  go_ret
  exact ⟨rfl, M0.below⟩
set_option maxRecDepth 20000 in
set_option maxHeartbeats 3200000 in
theorem expoSums_short (x y s : Int) (zs : List Int) (a : Option Addr) (cap : Nat) (W : World) (hx : -9223372036854775808 ≤ x ∧ x ≤ 9223372036854775807) (hy : -9223372036854775808 ≤ y ∧ y ≤ 9223372036854775807) (hz : ∀ z ∈ zs, In64 z) (hS : Sl W 1 (.slice a zs.length cap) zs.length (i64s zs)) (hl : zs.length ≤ 20)
    (h1 : ¬ s < x) (h2 : ¬ s < y) (C1 : Ans 13 #[.int .i64 x, .int .i64 y] (.int .i64 s)) (C2 : Ans 14 #[.int .i64 x, .int .i64 y] (.int .i64 s)) (C3 : Ans 13 #[.int .i64 y, .int .i64 x] (.int .i64 s))
    (hC4 : ¬ 4611686018427387904 < x → Ans 13 #[.int .i64 x, .int .i64 x] (.int .i64 (x + 65536))) :
    Calls Try.prog 7 #[.int .i64 x, .int .i64 y, .slice a zs.length cap] W fun e w' => e = .returned (.bool true) ∧ Below W.heap.size W w' := by
  have C8 := works_any
  have hl1 : decide (20 < (zs.length : Int)) = false := by rw [decide_eq_false_iff_not]; omega
  have hl2 : zs.length ≤ 100000 := by omega
  have b1 : (s != s) = false := bne_self_eq_false s
  have HZ := Lib.hid hz
  have HS := Lib.hid hS
  have HC4 := Lib.hid hC4
  clear hz hS hl hC4
  have M0 := Mem.start W
  go_enter Try.func7, Try.ntmps7
  go_wp2_with fail
  (refine (C1 _).mono ?_; rintro e w2 ⟨rfl, hBl⟩; replace M0 := M0.call hBl; clear hBl C1)
  go_wp2_with fail
  (refine (C2 _).mono ?_; rintro e w2 ⟨rfl, hBl⟩; replace M0 := M0.call hBl; clear hBl C2)
  go_wp2_with fail
  (refine (C3 _).mono ?_; rintro e w2 ⟨rfl, hBl⟩; replace M0 := M0.call hBl; clear hBl C3)
  go_wp2_with fail
  clear b1 h1 h2
  go_loopw [8, 9] (fun v i wx => ∃ k : Nat, k ≤ zs.length ∧ i = .int .i64 k ∧ v = .int .i64 (sums (-9223372036854775808) (zs.take k)) ∧ Mem W wx []) (fun _ i _ => zs.length - (intOf i).toNat)
  case atStart => exact ⟨0, by omega, rfl, rfl, M0⟩
  case round =>
    clear M0
    obtain ⟨k, hk, rfl, rfl, M0⟩ := hrel
    by_cases hlt : k < zs.length
    · obtain ⟨b0, o0, ea, hA⟩ := row_at HS.out hlt
      have C := refSum_any (sums (-9223372036854775808) (zs.take k)) zs[k] (sums_range _ (by decide) _ (fun z h => in64_def (HZ.out z (List.mem_of_mem_take h)))) (in64_def (HZ.out _ (List.getElem_mem _)))
      have HN := Lib.hid (sums_next (-9223372036854775808) zs k hlt)
      obtain ⟨z, hze⟩ : ∃ z, z = zs[k] := ⟨_, rfl⟩
      obtain ⟨p, hp⟩ : ∃ p, p = sums (-9223372036854775808) (zs.take k) := ⟨_, rfl⟩
      rw [← hze] at hA C HN
      rw [← hp] at C HN ⊢
      clear hze hp
      subst ea
      have hA0 := hA _ _ M0
      clear hA C8
      have hi0 : (0 : Int) ≤ k := by omega
      have hi1 : (k : Int) < zs.length := by omega
      obtain ⟨v2, hv2⟩ : ∃ v2, v2 = sumS p z := ⟨_, rfl⟩
      rw [← hv2] at C HN
      clear hv2
      go_wp2_with fail
      (refine (C _).mono ?_; rintro e w2 ⟨rfl, hBl⟩; replace M0 := M0.call hBl; clear hBl C)
      go_wp2_with fail
      go_roundw
      case rel => exact ⟨k + 1, by omega, by go_num, by rw [HN.out], M0⟩
      case measure => simp [intOf]; omega
    · have C6 := LogSums_any zs HZ.out hl2 a cap _ (HS.out.below M0.below)
      have ek : k = zs.length := by omega
      subst ek
      rw [List.take_length]
      obtain ⟨T, hT⟩ : ∃ T, T = sums (-9223372036854775808) zs := ⟨_, rfl⟩
      rw [← hT] at C6 ⊢
      have b2 : (T == T) = true := beq_self_eq_true T
      clear hT hk
      by_cases hbig : 4611686018427387904 < x
      · have hx2 : (4611686018427387904 : Int) < x := hbig
        clear hbig
        go_wp2_with fail
        refine C6.mono ?_
        rintro e w2 ⟨rfl, hBl⟩
        replace M0 := M0.call hBl
        clear hBl C6
        go_wp2_with fail
        (refine (C8 _).mono ?_; rintro e w2 ⟨rfl, hBl⟩; replace M0 := M0.call hBl; clear hBl C8)
        go_wp2_with fail
        go_ret
        exact ⟨rfl, M0.below⟩
      · have hx2 : ¬ (4611686018427387904 : Int) < x := hbig
        have C4 := HC4.out (by omega)
        have b9 : (x + 65536 == x + 65536) = true := beq_self_eq_true _
        clear hbig
        go_wp2_with fail
        refine C6.mono ?_
        rintro e w2 ⟨rfl, hBl⟩
        replace M0 := M0.call hBl
        clear hBl C6
        go_wp2_with fail
        (refine (C4 _).mono ?_; rintro e w2 ⟨rfl, hBl⟩; replace M0 := M0.call hBl; clear hBl C4)
        go_wp2_with fail
        (refine (C8 _).mono ?_; rintro e w2 ⟨rfl, hBl⟩; replace M0 := M0.call hBl; clear hBl C8)
        go_wp2_with fail
        go_ret
        exact ⟨rfl, M0.below⟩
theorem expoSums_any (x y : Int) (zs : List Int) (a : Option Addr) (cap : Nat) (W : World) (hx : -9223372036854775808 ≤ x ∧ x ≤ 9223372036854775807) (hy : -9223372036854775808 ≤ y ∧ y ≤ 9223372036854775807) (hz : ∀ z ∈ zs, In64 z) (hS : Sl W 1 (.slice a zs.length cap) zs.length (i64s zs)) :
    Calls Try.prog 7 #[.int .i64 x, .int .i64 y, .slice a zs.length cap] W fun e w' => e = .returned (.bool true) ∧ Below W.heap.size W w' := by
  by_cases hl : 20 < zs.length
  · exact expoSums_long x y zs a cap W hl
  · have g := sumS_ge x y hx.2 hy.2
    refine expoSums_short x y (sumS x y) zs a cap W hx hy hz hS (by omega) (by omega) (by omega) (LogSum_any x y hx hy) (refSum_any x y hx hy) (by rw [sumS_comm]; exact LogSum_any y x hy hx) (fun h => ?_)
    have C := LogSum_any x x hx hx
    rw [sumS_same x (by omega)] at C
    exact C
end Go.Proofs.Ytaofkoejlpchaaa
