/-
  Logarithms of sums, of a row: the code's.
-/
import Derived.Test.YtaofkoejlpchaaaExpoB
import Derived.Test.YtaofkoejlpchaaaI64s
set_option linter.unusedVariables false
set_option linter.unusedSimpArgs false
namespace Go.Th.Expo
open Go.Th
theorem sums_next (x : Int) (xs : List Int) (i : Nat) (h : i < xs.length) : sums x (xs.take (i + 1)) = sumS (sums x (xs.take i)) xs[i] := by
  unfold sums
  rw [take_next xs i h, List.foldl_append]; rfl
theorem sums_range (x : Int) (hx : -9223372036854775808 ≤ x ∧ x ≤ 9223372036854775807) : ∀ (xs : List Int), (∀ z ∈ xs, -9223372036854775808 ≤ z ∧ z ≤ 9223372036854775807) → -9223372036854775808 ≤ sums x xs ∧ sums x xs ≤ 9223372036854775807
  | [], _ => hx
  | y :: ys, h => sums_range (sumS x y) (sumS_range x y hx (h y (.head _))) ys (fun z hz => h z (.tail _ hz))
end Go.Th.Expo
namespace Go.Proofs.Ytaofkoejlpchaaa
open Go Go.RowKit Go.Th Go.Th.Root Go.Th.Wide Go.Th.Expo

set_option maxRecDepth 20000 in
set_option maxHeartbeats 1600000 in
theorem LogSums_any (zs : List Int) (hz : ∀ z ∈ zs, In64 z) (hn : zs.length ≤ 100000) (a : Option Addr) (cap : Nat) (w : World) (hS : Sl w 1 (.slice a zs.length cap) zs.length (i64s zs)) :
    Calls Try.prog 15 #[.slice a zs.length cap] w fun e w' => e = .returned (.int .i64 (sums (-9223372036854775808) zs)) ∧ Below w.heap.size w w' := by
  have HS := Lib.hid hS
  have HZ := Lib.hid hz
  clear hS hz
  have M0 := Mem.start w
  go_enter Try.func15, Try.ntmps15
  go_wp2_with fail
  go_loopw [3, 8] (fun v i wx => ∃ k : Nat, k ≤ zs.length ∧ i = .int .i64 k ∧ v = .int .i64 (sums (-9223372036854775808) (zs.take k)) ∧ Mem w wx []) (fun _ i _ => zs.length - (intOf i).toNat)
  case atStart => exact ⟨0, by omega, rfl, rfl, M0⟩
  case round =>
    clear M0
    obtain ⟨k, hk, rfl, rfl, M0⟩ := hrel
    by_cases hlt : k < zs.length
    · obtain ⟨b0, o0, ea, hA⟩ := row_at HS.out hlt
      have C := LogSum_any (sums (-9223372036854775808) (zs.take k)) zs[k] (sums_range _ (by decide) _ (fun z h => in64_def (HZ.out z (List.mem_of_mem_take h)))) (in64_def (HZ.out _ (List.getElem_mem _)))
      have HN := Lib.hid (sums_next (-9223372036854775808) zs k hlt)
      obtain ⟨y, hye⟩ : ∃ y, y = zs[k] := ⟨_, rfl⟩
      obtain ⟨p, hp⟩ : ∃ p, p = sums (-9223372036854775808) (zs.take k) := ⟨_, rfl⟩
      rw [← hye] at hA C HN
      rw [← hp] at C HN ⊢
      clear hye hp
      subst ea
      have hA0 := hA _ _ M0
      clear hA
      have hi0 : (0 : Int) ≤ k := by omega
      have hi1 : (k : Int) < zs.length := by omega
      obtain ⟨v2, hv2⟩ : ∃ v2, v2 = sumS p y := ⟨_, rfl⟩
      rw [← hv2] at C HN
      clear hv2
      go_wp2_with fail
      (refine (C _).mono ?_; rintro e w2 ⟨rfl, hBl⟩; replace M0 := M0.call hBl; clear hBl C)
      go_wp2_with fail
      go_roundw
      case rel => exact ⟨k + 1, by omega, by go_num, by rw [HN.out], M0⟩
      case measure => simp [intOf]; omega
    · obtain rfl : k = zs.length := by omega
      rw [List.take_length]
      go_wp2_with fail
      go_ret
      exact ⟨rfl, M0.below⟩
end Go.Proofs.Ytaofkoejlpchaaa
