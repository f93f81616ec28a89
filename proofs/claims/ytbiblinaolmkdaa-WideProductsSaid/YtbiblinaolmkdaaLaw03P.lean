/-
  The law of products.
-/
import Derived.Test.YtbiblinaolmkdaaLaw03a
import Derived.Test.YtbiblinaolmkdaaRefG
namespace Go.Proofs.Ytbiblinaolmkdaa
open Go Go.RowKit Go.Th Go.Th.Wide

set_option maxRecDepth 20000 in
set_option maxHeartbeats 16000000 in
theorem wideProducts_any (a b : Int) (ha : -9223372036854775808 ≤ a ∧ a ≤ 9223372036854775807) (hb : -9223372036854775808 ≤ b ∧ b ≤ 9223372036854775807) (w : World) :
    Calls Try.prog 3 #[.int .i64 a, .int .i64 b] w fun e w' => e = .returned (.bool true) ∧ Below w.heap.size w w' := by
  have hr := mul_range a b ha hb
  have C1 := Mul_any a b ha hb
  have C2 := refMul_any a b ha hb
  have C3 := same_z (a * b) (by omega)
  have C4 := Of_any a ha
  have C5 := of_any a ha
  have C6 := same_z a (by omega)
  have C7 := Mul_any b a hb ha
  rw [Int.mul_comm b a] at C7
  have C8 := works_any
  obtain ⟨h, hh⟩ : ∃ h, h = hiZ (a * b) := ⟨_, rfl⟩
  obtain ⟨l, hl⟩ : ∃ l, l = loZ (a * b) := ⟨_, rfl⟩
  obtain ⟨m, hm⟩ : ∃ m, m = decide (a * b < 0) := ⟨_, rfl⟩
  obtain ⟨n, hn⟩ : ∃ n, n = (a * b).natAbs := ⟨_, rfl⟩
  obtain ⟨h', hh'⟩ : ∃ h, h = hiZ a := ⟨_, rfl⟩
  obtain ⟨l', hl'⟩ : ∃ l, l = loZ a := ⟨_, rfl⟩
  obtain ⟨m', hm'⟩ : ∃ m, m = decide (a < 0) := ⟨_, rfl⟩
  obtain ⟨n', hn'⟩ : ∃ n, n = a.natAbs := ⟨_, rfl⟩
  rw [← hh, ← hl] at C1 C3 C7
  rw [← hm, ← hn] at C2 C3
  rw [← hh', ← hl'] at C4 C6
  rw [← hm', ← hn'] at C5 C6
  have b1 : (h == h) = true := by simp
  have b2 : (l == l) = true := by simp
  clear hh hl hm hn hh' hl' hm' hn' hr ha hb
  have M0 := Mem.start w
  go_enter Try.func3, Try.ntmps3
  go_wp2_with fail
  refine (C1 _).mono ?_
  rintro e w2 ⟨rfl, hBl⟩
  replace M0 := M0.call hBl
  clear hBl
  go_wp2_with fail
  refine (C2 _).mono ?_
  rintro e w2 ⟨rfl, hBl⟩
  replace M0 := M0.call hBl
  clear hBl C2
  go_wp2_with fail
  refine (C3 _).mono ?_
  rintro e w2 ⟨rfl, hBl⟩
  replace M0 := M0.call hBl
  clear hBl C3
  go_wp2_with fail
  refine (C4 _).mono ?_
  rintro e w2 ⟨rfl, hBl⟩
  replace M0 := M0.call hBl
  clear hBl C4
  go_wp2_with fail
  refine (C5 _).mono ?_
  rintro e w2 ⟨rfl, hBl⟩
  replace M0 := M0.call hBl
  clear hBl C5
  go_wp2_with fail
  refine (C6 _).mono ?_
  rintro e w2 ⟨rfl, hBl⟩
  replace M0 := M0.call hBl
  clear hBl C6
  go_wp2_with fail
  refine (C1 _).mono ?_
  rintro e w2 ⟨rfl, hBl⟩
  replace M0 := M0.call hBl
  clear hBl C1
  go_wp2_with fail
  refine (C7 _).mono ?_
  rintro e w2 ⟨rfl, hBl⟩
  replace M0 := M0.call hBl
  clear hBl C7
  go_wp2_with fail
  refine (C8 _).mono ?_
  rintro e w2 ⟨rfl, hBl⟩
  replace M0 := M0.call hBl
  clear hBl C8
  go_wp2_with fail
  go_ret
  exact ⟨rfl, M0.below⟩

end Go.Proofs.Ytbiblinaolmkdaa
