/-
  The arguments of layer 1's laws.
-/
import Derived.Test.YtjbapbenlaccfaaLaw01a
import Derived.Test.YtjbapbenlaccfaaOpen
namespace Go.Proofs.Ytjbapbenlaccfaa
open Go Go.RowKit Go.ChangeShapes Go.WideShapes Go.ChangeAt Go.Deep Go.Th

theorem sl_max {w : World} {size n cap : Nat} {a : Option Addr} {xs : List Value} (h : Sl w size (.slice a n cap) n xs) : n ≤ 9223372036854775807 := by
  obtain ⟨a', c', he, _, h2, h3, _⟩ := h
  cases he
  unfold maxLen at h3
  omega

theorem rd_parts {H : Type} {enc : TypeId × Value → H} {W : World} {base : Nat} {spare : Nat → Bool} {held : Bool} {r : Reach} {b0 : Nat} {v : Value} {d : DataW H} {p : List MemPlace}
    (hv : Value.okWide Try.prog W r b0 22 v) (h : DataW.Trod enc Try.prog W base spare held 22 v d p) :
    ∃ a cap, ∃ ps : List (Nat × Nat), v = .slice a ps.length cap ∧ Sl W 2 (.slice a ps.length cap) ps.length (parts ps) ∧ ∀ q ∈ ps, q.1 < 256 ∧ q.2 < 18446744073709551616 := by
  obtain ⟨a0, l0, c0, rfl⟩ := okWide_slice Try.underlying22 hv
  obtain ⟨a, cap, zs, h1, h2, h3⟩ := rd_pairs (k0 := .u8) (k1 := .u64) Try.underlying22 Try.underlying30 (by kernel_rfl) Try.underlying5 Try.underlying28 ⟨rfl, rfl, by kernel_rfl, by kernel_rfl⟩ ⟨_, _, _, rfl⟩ h
  have hb : ∀ z ∈ zs, ((0 : Int) ≤ z.1 ∧ z.1 < 256) ∧ ((0 : Int) ≤ z.2 ∧ z.2 < 18446744073709551616) := fun z hz => ⟨wf_u8 (h3 z hz).1, wf_u64 (h3 z hz).2⟩
  refine ⟨a, cap, zs.map fun z => (z.1.toNat, z.2.toNat), by simpa using h1, ?_, ?_⟩
  · have e : parts (zs.map fun z => (z.1.toNat, z.2.toNat)) = zs.flatMap fun z => [Value.int .u8 z.1, Value.int .u64 z.2] := by
      rw [parts, List.flatMap_map]
      clear h1 h2 h3 h
      induction zs with
      | nil => rfl
      | cons z r ih =>
        have := hb z (by simp)
        simp only [List.flatMap_cons]
        rw [ih (fun y hy => hb y (by simp [hy])), Int.toNat_of_nonneg this.1.1, Int.toNat_of_nonneg this.2.1]
    rw [e, List.length_map, ← h1]
    exact h2
  · intro q hq
    obtain ⟨z, hz, rfl⟩ := List.mem_map.1 hq
    have := hb z hz
    omega
end Go.Proofs.Ytjbapbenlaccfaa
