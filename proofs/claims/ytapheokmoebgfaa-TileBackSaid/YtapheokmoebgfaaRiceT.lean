/-
  Numbers that have room; what packed rows say.
-/
import Derived.Test.YtapheokmoebgfaaBitsPack
import Derived.Test.YtapheokmoebgfaaRiceS
import Derived.Test.YtapheokmoebgfaaRiceF
set_option linter.unusedVariables false
set_option linter.unusedSimpArgs false
namespace Go.Proofs.Ytapheokmoebgfaa
open Go Go.RowKit Go.Th

theorem here_pack0 (l : List Bool) : Here (pack l) 0 l := by
  have h := here_pack l [] (pack l) 0 (by rw [List.append_nil]) rfl
  exact h (fun j hj => bitAt_pack l j hj)
theorem rowAt_pack (m : List Int) (n : Nat) (hn : m.length = n) (hr : ∀ x ∈ m, Rm x) : RowAt (pack (row m)) 0 n m := ⟨hn, hr, here_pack0 _⟩

/-- What 'small' makes of a number. -/
def sm (x : Int) : Int := if x < -65536 ∨ 65535 < x then x.tmod 60000 else x
theorem sm_room (x : Int) : Rm (sm x) := by
  unfold sm Rm
  by_cases h : x < -65536 ∨ 65535 < x
  · rw [if_pos h]
    have h1 := Int.tmod_lt_of_pos x (b := 60000) (by omega)
    have h2 : -60000 < x.tmod 60000 := by
      have := Int.lt_tmod_of_pos x (b := 60000) (by omega); omega
    omega
  · rw [if_neg h]; omega
theorem sm_all (m : List Int) : ∀ x ∈ m.map sm, Rm x := by
  intro x hx
  obtain ⟨y, _, rfl⟩ := List.mem_map.1 hx
  exact sm_room y

end Go.Proofs.Ytapheokmoebgfaa
