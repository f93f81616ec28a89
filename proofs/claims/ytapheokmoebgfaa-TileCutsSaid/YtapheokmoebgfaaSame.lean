/-
  The reference's Same.
-/
import Derived.Test.YtapheokmoebgfaaBytes
set_option linter.unusedVariables false
set_option linter.unusedSimpArgs false
namespace Go.Proofs.Ytapheokmoebgfaa
open Go.RowKit Go.Th

theorem same_any (va vb : Value) (a b : List Nat) (w : World) (ha : Sl w 1 va a.length (u8s a)) (hb : Sl w 1 vb b.length (u8s b)) (h : a = b) :
    Calls Try.prog 9 #[va, vb] w fun e w' => e = .returned (.bool true) ∧ w = w' := by
  subst h
  obtain ⟨p, c, rfl, _⟩ := id ha
  obtain ⟨p', c', rfl, _⟩ := id hb
  have e1 := run_str ha
  have e2 := run_str hb
  go_enter Try.func9, Try.ntmps9
  go_wp2
  go_ret
  exact ⟨rfl, rfl⟩

theorem same_no (va vb : Value) (a b : List Nat) (w : World) (ha : Sl w 1 va a.length (u8s a)) (hb : Sl w 1 vb b.length (u8s b)) (ha1 : ∀ x ∈ a, x < 256) (hb1 : ∀ x ∈ b, x < 256) (h : a ≠ b) :
    Calls Try.prog 9 #[va, vb] w fun e w' => e = .returned (.bool false) ∧ w = w' := by
  obtain ⟨p, c, rfl, _⟩ := id ha
  obtain ⟨p', c', rfl, _⟩ := id hb
  have e1 := run_str ha
  have e2 := run_str hb
  have HN := Lib.hid (strOf_ne a b ha1 hb1 h)
  clear ha1 hb1 h
  go_enter Try.func9, Try.ntmps9
  go_wp2
  go_ret
  exact ⟨ret_bool HN.out, rfl⟩
end Go.Proofs.Ytapheokmoebgfaa
