/-
  The law's example holds.
-/
import Derived.Test.YtnfgogfbpggnfaaLaw14x
import Derived.Test.YtnfgogfbpggnfaaLaw14u
set_option linter.unusedVariables false
set_option linter.unusedSimpArgs false
namespace Go.Proofs.Ytnfgogfbpggnfaa
open Go Go.RowKit Go.Th Go.Th.Grid Go.Th.Wide

theorem works14_any : Ans 8 #[] (.bool true) :=
  works14_go w1
    (fun a cap al capl w h1 h2 => (w2 a cap al capl w h1 h2).mono fun _ _ h => by have h := h.said; rw [show hiZ 1879048192 = 0 by decide +kernel, show loZ 1879048192 = 1879048192 by decide +kernel] at h; exact h)
    w3 w4 w5 w6 w7
    (fun a cap al capl w h1 h2 => (w8 a cap al capl w h1 h2).mono fun _ _ h => by have h := h.said; rw [hi0, lo0] at h; exact h)
    w9 w10 w11 w12 w13 w14 w15 w16
end Go.Proofs.Ytnfgogfbpggnfaa
