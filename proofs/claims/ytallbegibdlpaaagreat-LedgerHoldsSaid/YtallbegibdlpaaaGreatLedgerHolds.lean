/-
  LedgerHolds: whatever is spread, weighed, cut, split and joined, behind any grid that the law makes, the grid is a right one, rounded at each step, and no further from the filter without rounding than the book says, whose bound is never below nought or above one: the law returns true for every input, and leaves its arguments as they were. No condition.
-/
import Derived.Test.YtallbegibdlpaaaGreatRows
import Derived.Test.YtallbegibdlpaaaGreatOpen
import Derived.Test.YtallbegibdlpaaaGreatOpen17
import Derived.Test.YtallbegibdlpaaaGreatLaw18c
import Derived.WalkKit
import Derived.ProofKit
import Derived.OpenShut
import Derived.ShutString
import Derived.ChangeOld
import Derived.Below
set_option linter.unusedVariables false
set_option linter.unusedSimpArgs false
namespace Go.Proofs.YtallbegibdlpaaaGreat.ledgerHolds
open Go.ChangeShapes Go.WideShapes Go.ChangeAt Go.RowKit Go.Th Go.Proofs.YtallbegibdlpaaaGreat
open Go.ChangeMaps (open_string shut_string)
set_option linter.unusedVariables false

theorem own : ownKnob Tryz.prog.godebug = none := by kernel_rfl
theorem laidOut : laidOutB Tryz.prog = true := by kernel_rfl

set_option maxRecDepth 100000 in
set_option maxHeartbeats 1600000 in
theorem lifted (os : Os) (started : os.Started) (H : Type) (enc : TypeId × Value → H) :
    ReturnsInHanded {} Tryz.checked os 3 .any (Rows.ledgerHoldsSpec.pre6 enc Tryz.prog Tryz.f3 Rows.ledgerHoldsRow.domain false) (Rows.ledgerHoldsSpec.post enc Tryz.prog Tryz.f3 false true false false) := by
  refine returnsInHanded_of_change (C := Tryz.checked) own started (by kernel_rfl) Tryz.func3
    (ChangeSpec.witness6 (enc := enc) (C := Tryz.checked) false ⟨#[], #[.int .u8 0, .int .u8 0, .slice none 0 0, .int .u8 0, .slice none 0 0], []⟩ 8 (by kernel_rfl) (by kernel_rfl) (by kernel_rfl) (by kernel_rfl)) ?_
  intro W base args ds gs before hval0 hW hcnd _
  have hval : ∀ (j : Nat) t v, Tryz.f3.params[j]? = some t → args[j]? = some v → Value.okWide Tryz.prog W .any base t v := hval0
  have hW' := hW
  obtain ⟨p, q, hA0, hV, rfl, hfz, hnd⟩ := hW
  have hA : DataW.TrodAll enc Tryz.prog W 0 (fun _ => true) true Tryz.f3.params.toList args.toList ds p := hA0
  rw [Tryz.params3] at hA hval
  obtain ⟨v0, vs0, d0, ds0, p0, q0, hargs, rfl, rfl, h0, r0⟩ := trodAll_cons hA
  obtain ⟨v1, vs1, d1, ds1, p1, q1, rfl, rfl, rfl, h1, r1⟩ := trodAll_cons r0
  obtain ⟨v2, vs2, d2, ds2, p2, q2, rfl, rfl, rfl, h2, r2⟩ := trodAll_cons r1
  obtain ⟨v3, vs3, d3, ds3, p3, q3, rfl, rfl, rfl, h3, r3⟩ := trodAll_cons r2
  obtain ⟨v4, vs4, d4, ds4, p4, q4, rfl, rfl, rfl, h4, r4⟩ := trodAll_cons r3
  obtain ⟨rfl, rfl, rfl⟩ := trodAll_nil r4
  obtain rfl : args = #[v0, v1, v2, v3, v4] := by cases args; simp_all
  obtain ⟨rfl, rfl⟩ := trodVars_none hV
  have k0 := h0
  have lt0 : ∀ x ∈ p0, x.block < W.heap.size := by obtain ⟨m, hm⟩ := k0; exact DataW.trod_lt m _ _ _ hm
  have okw0 := hval 0 5 v0 rfl rfl
  obtain ⟨m0, rfl, _, _, w0⟩ := open_int Tryz.underlying5 okw0 h0
  have z0 := wf_u8 w0
  obtain ⟨n0, rfl⟩ := Int.eq_ofNat_of_zero_le z0.1
  have i0 : n0 < 256 := by have := z0.2; omega
  have k1 := h1
  have lt1 : ∀ x ∈ p1, x.block < W.heap.size := by obtain ⟨m, hm⟩ := k1; exact DataW.trod_lt m _ _ _ hm
  have okw1 := hval 1 5 v1 rfl rfl
  obtain ⟨m1, rfl, _, _, w1⟩ := open_int Tryz.underlying5 okw1 h1
  have z1 := wf_u8 w1
  obtain ⟨n1, rfl⟩ := Int.eq_ofNat_of_zero_le z1.1
  have i1 : n1 < 256 := by have := z1.2; omega
  have k2 := h2
  have lt2 : ∀ x ∈ p2, x.block < W.heap.size := by obtain ⟨m, hm⟩ := k2; exact DataW.trod_lt m _ _ _ hm
  have okw2 := hval 2 22 v2 rfl rfl
  obtain ⟨ab2, lb2, cb2, rfl⟩ := okWide_slice Tryz.underlying22 okw2
  obtain ⟨ac2, cc2, bs2, e2, s2, b2⟩ := rd_ints Tryz.underlying22 Tryz.underlying57 (by kernel_rfl) ⟨_, _, _, rfl⟩ h2
  cases e2
  have k3 := h3
  have lt3 : ∀ x ∈ p3, x.block < W.heap.size := by obtain ⟨m, hm⟩ := k3; exact DataW.trod_lt m _ _ _ hm
  have okw3 := hval 3 5 v3 rfl rfl
  obtain ⟨m3, rfl, _, _, w3⟩ := open_int Tryz.underlying5 okw3 h3
  have z3 := wf_u8 w3
  obtain ⟨n3, rfl⟩ := Int.eq_ofNat_of_zero_le z3.1
  have i3 : n3 < 256 := by have := z3.2; omega
  have k4 := h4
  have lt4 : ∀ x ∈ p4, x.block < W.heap.size := by obtain ⟨m, hm⟩ := k4; exact DataW.trod_lt m _ _ _ hm
  have okw4 := hval 4 23 v4 rfl rfl
  obtain ⟨ao4, co4, lo4, rfl, so4, oo4⟩ := rd_ops okw4 h4
  clear hA0 hval0
  refine (holds_any _ _ _ _ _ _ _ _ _ _ lo4 i0 i1 i3 rfl (fun z h => ⟨(wf_u16 (b2 z h)).1, by have := (wf_u16 (b2 z h)).2; omega⟩) rfl W s2 oo4 so4).mono fun e W' ⟨he, bel⟩ => ?_
  subst he
  exact ⟨_, rfl, _, _, _, [], _, [], hW', trodAll_mk1 (shut_bool Tryz.underlying4 _), (trodAll_cons_mk (Below.trod laidOut (by kernel_rfl) (of_decide_eq_true (by kernel_rfl)) k0 bel lt0) (trodAll_cons_mk (Below.trod laidOut (by kernel_rfl) (of_decide_eq_true (by kernel_rfl)) k1 bel lt1) (trodAll_cons_mk (Below.trod laidOut (by kernel_rfl) (of_decide_eq_true (by kernel_rfl)) k2 bel lt2) (trodAll_cons_mk (Below.trod laidOut (by kernel_rfl) (of_decide_eq_true (by kernel_rfl)) k3 bel lt3) (trodAll_cons_mk (Below.trod laidOut (by kernel_rfl) (of_decide_eq_true (by kernel_rfl)) k4 bel lt4) trodAll_mk0))))), rfl, bel.frame _, fun h => by cases h⟩

theorem over : Rows.ledgerHoldsRow.holds Tryz.pinned (OpenSpec.ofChange Rows.ledgerHoldsSpec) :=
  OpenClaim.holds_of_wide 3 Tryz.f3 rfl rfl rfl rfl rfl rfl rfl ⟨rfl, rfl, rfl, rfl, rfl⟩ rfl rfl rfl rfl rfl (by kernel_rfl) Tryz.func3 (by kernel_rfl)
    (of_decide_eq_true (by kernel_rfl)) (by unfold Func.isWrapper; first | (rw [if_pos (by decide +kernel)]; kernel_rfl) | (rw [if_neg (by decide +kernel)]; exact ⟨rfl, rfl⟩))
    (fun os started H enc _ => lifted os started H enc)

theorem proved : Rows.LedgerHoldsSaid := over
end Go.Proofs.YtallbegibdlpaaaGreat.ledgerHolds
