/-
  ExactTriangle: of three grids the first one and the last one are no further apart than both are from the one between, together; and as far apart either way round. The law returns true for every input, and leaves its arguments as they were. No condition. The row lists one package variable, the table behind Go's bits.TrailingZeros32; the card ties it to the program's text.
-/
import Derived.Test.YtanblpfpkohghaaDoorRows
import Derived.Test.YtanblpfpkohghaaDoorOpen
import Derived.Test.YtanblpfpkohghaaDoorOpen17
import Derived.Test.YtanblpfpkohghaaDoorDoor17
import Derived.Test.YtanblpfpkohghaaDoorLaw17f
import Derived.Test.YtanblpfpkohghaaDoorTie
import Derived.Test.YtanblpfpkohghaaDoorCards
import Derived.SevenTiedAt
import Derived.LaidMore
import Derived.Stop.Joined
import Derived.WalkKit
import Derived.ProofKit
import Derived.OpenShut
import Derived.ShutString
import Derived.ChangeOld
import Derived.Below
set_option linter.unusedVariables false
set_option linter.unusedSimpArgs false
namespace Go.Proofs.YtanblpfpkohghaaDoor.exactTriangle
open Go.ChangeShapes Go.WideShapes Go.ChangeAt Go.RowKit Go.Th Go.Proofs.YtanblpfpkohghaaDoor
open Go.ChangeMaps (open_string shut_string)
set_option linter.unusedVariables false

theorem own : ownKnob Tryd.prog.godebug = none := by kernel_rfl
theorem laidOut : laidOutB Tryd.prog = true := by kernel_rfl

set_option maxRecDepth 100000 in
set_option maxHeartbeats 1600000 in
theorem lifted (os : Os) (started : os.Started) (H : Type) (enc : TypeId × Value → H) :
    ReturnsInHanded {} Tryd.checked os 5 .any (fun w args => (Rows.exactTriangleSpec.pre enc Tryd.prog Tryd.f5 [] false w args ∧ laidMetH Tryd.prog laidD w) ∧ sizedMet enc Tryd.prog Tryd.f5 (OpenSpec.ofChange Rows.exactTriangleSpec) false w args) (Rows.exactTriangleSpec.post enc Tryd.prog Tryd.f5 false true false false) := by
  refine returnsInHanded_of_change_and (C := Tryd.checked) (X := fun w _ => laidMetH Tryd.prog laidD w) (fun _ _ _ hh h => h.of_heap hh) own started (by kernel_rfl) Tryd.func5
    (ChangeSpec.witness_shaped (enc := enc) (C := Tryd.checked) (os := os) (X := fun w _ => laidMetH Tryd.prog laidD w) false (World.doorLaid Tryd.prog 400 os) #[.int .u8 0, .int .u8 0, .slice none 0 0, .slice none 0 0, .slice none 0 0, .int .i64 0, .int .i64 0] 8 rfl (World.shaped_of_RefB (by kernel_rfl) (by kernel_rfl)) (by kernel_rfl) (by kernel_rfl) (by kernel_rfl) (doorD_met os _)) ?_
  intro W base args ds gs before hval0 hW _ _ hL _
  have hC := dbt_of_laid hL
  have hval : ∀ (j : Nat) t v, Tryd.f5.params[j]? = some t → args[j]? = some v → Value.okWide Tryd.prog W .any base t v := hval0
  have hW' := hW
  obtain ⟨p, q, hA0, hV, rfl, hfz, hnd⟩ := hW
  have hA : DataW.TrodAll enc Tryd.prog W 0 (fun _ => true) true Tryd.f5.params.toList args.toList ds p := hA0
  rw [Tryd.params5] at hA hval
  obtain ⟨v0, vs0, d0, ds0, p0, q0, hargs, rfl, rfl, h0, r0⟩ := trodAll_cons hA
  obtain ⟨v1, vs1, d1, ds1, p1, q1, rfl, rfl, rfl, h1, r1⟩ := trodAll_cons r0
  obtain ⟨v2, vs2, d2, ds2, p2, q2, rfl, rfl, rfl, h2, r2⟩ := trodAll_cons r1
  obtain ⟨v3, vs3, d3, ds3, p3, q3, rfl, rfl, rfl, h3, r3⟩ := trodAll_cons r2
  obtain ⟨v4, vs4, d4, ds4, p4, q4, rfl, rfl, rfl, h4, r4⟩ := trodAll_cons r3
  obtain ⟨v5, vs5, d5, ds5, p5, q5, rfl, rfl, rfl, h5, r5⟩ := trodAll_cons r4
  obtain ⟨v6, vs6, d6, ds6, p6, q6, rfl, rfl, rfl, h6, r6⟩ := trodAll_cons r5
  obtain ⟨rfl, rfl, rfl⟩ := trodAll_nil r6
  obtain rfl : args = #[v0, v1, v2, v3, v4, v5, v6] := by cases args; simp_all
  obtain ⟨rfl, rfl⟩ := trodVars_none hV
  have k0 := h0
  have lt0 : ∀ x ∈ p0, x.block < W.heap.size := by obtain ⟨m, hm⟩ := k0; exact DataW.trod_lt m _ _ _ hm
  have okw0 := hval 0 5 v0 rfl rfl
  obtain ⟨m0, rfl, _, _, w0⟩ := open_int Tryd.underlying5 okw0 h0
  have z0 := wf_u8 w0
  obtain ⟨n0, rfl⟩ := Int.eq_ofNat_of_zero_le z0.1
  have i0 : n0 < 256 := by have := z0.2; omega
  have k1 := h1
  have lt1 : ∀ x ∈ p1, x.block < W.heap.size := by obtain ⟨m, hm⟩ := k1; exact DataW.trod_lt m _ _ _ hm
  have okw1 := hval 1 5 v1 rfl rfl
  obtain ⟨m1, rfl, _, _, w1⟩ := open_int Tryd.underlying5 okw1 h1
  have z1 := wf_u8 w1
  obtain ⟨n1, rfl⟩ := Int.eq_ofNat_of_zero_le z1.1
  have i1 : n1 < 256 := by have := z1.2; omega
  have k2 := h2
  have lt2 : ∀ x ∈ p2, x.block < W.heap.size := by obtain ⟨m, hm⟩ := k2; exact DataW.trod_lt m _ _ _ hm
  have okw2 := hval 2 22 v2 rfl rfl
  obtain ⟨ab2, lb2, cb2, rfl⟩ := okWide_slice Tryd.underlying22 okw2
  obtain ⟨ac2, cc2, bs2, e2, s2, b2⟩ := rd_ints Tryd.underlying22 Tryd.underlying62 (by kernel_rfl) ⟨_, _, _, rfl⟩ h2
  cases e2
  have k3 := h3
  have lt3 : ∀ x ∈ p3, x.block < W.heap.size := by obtain ⟨m, hm⟩ := k3; exact DataW.trod_lt m _ _ _ hm
  have okw3 := hval 3 22 v3 rfl rfl
  obtain ⟨ab3, lb3, cb3, rfl⟩ := okWide_slice Tryd.underlying22 okw3
  obtain ⟨ac3, cc3, bs3, e3, s3, b3⟩ := rd_ints Tryd.underlying22 Tryd.underlying62 (by kernel_rfl) ⟨_, _, _, rfl⟩ h3
  cases e3
  have k4 := h4
  have lt4 : ∀ x ∈ p4, x.block < W.heap.size := by obtain ⟨m, hm⟩ := k4; exact DataW.trod_lt m _ _ _ hm
  have okw4 := hval 4 22 v4 rfl rfl
  obtain ⟨ab4, lb4, cb4, rfl⟩ := okWide_slice Tryd.underlying22 okw4
  obtain ⟨ac4, cc4, bs4, e4, s4, b4⟩ := rd_ints Tryd.underlying22 Tryd.underlying62 (by kernel_rfl) ⟨_, _, _, rfl⟩ h4
  cases e4
  have k5 := h5
  have lt5 : ∀ x ∈ p5, x.block < W.heap.size := by obtain ⟨m, hm⟩ := k5; exact DataW.trod_lt m _ _ _ hm
  have okw5 := hval 5 2 v5 rfl rfl
  obtain ⟨n5, rfl, _, _, w5⟩ := open_int Tryd.underlying2 okw5 h5
  have i5 := wf_i64 w5
  have k6 := h6
  have lt6 : ∀ x ∈ p6, x.block < W.heap.size := by obtain ⟨m, hm⟩ := k6; exact DataW.trod_lt m _ _ _ hm
  have okw6 := hval 6 2 v6 rfl rfl
  obtain ⟨n6, rfl, _, _, w6⟩ := open_int Tryd.underlying2 okw6 h6
  have i6 := wf_i64 w6
  clear hA0 hval0
  refine (exactTriangle_any _ _ _ _ _ _ _ _ _ _ _ _ _ _ _ _ i0 i1 rfl (fun z h => ⟨(wf_u16 (b2 z h)).1, by have := (wf_u16 (b2 z h)).2; omega⟩) rfl (fun z h => ⟨(wf_u16 (b3 z h)).1, by have := (wf_u16 (b3 z h)).2; omega⟩) rfl (fun z h => ⟨(wf_u16 (b4 z h)).1, by have := (wf_u16 (b4 z h)).2; omega⟩) W hC s2 s3 s4).mono fun e W' ⟨he, bel⟩ => ?_
  subst he
  exact ⟨_, rfl, _, _, _, [], _, [], hW', trodAll_mk1 (shut_bool Tryd.underlying4 _), (trodAll_cons_mk (Below.trod laidOut (by kernel_rfl) (of_decide_eq_true (by kernel_rfl)) k0 bel lt0) (trodAll_cons_mk (Below.trod laidOut (by kernel_rfl) (of_decide_eq_true (by kernel_rfl)) k1 bel lt1) (trodAll_cons_mk (Below.trod laidOut (by kernel_rfl) (of_decide_eq_true (by kernel_rfl)) k2 bel lt2) (trodAll_cons_mk (Below.trod laidOut (by kernel_rfl) (of_decide_eq_true (by kernel_rfl)) k3 bel lt3) (trodAll_cons_mk (Below.trod laidOut (by kernel_rfl) (of_decide_eq_true (by kernel_rfl)) k4 bel lt4) (trodAll_cons_mk (Below.trod laidOut (by kernel_rfl) (of_decide_eq_true (by kernel_rfl)) k5 bel lt5) (trodAll_cons_mk (Below.trod laidOut (by kernel_rfl) (of_decide_eq_true (by kernel_rfl)) k6 bel lt6) trodAll_mk0))))))), rfl, bel.frame _, fun h => by cases h⟩

theorem over : Rows.exactTriangleRow.holds Tryd.pinned (OpenSpec.ofChange Rows.exactTriangleSpec) :=
  OpenClaim.holds_of_wide 5 Tryd.f5 rfl rfl rfl rfl rfl rfl rfl ⟨rfl, rfl, rfl, rfl, rfl⟩ rfl rfl rfl rfl rfl (by kernel_rfl) Tryd.func5 (by kernel_rfl)
    (of_decide_eq_true (by kernel_rfl)) (by unfold Func.isWrapper; first | (rw [if_pos (by decide +kernel)]; kernel_rfl) | (rw [if_neg (by decide +kernel)]; exact ⟨rfl, rfl⟩))
    (fun os started H enc _ => lifted os started H enc)

/-- The tied card. -/
theorem proved : Rows.ExactTriangleCardSaid :=
  Claim7.holds_tied_plain_at .later [] [.data] true (true, "e35ed7a45930c44f7349f4b68b4e2c5f131b8d689bdfdb010e9877cb4a62f98a") false
    over (fun _ h => by cases h) (by kernel_rfl) (fun _ h => by cases h) exactTriangle_row_tie rfl ⟨rfl, rfl⟩ (by kernel_rfl) rfl
    (fun f fn hf hfn => by
      obtain rfl : f = 5 := Option.some.inj ((show Tryd.prog.funcNamed "theodolite/theodolitelaw17.ExactTriangle" = some 5 by kernel_rfl).symm.trans hf) |>.symm
      obtain rfl : fn = Tryd.f5 := (Option.some.inj (Tryd.func5.symm.trans hfn)).symm
      exact ⟨by kernel_rfl, fun j t ht => by
        rw [Tryd.params5] at ht
        have hm : t ∈ [5, 5, 22, 22, 22, 2, 2] := by simpa using Array.mem_of_getElem? ht
        have hall : ([5, 5, 22, 22, 22, 2, 2].all fun u => !Tryd.prog.wantsStandIn u) = true := by kernel_rfl
        exact (show Tryd.prog.wantsStandIn t = false by simpa using List.all_eq_true.1 hall t hm)⟩)
    (by kernel_rfl)
end Go.Proofs.YtanblpfpkohghaaDoor.exactTriangle
