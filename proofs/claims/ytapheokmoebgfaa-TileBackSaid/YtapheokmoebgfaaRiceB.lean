/-
  A code read: the code's.
-/
import Derived.Test.YtapheokmoebgfaaRiceA
import Derived.Deep.RegionHeld3
import Derived.Deep.RegionWith
set_option linter.unusedVariables false
set_option linter.unusedSimpArgs false
namespace Go.Proofs.Ytapheokmoebgfaa
open Go Go.RowKit Go.Th

theorem or_code (q k v : Nat) (hk : k ≤ 16) (hq : q < 20) (hv : v < 2 ^ k) : bits BinOp.or IntKind.u32 (IntKind.u32.wrap (IntKind.u32.wrap (q : Int) * 2 ^ k)) (IntKind.u32.wrap (v : Int)) = ((q * 2 ^ k + v : Nat) : Int) := by
  have hp : 2 ^ k ≤ 2 ^ 16 := Nat.pow_le_pow_right (by decide) hk
  have h16 : (2 : Nat) ^ 16 = 65536 := by decide
  have hm : q * 2 ^ k ≤ 19 * 65536 := Nat.mul_le_mul (by omega) (by omega)
  have e1 : IntKind.u32.wrap (q : Int) = (q : Int) := by rw [IntKind.wrap_u32']; omega
  have e2 : (q : Int) * 2 ^ k = ((q * 2 ^ k : Nat) : Int) := by simp
  have e3 : IntKind.u32.wrap ((q * 2 ^ k : Nat) : Int) = ((q * 2 ^ k : Nat) : Int) := by rw [IntKind.wrap_u32']; omega
  have e4 : IntKind.u32.wrap (v : Int) = (v : Int) := by rw [IntKind.wrap_u32']; omega
  rw [e1, e2, e3, e4, u32_or_nat _ _ (by omega) (by omega)]
  have := Nat.shiftLeft_add_eq_or_of_lt (i := k) (b := v) hv q
  rw [Nat.shiftLeft_eq] at this
  rw [this]

theorem ret_ub {a b : Int} {p : Bool} (h : a = b) : Ending.returned (.tuple #[.int .u32 a, .bool p]) = .returned (.tuple #[.int .u32 b, .bool p]) := by rw [h]

set_option maxRecDepth 20000 in
theorem few_yes (n k q v : Nat) (hk : k ≤ 16) (hq : q < 20) (hn : n < 131072) (pb po base : Nat) (vr : Value) (bs : List Nat) (at_ : Nat) (w : World) (h : RInv w pb po base vr bs at_ false)
    (hones : Here bs at_ (onesBits q)) (hfit : at_ + q + 1 + k ≤ 8 * bs.length) (hv : valAt bs (at_ + q + 1) k = v) (hvk : v < 2 ^ k) (e : n = q * 2 ^ k + v) :
    Calls Try.prog 45 #[.pointer (some ⟨pb, po, none⟩), .int .i64 k] w fun e w' => e = .returned (.tuple #[.int .u32 n, .bool true]) ∧ RInv w' pb po base vr bs (at_ + q + 1 + k) false ∧ Turned (fun k => k = pb) w w' := by
  have C1 := param_yes (k : Int) (by omega) (by omega)
  obtain ⟨o1, o2, o3⟩ := (here_ones _ _ _).1 hones
  have O2 := Lib.hid o2; clear o2
  have hor := or_code q k v hk hq hvk
  rw [← e] at hor
  obtain ⟨N, hN⟩ : ∃ N : Int, N = (n : Int) := ⟨_, rfl⟩
  rw [← hN] at hor
  have hn' : N < 131072 := by omega
  have HN := Lib.hid hN; clear hN
  have HO := Lib.hid hor; clear hor
  clear hvk e hn
  go_enter Try.func45, Try.ntmps45
  go_wp2_with fail
  refine (C1 _).mono ?_
  rintro e w1 ⟨rfl, rfl⟩
  clear C1
  go_wp2_with fail
  refine (rones_yes pb po base vr bs at_ false q 20 _ h o1 O2.out o3 (by omega)).mono ?_
  rintro e w1 ⟨rfl, hR1, hT1⟩
  have C2 := rnum_yes pb po base vr bs (at_ + q + 1) false k w1.drew hR1.drew hfit
  rw [hv] at C2
  go_wp2_with fail
  refine wp_region_held_drew (S := (fun _ : World => True)) (by kernel_rfl) (trivial) (fun hHeld => ?_)
  refine wpAnyH_take (i := 0) (v := ?v1) rfl (by kernel_rfl) (by kernel_rfl) (by kernel_rfl) (fun _ _ _ h => h) (Or.inl ⟨by rfl, ?hy1⟩) hHeld ?rest1
  case hy1 => (intro w' hSw; (try dsimp only at hSw); go_simp; (try with_reducible rfl))
  try simp only [Act.put, List.setIfInBounds_toArray, List.set_cons_zero, List.set_cons_succ, List.getElem_toArray, List.getElem_cons_zero, List.getElem_cons_succ]
  refine wpAnyH_take (i := 1) (v := ?v2) rfl (by kernel_rfl) (by kernel_rfl) (by kernel_rfl) (fun _ _ _ h => h) (Or.inl ⟨by rfl, ?hy2⟩) hHeld ?rest2
  case hy2 => (intro w' hSw; (try dsimp only at hSw); go_simp; (try with_reducible rfl))
  try simp only [Act.put, List.setIfInBounds_toArray, List.set_cons_zero, List.set_cons_succ, List.getElem_toArray, List.getElem_cons_zero, List.getElem_cons_succ]
  refine wpAnyH_take (i := 2) (v := ?v3) rfl (by kernel_rfl) (by kernel_rfl) (by kernel_rfl) (fun _ _ _ h => h) (Or.inl ⟨by rfl, ?hy3⟩) hHeld ?rest3
  case hy3 => (intro w' hSw; (try dsimp only at hSw); go_simp; (try with_reducible rfl))
  try simp only [Act.put, List.setIfInBounds_toArray, List.set_cons_zero, List.set_cons_succ, List.getElem_toArray, List.getElem_cons_zero, List.getElem_cons_succ]
  refine wpAnyH_take (i := 3) (v := ?v4) rfl (by kernel_rfl) (by kernel_rfl) (by kernel_rfl) (fun _ _ _ h => h) (Or.inl ⟨by rfl, ?hy4⟩) hHeld ?rest4
  case hy4 => (intro w' hSw; (try dsimp only at hSw); go_simp; (try with_reducible rfl))
  try simp only [Act.put, List.setIfInBounds_toArray, List.set_cons_zero, List.set_cons_succ, List.getElem_toArray, List.getElem_cons_zero, List.getElem_cons_succ]
  refine wpAnyH_take (i := 4) (v := ?v5) rfl (by kernel_rfl) (by kernel_rfl) (by kernel_rfl) (fun _ _ _ h => h) (Or.inl ⟨by rfl, ?hy5⟩) hHeld ?rest5
  case hy5 => (intro w' hSw; (try dsimp only at hSw); go_simp; (try with_reducible rfl))
  try simp only [Act.put, List.setIfInBounds_toArray, List.set_cons_zero, List.set_cons_succ, List.getElem_toArray, List.getElem_cons_zero, List.getElem_cons_succ]
  refine wpAnyH_take (i := 5) (v := ?v6) rfl (by kernel_rfl) (by kernel_rfl) (by kernel_rfl) (fun _ _ _ h => h) (Or.inl ⟨by rfl, ?hy6⟩) hHeld ?rest6
  case hy6 => (intro w' hSw; (try dsimp only at hSw); go_simp; (try with_reducible rfl))
  try simp only [Act.put, List.setIfInBounds_toArray, List.set_cons_zero, List.set_cons_succ, List.getElem_toArray, List.getElem_cons_zero, List.getElem_cons_succ]
  refine wpAnyH_ready (rs := [6]) (by kernel_rfl) (by simp) ?_
  refine AllReadyH.cons rfl (fun K hK => ?_) AllReadyH.nil
  go_simp
  refine C2.mono ?_
  rintro e w2 ⟨rfl, hR2, hT2⟩
  try go_wp2_with fail
  refine hK.out _ _ (trivial) (fun hHeld => ?_)
  clear hK K
  try simp only [Act.put, List.setIfInBounds_toArray, List.set_cons_zero, List.set_cons_succ, List.getElem_toArray, List.getElem_cons_zero, List.getElem_cons_succ]
  refine wpAnyH_take (i := 7) (v := ?v8) rfl (by kernel_rfl) (by kernel_rfl) (by kernel_rfl) (fun _ _ _ h => h) (Or.inl ⟨by rfl, ?hy8⟩) hHeld ?rest8
  case hy8 => (intro w' hSw; (try dsimp only at hSw); go_simp; (try with_reducible rfl))
  try simp only [Act.put, List.setIfInBounds_toArray, List.set_cons_zero, List.set_cons_succ, List.getElem_toArray, List.getElem_cons_zero, List.getElem_cons_succ]
  refine wpAnyH_take (i := 8) (v := ?v9) rfl (by kernel_rfl) (by kernel_rfl) (by kernel_rfl) (fun _ _ _ h => h) (Or.inl ⟨by rfl, ?hy9⟩) hHeld ?rest9
  case hy9 => (intro w' hSw; (try dsimp only at hSw); go_simp; (try with_reducible rfl))
  try simp only [Act.put, List.setIfInBounds_toArray, List.set_cons_zero, List.set_cons_succ, List.getElem_toArray, List.getElem_cons_zero, List.getElem_cons_succ]
  refine wpAnyH_take (i := 9) (v := ?v10) rfl (by kernel_rfl) (by kernel_rfl) (by kernel_rfl) (fun _ _ _ h => h) (Or.inl ⟨by rfl, ?hy10⟩) hHeld ?rest10
  case hy10 => (intro w' hSw; (try dsimp only at hSw); go_simp; (try with_reducible rfl))
  try simp only [Act.put, List.setIfInBounds_toArray, List.set_cons_zero, List.set_cons_succ, List.getElem_toArray, List.getElem_cons_zero, List.getElem_cons_succ]
  refine wpAnyH_done (by kernel_rfl) ?_ _
  have hT := hT1.trans (⟨hT2.os, hT2.tape, hT2.output, hT2.size, hT2.block⟩ : Turned (fun k => k = pb) w1 w2) (fun _ _ h => h)
  rw [HO.out]
  go_wp2_with fail
  refine (right_any pb po base vr bs _ false _ hR2).mono ?_
  rintro e w3 ⟨rfl, rfl⟩
  go_wp2_with fail
  go_ret2
  exact ⟨ret_ub HN.out, hR2, hT⟩

set_option maxRecDepth 20000 in
theorem few_no (n k q v : Nat) (hk : k ≤ 16) (hq : q < 20) (hn : ¬ n < 131072) (pb po base : Nat) (vr : Value) (bs : List Nat) (at_ : Nat) (w : World) (h : RInv w pb po base vr bs at_ false)
    (hones : Here bs at_ (onesBits q)) (hfit : at_ + q + 1 + k ≤ 8 * bs.length) (hv : valAt bs (at_ + q + 1) k = v) (hvk : v < 2 ^ k) (e : n = q * 2 ^ k + v) :
    Calls Try.prog 45 #[.pointer (some ⟨pb, po, none⟩), .int .i64 k] w fun e w' => e = .returned (.tuple #[.int .u32 0, .bool false]) ∧ Turned (fun k => k = pb) w w' := by
  have C1 := param_yes (k : Int) (by omega) (by omega)
  obtain ⟨o1, o2, o3⟩ := (here_ones _ _ _).1 hones
  have O2 := Lib.hid o2; clear o2
  have hor := or_code q k v hk hq hvk
  rw [← e] at hor
  obtain ⟨N, hN⟩ : ∃ N : Int, N = (n : Int) := ⟨_, rfl⟩
  rw [← hN] at hor
  have hn' : ¬ N < 131072 := by omega
  have HN := Lib.hid hN; clear hN
  have HO := Lib.hid hor; clear hor
  clear hvk e hn
  go_enter Try.func45, Try.ntmps45
  go_wp2_with fail
  refine (C1 _).mono ?_
  rintro e w1 ⟨rfl, rfl⟩
  clear C1
  go_wp2_with fail
  refine (rones_yes pb po base vr bs at_ false q 20 _ h o1 O2.out o3 (by omega)).mono ?_
  rintro e w1 ⟨rfl, hR1, hT1⟩
  have C2 := rnum_yes pb po base vr bs (at_ + q + 1) false k w1.drew hR1.drew hfit
  rw [hv] at C2
  go_wp2_with fail
  refine wp_region_held_drew (S := (fun _ : World => True)) (by kernel_rfl) (trivial) (fun hHeld => ?_)
  refine wpAnyH_take (i := 0) (v := ?v11) rfl (by kernel_rfl) (by kernel_rfl) (by kernel_rfl) (fun _ _ _ h => h) (Or.inl ⟨by rfl, ?hy11⟩) hHeld ?rest11
  case hy11 => (intro w' hSw; (try dsimp only at hSw); go_simp; (try with_reducible rfl))
  try simp only [Act.put, List.setIfInBounds_toArray, List.set_cons_zero, List.set_cons_succ, List.getElem_toArray, List.getElem_cons_zero, List.getElem_cons_succ]
  refine wpAnyH_take (i := 1) (v := ?v12) rfl (by kernel_rfl) (by kernel_rfl) (by kernel_rfl) (fun _ _ _ h => h) (Or.inl ⟨by rfl, ?hy12⟩) hHeld ?rest12
  case hy12 => (intro w' hSw; (try dsimp only at hSw); go_simp; (try with_reducible rfl))
  try simp only [Act.put, List.setIfInBounds_toArray, List.set_cons_zero, List.set_cons_succ, List.getElem_toArray, List.getElem_cons_zero, List.getElem_cons_succ]
  refine wpAnyH_take (i := 2) (v := ?v13) rfl (by kernel_rfl) (by kernel_rfl) (by kernel_rfl) (fun _ _ _ h => h) (Or.inl ⟨by rfl, ?hy13⟩) hHeld ?rest13
  case hy13 => (intro w' hSw; (try dsimp only at hSw); go_simp; (try with_reducible rfl))
  try simp only [Act.put, List.setIfInBounds_toArray, List.set_cons_zero, List.set_cons_succ, List.getElem_toArray, List.getElem_cons_zero, List.getElem_cons_succ]
  refine wpAnyH_take (i := 3) (v := ?v14) rfl (by kernel_rfl) (by kernel_rfl) (by kernel_rfl) (fun _ _ _ h => h) (Or.inl ⟨by rfl, ?hy14⟩) hHeld ?rest14
  case hy14 => (intro w' hSw; (try dsimp only at hSw); go_simp; (try with_reducible rfl))
  try simp only [Act.put, List.setIfInBounds_toArray, List.set_cons_zero, List.set_cons_succ, List.getElem_toArray, List.getElem_cons_zero, List.getElem_cons_succ]
  refine wpAnyH_take (i := 4) (v := ?v15) rfl (by kernel_rfl) (by kernel_rfl) (by kernel_rfl) (fun _ _ _ h => h) (Or.inl ⟨by rfl, ?hy15⟩) hHeld ?rest15
  case hy15 => (intro w' hSw; (try dsimp only at hSw); go_simp; (try with_reducible rfl))
  try simp only [Act.put, List.setIfInBounds_toArray, List.set_cons_zero, List.set_cons_succ, List.getElem_toArray, List.getElem_cons_zero, List.getElem_cons_succ]
  refine wpAnyH_take (i := 5) (v := ?v16) rfl (by kernel_rfl) (by kernel_rfl) (by kernel_rfl) (fun _ _ _ h => h) (Or.inl ⟨by rfl, ?hy16⟩) hHeld ?rest16
  case hy16 => (intro w' hSw; (try dsimp only at hSw); go_simp; (try with_reducible rfl))
  try simp only [Act.put, List.setIfInBounds_toArray, List.set_cons_zero, List.set_cons_succ, List.getElem_toArray, List.getElem_cons_zero, List.getElem_cons_succ]
  refine wpAnyH_ready (rs := [6]) (by kernel_rfl) (by simp) ?_
  refine AllReadyH.cons rfl (fun K hK => ?_) AllReadyH.nil
  go_simp
  refine C2.mono ?_
  rintro e w2 ⟨rfl, hR2, hT2⟩
  try go_wp2_with fail
  refine hK.out _ _ (trivial) (fun hHeld => ?_)
  clear hK K
  try simp only [Act.put, List.setIfInBounds_toArray, List.set_cons_zero, List.set_cons_succ, List.getElem_toArray, List.getElem_cons_zero, List.getElem_cons_succ]
  refine wpAnyH_take (i := 7) (v := ?v18) rfl (by kernel_rfl) (by kernel_rfl) (by kernel_rfl) (fun _ _ _ h => h) (Or.inl ⟨by rfl, ?hy18⟩) hHeld ?rest18
  case hy18 => (intro w' hSw; (try dsimp only at hSw); go_simp; (try with_reducible rfl))
  try simp only [Act.put, List.setIfInBounds_toArray, List.set_cons_zero, List.set_cons_succ, List.getElem_toArray, List.getElem_cons_zero, List.getElem_cons_succ]
  refine wpAnyH_take (i := 8) (v := ?v19) rfl (by kernel_rfl) (by kernel_rfl) (by kernel_rfl) (fun _ _ _ h => h) (Or.inl ⟨by rfl, ?hy19⟩) hHeld ?rest19
  case hy19 => (intro w' hSw; (try dsimp only at hSw); go_simp; (try with_reducible rfl))
  try simp only [Act.put, List.setIfInBounds_toArray, List.set_cons_zero, List.set_cons_succ, List.getElem_toArray, List.getElem_cons_zero, List.getElem_cons_succ]
  refine wpAnyH_take (i := 9) (v := ?v20) rfl (by kernel_rfl) (by kernel_rfl) (by kernel_rfl) (fun _ _ _ h => h) (Or.inl ⟨by rfl, ?hy20⟩) hHeld ?rest20
  case hy20 => (intro w' hSw; (try dsimp only at hSw); go_simp; (try with_reducible rfl))
  try simp only [Act.put, List.setIfInBounds_toArray, List.set_cons_zero, List.set_cons_succ, List.getElem_toArray, List.getElem_cons_zero, List.getElem_cons_succ]
  refine wpAnyH_done (by kernel_rfl) ?_ _
  have hT := hT1.trans (⟨hT2.os, hT2.tape, hT2.output, hT2.size, hT2.block⟩ : Turned (fun k => k = pb) w1 w2) (fun _ _ h => h)
  rw [HO.out]
  go_wp2_with fail
  go_ret2
  exact ⟨rfl, hT⟩

set_option maxRecDepth 20000 in
theorem few_cut (k q : Nat) (hk : k ≤ 16) (hq : q < 20) (pb po base : Nat) (vr : Value) (bs : List Nat) (at_ : Nat) (w : World) (h : RInv w pb po base vr bs at_ false)
    (hones : Here bs at_ (onesBits q)) (hfit : 8 * bs.length < at_ + q + 1 + k) :
    Calls Try.prog 45 #[.pointer (some ⟨pb, po, none⟩), .int .i64 k] w fun e w' => e = .returned (.tuple #[.int .u32 0, .bool false]) ∧ Turned (fun k => k = pb) w w' := by
  have C1 := param_yes (k : Int) (by omega) (by omega)
  obtain ⟨o1, o2, o3⟩ := (here_ones _ _ _).1 hones
  have O2 := Lib.hid o2; clear o2
  go_enter Try.func45, Try.ntmps45
  go_wp2_with fail
  refine (C1 _).mono ?_
  rintro e w1 ⟨rfl, rfl⟩
  clear C1
  go_wp2_with fail
  refine (rones_yes pb po base vr bs at_ false q 20 _ h o1 O2.out o3 (by omega)).mono ?_
  rintro e w1 ⟨rfl, hR1, hT1⟩
  have C2 := rnum_no pb po base vr bs (at_ + q + 1) false k w1.drew hR1.drew hfit
  go_wp2_with fail
  refine wp_region_held_drew (S := (fun _ : World => True)) (by kernel_rfl) (trivial) (fun hHeld => ?_)
  refine wpAnyH_take (i := 0) (v := ?v21) rfl (by kernel_rfl) (by kernel_rfl) (by kernel_rfl) (fun _ _ _ h => h) (Or.inl ⟨by rfl, ?hy21⟩) hHeld ?rest21
  case hy21 => (intro w' hSw; (try dsimp only at hSw); go_simp; (try with_reducible rfl))
  try simp only [Act.put, List.setIfInBounds_toArray, List.set_cons_zero, List.set_cons_succ, List.getElem_toArray, List.getElem_cons_zero, List.getElem_cons_succ]
  refine wpAnyH_take (i := 1) (v := ?v22) rfl (by kernel_rfl) (by kernel_rfl) (by kernel_rfl) (fun _ _ _ h => h) (Or.inl ⟨by rfl, ?hy22⟩) hHeld ?rest22
  case hy22 => (intro w' hSw; (try dsimp only at hSw); go_simp; (try with_reducible rfl))
  try simp only [Act.put, List.setIfInBounds_toArray, List.set_cons_zero, List.set_cons_succ, List.getElem_toArray, List.getElem_cons_zero, List.getElem_cons_succ]
  refine wpAnyH_take (i := 2) (v := ?v23) rfl (by kernel_rfl) (by kernel_rfl) (by kernel_rfl) (fun _ _ _ h => h) (Or.inl ⟨by rfl, ?hy23⟩) hHeld ?rest23
  case hy23 => (intro w' hSw; (try dsimp only at hSw); go_simp; (try with_reducible rfl))
  try simp only [Act.put, List.setIfInBounds_toArray, List.set_cons_zero, List.set_cons_succ, List.getElem_toArray, List.getElem_cons_zero, List.getElem_cons_succ]
  refine wpAnyH_take (i := 3) (v := ?v24) rfl (by kernel_rfl) (by kernel_rfl) (by kernel_rfl) (fun _ _ _ h => h) (Or.inl ⟨by rfl, ?hy24⟩) hHeld ?rest24
  case hy24 => (intro w' hSw; (try dsimp only at hSw); go_simp; (try with_reducible rfl))
  try simp only [Act.put, List.setIfInBounds_toArray, List.set_cons_zero, List.set_cons_succ, List.getElem_toArray, List.getElem_cons_zero, List.getElem_cons_succ]
  refine wpAnyH_take (i := 4) (v := ?v25) rfl (by kernel_rfl) (by kernel_rfl) (by kernel_rfl) (fun _ _ _ h => h) (Or.inl ⟨by rfl, ?hy25⟩) hHeld ?rest25
  case hy25 => (intro w' hSw; (try dsimp only at hSw); go_simp; (try with_reducible rfl))
  try simp only [Act.put, List.setIfInBounds_toArray, List.set_cons_zero, List.set_cons_succ, List.getElem_toArray, List.getElem_cons_zero, List.getElem_cons_succ]
  refine wpAnyH_take (i := 5) (v := ?v26) rfl (by kernel_rfl) (by kernel_rfl) (by kernel_rfl) (fun _ _ _ h => h) (Or.inl ⟨by rfl, ?hy26⟩) hHeld ?rest26
  case hy26 => (intro w' hSw; (try dsimp only at hSw); go_simp; (try with_reducible rfl))
  try simp only [Act.put, List.setIfInBounds_toArray, List.set_cons_zero, List.set_cons_succ, List.getElem_toArray, List.getElem_cons_zero, List.getElem_cons_succ]
  refine wpAnyH_ready (rs := [6]) (by kernel_rfl) (by simp) ?_
  refine AllReadyH.cons rfl (fun K hK => ?_) AllReadyH.nil
  go_simp
  refine C2.mono ?_
  rintro e w2 ⟨rfl, hR2, hT2⟩
  try go_wp2_with fail
  refine hK.out _ _ (trivial) (fun hHeld => ?_)
  clear hK K
  try simp only [Act.put, List.setIfInBounds_toArray, List.set_cons_zero, List.set_cons_succ, List.getElem_toArray, List.getElem_cons_zero, List.getElem_cons_succ]
  refine wpAnyH_take (i := 7) (v := ?v28) rfl (by kernel_rfl) (by kernel_rfl) (by kernel_rfl) (fun _ _ _ h => h) (Or.inl ⟨by rfl, ?hy28⟩) hHeld ?rest28
  case hy28 => (intro w' hSw; (try dsimp only at hSw); go_simp; (try with_reducible rfl))
  try simp only [Act.put, List.setIfInBounds_toArray, List.set_cons_zero, List.set_cons_succ, List.getElem_toArray, List.getElem_cons_zero, List.getElem_cons_succ]
  refine wpAnyH_take (i := 8) (v := ?v29) rfl (by kernel_rfl) (by kernel_rfl) (by kernel_rfl) (fun _ _ _ h => h) (Or.inl ⟨by rfl, ?hy29⟩) hHeld ?rest29
  case hy29 => (intro w' hSw; (try dsimp only at hSw); go_simp; (try with_reducible rfl))
  try simp only [Act.put, List.setIfInBounds_toArray, List.set_cons_zero, List.set_cons_succ, List.getElem_toArray, List.getElem_cons_zero, List.getElem_cons_succ]
  refine wpAnyH_take (i := 9) (v := ?v30) rfl (by kernel_rfl) (by kernel_rfl) (by kernel_rfl) (fun _ _ _ h => h) (Or.inl ⟨by rfl, ?hy30⟩) hHeld ?rest30
  case hy30 => (intro w' hSw; (try dsimp only at hSw); go_simp; (try with_reducible rfl))
  try simp only [Act.put, List.setIfInBounds_toArray, List.set_cons_zero, List.set_cons_succ, List.getElem_toArray, List.getElem_cons_zero, List.getElem_cons_succ]
  refine wpAnyH_done (by kernel_rfl) ?_ _
  have hT := hT1.trans (⟨hT2.os, hT2.tape, hT2.output, hT2.size, hT2.block⟩ : Turned (fun k => k = pb) w1 w2) (fun _ _ h => h)
  obtain ⟨N, hN⟩ : ∃ N : Int, N = bits BinOp.or IntKind.u32 (IntKind.u32.wrap (IntKind.u32.wrap (q : Int) * 2 ^ k)) (IntKind.u32.wrap 0) := ⟨_, rfl⟩
  rw [← hN]
  clear hN
  by_cases hn : N < 131072
  · go_wp2_with fail
    refine (right_any pb po base _ _ _ true _ hR2).mono ?_
    rintro e w3 ⟨rfl, rfl⟩
    go_wp2_with fail
    go_ret2
    exact ⟨rfl, hT⟩
  · go_wp2_with fail
    go_ret2
    exact ⟨rfl, hT⟩

set_option maxRecDepth 20000 in
theorem none_go (k : Nat) (hk : k ≤ 16) (pb po base : Nat) (vr : Value) (bs : List Nat) (at_ : Nat) (w : World) (h : RInv w pb po base vr bs at_ false) (H : ∀ q, q ≤ 20 → ¬ Here bs at_ (onesBits q)) :
    Calls Try.prog 45 #[.pointer (some ⟨pb, po, none⟩), .int .i64 k] w fun e w' => e = .returned (.tuple #[.int .u32 0, .bool false]) ∧ Turned (fun k => k = pb) w w' := by
  have C1 := param_yes (k : Int) (by omega) (by omega)
  have HH := Lib.hid H; clear H
  go_enter Try.func45, Try.ntmps45
  go_wp2_with fail
  refine (C1 _).mono ?_
  rintro e w1 ⟨rfl, rfl⟩
  clear C1
  go_wp2_with fail
  refine (rones_no pb po base vr bs at_ false 20 _ h (fun n a b c => Int.not_le.1 (fun h20 => HH.out n (by omega) ((here_ones _ _ _).2 ⟨a, b, c⟩)))).mono ?_
  rintro e w1 ⟨rfl, hR1, hT1⟩
  have C2 := rnum_bad pb po base k w1.drew hR1.drew
  go_wp2_with fail
  refine wp_region_held_drew (S := (fun _ : World => True)) (by kernel_rfl) (trivial) (fun hHeld => ?_)
  refine wpAnyH_take (i := 0) (v := ?v31) rfl (by kernel_rfl) (by kernel_rfl) (by kernel_rfl) (fun _ _ _ h => h) (Or.inl ⟨by rfl, ?hy31⟩) hHeld ?rest31
  case hy31 => (intro w' hSw; (try dsimp only at hSw); go_simp; (try with_reducible rfl))
  try simp only [Act.put, List.setIfInBounds_toArray, List.set_cons_zero, List.set_cons_succ, List.getElem_toArray, List.getElem_cons_zero, List.getElem_cons_succ]
  refine wpAnyH_take (i := 1) (v := ?v32) rfl (by kernel_rfl) (by kernel_rfl) (by kernel_rfl) (fun _ _ _ h => h) (Or.inl ⟨by rfl, ?hy32⟩) hHeld ?rest32
  case hy32 => (intro w' hSw; (try dsimp only at hSw); go_simp; (try with_reducible rfl))
  try simp only [Act.put, List.setIfInBounds_toArray, List.set_cons_zero, List.set_cons_succ, List.getElem_toArray, List.getElem_cons_zero, List.getElem_cons_succ]
  refine wpAnyH_take (i := 2) (v := ?v33) rfl (by kernel_rfl) (by kernel_rfl) (by kernel_rfl) (fun _ _ _ h => h) (Or.inl ⟨by rfl, ?hy33⟩) hHeld ?rest33
  case hy33 => (intro w' hSw; (try dsimp only at hSw); go_simp; (try with_reducible rfl))
  try simp only [Act.put, List.setIfInBounds_toArray, List.set_cons_zero, List.set_cons_succ, List.getElem_toArray, List.getElem_cons_zero, List.getElem_cons_succ]
  refine wpAnyH_take (i := 3) (v := ?v34) rfl (by kernel_rfl) (by kernel_rfl) (by kernel_rfl) (fun _ _ _ h => h) (Or.inl ⟨by rfl, ?hy34⟩) hHeld ?rest34
  case hy34 => (intro w' hSw; (try dsimp only at hSw); go_simp; (try with_reducible rfl))
  try simp only [Act.put, List.setIfInBounds_toArray, List.set_cons_zero, List.set_cons_succ, List.getElem_toArray, List.getElem_cons_zero, List.getElem_cons_succ]
  refine wpAnyH_take (i := 4) (v := ?v35) rfl (by kernel_rfl) (by kernel_rfl) (by kernel_rfl) (fun _ _ _ h => h) (Or.inl ⟨by rfl, ?hy35⟩) hHeld ?rest35
  case hy35 => (intro w' hSw; (try dsimp only at hSw); go_simp; (try with_reducible rfl))
  try simp only [Act.put, List.setIfInBounds_toArray, List.set_cons_zero, List.set_cons_succ, List.getElem_toArray, List.getElem_cons_zero, List.getElem_cons_succ]
  refine wpAnyH_take (i := 5) (v := ?v36) rfl (by kernel_rfl) (by kernel_rfl) (by kernel_rfl) (fun _ _ _ h => h) (Or.inl ⟨by rfl, ?hy36⟩) hHeld ?rest36
  case hy36 => (intro w' hSw; (try dsimp only at hSw); go_simp; (try with_reducible rfl))
  try simp only [Act.put, List.setIfInBounds_toArray, List.set_cons_zero, List.set_cons_succ, List.getElem_toArray, List.getElem_cons_zero, List.getElem_cons_succ]
  refine wpAnyH_ready (rs := [6]) (by kernel_rfl) (by simp) ?_
  refine AllReadyH.cons rfl (fun K hK => ?_) AllReadyH.nil
  go_simp
  refine C2.mono ?_
  rintro e w2 ⟨rfl, hR2, hT2⟩
  try go_wp2_with fail
  refine hK.out _ _ (trivial) (fun hHeld => ?_)
  clear hK K
  try simp only [Act.put, List.setIfInBounds_toArray, List.set_cons_zero, List.set_cons_succ, List.getElem_toArray, List.getElem_cons_zero, List.getElem_cons_succ]
  refine wpAnyH_take (i := 7) (v := ?v38) rfl (by kernel_rfl) (by kernel_rfl) (by kernel_rfl) (fun _ _ _ h => h) (Or.inl ⟨by rfl, ?hy38⟩) hHeld ?rest38
  case hy38 => (intro w' hSw; (try dsimp only at hSw); go_simp; (try with_reducible rfl))
  try simp only [Act.put, List.setIfInBounds_toArray, List.set_cons_zero, List.set_cons_succ, List.getElem_toArray, List.getElem_cons_zero, List.getElem_cons_succ]
  refine wpAnyH_take (i := 8) (v := ?v39) rfl (by kernel_rfl) (by kernel_rfl) (by kernel_rfl) (fun _ _ _ h => h) (Or.inl ⟨by rfl, ?hy39⟩) hHeld ?rest39
  case hy39 => (intro w' hSw; (try dsimp only at hSw); go_simp; (try with_reducible rfl))
  try simp only [Act.put, List.setIfInBounds_toArray, List.set_cons_zero, List.set_cons_succ, List.getElem_toArray, List.getElem_cons_zero, List.getElem_cons_succ]
  refine wpAnyH_take (i := 9) (v := ?v40) rfl (by kernel_rfl) (by kernel_rfl) (by kernel_rfl) (fun _ _ _ h => h) (Or.inl ⟨by rfl, ?hy40⟩) hHeld ?rest40
  case hy40 => (intro w' hSw; (try dsimp only at hSw); go_simp; (try with_reducible rfl))
  try simp only [Act.put, List.setIfInBounds_toArray, List.set_cons_zero, List.set_cons_succ, List.getElem_toArray, List.getElem_cons_zero, List.getElem_cons_succ]
  refine wpAnyH_done (by kernel_rfl) ?_ _
  have hT := hT1.trans (⟨hT2.os, hT2.tape, hT2.output, hT2.size, hT2.block⟩ : Turned (fun k => k = pb) w1 w2) (fun _ _ h => h)
  obtain ⟨N, hN⟩ : ∃ N : Int, N = bits BinOp.or IntKind.u32 (IntKind.u32.wrap (IntKind.u32.wrap 0 * 2 ^ k)) (IntKind.u32.wrap 0) := ⟨_, rfl⟩
  rw [← hN]
  clear hN
  by_cases hn : N < 131072
  · go_wp2_with fail
    refine (right_any pb po base _ _ _ true _ hR2).mono ?_
    rintro e w3 ⟨rfl, rfl⟩
    go_wp2_with fail
    go_ret2
    exact ⟨rfl, hT⟩
  · go_wp2_with fail
    go_ret2
    exact ⟨rfl, hT⟩

set_option maxRecDepth 20000 in
theorem many_yes (n k : Nat) (hk : k ≤ 16) (hv17 : n < 131072) (hn : ¬ n / 2 ^ k < 20) (pb po base : Nat) (vr : Value) (bs : List Nat) (at_ : Nat) (w : World) (h : RInv w pb po base vr bs at_ false)
    (hones : Here bs at_ (onesBits 20)) (hfit : at_ + 21 + 17 ≤ 8 * bs.length) (hv : valAt bs (at_ + 21) 17 = n) :
    Calls Try.prog 45 #[.pointer (some ⟨pb, po, none⟩), .int .i64 k] w fun e w' => e = .returned (.tuple #[.int .u32 n, .bool true]) ∧ RInv w' pb po base vr bs (at_ + 21 + 17) false ∧ Turned (fun k => k = pb) w w' := by
  have C3 := wide_go n k (by omega) hk
  rw [decide_eq_true (by omega)] at C3
  have C1 := param_yes (k : Int) (by omega) (by omega)
  obtain ⟨o1, o2, o3⟩ := (here_ones _ _ _).1 hones
  have O2 := Lib.hid o2; clear o2
  have hw : IntKind.u32.wrap (n : Int) = (n : Int) := by rw [IntKind.wrap_u32']; omega
  clear hv17 hn
  go_enter Try.func45, Try.ntmps45
  go_wp2_with fail
  refine (C1 _).mono ?_
  rintro e w1 ⟨rfl, rfl⟩
  clear C1
  go_wp2_with fail
  refine (rones_yes pb po base vr bs at_ false 20 20 _ h o1 O2.out o3 (by omega)).mono ?_
  rintro e w1 ⟨rfl, hR1, hT1⟩
  have C2 := rnum_yes pb po base vr bs (at_ + 21) false 17 w1 hR1 hfit
  rw [hv] at C2
  go_wp2_with fail
  refine C2.mono ?_
  rintro e w2 ⟨rfl, hR2, hT2⟩
  have hT := hT1.trans hT2 (fun _ _ h => h)
  clear C2
  go_wp2_with fail
  refine (C3 _).mono ?_
  rintro e w3 ⟨rfl, rfl⟩
  go_wp2_with fail
  refine (right_any pb po base vr bs _ false _ hR2).mono ?_
  rintro e w3 ⟨rfl, rfl⟩
  go_wp2_with fail
  go_ret2
  exact ⟨rfl, hR2, hT⟩

set_option maxRecDepth 20000 in
theorem many_no (n k : Nat) (hk : k ≤ 16) (hv17 : n < 131072) (hn : n / 2 ^ k < 20) (pb po base : Nat) (vr : Value) (bs : List Nat) (at_ : Nat) (w : World) (h : RInv w pb po base vr bs at_ false)
    (hones : Here bs at_ (onesBits 20)) (hfit : at_ + 21 + 17 ≤ 8 * bs.length) (hv : valAt bs (at_ + 21) 17 = n) :
    Calls Try.prog 45 #[.pointer (some ⟨pb, po, none⟩), .int .i64 k] w fun e w' => e = .returned (.tuple #[.int .u32 0, .bool false]) ∧ Turned (fun k => k = pb) w w' := by
  have C3 := wide_go n k (by omega) hk
  rw [decide_eq_false (by omega)] at C3
  have C1 := param_yes (k : Int) (by omega) (by omega)
  obtain ⟨o1, o2, o3⟩ := (here_ones _ _ _).1 hones
  have O2 := Lib.hid o2; clear o2
  have hw : IntKind.u32.wrap (n : Int) = (n : Int) := by rw [IntKind.wrap_u32']; omega
  clear hv17 hn
  go_enter Try.func45, Try.ntmps45
  go_wp2_with fail
  refine (C1 _).mono ?_
  rintro e w1 ⟨rfl, rfl⟩
  clear C1
  go_wp2_with fail
  refine (rones_yes pb po base vr bs at_ false 20 20 _ h o1 O2.out o3 (by omega)).mono ?_
  rintro e w1 ⟨rfl, hR1, hT1⟩
  have C2 := rnum_yes pb po base vr bs (at_ + 21) false 17 w1 hR1 hfit
  rw [hv] at C2
  go_wp2_with fail
  refine C2.mono ?_
  rintro e w2 ⟨rfl, hR2, hT2⟩
  have hT := hT1.trans hT2 (fun _ _ h => h)
  clear C2
  go_wp2_with fail
  refine (C3 _).mono ?_
  rintro e w3 ⟨rfl, rfl⟩
  go_wp2_with fail
  go_ret2
  exact ⟨rfl, hT⟩

set_option maxRecDepth 20000 in
theorem many_cut (k : Nat) (hk : k ≤ 16) (pb po base : Nat) (vr : Value) (bs : List Nat) (at_ : Nat) (w : World) (h : RInv w pb po base vr bs at_ false)
    (hones : Here bs at_ (onesBits 20)) (hfit : 8 * bs.length < at_ + 21 + 17) :
    Calls Try.prog 45 #[.pointer (some ⟨pb, po, none⟩), .int .i64 k] w fun e w' => e = .returned (.tuple #[.int .u32 0, .bool false]) ∧ Turned (fun k => k = pb) w w' := by
  have C3 := wide_go 0 k (by omega) hk
  rw [Nat.zero_div, decide_eq_false (by omega)] at C3
  have C1 := param_yes (k : Int) (by omega) (by omega)
  obtain ⟨o1, o2, o3⟩ := (here_ones _ _ _).1 hones
  have O2 := Lib.hid o2; clear o2
  go_enter Try.func45, Try.ntmps45
  go_wp2_with fail
  refine (C1 _).mono ?_
  rintro e w1 ⟨rfl, rfl⟩
  clear C1
  go_wp2_with fail
  refine (rones_yes pb po base vr bs at_ false 20 20 _ h o1 O2.out o3 (by omega)).mono ?_
  rintro e w1 ⟨rfl, hR1, hT1⟩
  have C2 := rnum_no pb po base vr bs (at_ + 21) false 17 w1 hR1 hfit
  go_wp2_with fail
  refine C2.mono ?_
  rintro e w2 ⟨rfl, hR2, hT2⟩
  have hT := hT1.trans hT2 (fun _ _ h => h)
  clear C2
  go_wp2_with fail
  refine (C3 _).mono ?_
  rintro e w3 ⟨rfl, rfl⟩
  go_wp2_with fail
  go_ret2
  exact ⟨rfl, hT⟩

/-- No such parameter. -/
theorem get_bad (k : Int) (h0 : 0 ≤ k) (hk : 16 < k) (p : Option Addr) (w : World) :
    Calls Try.prog 45 #[.pointer p, .int .i64 k] w fun e w' => e = .returned (.tuple #[.int .u32 0, .bool false]) ∧ w = w' := by
  have C1 := param_no k h0 hk
  go_enter Try.func45, Try.ntmps45
  go_wp2_with fail
  refine (C1 _).mono ?_
  rintro e w1 ⟨rfl, rfl⟩
  go_wp2_with fail
  go_ret2
  exact ⟨rfl, rfl⟩

/-- Where a code comes next it is read. -/
theorem get_yes (n k : Nat) (hk : k ≤ 16) (hn : n < 131072) (pb po base : Nat) (vr : Value) (bs : List Nat) (at_ : Nat) (w : World) (h : RInv w pb po base vr bs at_ false) (H : Here bs at_ (code n k)) :
    Calls Try.prog 45 #[.pointer (some ⟨pb, po, none⟩), .int .i64 k] w fun e w' => e = .returned (.tuple #[.int .u32 n, .bool true]) ∧ RInv w' pb po base vr bs (at_ + size n k) false ∧ Turned (fun k => k = pb) w w' := by
  by_cases c : n / 2 ^ k < 20
  · have hs : size n k = n / 2 ^ k + 1 + k := by unfold size; rw [if_pos c]
    obtain ⟨h1, h2, h3⟩ := (here_few _ _ _ _ hk c).1 H
    have := few_yes n k (n / 2 ^ k) (n % 2 ^ k) hk c hn pb po base vr bs at_ w h h1 h2 h3 (Nat.mod_lt _ (Nat.pow_pos (by decide))) (by rw [Nat.mul_comm]; exact (Nat.div_add_mod n (2 ^ k)).symm)
    rwa [hs, ← Nat.add_assoc, ← Nat.add_assoc]
  · have hs : size n k = 38 := by unfold size; rw [if_neg c]
    obtain ⟨h1, h2, h3⟩ := (here_many _ _ _ _ c hn).1 H
    have := many_yes n k hk hn c pb po base vr bs at_ w h h1 h2 h3
    rwa [hs]
/-- Where none comes next it is told. -/
theorem get_no (k : Nat) (hk : k ≤ 16) (pb po base : Nat) (vr : Value) (bs : List Nat) (at_ : Nat) (w : World) (h : RInv w pb po base vr bs at_ false) (H : ∀ n, n < 131072 → ¬ Here bs at_ (code n k)) :
    Calls Try.prog 45 #[.pointer (some ⟨pb, po, none⟩), .int .i64 k] w fun e w' => e = .returned (.tuple #[.int .u32 0, .bool false]) ∧ Turned (fun k => k = pb) w w' := by
  by_cases hq : ∃ q, q ≤ 20 ∧ Here bs at_ (onesBits q)
  · obtain ⟨q, hq, ho⟩ := hq
    by_cases h20 : q = 20
    · subst h20
      by_cases hf : at_ + 21 + 17 ≤ 8 * bs.length
      · have hv := valAt_small bs (at_ + 21) 17 (by omega)
        rw [show (2 : Nat) ^ 17 = 131072 by decide] at hv
        refine many_no _ k hk hv ?_ pb po base vr bs at_ w h ho hf rfl
        by_cases c : valAt bs (at_ + 21) 17 / 2 ^ k < 20
        · exact c
        · exact absurd ((here_many _ _ _ _ c hv).2 ⟨ho, hf, rfl⟩) (H _ hv)
      · exact many_cut k hk pb po base vr bs at_ w h ho (by omega)
    · by_cases hf : at_ + q + 1 + k ≤ 8 * bs.length
      · have hv := valAt_small bs (at_ + q + 1) k (by omega)
        have hp : 0 < 2 ^ k := Nat.pow_pos (by decide)
        have d1 : (q * 2 ^ k + valAt bs (at_ + q + 1) k) / 2 ^ k = q := by
          rw [Nat.mul_comm, Nat.mul_add_div hp, Nat.div_eq_of_lt hv]; rfl
        have d2 : (q * 2 ^ k + valAt bs (at_ + q + 1) k) % 2 ^ k = valAt bs (at_ + q + 1) k := by
          rw [Nat.mul_comm, Nat.mul_add_mod, Nat.mod_eq_of_lt hv]
        refine few_no _ k q _ hk (by omega) ?_ pb po base vr bs at_ w h ho hf rfl hv rfl
        intro hn
        refine H _ hn ((here_few _ _ _ _ hk (by rw [d1]; omega)).2 ?_)
        rw [d1, d2]
        exact ⟨ho, hf, rfl⟩
      · exact few_cut k q hk (by omega) pb po base vr bs at_ w h ho (by omega)
  · exact none_go k hk pb po base vr bs at_ w h (fun q h1 h2 => hq ⟨q, h1, h2⟩)
end Go.Proofs.Ytapheokmoebgfaa
