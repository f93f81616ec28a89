/-
  Powers, by a closure that tells roots of a half; logarithms of sums: the code's.
-/
import Derived.Test.YtaofkoejlpchaaaExpoA
import Derived.Deep.LoopGhost
import Derived.WalkMore
set_option linter.unusedVariables false
set_option linter.unusedSimpArgs false
namespace Go.Th
open Go Go.RowKit
section
variable {P : Program}
/-- A variable of one cell is written. -/
theorem wr_cell {ty : TypeId} (hs : (P.info? ty).map (·.size) = some 1) {u v : Value} (hv : v.cells = #[v]) (h1 : v.oneCell' = true)
    (hst : ∀ (w : World) (g : Nat), w.cell? ⟨g, 0, none⟩ = some u → w.frozen? ⟨g, 0, none⟩ = false → (storeCells ⟨g, 0, none⟩ [v] 0).run P w = .ok () (w.setCell ⟨g, 0, none⟩ v)) : Wr P ty 0 [u] v [v] := by
  constructor
  intro w g t hb
  have hc := hb.cell (i := 0) (u := u) rfl
  have hf := hb.free 0
  have e : w.setCell ⟨g, 0, none⟩ v = w.setRow g [v].toArray := by
    rw [setCell_eq_setRow w g 0 _ t (0, 0) _ hb]
    congr 1
  cases hq : P.info? ty with
  | none => simp [hq] at hs
  | some j =>
    have hz : j.size = 1 := by simpa [hq] using hs
    rw [← e]
    simp [storeVar, sizeOf, typeInfo, hq, hz, hv, hst w g hc hf]
end
end Go.Th
namespace Go.Proofs.Ytaofkoejlpchaaa
open Go Go.RowKit Go.Th Go.Th.Root Go.Th.Wide Go.Th.Expo

theorem zeroQ : (Try.prog.info? 22).map (·.zero) = some (some (.int .u64 0)) := by kernel_rfl
theorem sizeQ : (Try.prog.info? 22).map (·.size) = some 1 := by kernel_rfl
theorem rd_q (x : Int) : Rd Try.prog 22 0 [.int .u64 x] (.int .u64 x) := Rd.one Try.underlying22 rfl rfl
theorem wr_q (x y : Int) : Wr Try.prog 22 0 [.int .u64 x] (.int .u64 y) [.int .u64 y] := by
  refine wr_cell (u := .int .u64 x) sizeQ rfl rfl ?_
  intro w g hc hf
  have hst := run_store Try.prog w ⟨g, 0, none⟩ (.int .u64 y) .plain rfl
  rw [hc] at hst
  simp only [hf, Bool.false_eq_true, if_false] at hst
  simp [storeCells, hst, add_none]

/-- The closure's value: it has captured one variable. -/
abbrev nextV (g : Nat) : Value := .func (.func 28) #[] #[.pointer (some ⟨g, 0, none⟩)]
set_option maxRecDepth 20000 in
set_option maxHeartbeats 1600000 in
theorem roots_any (w : World) : Calls Try.prog 19 #[] w fun e w' => ∃ g, e = .returned (nextV g) ∧ Mem w w' [(g, 22, [.int .u64 2305843009213693952])] := by
  have hmf : ∀ (fn : Fn) (first cap : Array Value) (w : World), (Instr.makeFunc fn first cap).run Try.prog w = .ok (.func fn first cap) w := fun _ _ _ _ => rfl
  have M0 := Mem.start w
  go_enter Try.func19, Try.ntmps19
  go_wp2_with ((with_reducible refine (?_ : Go.wpList _ _ _ (_ :: _) _ _)); (first | go_skip | (refine wpL_al M0 rfl rfl zeroQ rfl ?_; clear M0; intro g1 w1 M1) | (refine wpL_st M1 rfl rfl rfl rfl (by repeat (first | exact Has.head _ _ _ _ | apply Has.tail)) (wr_q _ _) (by repeat (first | exact Upd.head _ _ _ _ _ | apply Upd.tail)) ?_; clear M1; intro w' M1)))
  go_ret
  exact ⟨_, rfl, M1⟩

set_option maxRecDepth 20000 in
set_option maxHeartbeats 1600000 in
theorem next_any (h g : Nat) (hh : h ≤ 4611686018427387904) (w0 w : World) (r : List (Nat × TypeId × List Value)) (M0 : Mem w0 w ((g, 22, [.int .u64 h]) :: r)) :
    Calls Try.prog 28 #[.pointer (some ⟨g, 0, none⟩)] w fun e w' => e = .returned (.int .u64 ((rt 2 (h * 4611686018427387904) : Nat) : Int)) ∧ Mem w0 w' ((g, 22, [.int .u64 ((rt 2 (h * 4611686018427387904) : Nat) : Int)]) :: r) := by
  have C1 := mulW_nat h 4611686018427387904 (by omega) (by omega)
  have C2 := wide_any (h * 4611686018427387904 / 18446744073709551616) (h * 4611686018427387904 % 18446744073709551616) (by omega) (by omega)
  rw [show h * 4611686018427387904 / 18446744073709551616 * 18446744073709551616 + h * 4611686018427387904 % 18446744073709551616 = h * 4611686018427387904 by omega] at C2
  have hR := root_le hh
  obtain ⟨R, eR⟩ : ∃ R, R = rt 2 (h * 4611686018427387904) := ⟨_, rfl⟩
  obtain ⟨a, ea⟩ : ∃ a, a = h * 4611686018427387904 / 18446744073709551616 := ⟨_, rfl⟩
  obtain ⟨b, eb⟩ : ∃ b, b = h * 4611686018427387904 % 18446744073709551616 := ⟨_, rfl⟩
  rw [← eR] at C2 hR ⊢
  rw [← ea, ← eb] at C1 C2
  clear eR ea eb
  go_enter Try.func28, Try.ntmps28
  go_wp2_with ((with_reducible refine (?_ : Go.wpList _ _ _ (_ :: _) _ _)); (first | go_skip | (refine wpL_ld M0 rfl rfl rfl (by repeat (first | exact Has.head _ _ _ _ | apply Has.tail)) (rd_q _) ?_)))
  (refine (C1 _).mono ?_; rintro e w2 ⟨rfl, hBl⟩; replace M0 := M0.call hBl; clear hBl C1)
  go_wp2_with fail
  (refine (C2 _).mono ?_; rintro e w2 ⟨rfl, hBl⟩; replace M0 := M0.call hBl; clear hBl C2)
  go_wp2_with ((with_reducible refine (?_ : Go.wpList _ _ _ (_ :: _) _ _)); (first | go_skip | (refine wpL_ld M0 rfl rfl rfl (by repeat (first | exact Has.head _ _ _ _ | apply Has.tail)) (rd_q _) ?_) | (refine wpL_st M0 rfl rfl rfl rfl (by repeat (first | exact Has.head _ _ _ _ | apply Has.tail)) (wr_q _ _) (by repeat (first | exact Upd.head _ _ _ _ _ | apply Upd.tail)) ?_; clear M0; intro w' M0)))
  go_ret
  exact ⟨rfl, M0⟩

theorem rest_step {p k : Nat} (hk : k + 1 ≤ 16) : p % 2 ^ (k + 1) * 2 ^ (64 - (k + 1)) / 9223372036854775808 = p / 2 ^ k % 2 ∧ p % 2 ^ (k + 1) * 2 ^ (64 - (k + 1)) * 2 % 18446744073709551616 = p % 2 ^ k * 2 ^ (64 - k) ∧ p % 2 ^ (k + 1) * 2 ^ (64 - (k + 1)) < 18446744073709551616 := by
  have e := Nat.mod_pow_succ (x := p) (b := 2) (k := k)
  have c : 0 < 2 ^ k := Nat.two_pow_pos k
  have l := Nat.mod_lt p c
  have q : 2 ^ k * 2 ^ (63 - k) = 9223372036854775808 := by rw [← Nat.pow_add, show k + (63 - k) = 63 by omega]
  have d : 0 < 2 ^ (63 - k) := Nat.two_pow_pos _
  rw [e, show 64 - (k + 1) = 63 - k by omega, show 64 - k = 63 - k + 1 by omega, Nat.pow_succ]
  have b : p / 2 ^ k % 2 < 2 := Nat.mod_lt _ (by decide)
  generalize p / 2 ^ k % 2 = t at b
  generalize p % 2 ^ k = y at l
  generalize 2 ^ (63 - k) = f at q d
  generalize 2 ^ k = g at q c l
  have l2 := Nat.mul_lt_mul_of_pos_right l d
  rw [q] at l2
  have m : (y + g * t) * f = y * f + 9223372036854775808 * t := by rw [Nat.add_mul, Nat.mul_right_comm, q]
  rw [m, ← Nat.mul_assoc]
  generalize y * f = z at l2
  omega
theorem rest_zero {p k : Nat} (h : p % 2 ^ k * 2 ^ (64 - k) = 0) : p % 2 ^ k = 0 := by
  have d : 0 < 2 ^ (64 - k) := Nat.two_pow_pos _
  rcases Nat.mul_eq_zero.1 h with a | a
  · exact a
  · omega

set_option maxRecDepth 20000 in
set_option maxHeartbeats 1600000 in
theorem Exp_go (d c p R V r0 : Nat) (hd : d < 9223372036854775808) (hc : c ≤ 40) (ec : (d : Int) / 65536 = (c : Int)) (e0 : IntKind.u64.wrap ((d : Int) * 281474976710656) = (r0 : Int)) (h0 : r0 = p % 2 ^ 16 * 2 ^ (64 - 16)) (hR : exM p = R) (hV : R / 1073741824 / 2 ^ c = V)
    (C1 : ∀ a b : Nat, a ≤ 4611686018427387904 → b ≤ 4611686018427387904 → Ans 17 #[.int .u64 a, .int .u64 b] (.int .u64 ((a * b / 4611686018427387904 : Nat) : Int))) :
    Ans 11 #[.int .i64 d] (.tuple #[.int .u64 V, .int .i64 0]) := by
  intro w
  have HR := Lib.hid hR
  have H0 := Lib.hid h0
  have HV := Lib.hid hV
  have HC := Lib.hid C1
  clear hR h0 hV C1
  go_enter Try.func11, Try.ntmps11
  go_wp2_with fail
  refine (roots_any _).mono ?_
  rintro e w2 ⟨g, rfl, M0⟩
  go_wp2_with fail
  clear e0
  go_loopg [4, 6] 16 (fun k s4 s6 wx => ∃ h m rest : Nat, k ≤ 16 ∧ s4 = .int .u64 m ∧ s6 = .int .u64 rest ∧ h ≤ 4611686018427387904 ∧ m ≤ 4611686018427387904 ∧ Hid (rest = p % 2 ^ k * 2 ^ (64 - k)) ∧ Hid (ex k p h m = R) ∧ Mem w wx [(g, 22, [.int .u64 h])])
  case atStart => exact ⟨2305843009213693952, 4611686018427387904, r0, by omega, rfl, rfl, by decide, by decide, H0.out, HR.out, M0⟩
  case round =>
    clear M0 HR H0
    obtain ⟨h, m, rest, hk, rfl, rfl, hh, hm, HT, HR, M0⟩ := hrel
    by_cases hz : rest = 0
    · subst hz
      have hR : m = R := by have a := HR.out; rw [ex_low _ _ _ _ (rest_zero HT.out.symm)] at a; exact a
      clear HR HT
      subst hR
      go_wp2_with fail
      go_ret2
      exact ⟨ret_ii (by rw [← HV.out]; simp) rfl, M0.below⟩
    · cases gk with
      | zero => exact absurd (by have := HT.out; rw [Nat.pow_zero, Nat.mod_one, Nat.zero_mul] at this; exact this) hz
      | succ k =>
        have bz : ((rest : Int) != 0) = true := by simpa using hz
        obtain ⟨t1, t2, t3⟩ := rest_step (p := p) hk
        rw [← HT.out] at t1 t2 t3
        obtain ⟨r2, hr2⟩ : ∃ r2, r2 = rest * 2 % 18446744073709551616 := ⟨_, rfl⟩
        have er : IntKind.u64.wrap ((rest : Int) * 2) = (r2 : Int) := by rw [IntKind.wrap_u64]; omega
        rw [← hr2] at t2
        have T2 := Lib.hid t2
        have hh2 := root_le hh
        have K := next_any h g hh
        have hb : p / 2 ^ k % 2 < 2 := Nat.mod_lt _ (by decide)
        have hs := ex_step k p h m
        obtain ⟨b, eb⟩ : ∃ b, b = p / 2 ^ k % 2 := ⟨_, rfl⟩
        obtain ⟨h2, eh⟩ : ∃ h2, h2 = rt 2 (h * 4611686018427387904) := ⟨_, rfl⟩
        rw [← eh] at K hs hh2
        rw [← eb] at t1 hb hs
        have et : (rest : Int) / 9223372036854775808 = (b : Int) := by omega
        clear t1 t2 hr2 eb eh HT hz
        have hb2 : b = 0 ∨ b = 1 := by omega
        rcases hb2 with rfl | rfl
        · rw [if_neg (by decide)] at hs
          have G := Lib.hid (HR.out ▸ hs.symm : ex k p h2 m = R)
          clear hs HR
          go_wp2_with fail
          refine (K _ _ _ M0).mono ?_
          rintro e w3 ⟨rfl, M1⟩
          clear M0 K
          go_wp2_with fail
          go_roundg k
          case rel => exact ⟨h2, m, r2, by omega, rfl, rfl, hh2, hm, T2.out, G.out, M1⟩
          case measure => omega
        · rw [if_pos rfl] at hs
          have G := Lib.hid (HR.out ▸ hs.symm : ex k p h2 (m * h2 / 4611686018427387904) = R)
          have hm2 := prod_le hm hh2
          have C := HC.out m h2 hm hh2
          obtain ⟨q, hq⟩ : ∃ q, q = m * h2 / 4611686018427387904 := ⟨_, rfl⟩
          rw [← hq] at G hm2 C
          clear hs HR hq
          go_wp2_with fail
          refine (K _ _ _ M0).mono ?_
          rintro e w3 ⟨rfl, M1⟩
          clear M0 K
          go_wp2_with fail
          (refine (C _).mono ?_; rintro e w2 ⟨rfl, hBl⟩; replace M1 := M1.call hBl; clear hBl C)
          go_wp2_with fail
          go_roundg k
          case rel => exact ⟨h2, q, r2, by omega, rfl, rfl, hh2, hm2, T2.out, G.out, M1⟩
          case measure => omega
theorem exp_r0 (d : Nat) : IntKind.u64.wrap ((d : Int) * 281474976710656) = ((d % 65536 % 2 ^ 16 * 2 ^ (64 - 16) : Nat) : Int) := by rw [IntKind.wrap_u64]; omega
theorem expS_near {d : Nat} (h : ¬ 40 < d / 65536) : exM (d % 65536) / 1073741824 / 2 ^ (d / 65536) = expS d := by unfold expS; rw [if_neg h]
set_option maxRecDepth 20000 in
set_option maxHeartbeats 1600000 in
theorem Exp_far (d c : Nat) (hd : d < 9223372036854775808) (hc : 40 < c) (ec : (d : Int) / 65536 = (c : Int)) : Ans 11 #[.int .i64 d] (.tuple #[.int .u64 0, .int .i64 0]) := by
  intro w
  go_enter Try.func11, Try.ntmps11
  go_wp2_with fail
  go_ret2
  exact ⟨rfl, Below.refl _ _⟩
set_option maxRecDepth 20000 in
set_option maxHeartbeats 1600000 in
theorem Exp_neg (x : Int) (h : x < 0) : Ans 11 #[.int .i64 x] (.tuple #[.int .u64 0, .int .i64 2]) := by
  intro w
  go_enter Try.func11, Try.ntmps11
  go_wp2_with fail
  go_ret2
  exact ⟨rfl, Below.refl _ _⟩
theorem Exp_any (d : Nat) (hd : d < 9223372036854775808) : Ans 11 #[.int .i64 d] (.tuple #[.int .u64 ((expS d : Nat) : Int), .int .i64 0]) := by
  by_cases h : 40 < d / 65536
  · have e : expS d = 0 := by unfold expS; rw [if_pos h]
    rw [e]
    exact Exp_far d (d / 65536) hd h (by omega)
  · exact Exp_go d (d / 65536) (d % 65536) _ (expS d) (d % 65536 % 2 ^ 16 * 2 ^ (64 - 16)) hd (by omega) (by omega) (exp_r0 d) rfl rfl (expS_near h)
      (fun a b ha hb => times_any a b (by omega) (by omega) (by have := prod_le ha hb; omega))

set_option maxRecDepth 20000 in
set_option maxHeartbeats 1600000 in
theorem eabove_go (d e A : Nat) (hd : d < 9223372036854775808) (he : e ≤ 4294967296) (hA : A ≤ 65536) (C1 : Ans 11 #[.int .i64 d] (.tuple #[.int .u64 e, .int .i64 0])) (C2 : Ans 8 #[.int .u64 (4294967296 + (e : Int))] (.tuple #[.int .i64 (2097152 + (A : Int)), .int .i64 0])) :
    Ans 23 #[.int .i64 d] (.int .i64 A) := by
  intro w
  have M0 := Mem.start w
  go_enter Try.func23, Try.ntmps23
  go_wp2_with fail
  (refine (C1 _).mono ?_; rintro e w2 ⟨rfl, hBl⟩; replace M0 := M0.call hBl; clear hBl C1)
  go_wp2_with fail
  (refine (C2 _).mono ?_; rintro e w2 ⟨rfl, hBl⟩; replace M0 := M0.call hBl; clear hBl C2)
  go_wp2_with fail
  go_ret
  exact ⟨ret_int (by omega), M0.below⟩
theorem eabove_any (d : Nat) (hd : d < 9223372036854775808) : Ans 23 #[.int .i64 d] (.int .i64 ((aboveS d : Nat) : Int)) := by
  have a := expS_le d
  have b := above_le d
  have C := Log_any (4294967296 + expS d) (by omega) (by omega)
  rw [b.1] at C
  exact eabove_go d (expS d) (aboveS d) hd a b.2 (Exp_any d hd) C

set_option maxRecDepth 20000 in
set_option maxHeartbeats 1600000 in
theorem LogSum_go (a b g l : Int) (D : Nat) (hg : max a b = g) (hl : min a b = l) (hgr : -9223372036854775808 ≤ g ∧ g ≤ 9223372036854775807) (hlr : -9223372036854775808 ≤ l ∧ l ≤ 9223372036854775807) (hD : IntKind.u64.wrap (IntKind.u64.wrap g - IntKind.u64.wrap l) = (D : Int)) (hD2 : D < 18446744073709551616) (A : Nat) (hA : A ≤ 65536)
    (C1 : D < 9223372036854775808 → Ans 23 #[.int .i64 D] (.int .i64 A)) :
    Ans 13 #[.int .i64 a, .int .i64 b] (.int .i64 (if 9223372036854775807 < D then g else if 9223372036854775807 < g + (A : Int) then 9223372036854775807 else g + (A : Int))) := by
  intro w
  have M0 := Mem.start w
  by_cases h : 9223372036854775807 < D
  · rw [if_pos h]
    obtain ⟨E, hE⟩ : ∃ E : Int, E = (D : Int) := ⟨_, rfl⟩
    rw [← hE] at hD
    have hE2 : (9223372036854775807 : Int) < E := by omega
    have hE3 : E < 18446744073709551616 := by omega
    clear hE h hD2 C1
    go_enter Try.func13, Try.ntmps13
    go_wp2_with fail
    go_ret
    exact ⟨rfl, M0.below⟩
  · rw [if_neg h]
    have C := C1 (by omega)
    have hE2 : ¬ (9223372036854775807 : Int) < (D : Int) := by omega
    have hE3 : D < 9223372036854775808 := by omega
    clear h hD2 C1
    by_cases h2 : 9223372036854775807 < g + (A : Int)
    · rw [if_pos h2]
      have h3 : 9223372036854775807 - (A : Int) < g := by omega
      have hw : IntKind.u64.wrap g = g := by rw [IntKind.wrap_u64]; omega
      rw [hw] at hD
      clear h2 hw
      go_enter Try.func13, Try.ntmps13
      go_wp2_with fail
      (refine (C _).mono ?_; rintro e w2 ⟨rfl, hBl⟩; replace M0 := M0.call hBl; clear hBl C)
      go_wp2_with fail
      go_ret
      exact ⟨rfl, M0.below⟩
    · rw [if_neg h2]
      have h3 : ¬ 9223372036854775807 - (A : Int) < g := by omega
      go_enter Try.func13, Try.ntmps13
      go_wp2_with fail
      (refine (C _).mono ?_; rintro e w2 ⟨rfl, hBl⟩; replace M0 := M0.call hBl; clear hBl C)
      go_wp2_with fail
      go_ret
      exact ⟨rfl, M0.below⟩
theorem LogSum_any (a b : Int) (ha : -9223372036854775808 ≤ a ∧ a ≤ 9223372036854775807) (hb : -9223372036854775808 ≤ b ∧ b ≤ 9223372036854775807) : Ans 13 #[.int .i64 a, .int .i64 b] (.int .i64 (sumS a b)) := by
  have C := LogSum_go a b (max a b) (min a b) (max a b - min a b).toNat rfl rfl (by omega) (by omega) (by rw [IntKind.wrap_u64, IntKind.wrap_u64, IntKind.wrap_u64]; omega) (by omega) (aboveS (max a b - min a b).toNat) (above_le _).2 (fun h => eabove_any _ h)
  have e : sumS a b = (if 9223372036854775807 < (max a b - min a b).toNat then max a b else if 9223372036854775807 < max a b + (aboveS (max a b - min a b).toNat : Int) then 9223372036854775807 else max a b + (aboveS (max a b - min a b).toNat : Int)) := by
    unfold sumS sumG
    by_cases h : 9223372036854775807 < max a b - min a b
    · rw [if_pos h, if_pos (by omega)]
    · rw [if_neg h, if_neg (show ¬ 9223372036854775807 < (max a b - min a b).toNat by omega)]
  rw [e]
  exact C
end Go.Proofs.Ytaofkoejlpchaaa
