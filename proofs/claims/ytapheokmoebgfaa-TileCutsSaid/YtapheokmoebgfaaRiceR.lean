/-
  The reference's codes and rows.
-/
import Derived.Test.YtapheokmoebgfaaRefBits
import Derived.Test.YtapheokmoebgfaaRiceA
import Derived.Test.YtapheokmoebgfaaBitK
import Derived.Test.YtapheokmoebgfaaSame
set_option linter.unusedVariables false
set_option linter.unusedSimpArgs false
namespace Go.Proofs.Ytapheokmoebgfaa
open Go Go.RowKit Go.Th

theorem bls_snoc (p : List Bool) (b : Bool) : bls (p ++ [b]) = bls p ++ [.bool b] := by simp only [bls, List.map_append, List.map_cons, List.map_nil]
theorem bls_append (p q : List Bool) : bls (p ++ q) = bls p ++ bls q := by simp only [bls, List.map_append]
theorem bls_length (p : List Bool) : (bls p).length = p.length := by simp [bls]

set_option maxHeartbeats 800000 in
theorem pow7_go (k : Nat) (hk : k ≤ 32) : Pure 56 #[.int .i64 k] (.int .u64 (2 ^ k : Nat)) := by
  intro w
  go_enter Try.func56, Try.ntmps56
  go_wp2
  go_loop [3, 4] (fun x c => ∃ i : Nat, i ≤ k ∧ c = .int .i64 i ∧ x = .int .u64 (2 ^ i : Nat)) (fun _ c => k - (intOf c).toNat)
  case atStart => exact ⟨0, Nat.zero_le _, rfl, rfl⟩
  case round =>
    obtain ⟨i, hi, rfl, rfl⟩ := hrel
    by_cases hlt : i < k
    · have hp : 2 ^ i ≤ 2 ^ 31 := Nat.pow_le_pow_right (by decide) (by omega)
      have h31 : (2 : Nat) ^ 31 = 2147483648 := by decide
      have hs : 2 ^ (i + 1) = 2 * 2 ^ i := by rw [Nat.pow_succ, Nat.mul_comm]
      obtain ⟨p, hp'⟩ : ∃ p, p = 2 ^ i := ⟨_, rfl⟩
      rw [← hp'] at hp hs ⊢
      have HS := Lib.hid hs
      have hpb : p ≤ 2147483648 := by omega
      clear hp' hp h31 hs
      go_wp2
      go_round
      case rel => exact ⟨i + 1, by omega, by go_num, by rw [HS.out, Int.natCast_mul]; rfl⟩
      case measure => simp [intOf]; omega
    · obtain rfl : i = k := by omega
      go_wp2
      go_ret
      exact ⟨rfl, rfl⟩

set_option maxHeartbeats 1600000 in
theorem number_any (x k : Nat) (hx : x < 4294967296) (hk : k ≤ 32) (w : World) :
    Calls Try.prog 40 #[.int .u32 x, .int .i64 k] w fun e w' => ∃ v, e = .returned v ∧ w'.ownsRow w.heap.size 4 1 v k (bls (numBits x k)) ∧ Below w.heap.size w w' := by
  go_enter Try.func40, Try.ntmps40
  go_wp2
  go_loopw [5, 6] (fun v c wx => ∃ i : Nat, i ≤ k ∧ c = .int .i64 ((k : Int) - 1 - i) ∧ wx.ownsRow w.heap.size 4 1 v i (bls ((numBits x k).take i)) ∧ Below w.heap.size w wx) (fun _ c _ => (intOf c + 1).toNat)
  case atStart => exact ⟨0, Nat.zero_le _, by simp, World.ownsRow_nil _ _ _ _, Below.refl _ _⟩
  case round =>
    obtain ⟨i, hi, rfl, ho, hB⟩ := hrel
    have hsz := hB.size
    by_cases hlt : i < k
    · obtain ⟨j, hj⟩ : ∃ j, j = k - 1 - i := ⟨_, rfl⟩
      have hj' : (k : Int) - 1 - i = (j : Int) := by omega
      have hts := numBits_take x k i hlt
      rw [← hj] at hts
      have hj3 : j ≤ 31 := by omega
      clear hj
      have C1 := pow7_go j (by omega)
      obtain ⟨b, hb⟩ : ∃ b, b = (x / 2 ^ j % 2 == 1) := ⟨_, rfl⟩
      have hp0 : 0 < 2 ^ j := Nat.pow_pos (by decide)
      have hb' : ((IntKind.u64.wrap ((x : Int) / ((2 ^ j : Nat) : Int))).tmod 2 == 1) = b := by
        have hq : x / 2 ^ j ≤ x := Nat.div_le_self _ _
        rw [hb, ← Int.natCast_ediv]
        generalize x / 2 ^ j = q at hq
        rw [IntKind.wrap_u64, Int.tmod_eq_emod_of_nonneg (by omega), Bool.eq_iff_iff]; simp only [beq_iff_eq]; omega
      rw [← hb] at hts
      obtain ⟨p, hp⟩ : ∃ p, p = 2 ^ j := ⟨_, rfl⟩
      rw [← hp] at C1 hb' hp0
      have HTS := Lib.hid hts
      have HB := Lib.hid hb'
      clear hts hb hb' hp
      rw [hj']
      have HJ := Lib.hid hj'
      clear hj'
      go_wp2_with fail
      refine (C1 _).mono ?_
      rintro e w2 ⟨rfl, rfl⟩
      clear C1
      go_wp2_with (at_builtin; refine wpList_app Ebool rfl (.tmp 13) (.tmp 21) rfl w.heap.size rfl (ho.alloc _) rfl (Sl.one _ _ _) (by intro u hu; simp at hu; subst hu; rfl) (by unfold maxLen; omega) (by omega) (by simp; omega) ?_)
      intro v2 w3 ho3 hg3 _
      have hB3 := hB.trans (app_below ho hsz hg3)
      clear ho hg3 hB
      go_wp2_with fail
      go_roundw
      case rel =>
        have hj2 := HJ.out
        refine ⟨i + 1, by omega, by congr 1; omega, ?_, hB3⟩
        rw [HTS.out, bls_snoc, ← HB.out]
        exact ho3
      case measure => have hj2 := HJ.out; simp [intOf]
    · obtain rfl : i = k := by omega
      have h0 : ¬ 0 ≤ (i : Int) - 1 - i := by omega
      go_wp2_with fail
      go_ret
      exact ⟨_, rfl, by rwa [List.take_of_length_le (by rw [numBits_length]; exact Nat.le_refl _)] at ho, hB⟩

theorem code_many (n k : Nat) (h : ¬ n / 2 ^ k < 20) : code n k = onesBits 20 ++ numBits n 17 := by unfold code; rw [if_neg h]
theorem code_few (n k : Nat) (h : n / 2 ^ k < 20) : code n k = onesBits (n / 2 ^ k) ++ numBits n k := by unfold code; rw [if_pos h]

set_option maxRecDepth 20000 in
set_option maxHeartbeats 1600000 in
theorem refCode_any (n k : Nat) (hn : n < 4294967296) (hk : k ≤ 16) (w : World) :
    Calls Try.prog 41 #[.int .u32 n, .int .i64 k] w fun e w' => ∃ v, e = .returned v ∧ w'.ownsRow w.heap.size 4 1 v (size n k) (bls (code n k)) ∧ Below w.heap.size w w' := by
  have C1 := pow7_go k (by omega)
  have hp0 : 0 < 2 ^ k := Nat.pow_pos (by decide)
  have hql : n / 2 ^ k ≤ n := Nat.div_le_self _ _
  have hq' : IntKind.u64.wrap ((n : Int) / ((2 ^ k : Nat) : Int)) = ((n / 2 ^ k : Nat) : Int) := by
    rw [← Int.natCast_ediv]
    generalize n / 2 ^ k = q at hql
    rw [IntKind.wrap_u64]; omega
  have HF := Lib.hid (code_few n k)
  have HG := Lib.hid (code_many n k)
  have hsz : size n k = if n / 2 ^ k < 20 then n / 2 ^ k + 1 + k else 38 := rfl
  obtain ⟨q, hq⟩ : ∃ q, q = n / 2 ^ k := ⟨_, rfl⟩
  rw [← hq] at hql hq' HF HG hsz
  obtain ⟨p, hp⟩ : ∃ p, p = 2 ^ k := ⟨_, rfl⟩
  rw [← hp] at C1 hp0 hq'
  have HSZ := Lib.hid hsz
  clear hq hp hsz
  go_enter Try.func41, Try.ntmps41
  go_wp2_with fail
  refine (C1 _).mono ?_
  rintro e w1 ⟨rfl, rfl⟩
  clear C1
  go_wp2_with fail
  clear hq' hp0
  go_loopw [6, 7] (fun v c wx => ∃ i : Nat, i ≤ 20 ∧ i ≤ q ∧ c = .int .u64 i ∧ wx.ownsRow w.heap.size 4 1 v i (bls (List.replicate i true)) ∧ Below w.heap.size w wx) (fun _ c _ => 20 - (intOf c).toNat)
  case atStart => exact ⟨0, Nat.zero_le _, Nat.zero_le _, rfl, World.ownsRow_nil _ _ _ _, Below.refl _ _⟩
  case round =>
    obtain ⟨i, hi, hiq, rfl, ho, hB⟩ := hrel
    have hsz := hB.size
    by_cases hlt : i < 20 ∧ i < q
    · obtain ⟨h1, h2⟩ := hlt
      go_wp2_with (at_builtin; refine wpList_app Ebool rfl (.tmp 22) (.tmp 23) rfl w.heap.size rfl (ho.alloc _) rfl (Sl.one _ _ _) (by intro u hu; simp at hu; subst hu; rfl) (by unfold maxLen; omega) (by omega) (by simp; omega) ?_)
      intro v2 w3 ho3 hg3 _
      have hB3 := hB.trans (app_below ho hsz hg3)
      clear ho hg3 hB
      go_wp2_with fail
      go_roundw
      case rel =>
        refine ⟨i + 1, by omega, by omega, by go_num, ?_, hB3⟩
        rw [List.replicate_succ', bls_snoc]
        exact ho3
      case measure => simp [intOf]; omega
    · have hone : onesBits i = List.replicate i true ++ [false] := rfl
      have HO := Lib.hid hone
      clear hone
      have ending : ∀ (w3 : World) (v2 : Value), w3.ownsRow w.heap.size 4 1 v2 (i + 1) (bls (List.replicate i true) ++ [.bool false]) → w3.ownsRow w.heap.size 4 1 v2 (i + 1) (bls (onesBits i)) := by
        intro w3 v2 h; rw [HO.out, bls_snoc]; exact h
      have END := Lib.hid ending
      clear ending
      by_cases hq20 : q < 20
      · obtain rfl : i = q := by omega
        go_wp2_with (at_builtin; refine wpList_app Ebool rfl (.tmp 25) (.tmp 26) rfl w.heap.size rfl (ho.alloc _) rfl (Sl.one _ _ _) (by intro u hu; simp at hu; subst hu; rfl) (by unfold maxLen; omega) (by omega) (by simp; omega) ?_)
        intro v2 w3 ho3 hg3 _
        have hB3 := hB.trans (app_below ho hsz hg3)
        replace ho3 := END.out w3 v2 ho3
        clear ho hg3 hB END
        have hsz3 := hB3.size
        go_wp2_with fail
        refine (number_any n k hn (by omega) w3).mono ?_
        rintro e w4 ⟨v4, rfl, ho4, hB4⟩
        have ho5 := ownsRow_below ho3 hB4
        have hB5 := hB3.trans (hB4.mono hB3.size)
        have hsz5 := hB5.size
        clear ho3 hB3 hB4
        go_wp2_with (at_builtin; refine wpList_app Ebool rfl (.tmp 30) (.tmp 33) rfl w.heap.size rfl ho5 rfl (Sl.of_own ho4) (oneCell_bls _) (by unfold maxLen; omega) (by omega) (by omega) ?_)
        intro v6 w6 ho6 hg6 _
        have hB6 := hB5.grown hg6 (by omega) (fun j hj => (ho5.lt j hj).1)
        clear ho5 hg6 hB5 ho4
        go_wp2_with fail
        go_ret
        refine ⟨_, rfl, ?_, hB6⟩
        rw [HF.out hq20, bls_append, HSZ.out, if_pos hq20]
        exact ho6
      · obtain rfl : i = 20 := by omega
        go_wp2_with (at_builtin; refine wpList_app Ebool rfl (.tmp 25) (.tmp 26) rfl w.heap.size rfl (ho.alloc _) rfl (Sl.one _ _ _) (by intro u hu; simp at hu; subst hu; rfl) (by unfold maxLen; omega) (by omega) (by simp; omega) ?_)
        intro v2 w3 ho3 hg3 _
        have hB3 := hB.trans (app_below ho hsz hg3)
        replace ho3 := END.out w3 v2 ho3
        clear ho hg3 hB END
        have hsz3 := hB3.size
        go_wp2_with fail
        refine (number_any n 17 hn (by omega) w3).mono ?_
        rintro e w4 ⟨v4, rfl, ho4, hB4⟩
        have ho5 := ownsRow_below ho3 hB4
        have hB5 := hB3.trans (hB4.mono hB3.size)
        have hsz5 := hB5.size
        clear ho3 hB3 hB4
        go_wp2_with (at_builtin; refine wpList_app Ebool rfl (.tmp 35) (.tmp 37) rfl w.heap.size rfl ho5 rfl (Sl.of_own ho4) (oneCell_bls _) (by unfold maxLen; omega) (by omega) (by omega) ?_)
        intro v6 w6 ho6 hg6 _
        have hB6 := hB5.grown hg6 (by omega) (fun j hj => (ho5.lt j hj).1)
        clear ho5 hg6 hB5 ho4
        go_wp2_with fail
        go_ret
        refine ⟨_, rfl, ?_, hB6⟩
        rw [HG.out hq20, bls_append, HSZ.out, if_neg hq20]
        exact ho6
end Go.Proofs.Ytapheokmoebgfaa
