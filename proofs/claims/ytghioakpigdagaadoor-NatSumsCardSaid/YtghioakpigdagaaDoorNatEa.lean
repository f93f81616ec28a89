/-
  Digits of ten, nine at a time, and what stands in front of them cut away: plain; the library's functions: a row of bytes turned round, a text without its leading zeros.
-/
import Derived.Test.YtghioakpigdagaaDoorNatDb
import Derived.Lib.Strings
import Derived.Lib.TrimByte
import Derived.Test.YtghioakpigdagaaDoorPackBits
set_option linter.unusedVariables false
set_option linter.unusedSimpArgs false
namespace Go.Th.Dig
/-- So many of a number's lowest digits of ten. -/
def low (n k : Nat) : List Nat := (List.range k).map fun i => n / 10 ^ i % 10
theorem low_succ (n k : Nat) : low n (k + 1) = low n k ++ [n / 10 ^ k % 10] := by simp [low, List.range_succ]
theorem low_length (n k : Nat) : (low n k).length = k := by simp [low]
theorem low_lt (n k : Nat) : ∀ d ∈ low n k, d < 10 := by
  intro d hd
  obtain ⟨i, _, rfl⟩ := List.mem_map.1 hd
  exact Nat.mod_lt _ (by decide)
theorem low_val (n : Nat) : ∀ k, val 10 (low n k) = n % 10 ^ k
  | 0 => by simp [low, val, Nat.mod_one]
  | k + 1 => by rw [low_succ, val_snoc, low_length, low_val n k, Nat.mod_pow_succ]
/-- The digits of ten that are told, and what is left of the number. -/
structure Tex (p : Nat) (T : List Nat) (left : Nat) : Prop where
  dig : ∀ d ∈ T, d < 10
  sum : val 10 T + 10 ^ T.length * left = p
theorem Tex.start (p : Nat) : Tex p [] p := ⟨by simp, by simp [val]⟩
theorem Tex.step {p left : Nat} {T : List Nat} (h : Tex p T left) : Tex p (T ++ low (left % 1000000000) 9) (left / 1000000000) := by
  obtain ⟨h1, h2⟩ := h
  refine ⟨fun d hd => ?_, ?_⟩
  · rcases List.mem_append.1 hd with hd | hd
    · exact h1 d hd
    · exact low_lt _ _ d hd
  · rw [val_app, low_val, List.length_append, low_length, Nat.pow_add, ← h2, Nat.mod_eq_of_lt (show left % 1000000000 < 10 ^ 9 from Nat.mod_lt _ (by decide)), Nat.add_assoc, Nat.mul_assoc, ← Nat.mul_add]
    congr 2
    exact Nat.mod_add_div left 1000000000
theorem Tex.len {p left n : Nat} {T : List Nat} (h : Tex p T left) (hl : 0 < left) (hp : p < 4294967296 ^ n) : T.length < 10 * n := by
  have h1 : 10 ^ T.length * 1 ≤ 10 ^ T.length * left := Nat.mul_le_mul_left _ hl
  have h2 := h.sum
  have h3 : 4294967296 ^ n ≤ (10 ^ 10) ^ n := Nat.pow_le_pow_left (by decide) n
  rw [← Nat.pow_mul] at h3
  exact (Nat.pow_lt_pow_iff_right (by decide : 1 < 10)).1 (show 10 ^ T.length < 10 ^ (10 * n) by omega)
/-- A row of digits is its number's, and zeros. -/
theorem dg_zeros {B : Nat} (hB : 2 ≤ B) : ∀ (n : Nat) (l : List Nat), l.length = n → (∀ d ∈ l, d < B) → ∃ z, l = dg B (val B l) ++ List.replicate z 0 := by
  intro n
  induction n with
  | zero =>
    intro l hl _
    rw [List.eq_nil_of_length_eq_zero hl]
    exact ⟨0, rfl⟩
  | succ n ih =>
    intro l hl hd
    have hne : l ≠ [] := fun h => by rw [h] at hl; cases hl
    have e := List.dropLast_concat_getLast hne
    by_cases h0 : l.getLast hne = 0
    · rw [h0] at e
      obtain ⟨z, hz⟩ := ih l.dropLast (by rw [List.length_dropLast]; omega) (fun d hd' => hd d (List.dropLast_subset _ hd'))
      refine ⟨z + 1, ?_⟩
      have hv : val B l = val B l.dropLast := by rw [← e, val_snoc, Nat.mul_zero, Nat.add_zero, List.dropLast_concat]
      rw [hv, List.replicate_succ', ← List.append_assoc, ← hz, e]
    · refine ⟨0, ?_⟩
      rw [List.replicate_zero, List.append_nil]
      exact dg_of hB hd (fun d hd' => by rw [List.getLast?_eq_some_getLast hne] at hd'; rw [← Option.some.inj hd']; exact h0) rfl
theorem dropWhile_rep (p : Nat → Bool) (a : Nat) (ha : p a = true) (l : List Nat) : ∀ n, (List.replicate n a ++ l).dropWhile p = l.dropWhile p
  | 0 => rfl
  | n + 1 => by rw [List.replicate_succ, List.cons_append, List.dropWhile_cons_of_pos ha]; exact dropWhile_rep p a ha l n
/-- All told: behind the zeros in front, the number's text. -/
theorem Tex.done {p : Nat} {T : List Nat} (h : Tex p T 0) (hp : p ≠ 0) : ((T.map (48 + ·)).reverse).dropWhile (· == 48) = txt p := by
  obtain ⟨h1, h2⟩ := h
  rw [Nat.mul_zero, Nat.add_zero] at h2
  obtain ⟨z, hz⟩ := dg_zeros (B := 10) (by decide) T.length T rfl h1
  rw [h2] at hz
  have e : txt p = ((dg 10 p).map (48 + ·)).reverse := by unfold txt dz; rw [if_neg hp]
  rw [e, hz, List.map_append, List.reverse_append, List.map_replicate, List.reverse_replicate, dropWhile_rep _ _ rfl]
  have hl : ∀ d, ((dg 10 p).map (48 + ·)).reverse.head? = some d → d ≠ 48 := by
    intro d hd
    rw [List.head?_reverse, List.getLast?_map] at hd
    cases hq : (dg 10 p).getLast? with
    | none => rw [hq] at hd; cases hd
    | some x =>
      rw [hq] at hd
      have := dg_last (B := 10) (by decide) p x hq
      simp at hd
      omega
  cases hr : ((dg 10 p).map (48 + ·)).reverse with
  | nil => rfl
  | cons x r =>
    rw [hr] at hl
    rw [List.dropWhile_cons_of_neg (by have := hl x rfl; simpa using this)]
/-- A row, so many of both its ends changed for one another. -/
structure Rvs (L : List Nat) (k : Nat) (O : List Nat) : Prop where
  len : O.length = L.length
  at_ : ∀ x, x < L.length → O.getD x 0 = if x < k ∨ L.length ≤ x + k then L.getD (L.length - 1 - x) 0 else L.getD x 0
theorem Rvs.start (L : List Nat) : Rvs L 0 L := ⟨rfl, fun x hx => by rw [if_neg (by omega)]⟩
theorem Rvs.step {L O : List Nat} {k : Nat} (h : Rvs L k O) (hk : k + k + 1 < L.length) : Rvs L (k + 1) ((O.set k (O.getD (L.length - 1 - k) 0)).set (L.length - 1 - k) (O.getD k 0)) := by
  obtain ⟨h1, h2⟩ := h
  refine ⟨by simpa using h1, fun x hx => ?_⟩
  rw [getD_set _ _ _ _ (by rw [List.length_set]; omega), getD_set _ _ _ _ (by omega)]
  have e1 := h2 k (by omega)
  have e2 := h2 (L.length - 1 - k) (by omega)
  rw [if_neg (by omega)] at e1 e2
  by_cases c1 : x = L.length - 1 - k
  · subst c1
    rw [if_pos rfl, if_pos (by omega), e1]
    congr 1; omega
  · rw [if_neg c1]
    by_cases c2 : x = k
    · subst c2
      rw [if_pos rfl, if_pos (by omega), e2]
    · rw [if_neg c2, h2 x hx]
      by_cases c3 : x < k ∨ L.length ≤ x + k
      · rw [if_pos c3, if_pos (by omega)]
      · rw [if_neg c3, if_neg (by omega)]
theorem Rvs.done {L O : List Nat} {k : Nat} (h : Rvs L k O) (hk : L.length ≤ k + k + 1) : O = L.reverse := by
  obtain ⟨h1, h2⟩ := h
  refine List.ext_getElem (by rw [List.length_reverse, h1]) fun x hx1 hx2 => ?_
  have := h2 x (by omega)
  rw [List.getD_eq_getElem?_getD, List.getElem?_eq_getElem hx1, Option.getD_some] at this
  rw [this, List.getElem_reverse]
  split
  · rw [List.getD_eq_getElem?_getD, List.getElem?_eq_getElem (by omega)]; rfl
  · rw [List.getD_eq_getElem?_getD, List.getElem?_eq_getElem (by omega), Option.getD_some]
    congr 1; omega
end Go.Th.Dig
namespace Go.Proofs.YtghioakpigdagaaDoor
open Go Go.RowKit Go.Th Go.Th.Dig

theorem u8s_getD (l : List Nat) (i : Nat) (h : i < l.length) : (u8s l)[i]? = some (.int .u8 ((l.getD i 0 : Nat) : Int)) := by simp [u8s, List.getElem?_eq_getElem h]
theorem u8s_set16 (l : List Nat) (i v : Nat) : (u8s l).set i (.int .u8 (v : Int)) = u8s (l.set i v) := by simp [u8s, List.map_set]

set_option maxRecDepth 20000 in
set_option maxHeartbeats 3200000 in
theorem reverse_any (base g n cap : Nat) (L : List Nat) (w : World) (h : w.ownsRow base 5 1 (.slice (some ⟨g, 0, none⟩) n cap) n (u8s L)) (hL : L.length = n) (hn : n ≤ 100000) (hb : base ≤ w.heap.size) :
    Calls Tryd.prog 49 #[.slice (some ⟨g, 0, none⟩) n cap] w fun e w' => e = .returned (.tuple #[]) ∧ w'.ownsRow base 5 1 (.slice (some ⟨g, 0, none⟩) n cap) n (u8s L.reverse) ∧ Below base w w' := by
  obtain ⟨cs, K, k1, k2, k3, k4, hlo, k6⟩ := own_blk h
  have HL := Lib.hid hL
  have HR0 := Lib.hid (Rvs.start L)
  have hB0 := Below.refl base w
  clear K k1 k2 k6
  go_enter Tryd.func49, Tryd.ntmps49
  go_wp2_with fail
  go_loopw [2, 3] (fun i j wr => ∃ (k : Nat) (O : List Nat), k ≤ n ∧ i = .int .i64 k ∧ j = .int .i64 ((n : Int) - 1 - k) ∧ Hid (Rvs L k O) ∧ wr.ownsRow base 5 1 (.slice (some ⟨g, 0, none⟩) n cap) n (u8s O) ∧ Below base w wr) (fun i _ _ => n - (intOf i).toNat)
  case atStart => exact ⟨0, L, Nat.zero_le _, rfl, by first | rfl | go_num, HR0, h, hB0⟩
  case round =>
    clear h HR0 hB0
    obtain ⟨k, O, hk, rfl, rfl, HI, ho, hB⟩ := hrel
    by_cases hlt : k + k + 1 < n
    · have hst := HI.out.step (by rw [HL.out]; exact hlt)
      have hOl : O.length = n := by rw [HI.out.len, HL.out]
      rw [HL.out] at hst
      obtain ⟨j, ej⟩ : ∃ j, j = n - 1 - k := ⟨_, rfl⟩
      rw [← ej] at hst
      rw [show ((n : Int) - 1 - k) = (j : Int) by omega]
      have hkj : k < j := by omega
      have hjn : j < n := by omega
      have hkn : k < n := by omega
      have hc1 := ownsRow_cell ho (u8s_getD O k (by omega))
      have hc2 := ownsRow_cell ho (u8s_getD O j (by omega))
      have hf1 := ownsRow_free ho k
      obtain ⟨x, ex⟩ : ∃ x, x = O.getD k 0 := ⟨_, rfl⟩
      obtain ⟨y, ey⟩ : ∃ y, y = O.getD j 0 := ⟨_, rfl⟩
      rw [← ex, ← ey] at hst
      rw [← ex] at hc1
      rw [← ey] at hc2
      have ho2 := ownsRow_set ho k (by omega) (.int .u8 (y : Int))
      rw [u8s_set16] at ho2
      have hc3 := ownsRow_cell ho2 (u8s_getD (O.set k y) j (by rw [List.length_set]; omega))
      have hf3 := ownsRow_free ho2 j
      have ho3 := ownsRow_set ho2 j (by omega) (.int .u8 (x : Int))
      rw [u8s_set16] at ho3
      have HB3 := Lib.hid ((hB.setCell (p := ⟨g, k, none⟩) hlo (.int .u8 (y : Int))).setCell (p := ⟨g, j, none⟩) hlo (.int .u8 (x : Int)))
      have HST := Lib.hid hst
      have HO3 := Lib.hid ho3
      have HEJ := Lib.hid ej
      clear hst ex ey ej HI ho2 ho3 hB
      go_wp2_with fail
      refine wp_region_N_drew (S := (fun w' : World => w'.cell? ⟨g, k, none⟩ = some (.int .u8 x) ∧ w'.cell? ⟨g, j, none⟩ = some (.int .u8 y))) 13 (by kernel_rfl) ?_
      have hHeld : (fun w' : World => w'.cell? ⟨g, k, none⟩ = some (.int .u8 x) ∧ w'.cell? ⟨g, j, none⟩ = some (.int .u8 y)) wr.drew := ⟨hc1, hc2⟩
      refine wpAnyN_takeY (i := 0) (v := ?v63) rfl (by kernel_rfl) (by kernel_rfl) (by kernel_rfl) (fun _ _ _ h => h) rfl (Or.inl ⟨by rfl, ?hy63⟩) (fun _ => hHeld) ?rest63
      case hy63 => (intro w' _; go_simp; (try with_reducible rfl))
      try simp only [Act.put, puts]
      refine wpAnyN_takeY (i := 1) (v := ?v64) rfl (by kernel_rfl) (by kernel_rfl) (by kernel_rfl) (fun _ _ _ h => h) rfl (Or.inl ⟨by rfl, ?hy64⟩) (fun _ => hHeld) ?rest64
      case hy64 => (intro w' _; go_simp; (try with_reducible rfl))
      try simp only [Act.put, puts]
      refine wpAnyN_takeY (i := 2) (v := ?v65) rfl (by kernel_rfl) (by kernel_rfl) (by kernel_rfl) (fun _ _ _ h => h) rfl (Or.inl ⟨by rfl, ?hy65⟩) (fun _ => hHeld) ?rest65
      case hy65 => (intro w' _; go_simp; (try with_reducible rfl))
      try simp only [Act.put, puts]
      refine wpAnyN_takeY (i := 3) (v := ?v66) rfl (by kernel_rfl) (by kernel_rfl) (by kernel_rfl) (fun _ _ _ h => h) rfl (Or.inl ⟨by rfl, ?hy66⟩) (fun _ => hHeld) ?rest66
      case hy66 => (intro w' _; go_simp; (try with_reducible rfl))
      try simp only [Act.put, puts]
      refine wpAnyN_takeY (i := 4) (v := ?v67) rfl (by kernel_rfl) (by kernel_rfl) (by kernel_rfl) (fun _ _ _ h => h) rfl (Or.inl ⟨by rfl, ?hy67⟩) (fun _ => hHeld) ?rest67
      case hy67 => (intro w' _; go_simp; (try with_reducible rfl))
      try simp only [Act.put, puts]
      refine wpAnyN_takeY (i := 5) (v := ?v68) rfl (by kernel_rfl) (by kernel_rfl) (by kernel_rfl) (fun _ _ _ h => h) rfl (Or.inl ⟨by rfl, ?hy68⟩) (fun _ => hHeld) ?rest68
      case hy68 => (intro w' _; go_simp; (try with_reducible rfl))
      try simp only [Act.put, puts]
      refine wpAnyN_takeY (i := 6) (v := ?v69) rfl (by kernel_rfl) (by kernel_rfl) (by kernel_rfl) (fun _ _ _ h => h) rfl (Or.inl ⟨by rfl, ?hy69⟩) (fun _ => hHeld) ?rest69
      case hy69 => (intro w' _; go_simp; (try with_reducible rfl))
      try simp only [Act.put, puts]
      refine wpAnyN_take (i := 7) (v := ?v70) rfl (by kernel_rfl) (by kernel_rfl) (by kernel_rfl) (fun _ _ _ h => h) rfl (by kernel_rfl) (by kernel_rfl) (Or.inl ⟨by rfl, ?hy70⟩) hHeld ?rest70
      case hy70 => (intro w' hSw; (try dsimp only at hSw); go_simp; (try with_reducible rfl))
      try simp only [Act.put, puts]
      refine wpAnyN_takeY (i := 8) (v := ?v71) rfl (by kernel_rfl) (by kernel_rfl) (by kernel_rfl) (fun _ _ _ h => h) rfl (Or.inl ⟨by rfl, ?hy71⟩) (fun _ => hHeld) ?rest71
      case hy71 => (intro w' _; go_simp; (try with_reducible rfl))
      try simp only [Act.put, puts]
      refine wpAnyN_takeY (i := 9) (v := ?v72) rfl (by kernel_rfl) (by kernel_rfl) (by kernel_rfl) (fun _ _ _ h => h) rfl (Or.inl ⟨by rfl, ?hy72⟩) (fun _ => hHeld) ?rest72
      case hy72 => (intro w' _; go_simp; (try with_reducible rfl))
      try simp only [Act.put, puts]
      refine wpAnyN_takeY (i := 10) (v := ?v73) rfl (by kernel_rfl) (by kernel_rfl) (by kernel_rfl) (fun _ _ _ h => h) rfl (Or.inl ⟨by rfl, ?hy73⟩) (fun _ => hHeld) ?rest73
      case hy73 => (intro w' _; go_simp; (try with_reducible rfl))
      try simp only [Act.put, puts]
      refine wpAnyN_take (i := 11) (v := ?v74) rfl (by kernel_rfl) (by kernel_rfl) (by kernel_rfl) (fun _ _ _ h => h) rfl (by kernel_rfl) (by kernel_rfl) (Or.inl ⟨by rfl, ?hy74⟩) hHeld ?rest74
      case hy74 => (intro w' hSw; (try dsimp only at hSw); go_simp; (try with_reducible rfl))
      try simp only [Act.put, puts]
      refine wpAnyN_takeY (i := 12) (v := ?v75) rfl (by kernel_rfl) (by kernel_rfl) (by kernel_rfl) (fun _ _ _ h => h) rfl (Or.inl ⟨by rfl, ?hy75⟩) (fun _ => hHeld) ?rest75
      case hy75 => (intro w' _; go_simp; (try with_reducible rfl))
      try simp only [Act.put, puts]
      refine wpAnyN_ready (rs := [13]) (by kernel_rfl) (by simp) ?_
      refine AllReadyN.cons rfl (fun K hK => ?_) AllReadyN.nil
      go_simp
      try go_wp2_with fail
      refine hK.out _ _ (fun h => by have h' : (true : Bool) = false := h; cases h') ?_
      clear hK K
      try simp only [Act.put, puts]
      refine wpAnyN_takeY (i := 14) (v := ?v77) rfl (by kernel_rfl) (by kernel_rfl) (by kernel_rfl) (fun _ _ _ h => h) rfl (Or.inl ⟨by rfl, ?hy77⟩) (fun h => by have h' : (true : Bool) = false := h; cases h') ?rest77
      case hy77 => (intro w' _; go_simp; (try with_reducible rfl))
      try simp only [Act.put, puts]
      refine wpAnyN_ready (rs := [15]) (by kernel_rfl) (by simp) ?_
      refine AllReadyN.cons rfl (fun K hK => ?_) AllReadyN.nil
      go_simp
      try go_wp2_with fail
      refine hK.out _ _ (fun h => by have h' : (true : Bool) = false := h; cases h') ?_
      clear hK K
      try simp only [Act.put, puts]
      refine wpAnyN_done (by kernel_rfl) ?_ _
      go_wp2_with fail
      go_roundw
      case rel => exact ⟨k + 1, _, by omega, by go_num, by rw [HEJ.out]; go_num, HST, HO3.out, HB3.out.drew⟩
      case measure => simp [intOf]; omega
    · have HD : Hid (O = L.reverse) := Lib.hid (HI.out.done (by rw [HL.out]; omega))
      clear HI
      go_wp2_with fail
      go_end0
      exact ⟨rfl, by rw [← HD.out]; exact ho, hB⟩

set_option maxRecDepth 20000 in
theorem trimByte_any (l : List UInt8) (c : UInt8) (w : World) :
    Calls Tryd.prog 55 #[.string ⟨l.toArray⟩, .int .u8 c.toNat] w fun e w' => e = .returned (.string ⟨(l.dropWhile (· == c)).toArray⟩) ∧ w = w' := by
  go_enter Tryd.func55, Tryd.ntmps55
  go_wp2_with fail
  go_loop [0] (fun v => ∃ m : List UInt8, v = .string ⟨m.toArray⟩ ∧ Hid (m.dropWhile (· == c) = l.dropWhile (· == c))) (fun v => Lib.strSize v)
  case atStart => exact ⟨l, rfl, Lib.hid rfl⟩
  case round =>
    obtain ⟨m, rfl, HM⟩ := hrel
    cases m with
    | nil =>
      go_wp2_with fail
      go_ret
      exact ⟨by rw [← HM.out]; rfl, rfl⟩
    | cons x m =>
      obtain ⟨t, ht⟩ : ∃ t : ByteArray, t = ⟨(x :: m).toArray⟩ := ⟨_, rfl⟩
      have hts : t.size = m.length + 1 := by rw [ht]; simp [ByteArray.size]
      have hb0 : ∀ h, t[0]'h = x := by intro h; subst ht; rfl
      have hx1 : t.extract 1 (m.length + 1) = ⟨m.toArray⟩ := by
        rw [ht, Lib.extract_mk, List.drop_succ_cons, List.drop_zero, List.take_of_length_le (by simp)]
      by_cases hx : x = c
      · subst hx
        have HM2 : Hid (m.dropWhile (· == x) = l.dropWhile (· == x)) := Lib.hid (by rw [← HM.out, List.dropWhile_cons_of_pos (by simp)])
        rw [← ht]
        clear ht HM
        go_wp2_with fail
        refine ⟨⟨m, rfl, HM2⟩, ?_⟩
        show m.toArray.size < t.size
        rw [hts, List.size_toArray]
        exact Nat.lt_succ_self _
      · have hne : ¬ ((x.toNat : Int) = (c.toNat : Int)) := fun e => hx (UInt8.toNat_inj.1 (by omega))
        have HM2 : Hid ((⟨(l.dropWhile (· == c)).toArray⟩ : ByteArray) = t) := Lib.hid (by rw [← HM.out, List.dropWhile_cons_of_neg (by simpa using hx), ht])
        rw [← ht]
        clear ht HM
        go_wp2_with fail
        go_ret
        exact ⟨by rw [HM2.out]; rfl, rfl⟩

set_option maxRecDepth 20000 in
theorem trimLeft_any (l : List UInt8) (w : World) :
    Calls Tryd.prog 50 #[.string ⟨l.toArray⟩, .string ⟨#[48]⟩] w fun e w' => e = .returned (.string ⟨(l.dropWhile (· == 48)).toArray⟩) ∧ w = w' := by
  have C := trimByte_any l 48
  have C : ∀ wx, Calls Tryd.prog 55 #[.string ⟨l.toArray⟩, .int .u8 48] wx fun e w' => e = .returned (.string ⟨(l.dropWhile (· == 48)).toArray⟩) ∧ wx = w' := C
  have hb0 : ∀ h, (⟨#[48]⟩ : ByteArray)[0]'h = 48 := fun _ => rfl
  cases l with
  | nil =>
    clear C
    go_enter Tryd.func50, Tryd.ntmps50
    go_wp2_with fail
    go_ret
    exact ⟨rfl, rfl⟩
  | cons x m =>
    obtain ⟨t, ht⟩ : ∃ t : ByteArray, t = ⟨(x :: m).toArray⟩ := ⟨_, rfl⟩
    have he : t.toList = x :: m := by rw [Lib.toList_data, ht]
    rw [← ht] at C ⊢
    have HC := Lib.hid C
    clear C ht
    go_enter Tryd.func50, Tryd.ntmps50
    go_wp2_with fail
    refine (HC.out _).mono ?_
    rintro e w1 ⟨rfl, rfl⟩
    go_wp2_with fail
    go_ret
    exact ⟨rfl, rfl⟩
end Go.Proofs.YtghioakpigdagaaDoor
