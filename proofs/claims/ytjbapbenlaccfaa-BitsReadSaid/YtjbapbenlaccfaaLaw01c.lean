/-
  BitsRead's walk.
-/
import Derived.Test.YtjbapbenlaccfaaLaw01b
namespace Go.Proofs.Ytjbapbenlaccfaa
open Go.RowKit Go.Th

theorem rowOf_at (bs : List Nat) (j : Nat) : (rowOf bs)[j]? = if j < 8 * bs.length then some (bitAt bs j) else none := by
  induction bs generalizing j with
  | nil => simp [rowOf]
  | cons b r ih =>
    have hb : ((List.range 8).map fun k => b / 2 ^ (7 - k) % 2 == 1).length = 8 := by simp
    simp only [rowOf, List.flatMap_cons] at ih ⊢
    by_cases hj : j < 8
    · rw [List.getElem?_append_left (by omega), List.getElem?_map, List.getElem?_range hj, if_pos (by simp; omega)]
      simp only [Option.map_some, bitAt]
      rw [show j / 8 = 0 by omega, show j % 8 = j by omega]
      rfl
    · rw [List.getElem?_append_right (by omega), hb, ih (j - 8)]
      by_cases h2 : j < 8 * (b :: r).length
      · rw [if_pos (by simp at h2; omega), if_pos h2, bitAt, bitAt, show j / 8 = (j - 8) / 8 + 1 by omega, show j % 8 = (j - 8) % 8 by omega]
        rfl
      · rw [if_neg (by simp at h2; omega), if_neg h2]

theorem rowOf_drop_at (bs : List Nat) (at_ j : Nat) (h : at_ + j < 8 * bs.length) : ((rowOf bs).drop at_)[j]? = some (bitAt bs (at_ + j)) := by
  rw [List.getElem?_drop, rowOf_at, if_pos h]

theorem rowOf_drop_length (bs : List Nat) (at_ : Nat) : ((rowOf bs).drop at_).length = 8 * bs.length - at_ := by rw [List.length_drop, rowOf_length]

theorem valAt_row (bs : List Nat) (at_ k : Nat) (h : at_ + k ≤ 8 * bs.length) : valL (((rowOf bs).drop at_).take k) = valAt bs at_ k := by
  rw [valAt_valL]
  congr 1
  apply List.ext_getElem?
  intro j
  by_cases hj : j < k
  · rw [List.getElem?_take, if_pos hj, rowOf_drop_at bs at_ j (by omega), List.getElem?_map, List.getElem?_range hj]
    rfl
  · rw [List.getElem?_eq_none (by simp; omega), List.getElem?_eq_none (by simp; omega)]

theorem onesL_some_inv (l : List Bool) (n : Nat) (h : onesL l = some n) : n < l.length ∧ (∀ j, j < n → l[j]? = some true) ∧ l[n]? = some false := by
  induction l generalizing n with
  | nil => simp [onesL] at h
  | cons b r ih =>
    cases b with
    | false =>
      simp [onesL] at h
      subst h
      exact ⟨by simp, fun j hj => absurd hj (Nat.not_lt_zero _), rfl⟩
    | true =>
      simp [onesL] at h
      obtain ⟨m, hm, rfl⟩ := h
      obtain ⟨h1, h2, h3⟩ := ih m hm
      refine ⟨by simp; omega, fun j hj => ?_, by simpa using h3⟩
      cases j with
      | zero => rfl
      | succ j => simpa using h2 j (by omega)

theorem onesL_none_inv (l : List Bool) (h : onesL l = none) : ∀ j, j < l.length → l[j]? = some true := by
  induction l with
  | nil => intro j hj; simp at hj
  | cons b r ih =>
    cases b with
    | false => simp [onesL] at h
    | true =>
      simp [onesL] at h
      intro j hj
      cases j with
      | zero => rfl
      | succ j => simpa using ih h j (by simpa using hj)

/-- So many ones are next. -/
theorem ones_yes (bs : List Nat) (at_ n : Nat) (h : onesL ((rowOf bs).drop at_) = some n) : at_ + n < 8 * bs.length ∧ (∀ j, j < n → bitAt bs (at_ + j) = true) ∧ bitAt bs (at_ + n) = false := by
  obtain ⟨h1, h2, h3⟩ := onesL_some_inv _ _ h
  rw [rowOf_drop_length] at h1
  have hl : at_ + n < 8 * bs.length := by omega
  refine ⟨hl, fun j hj => ?_, ?_⟩
  · have := h2 j hj
    rw [rowOf_drop_at bs at_ j (by omega)] at this
    simpa using this
  · rw [rowOf_drop_at bs at_ n hl] at h3
    simpa using h3

/-- Nought is nowhere, or too far away. -/
theorem ones_no (bs : List Nat) (at_ : Nat) (m : Int) (h : ∀ n : Nat, onesL ((rowOf bs).drop at_) = some n → m < (n : Int)) :
    ∀ n, at_ + n < 8 * bs.length → (∀ j, j < n → bitAt bs (at_ + j) = true) → bitAt bs (at_ + n) = false → m < (n : Int) := by
  intro n h1 h2 h3
  have hl : n < ((rowOf bs).drop at_).length := by rw [rowOf_drop_length]; omega
  refine h n (onesL_some _ n hl (fun j hj hjn => ?_) ?_)
  · have := rowOf_drop_at bs at_ j (by omega)
    rw [List.getElem?_eq_getElem hj] at this
    rw [h2 j hjn] at this
    simpa using this
  · have := rowOf_drop_at bs at_ n (by omega)
    rw [List.getElem?_eq_getElem hl, h3] at this
    simpa using this

theorem valL_zero (l : List Bool) (h : l.length ≤ 63) : (valL l = 0) ↔ l.all (fun b => !b) = true := by
  have key : ∀ (n : Nat) (l : List Bool), l.length = n → l.length ≤ 63 → valL l < 2 ^ l.length ∧ ((valL l = 0) ↔ l.all (fun b => !b) = true) := by
    intro n
    induction n with
    | zero =>
      intro l hn _
      have : l = [] := List.eq_nil_of_length_eq_zero hn
      subst this
      simp [valL]
    | succ n ih =>
      intro l' hn hl
      rcases List.eq_nil_or_concat l' with rfl | ⟨l, b, rfl⟩
      · simp at hn
      rw [List.concat_eq_append] at hn hl ⊢
      simp only [List.length_append, List.length_cons, List.length_nil] at hl hn
      obtain ⟨i1, i2⟩ := ih l (by omega) (by omega)
      have hp : 2 ^ (l.length + 1) ≤ 2 ^ 63 := Nat.pow_le_pow_right (by decide) (by omega)
      rw [Nat.pow_succ] at hp
      have hb : b.toNat ≤ 1 := by cases b <;> decide
      have hm : (2 * valL l + b.toNat) % 18446744073709551616 = 2 * valL l + b.toNat := Nat.mod_eq_of_lt (by omega)
      rw [valL_snoc, hm]
      constructor
      · simp only [List.length_append, List.length_cons, List.length_nil, Nat.pow_succ]
        omega
      · rw [List.all_append]
        cases b
        · simp only [Bool.toNat_false, List.all_cons, List.all_nil, Bool.not_false, Bool.and_true]
          rw [← i2]; omega
        · simp
  exact (key _ l rfl h).2

theorem closes_row (bs : List Nat) (at_ : Nat) (h : at_ ≤ 8 * bs.length) : closes bs at_ false = (decide (((rowOf bs).drop at_).length < 8) && ((rowOf bs).drop at_).all (fun b => !b)) := by
  have hl := rowOf_drop_length bs at_
  unfold closes
  rw [hl]
  by_cases h8 : 8 * bs.length - at_ < 8
  · have hv : valAt bs at_ (8 * bs.length - at_) = valL ((rowOf bs).drop at_) := by
      rw [← valAt_row bs at_ _ (by omega), List.take_of_length_le (by omega)]
    have hz := valL_zero ((rowOf bs).drop at_) (by omega)
    rw [hv]
    simp only [Bool.not_false, Bool.true_and]
    rw [Bool.eq_iff_iff]
    simp only [Bool.and_eq_true, beq_iff_eq, hz]
  · simp [h8]

/-- The rest of the row, apart from block rb. -/
def RowAt (w : World) (rb : Nat) (a : Option Addr) (c m : Nat) (l : List Bool) : Prop := Sl w 1 (.slice a m c) m (bls l) ∧ ∀ x, a = some x → x.block ≠ rb

theorem RowAt.turned {w w' : World} {rb : Nat} {a : Option Addr} {c m : Nat} {l : List Bool} (h : RowAt w rb a c m l) (ht : Turned (fun k => k = rb) w w') : RowAt w' rb a c m l :=
  ⟨h.1.turned ht (fun x hx => h.2 x hx), h.2⟩
theorem RowAt.below {w w' : World} {rb : Nat} {a : Option Addr} {c m : Nat} {l : List Bool} (h : RowAt w rb a c m l) (hb : Below w.heap.size w w') : RowAt w' rb a c m l :=
  ⟨h.1.below hb, h.2⟩

set_option maxRecDepth 100000 in
set_option maxHeartbeats 6400000 in
theorem bitsRead_any (ab : Option Addr) (nb cb : Nat) (bs : List Nat) (a : Option Addr) (n cap : Nat) (ps : List (Nat × Nat)) (mo : Nat) (w : World)
    (hb : Sl w 1 (.slice ab nb cb) nb (u8s bs)) (hnb : nb = bs.length) (hby : ∀ x ∈ bs, x < 256)
    (h : Sl w 2 (.slice a n cap) n (parts ps)) (hn : n = ps.length) (hx : ∀ p ∈ ps, p.1 < 256 ∧ p.2 < 18446744073709551616) (hmo : mo < 256) (hmax : n ≤ 9223372036854775807) (hbmax : nb ≤ 9223372036854775807) :
    Calls Try.prog 5 #[.slice ab nb cb, .slice a n cap, .int .u8 mo] w fun e w' => e = .returned (.bool true) ∧ Below w.heap.size w w' := by
  have hmi : (mo : Int) < 256 := by omega
  have hmi0 : (0 : Int) ≤ mo := by omega
  by_cases hbig : 200 < nb ∨ 60 < n
  · by_cases h2 : 200 < nb
    · have hb' : (200 : Int) < (nb : Int) := by omega
      go_enter Try.func5, Try.ntmps5
      go_wp2_with (go_at_call 6; refine (works_any _).mono ?_; rintro e w1 ⟨rfl, hB⟩)
      go_ret
      exact ⟨rfl, hB⟩
    · have hb' : ¬ ((200 : Int) < (nb : Int)) := by omega
      have hn' : (60 : Int) < (n : Int) := by omega
      go_enter Try.func5, Try.ntmps5
      go_wp2_with (go_at_call 6; refine (works_any _).mono ?_; rintro e w1 ⟨rfl, hB⟩)
      go_ret
      exact ⟨rfl, hB⟩
  have hb1 : ¬ ((200 : Int) < (nb : Int)) := by omega
  have hb2 : ¬ ((60 : Int) < (n : Int)) := by omega
  have HN := Lib.hid hn; clear hn
  have HX := Lib.hid hx; clear hx
  have HBY := Lib.hid hby; clear hby
  have C0 := read_any (.slice ab nb cb) bs w (by rw [← hnb]; exact hb) (by omega) HBY.out
  have CR : ∀ wx, Below w.heap.size w wx → Calls Try.prog 21 #[.slice ab nb cb] wx fun e w' => ∃ v, e = .returned v ∧ w'.ownsRow wx.heap.size 4 1 v (rowOf bs).length (bls (rowOf bs)) ∧ Below wx.heap.size wx w' :=
    fun wx hB => refRow_any (.slice ab nb cb) bs wx (by rw [← hnb]; exact hb.below hB) (by omega) HBY.out
  have HCR := Lib.hid CR; clear CR
  have HNB := Lib.hid hnb; clear hnb
  go_enter Try.func5, Try.ntmps5
  go_wp2_with fail
  refine C0.mono ?_
  rintro e w1 ⟨rb, vr, rfl, hrb, hR1, hB1⟩
  clear C0
  go_wp2_with fail
  refine (HCR.out w1 hB1).mono ?_
  rintro e w2 ⟨vrow, rfl, hrow2, hB2⟩
  have hR2 := hR1.below hB2
  have hBB := hB1.trans (hB2.mono hB1.size)
  have hs1 := hB1.size
  obtain ⟨ra, rc, rfl, _⟩ := ownsRow_slice hrow2
  have hS2 := Sl.of_own hrow2
  have hrl := rowOf_length bs
  rw [hrl] at hS2
  have hrb2 : ∀ x, ra = some x → x.block ≠ rb := fun x hx => by have := (hrow2.lt x.block (by rw [hx]; rfl)).1; have := hR1.lt; omega
  have hb200 : bs.length ≤ 200 := by have := HNB.out; omega
  have hrblt := hR1.lt
  clear hR1 hB1 hB2 hrow2 HCR
  go_wp2
  go_loopw [8, 9] (fun v c wx => ∃ i at_ : Nat, i ≤ n ∧ c = .int .i64 i ∧ at_ ≤ 8 * bs.length ∧ RInv wx rb 0 w.heap.size vr bs at_ false ∧ (∃ a' c', v = .slice a' (8 * bs.length - at_) c' ∧ RowAt wx rb a' c' (8 * bs.length - at_) ((rowOf bs).drop at_)) ∧ Below w.heap.size w wx) (fun _ c _ => n - (intOf c).toNat)
  case atStart => exact ⟨0, 0, Nat.zero_le _, rfl, Nat.zero_le _, hR2, ⟨_, _, rfl, by simpa using hS2, hrb2⟩, hBB⟩
  case round =>
    clear hR2 hS2 hBB
    obtain ⟨i, at_, hi, rfl, hat, hR, ⟨a', c', rfl, hrow⟩, hB⟩ := hrel
    have hsz := hB.size
    by_cases hlt : i < n
    · have hlp : i < ps.length := by rw [← HN.out]; exact hlt
      obtain ⟨b, o, rfl, c0, c1⟩ := part_cells h i hlp
      obtain ⟨hs1, hx1⟩ := HX.out ps[i] (List.getElem_mem _)
      obtain ⟨s, hs⟩ : ∃ s, s = ps[i].1 := ⟨_, rfl⟩
      rw [← hs] at c0 hs1
      clear hs hx1 c1
      obtain ⟨k, hk⟩ : ∃ k, k = s % 66 := ⟨_, rfl⟩
      have hk' : (s : Int) % 66 = (k : Int) := by omega
      have hk66 : k < 66 := by omega
      clear hk
      have d0 := (hB.cell (p := ⟨b, o + i * 2, none⟩) (World.block_lt_of_cell? w _ c0)).trans c0
      clear c0
      obtain ⟨m, hm⟩ : ∃ m, m = 8 * bs.length - at_ := ⟨_, rfl⟩
      have hm16 : m ≤ 1600 := by omega
      rw [← hm] at hrow
      have HM := Lib.hid hm
      by_cases hk65 : k < 65
      · by_cases hshort : m < k
        · have C1 := rnum_no rb 0 _ vr bs at_ false k wr hR (by omega)
          have hcmp : ((m : Int) < (k : Int)) := by omega
          rw [← hm]
          clear hm
          have hT := C1
          go_wp2_with fail
          refine C1.mono ?_
          rintro e w3 ⟨rfl, hR3, hT3⟩
          have hB3 : Below w.heap.size w w3 := hT3.old hB hsz (by intro q hq; show ¬ q = rb; omega)
          clear hB hR hT3 hrow C1 hT d0
          go_wp2_with fail
          refine (right_any rb 0 _ _ [] 0 true _ hR3).mono ?_
          rintro e w4 ⟨rfl, rfl⟩
          go_wp2_with fail
          refine (bit_no rb 0 _ _ [] 0 true _ hR3 rfl).mono ?_
          rintro e w5 ⟨rfl, hR5, hT5⟩
          have hB5 : Below w.heap.size w w5 := hT5.old hB3 hB3.size (by intro q hq; show ¬ q = rb; omega)
          clear hR3 hB3 hT5
          have C6 := rnum_yes rb 0 _ _ [] 0 true 0 _ hR5 (Nat.le_refl _)
          rw [show valAt [] 0 0 = 0 from rfl] at C6
          go_wp2_with fail
          refine C6.mono ?_
          rintro e w6 ⟨rfl, hR6, hT6⟩
          have hB6 : Below w.heap.size w w6 := hT6.old hB5 hB5.size (by intro q hq; show ¬ q = rb; omega)
          clear hR5 hB5 hT6 C6
          have C7 := close_any rb 0 _ _ [] 0 true _ hR6
          rw [show closes [] 0 true = false from rfl] at C7
          go_wp2_with fail
          refine C7.mono ?_
          rintro e w7 ⟨rfl, _, hT7⟩
          have hB7 : Below w.heap.size w w7 := hT7.old hB6 hB6.size (by intro q hq; show ¬ q = rb; omega)
          clear hR6 hB6 hT7 C7
          go_wp2_with fail
          refine (works_any _).mono ?_
          rintro e w8 ⟨rfl, hB8⟩
          have hfin := hB7.trans (hB8.mono hB7.size)
          go_wp2_with fail
          go_ret
          exact ⟨rfl, hfin⟩
        · have hcmp : ¬ ((m : Int) < (k : Int)) := by omega
          have hkm : k ≤ m := by omega
          obtain ⟨y, hy⟩ : ∃ y, y = valAt bs at_ k := ⟨_, rfl⟩
          have C1 := rnum_yes rb 0 _ vr bs at_ false k wr.drew hR.drew (by omega)
          rw [← hy] at C1
          obtain ⟨hcut1, hcS⟩ := hrow.1.cut_to Ebool (P := Try.prog) k hkm
          have hval : valL (((rowOf bs).drop at_).take k) = y := by rw [hy]; exact valAt_row bs at_ k (by omega)
          obtain ⟨a2, c2, hcut2, hcS2, hcb2⟩ := hrow.1.cut_from Ebool (P := Try.prog) k hkm
          have HV := Lib.hid hval; clear hval
          have HY := Lib.hid hy; clear hy
          have HCB := Lib.hid hcb2; clear hcb2
          rw [← hm]
          clear hm
          have hbt : (bls ((rowOf bs).drop at_)).take k = bls (((rowOf bs).drop at_).take k) := by simp [bls, List.map_take]
          have hbd : (bls ((rowOf bs).drop at_)).drop k = bls ((rowOf bs).drop (at_ + k)) := by rw [bls, ← List.map_drop, List.drop_drop, bls]
          have hlk : (((rowOf bs).drop at_).take k).length = k := by have := HM.out; rw [List.length_take, rowOf_drop_length]; omega
          rw [hbt] at hcS
          rw [hbd] at hcS2
          have HLK := Lib.hid hlk; clear hlk hbt hbd
          go_wp2_with fail
          try rw [hk']
          -- REGION C
          refine wp_region_held_drew (S := (fun _ : World => True)) (by kernel_rfl) (trivial) (fun hHeld => ?_)
          refine wpAnyH_take (i := 0) (v := ?v1) rfl (by kernel_rfl) (by kernel_rfl) (by kernel_rfl) (fun _ _ _ h => h) (Or.inl ⟨by rfl, ?hy1⟩) hHeld ?rest1
          case hy1 => (intro w' hSw; (try dsimp only at hSw); go_simp; (try with_reducible rfl))
          try simp only [Act.put, List.setIfInBounds_toArray, List.set_cons_zero, List.set_cons_succ, List.getElem_toArray, List.getElem_cons_zero, List.getElem_cons_succ]
          refine wpAnyH_take (i := 1) (v := ?v2) rfl (by kernel_rfl) (by kernel_rfl) (by kernel_rfl) (fun _ _ _ h => h) (Or.inl ⟨by rfl, ?hy2⟩) hHeld ?rest2
          case hy2 => (intro w' hSw; (try dsimp only at hSw); go_simp; (try with_reducible rfl))
          try simp only [Act.put, List.setIfInBounds_toArray, List.set_cons_zero, List.set_cons_succ, List.getElem_toArray, List.getElem_cons_zero, List.getElem_cons_succ]
          refine wpAnyH_take (i := 3) (v := ?v3) rfl (by kernel_rfl) (by kernel_rfl) (by kernel_rfl) (fun _ _ _ h => h) (Or.inl ⟨by rfl, ?hy3⟩) hHeld ?rest3
          case hy3 => (intro w' hSw; (try dsimp only at hSw); go_simp; (try with_reducible rfl))
          try simp only [Act.put, List.setIfInBounds_toArray, List.set_cons_zero, List.set_cons_succ, List.getElem_toArray, List.getElem_cons_zero, List.getElem_cons_succ]
          refine wpAnyH_take (i := 4) (v := ?v4) rfl (by kernel_rfl) (by kernel_rfl) (by kernel_rfl) (fun _ _ _ h => h) (Or.inl ⟨by rfl, ?hy4⟩) hHeld ?rest4
          case hy4 => (intro w' hSw; (try dsimp only at hSw); go_simp; (try with_reducible rfl))
          try simp only [Act.put, List.setIfInBounds_toArray, List.set_cons_zero, List.set_cons_succ, List.getElem_toArray, List.getElem_cons_zero, List.getElem_cons_succ]
          refine wpAnyH_take (i := 5) (v := ?v5) rfl (by kernel_rfl) (by kernel_rfl) (by kernel_rfl) (fun _ _ _ h => h) (Or.inl ⟨by rfl, ?hy5⟩) hHeld ?rest5
          case hy5 => (intro w' hSw; (try dsimp only at hSw); go_simp; (try with_reducible rfl))
          try simp only [Act.put, List.setIfInBounds_toArray, List.set_cons_zero, List.set_cons_succ, List.getElem_toArray, List.getElem_cons_zero, List.getElem_cons_succ]
          refine wpAnyH_ready (rs := [2]) (by kernel_rfl) (by simp) ?_
          refine AllReadyH.cons rfl (fun K hK => ?_) AllReadyH.nil
          go_simp
          refine C1.mono ?_
          rintro e w5 ⟨rfl, hR5, hT5⟩
          try go_wp2_with fail
          refine hK.out _ _ (trivial) (fun hHeld => ?_)
          clear hK K
          try simp only [Act.put, List.setIfInBounds_toArray, List.set_cons_zero, List.set_cons_succ, List.getElem_toArray, List.getElem_cons_zero, List.getElem_cons_succ]
          refine wpAnyH_ready (rs := [6]) (by kernel_rfl) (by simp) ?_
          refine AllReadyH.cons rfl (fun K hK => ?_) AllReadyH.nil
          go_simp
          have C3 := refValue_any (.slice a' k c') (((rowOf bs).drop at_).take k) w5 (by rw [HLK.out]; exact Sl.turned (w := wr.drew) hcS hT5 (fun x hx => hrow.2 x hx)) (by rw [HLK.out]; omega)
          rw [HV.out] at C3
          refine C3.mono ?_
          rintro e w6 ⟨rfl, rfl⟩
          try go_wp2_with fail
          refine hK.out _ _ (trivial) (fun hHeld => ?_)
          clear hK K
          try simp only [Act.put, List.setIfInBounds_toArray, List.set_cons_zero, List.set_cons_succ, List.getElem_toArray, List.getElem_cons_zero, List.getElem_cons_succ]
          refine wpAnyH_take (i := 7) (v := ?v8) rfl (by kernel_rfl) (by kernel_rfl) (by kernel_rfl) (fun _ _ _ h => h) (Or.inl ⟨by rfl, ?hy8⟩) hHeld ?rest8
          case hy8 => (intro w' hSw; (try dsimp only at hSw); go_simp; (try with_reducible rfl))
          try simp only [Act.put, List.setIfInBounds_toArray, List.set_cons_zero, List.set_cons_succ, List.getElem_toArray, List.getElem_cons_zero, List.getElem_cons_succ]
          refine wpAnyH_done (by kernel_rfl) ?_ _
          -- END C
          have hB5 : Below w.heap.size w w5 := hT5.old (Below.trans hB (Below.drew (Below.refl _ _))) hsz (by intro q hq; show ¬ q = rb; omega)
          have hrow5 : RowAt w5 rb a2 c2 (m - k) ((rowOf bs).drop (at_ + k)) := by
            have h0 : RowAt wr.drew rb a2 c2 (m - k) ((rowOf bs).drop (at_ + k)) := ⟨hcS2, fun x hx => by
              obtain ⟨y, hy, hyb⟩ := HCB.out x hx
              rw [← hyb]; exact hrow.2 y hy⟩
            exact h0.turned hT5
          clear hT5 hB hR hcS hcS2 hcut1 C1 d0 hrow
          have hmk : 8 * bs.length - (at_ + k) = m - k := by have := HM.out; omega
          have hle : at_ + k ≤ 8 * bs.length := by have := HM.out; omega
          go_wp2
          exact ⟨⟨i + 1, at_ + k, by omega, by go_num, hle, hR5, ⟨a2, c2, by rw [hmk], by rw [hmk]; exact hrow5⟩, hB5⟩, by simp [intOf]; omega⟩
      · obtain rfl : k = 65 := by omega
        have hlr : ((rowOf bs).drop at_).length = m := by rw [rowOf_drop_length, hm]
        have C1 := refOnes_any (.slice a' m c') ((rowOf bs).drop at_) wr (by rw [hlr]; exact hrow.1) (by omega)
        by_cases hno : ∀ q : Nat, onesL ((rowOf bs).drop at_) = some q → (mo : Int) < (q : Int)
        · have C2 := rones_no rb 0 _ vr bs at_ false mo wr hR (ones_no bs at_ mo hno)
          obtain ⟨z, hz⟩ : ∃ z, z = onesInt ((rowOf bs).drop at_) := ⟨_, rfl⟩
          have hzz : z < 0 ∨ (0 ≤ z ∧ (mo : Int) < z) := by
            rw [hz, onesInt]
            cases ho : onesL ((rowOf bs).drop at_) with
            | none => exact .inl (by decide)
            | some q => exact .inr ⟨by show (0 : Int) ≤ (q : Int); omega, hno q ho⟩
          rw [← hz] at C1
          rw [← hm]
          clear hm hz hno hlr
          have HB := Lib.hid hB; clear hB
          have HR := Lib.hid hR; clear hR hrow
          rcases hzz with hz1 | ⟨hz1, hz2⟩
          all_goals
            go_wp2_with fail
            refine C1.mono ?_
            rintro e w3 ⟨rfl, rfl⟩
            go_wp2_with fail
            refine C2.mono ?_
            rintro e w4 ⟨rfl, hR4, hT4⟩
            have hB4 : Below w.heap.size w w4 := hT4.old HB.out hsz (by intro q hq; show ¬ q = rb; omega)
            clear hT4 C1 C2
            go_wp2_with fail
            refine (right_any rb 0 _ _ [] 0 true _ hR4).mono ?_
            rintro e w5 ⟨rfl, rfl⟩
            go_wp2_with fail
            refine (rones_no rb 0 _ _ [] 0 true 9 _ hR4 (fun n hn => by simp at hn)).mono ?_
            rintro e w6 ⟨rfl, hR6, hT6⟩
            have hB6 : Below w.heap.size w w6 := hT6.old hB4 hB4.size (by intro q hq; show ¬ q = rb; omega)
            clear hT6 hR4 hB4 hR6
            go_wp2_with fail
            refine (works_any _).mono ?_
            rintro e w7 ⟨rfl, hB7⟩
            have hfin := hB6.trans (hB7.mono hB6.size)
            go_wp2_with fail
            go_ret
            exact ⟨rfl, hfin⟩
        · obtain ⟨q, hq, hqm⟩ : ∃ q : Nat, onesL ((rowOf bs).drop at_) = some q ∧ (q : Int) ≤ mo := by
            by_cases h1 : ∃ q : Nat, onesL ((rowOf bs).drop at_) = some q ∧ (q : Int) ≤ mo
            · exact h1
            · exact absurd (fun q hq => by
                by_cases h2 : (mo : Int) < (q : Int)
                · exact h2
                · exact absurd ⟨q, hq, by omega⟩ h1) hno
          obtain ⟨hy1, hy2, hy3⟩ := ones_yes bs at_ q hq
          have hz : onesInt ((rowOf bs).drop at_) = (q : Int) := by rw [onesInt, hq]
          rw [hz] at C1
          have C2 := rones_yes rb 0 _ vr bs at_ false q mo wr hR hy1 hy2 hy3 hqm
          have hkm : q + 1 ≤ m := by omega
          obtain ⟨a2, c2, hcut2, hcS2, hcb2⟩ := hrow.1.cut_from Ebool (P := Try.prog) (q + 1) hkm
          have hcast : ((q + 1 : Nat) : Int) = (q : Int) + 1 := by omega
          rw [hcast] at hcut2
          have hbd : (bls ((rowOf bs).drop at_)).drop (q + 1) = bls ((rowOf bs).drop (at_ + (q + 1))) := by rw [bls, ← List.map_drop, List.drop_drop, bls]
          rw [hbd] at hcS2
          have HCB := Lib.hid hcb2; clear hcb2
          rw [← hm]
          clear hm hno hq hy2 hy3 hz hbd hcast hlr hkm
          go_wp2_with fail
          refine C1.mono ?_
          rintro e w3 ⟨rfl, rfl⟩
          go_wp2_with fail
          refine C2.mono ?_
          rintro e w5 ⟨rfl, hR5, hT5⟩
          have hB5 : Below w.heap.size w w5 := hT5.old hB hsz (by intro q hq; show ¬ q = rb; omega)
          have hrow5 : RowAt w5 rb a2 c2 (m - (q + 1)) ((rowOf bs).drop (at_ + (q + 1))) := by
            have h0 : RowAt wr rb a2 c2 (m - (q + 1)) ((rowOf bs).drop (at_ + (q + 1))) := ⟨hcS2, fun x hx => by
              obtain ⟨y, hy, hyb⟩ := HCB.out x hx
              rw [← hyb]; exact hrow.2 y hy⟩
            exact h0.turned hT5
          have hmk : 8 * bs.length - (at_ + (q + 1)) = m - (q + 1) := by have := HM.out; omega
          have hle : at_ + (q + 1) ≤ 8 * bs.length := by have := HM.out; omega
          clear hT5 hB hR hcS2 C1 C2 d0 hrow
          have HMK := Lib.hid hmk; clear hmk
          go_wp2
          exact ⟨⟨i + 1, at_ + (q + 1), by omega, by go_num, hle, hR5, ⟨a2, c2, by rw [HMK.out], by rw [HMK.out]; exact hrow5⟩, hB5⟩, by simp [intOf]; omega⟩
    · obtain rfl : i = n := by omega
      obtain ⟨l, hl⟩ : ∃ l, l = (rowOf bs).drop at_ := ⟨_, rfl⟩
      have hlr : l.length = 8 * bs.length - at_ := by rw [hl, rowOf_drop_length]
      have hcl := closes_row bs at_ hat
      rw [← hl] at hcl hrow
      have C3 : ∀ k, Calls Try.prog 20 #[.pointer (some ⟨rb, 0, none⟩)] (wr.drewN k) fun e w' => e = .returned (.bool (decide (l.length < 8) && l.all (fun b => !b))) ∧ Turned (fun k => k = rb) (wr.drewN k) w' := fun k => by
        have := close_any rb 0 _ vr bs at_ false (wr.drewN k) (hR.drewN k)
        rw [hcl] at this
        exact this.mono fun _ _ ⟨h1, _, h3⟩ => ⟨h1, h3⟩
      have CL := left_any rb 0 _ vr bs at_ false wr hR
      rw [← hlr] at CL hrow ⊢
      have hl16 : l.length ≤ 1600 := by omega
      clear hl hcl hlr
      have HC3 := Lib.hid C3; clear C3
      obtain ⟨m, hm⟩ : ∃ m, m = l.length := ⟨_, rfl⟩
      obtain ⟨c0, hc0⟩ : ∃ c0, c0 = decide (m < 8) := ⟨_, rfl⟩
      have hc0' : decide ((m : Int) < 8) = c0 := by rw [hc0, Bool.eq_iff_iff]; simp; omega
      rw [← hm] at CL hrow HC3 hl16 ⊢
      rw [← hc0] at HC3
      have HM := Lib.hid hm; clear hm hc0
      go_wp2
      go_loop [12, 13] (fun x c => ∃ j : Nat, j ≤ m ∧ c = .int .i64 j ∧ ∃ q : Bool, x = .bool q ∧ Hid (q = (c0 && (l.take j).all (fun b => !b)))) (fun _ c => m - (intOf c).toNat)
      case atStart => exact ⟨0, Nat.zero_le _, rfl, c0, rfl, by show c0 = _; simp⟩
      case round =>
        obtain ⟨j, hj, rfl, q, rfl, hq⟩ := hrel
        by_cases hjm : j < m
        · have hjl : j < l.length := by rw [← HM.out]; exact hjm
          have hrow0 := hrow
          obtain ⟨⟨a0, c0', he, _, _, _, _, h5⟩, _⟩ := hrow0
          cases he
          obtain ⟨bq, oq, rfl, hcell⟩ := h5 j (.bool l[j]) (by simp [bls, hjl])
          clear h5
          have hsn : (l.take (j + 1)).all (fun b => !b) = ((l.take j).all (fun b => !b) && !l[j]) := by
            rw [List.take_add_one, List.getElem?_eq_getElem hjl, List.all_append]
            simp
          have HS := Lib.hid hsn; clear hsn
          obtain ⟨v, hv⟩ : ∃ v, v = l[j] := ⟨_, rfl⟩
          rw [← hv] at hcell HS
          clear hv
          cases q <;> cases v
          all_goals
            go_wp2
            go_round
            case rel =>
              have hq' := hq.out
              refine ⟨j + 1, by omega, by go_num, _, rfl, ?_⟩
              show _ = _
              rw [HS.out, ← Bool.and_assoc, ← hq']
              rfl
            case measure => simp [intOf]; omega
        · obtain rfl : j = m := by omega
          have hq' := hq.out
          rw [List.take_of_length_le (by rw [← HM.out]; exact Nat.le_refl _)] at hq'
          have hqq : (q == q) = true := by simp
          have C3 : ∀ k, Calls Try.prog 20 #[.pointer (some ⟨rb, 0, none⟩)] (wr.drewN k) fun e w' => e = .returned (.bool q) ∧ Turned (fun k => k = rb) (wr.drewN k) w' := fun k => by rw [hq']; exact HC3.out k
          have HC4 := Lib.hid C3; clear C3 hq' hq HC3
          go_wp2_with fail
          refine CL.mono ?_
          rintro e w5 ⟨rfl, k5, rfl⟩
          go_wp2_with fail
          refine (HC4.out k5).mono ?_
          rintro e w6 ⟨rfl, hT6⟩
          have hB6 : Below w.heap.size w w6 := hT6.old (below_dN hB _) hsz (by intro q hq; show ¬ q = rb; omega)
          clear hT6 CL HC4 hB hR hrow
          go_wp2_with fail
          refine (works_any _).mono ?_
          rintro e w7 ⟨rfl, hB7⟩
          have hfin := hB6.trans (hB7.mono hB6.size)
          go_wp2_with fail
          go_ret
          exact ⟨rfl, hfin⟩
end Go.Proofs.Ytjbapbenlaccfaa
