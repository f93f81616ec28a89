/-
  The reader of bits: what it holds, and what each of its methods does.
-/
import Derived.Test.YtapheokmoebgfaaBitW
set_option linter.unusedVariables false
set_option linter.unusedSimpArgs false
namespace Go.Proofs.Ytapheokmoebgfaa
open Go.RowKit Go.Th

structure RInv (w : World) (pb po base : Nat) (v : Value) (bs : List Nat) (at_ : Nat) (bad : Bool) : Prop where
  c0 : w.cell? ⟨pb, po, none⟩ = some v
  c1 : w.cell? ⟨pb, po + 1, none⟩ = some (.int .i64 (at_ : Nat))
  c2 : w.cell? ⟨pb, po + 2, none⟩ = some (.bool bad)
  f0 : w.frozen? ⟨pb, po, none⟩ = false
  f1 : w.frozen? ⟨pb, po + 1, none⟩ = false
  f2 : w.frozen? ⟨pb, po + 2, none⟩ = false
  own : w.ownsRow base 5 1 v bs.length (u8s bs)
  ne : v.ownBlock ≠ some pb
  le : at_ ≤ 8 * bs.length
  small : bs.length ≤ 140737488355328
  byte : ∀ x ∈ bs, x < 256

theorem RInv.drewN {w : World} {pb po base : Nat} {v : Value} {bs : List Nat} {at_ : Nat} {bad : Bool} (n : Nat) (h : RInv w pb po base v bs at_ bad) : RInv (w.drewN n) pb po base v bs at_ bad :=
  ⟨by simpa using h.c0, by simpa using h.c1, by simpa using h.c2, by simpa using h.f0, by simpa using h.f1, by simpa using h.f2, h.own, h.ne, h.le, h.small, h.byte⟩

theorem RInv.drew {w : World} {pb po base : Nat} {v : Value} {bs : List Nat} {at_ : Nat} {bad : Bool} (h : RInv w pb po base v bs at_ bad) : RInv w.drew pb po base v bs at_ bad :=
  ⟨h.c0, h.c1, h.c2, h.f0, h.f1, h.f2, h.own, h.ne, h.le, h.small, h.byte⟩

theorem RInv.slice {w : World} {pb po base : Nat} {v : Value} {bs : List Nat} {at_ : Nat} {bad : Bool} (h : RInv w pb po base v bs at_ bad) :
    ∃ a cap, v = .slice a bs.length cap := by
  obtain ⟨a, cap, h1, _⟩ := ownsRow_slice h.own
  exact ⟨a, cap, h1⟩

theorem left_any (pb po base : Nat) (v : Value) (bs : List Nat) (at_ : Nat) (bad : Bool) (w : World) (h : RInv w pb po base v bs at_ bad) :
    Calls Try.prog 47 #[.pointer (some ⟨pb, po, none⟩)] w fun e w' => e = .returned (.int .i64 ((8 * bs.length - at_ : Nat) : Int)) ∧ ∃ n, w' = w.drewN n := by
  obtain ⟨a, cap, rfl⟩ := h.slice
  have c0 := h.c0
  have c1 := h.c1
  have hle := h.le
  have hsm := h.small
  have hle' : (at_ : Int) ≤ 8 * (bs.length : Int) := by omega
  go_enter Try.func47, Try.ntmps47
  go_wp2
  go_quiet (fail)
  go_wp2
  go_ret
  exact ⟨ret_int (by omega), _, rfl⟩

theorem right_any (pb po base : Nat) (v : Value) (bs : List Nat) (at_ : Nat) (bad : Bool) (w : World) (h : RInv w pb po base v bs at_ bad) :
    Calls Try.prog 44 #[.pointer (some ⟨pb, po, none⟩)] w fun e w' => e = .returned (.bool !bad) ∧ w = w' := by
  have c2 := h.c2
  go_enter Try.func44, Try.ntmps44
  go_wp2
  go_ret
  exact ⟨rfl, rfl⟩

theorem fail_any (pb po base : Nat) (v : Value) (bs : List Nat) (at_ : Nat) (bad : Bool) (w : World) (h : RInv w pb po base v bs at_ bad) :
    Calls Try.prog 57 #[.pointer (some ⟨pb, po, none⟩)] w fun e w' => e = .returned (.tuple #[]) ∧ RInv w' pb po base (.slice none 0 0) [] 0 true ∧ Turned (fun k => k = pb) w w' := by
  have c0 := h.c0
  have c1 := h.c1
  have c2 := h.c2
  have f0 := h.f0
  have f1 := h.f1
  have f2 := h.f2
  go_enter Try.func57, Try.ntmps57
  go_wp2
  go_end0
  have g0 := (World.cell?_setCell_same (w := w) ⟨pb, po, none⟩ (.slice none 0 0) c0)
  refine ⟨rfl, ⟨?_, ?_, ?_, ?_, ?_, ?_, World.ownsRow_nil _ _ _ _, by simp [Value.ownBlock], Nat.le_refl _, Nat.zero_le _, fun _ h => by cases h⟩, ?_⟩
  · rw [World.cell?_setCell_other _ _ _ _ (by simp), World.cell?_setCell_other _ _ _ _ (by simp)]; exact g0
  · rw [World.cell?_setCell_other _ _ _ _ (by simp)]
    exact World.cell?_setCell_same _ _ _ ((World.cell?_setCell_other _ _ _ _ (by simp)).trans c1)
  · exact World.cell?_setCell_same _ _ _ ((World.cell?_setCell_other _ _ _ _ (by simp)).trans ((World.cell?_setCell_other _ _ _ _ (by simp)).trans c2))
  · simp only [World.frozen?_setCell]; exact f0
  · simp only [World.frozen?_setCell]; exact f1
  · simp only [World.frozen?_setCell]; exact f2
  · exact (((Turned.refl (fun k => k = pb) w).setCell (.inl rfl) _).setCell (.inl rfl) _).setCell (.inl rfl) _

theorem rinv_at {w : World} {pb po base : Nat} {v : Value} {bs : List Nat} {at_ m : Nat} {bad : Bool} {x : Int} (h : RInv w pb po base v bs at_ bad) (hm : m ≤ 8 * bs.length) (hx : x = (m : Nat)) :
    RInv (w.setCell ⟨pb, po + 1, none⟩ (.int .i64 x)) pb po base v bs m bad := by
  subst hx
  refine ⟨(World.cell?_setCell_other _ _ _ _ (by simp)).trans h.c0, World.cell?_setCell_same _ _ _ h.c1, (World.cell?_setCell_other _ _ _ _ (by simp)).trans h.c2, ?_, ?_, ?_, ownsRow_setCell_other h.own h.ne _, h.ne, hm, h.small, h.byte⟩
  · simp only [World.frozen?_setCell]; exact h.f0
  · simp only [World.frozen?_setCell]; exact h.f1
  · simp only [World.frozen?_setCell]; exact h.f2

theorem bit_of (b k : Nat) (hb : b < 256) (hk : k < 8) : (bits BinOp.and IntKind.u8 (b : Int) (128 / 2 ^ k) != 0) = (b / 2 ^ (7 - k) % 2 == 1) := by
  have h1 : (128 / 2 ^ k : Int) = ((128 >>> k : Nat) : Int) := by rw [Nat.shiftRight_eq_div_pow]; simp
  have h2 : 128 >>> k < 256 := by rw [Nat.shiftRight_eq_div_pow]; exact Nat.lt_of_le_of_lt (Nat.div_le_self _ _) (by decide)
  rw [h1, u8_and_nat _ _ hb h2, ← and_bit ⟨b, hb⟩ ⟨k, hk⟩]
  generalize (b &&& 128 >>> k) = t
  cases t with
  | zero => rfl
  | succ n => simp; omega

theorem bit_yes (pb po base : Nat) (v : Value) (bs : List Nat) (at_ : Nat) (bad : Bool) (w : World) (h : RInv w pb po base v bs at_ bad) (hlt : at_ < 8 * bs.length) :
    Calls Try.prog 58 #[.pointer (some ⟨pb, po, none⟩)] w fun e w' => e = .returned (.bool (bitAt bs at_)) ∧ RInv w' pb po base v bs (at_ + 1) bad ∧ Turned (fun k => k = pb) w w' := by
  obtain ⟨g, cap, rfl, hg1, hg2, hnc, hcm⟩ := ownsRow_val h.own (by omega)
  have c0 := h.c0
  have c1 := h.c1
  have f1 := h.f1
  have hsm := h.small
  have hx : w.cell? ⟨g, at_ / 8, none⟩ = some (.int .u8 (bs.getD (at_ / 8) 0 : Nat)) := by
    rw [h.own.cellAt (at_ / 8) (by omega)]
    simp only [u8s, List.getElem?_map, List.getD]
    rw [List.getElem?_eq_getElem (by omega)]
    rfl
  have hbl : bs.getD (at_ / 8) 0 < 256 := by
    rw [List.getD, List.getElem?_eq_getElem (by omega)]
    exact h.byte _ (List.getElem_mem _)
  have ht : (((8 * bs.length - at_ : Nat) : Int) == 0) = false := by simp; omega
  obtain ⟨b, hb⟩ : ∃ b, b = bs.getD (at_ / 8) 0 := ⟨_, rfl⟩
  rw [← hb] at hx hbl
  have HB := Lib.hid hb; clear hb
  have h1 : (at_ : Int) / 8 < (bs.length : Int) := by omega
  have h2 : 0 ≤ (at_ : Int) / 8 := by omega
  have h3 : (at_ : Int) % 8 < 8 := by omega
  have h4 : 0 ≤ (at_ : Int) % 8 := by omega
  go_enter Try.func58, Try.ntmps58
  go_wp2_with (go_at_call 47; refine (left_any pb po base _ bs at_ bad _ h).mono ?_; rintro e w2 ⟨rfl, n2, rfl⟩)
  go_quiet (fail)
  go_wp2
  go_ret
  refine ⟨?_, (rinv_at (h.drewN _) (by omega) (by simp)), ((Turned.refl (fun k => k = pb) w).drewN _).setCell (.inl rfl) _⟩
  show Ending.returned (.bool (bits BinOp.and IntKind.u8 (b : Int) (128 / 2 ^ (at_ % 8)) != 0)) = _
  refine ret_bool ?_
  rw [bit_of b (at_ % 8) hbl (by omega), bitAt, HB.out]

theorem bit_no (pb po base : Nat) (v : Value) (bs : List Nat) (at_ : Nat) (bad : Bool) (w : World) (h : RInv w pb po base v bs at_ bad) (heq : at_ = 8 * bs.length) :
    Calls Try.prog 58 #[.pointer (some ⟨pb, po, none⟩)] w fun e w' => e = .returned (.bool false) ∧ RInv w' pb po base (.slice none 0 0) [] 0 true ∧ Turned (fun k => k = pb) w w' := by
  have ht : (((8 * bs.length - at_ : Nat) : Int) == 0) = true := by simp; omega
  clear heq
  go_enter Try.func58, Try.ntmps58
  go_wp2_with (first | (go_at_call 47; refine (left_any pb po base _ bs at_ bad _ h).mono ?_; rintro e w2 ⟨rfl, n2, rfl⟩) | (go_at_call 57; refine (fail_any pb po base _ bs at_ bad _ (h.drewN _)).mono ?_; rintro e w3 ⟨rfl, hR, hT⟩))
  go_ret
  exact ⟨rfl, hR, ⟨hT.os, hT.tape, hT.output, hT.size, hT.block⟩⟩


theorem or_one (x : Nat) : bits BinOp.or IntKind.u64 ((2 * x % 18446744073709551616 : Nat) : Int) 1 = ((2 * x % 18446744073709551616 + 1 : Nat) : Int) := by
  have h := u64_or_nat (2 * x % 18446744073709551616) 1 (by omega) (by decide)
  rw [nat_join 1 _ 1 (by omega) (by decide)] at h
  exact h

theorem wrap_two (x : Nat) : IntKind.u64.wrap ((x : Int) * 2) = ((2 * x % 18446744073709551616 : Nat) : Int) := by
  simp [IntKind.wrap, IntKind.bits, IntKind.signed]; omega

set_option maxHeartbeats 800000 in
theorem rnum_yes (pb po base : Nat) (v : Value) (bs : List Nat) (at_ : Nat) (bad : Bool) (k : Nat) (w : World) (h : RInv w pb po base v bs at_ bad) (hk : at_ + k ≤ 8 * bs.length) :
    Calls Try.prog 43 #[.pointer (some ⟨pb, po, none⟩), .int .i64 k] w fun e w' => e = .returned (.int .u64 (valAt bs at_ k : Nat)) ∧ RInv w' pb po base v bs (at_ + k) bad ∧ Turned (fun k => k = pb) w w' := by
  have hsm := h.small
  have h0 : decide ((k : Int) < 0) = false := by simp
  have h0' : ¬ ((k : Int) < 0) := by omega
  have h1 : decide (8 * bs.length - at_ < k) = false := by simp; omega
  go_enter Try.func43, Try.ntmps43
  go_wp2_with (go_at_call 47; refine (left_any pb po base _ bs at_ bad _ h).mono ?_; rintro e w2 ⟨rfl, n2, rfl⟩)
  go_loopw [5, 17] (fun x c wx => ∃ i : Nat, i ≤ k ∧ c = .int .i64 i ∧ x = .int .u64 (valAt bs at_ i : Nat) ∧ RInv wx pb po base v bs (at_ + i) bad ∧ Turned (fun k => k = pb) w wx) (fun _ c _ => k - (intOf c).toNat)
  case atStart => exact ⟨0, Nat.zero_le _, rfl, rfl, h.drewN _, (Turned.refl _ _).drewN _⟩
  case round =>
    obtain ⟨i, hi, rfl, rfl, hR, hT⟩ := hrel
    have hv := valAt_lt bs at_ i
    by_cases hlt : i < k
    · obtain ⟨x, hx⟩ : ∃ x, x = valAt bs at_ i := ⟨_, rfl⟩
      rw [← hx] at hv ⊢
      have HX := Lib.hid hx; clear hx
      cases hbit : bitAt bs (at_ + i)
      · go_wp2_with (go_at_call 58; refine (bit_yes pb po base _ bs (at_ + i) bad _ hR (by omega)).mono ?_; rintro e w3 ⟨rfl, hR3, hT3⟩)
        go_roundw
        case rel =>
          refine ⟨i + 1, by omega, by go_num, ?_, hR3, hT.trans hT3 (fun _ _ h => h)⟩
          simp only [valAt, hbit, HX.out]
          rw [wrap_two]; simp
        case measure => simp [intOf]; omega
      · go_wp2_with (go_at_call 58; refine (bit_yes pb po base _ bs (at_ + i) bad _ hR (by omega)).mono ?_; rintro e w3 ⟨rfl, hR3, hT3⟩)
        go_roundw
        case rel =>
          refine ⟨i + 1, by omega, by go_num, ?_, hR3, hT.trans hT3 (fun _ _ h => h)⟩
          simp only [valAt, hbit, HX.out]
          rw [wrap_two, or_one]
          have : 2 * valAt bs at_ i % 18446744073709551616 % 2 = 0 := by omega
          congr 2
          simp; omega
        case measure => simp [intOf]; omega
    · obtain rfl : i = k := by omega
      go_wp2
      go_ret
      exact ⟨rfl, hR, hT⟩

theorem rnum_no (pb po base : Nat) (v : Value) (bs : List Nat) (at_ : Nat) (bad : Bool) (k : Nat) (w : World) (h : RInv w pb po base v bs at_ bad) (hk : 8 * bs.length < at_ + k) :
    Calls Try.prog 43 #[.pointer (some ⟨pb, po, none⟩), .int .i64 k] w fun e w' => e = .returned (.int .u64 0) ∧ RInv w' pb po base (.slice none 0 0) [] 0 true ∧ Turned (fun k => k = pb) w w' := by
  have hle := h.le
  have h0 : decide ((k : Int) < 0) = false := by simp
  have h0' : ¬ ((k : Int) < 0) := by omega
  have h1 : decide (8 * bs.length - at_ < k) = true := by simp; omega
  go_enter Try.func43, Try.ntmps43
  go_wp2_with (first | (go_at_call 47; refine (left_any pb po base _ bs at_ bad _ h).mono ?_; rintro e w2 ⟨rfl, n2, rfl⟩) | (go_at_call 57; refine (fail_any pb po base _ bs at_ bad _ (h.drewN _)).mono ?_; rintro e w3 ⟨rfl, hR, hT⟩))
  go_ret
  exact ⟨rfl, hR, ⟨hT.os, hT.tape, hT.output, hT.size, hT.block⟩⟩

set_option maxHeartbeats 800000 in
theorem rones_yes (pb po base : Nat) (v : Value) (bs : List Nat) (at_ : Nat) (bad : Bool) (n : Nat) (m : Int) (w : World) (h : RInv w pb po base v bs at_ bad)
    (hn : at_ + n < 8 * bs.length) (hones : ∀ j, j < n → bitAt bs (at_ + j) = true) (hz : bitAt bs (at_ + n) = false) (hm : (n : Int) ≤ m) :
    Calls Try.prog 59 #[.pointer (some ⟨pb, po, none⟩), .int .i64 m] w fun e w' => e = .returned (.int .i64 n) ∧ RInv w' pb po base v bs (at_ + n + 1) bad ∧ Turned (fun k => k = pb) w w' := by
  have hsm := h.small
  go_enter Try.func59, Try.ntmps59
  go_wp2_with (go_at_call 47; refine (left_any pb po base _ bs at_ bad _ h).mono ?_; rintro e w2 ⟨rfl, n2, rfl⟩)
  go_loopw [8] (fun c wx => ∃ i : Nat, i ≤ n ∧ c = .int .i64 i ∧ RInv wx pb po base v bs (at_ + i) bad ∧ Turned (fun k => k = pb) w wx) (fun c _ => 8 * bs.length - at_ - (intOf c).toNat)
  case atStart => exact ⟨0, Nat.zero_le _, rfl, h.drewN _, (Turned.refl _ _).drewN _⟩
  case round =>
    obtain ⟨i, hi, rfl, hR, hT⟩ := hrel
    have hlt : i < 8 * bs.length - at_ := by omega
    by_cases hin : i < n
    · have hb := hones i hin
      clear hones hz
      go_wp2_with (go_at_call 58; refine (bit_yes pb po base _ bs (at_ + i) bad _ hR (by omega)).mono ?_; rintro e w3 ⟨rfl, hR3, hT3⟩)
      go_roundw
      case rel => exact ⟨i + 1, by omega, by go_num, hR3, hT.trans hT3 (fun _ _ h => h)⟩
      case measure => simp [intOf]; omega
    · obtain rfl : i = n := by omega
      clear hones
      have hm' : ¬ (m < (i : Int)) := by omega
      go_wp2_with (go_at_call 58; refine (bit_yes pb po base _ bs (at_ + i) bad _ hR (by omega)).mono ?_; rintro e w3 ⟨rfl, hR3, hT3⟩)
      go_ret
      exact ⟨rfl, hR3, hT.trans hT3 (fun _ _ h => h)⟩

set_option maxHeartbeats 800000 in
theorem rones_no (pb po base : Nat) (v : Value) (bs : List Nat) (at_ : Nat) (bad : Bool) (m : Int) (w : World) (h : RInv w pb po base v bs at_ bad)
    (H : ∀ n, at_ + n < 8 * bs.length → (∀ j, j < n → bitAt bs (at_ + j) = true) → bitAt bs (at_ + n) = false → m < (n : Int)) :
    Calls Try.prog 59 #[.pointer (some ⟨pb, po, none⟩), .int .i64 m] w fun e w' => e = .returned (.int .i64 0) ∧ RInv w' pb po base (.slice none 0 0) [] 0 true ∧ Turned (fun k => k = pb) w w' := by
  have hsm := h.small
  have hle := h.le
  have HH := Lib.hid H; clear H
  go_enter Try.func59, Try.ntmps59
  go_wp2_with (go_at_call 47; refine (left_any pb po base _ bs at_ bad _ h).mono ?_; rintro e w2 ⟨rfl, n2, rfl⟩)
  go_loopw [8] (fun c wx => ∃ i : Nat, i ≤ 8 * bs.length - at_ ∧ c = .int .i64 i ∧ RInv wx pb po base v bs (at_ + i) bad ∧ Turned (fun k => k = pb) w wx ∧ Hid (∀ j, j < i → bitAt bs (at_ + j) = true)) (fun c _ => 8 * bs.length - at_ - (intOf c).toNat)
  case atStart => exact ⟨0, Nat.zero_le _, rfl, h.drewN _, (Turned.refl _ _).drewN _, fun j hj => absurd hj (Nat.not_lt_zero _)⟩
  case round =>
    obtain ⟨i, hi, rfl, hR, hT, hall⟩ := hrel
    by_cases hlt : i < 8 * bs.length - at_
    · cases hb : bitAt bs (at_ + i)
      · have hm : m < (i : Int) := HH.out i (by omega) hall.out hb
        go_wp2_with (first | (go_at_call 58; refine (bit_yes pb po base _ bs (at_ + i) bad _ hR (by omega)).mono ?_; rintro e w3 ⟨rfl, hR3, hT3⟩) | (go_at_call 57; refine (fail_any pb po base _ bs _ bad _ hR3).mono ?_; rintro e w4 ⟨rfl, hR4, hT4⟩))
        go_ret
        exact ⟨rfl, hR4, (hT.trans hT3 (fun _ _ h => h)).trans hT4 (fun _ _ h => h)⟩
      · go_wp2_with (go_at_call 58; refine (bit_yes pb po base _ bs (at_ + i) bad _ hR (by omega)).mono ?_; rintro e w3 ⟨rfl, hR3, hT3⟩)
        go_roundw
        case rel =>
          refine ⟨i + 1, by omega, by go_num, hR3, hT.trans hT3 (fun _ _ h => h), fun j hj => ?_⟩
          by_cases he : j = i
          · subst he; exact hb
          · exact hall.out j (by omega)
        case measure => simp [intOf]; omega
    · have hi' : ¬ ((i : Int) < ((8 * bs.length - at_ : Nat) : Int)) := by omega
      go_wp2_with (go_at_call 57; refine (fail_any pb po base _ bs _ bad _ hR).mono ?_; rintro e w4 ⟨rfl, hR4, hT4⟩)
      go_ret
      exact ⟨rfl, hR4, hT.trans hT4 (fun _ _ h => h)⟩

/-- Was nothing wrong, and are fewer than eight bits left, all noughts? -/
def closes (bs : List Nat) (at_ : Nat) (bad : Bool) : Bool := !bad && decide (8 * bs.length - at_ < 8) && (valAt bs at_ (8 * bs.length - at_) == 0)

set_option maxHeartbeats 800000 in
theorem close_any (pb po base : Nat) (v : Value) (bs : List Nat) (at_ : Nat) (bad : Bool) (w : World) (h : RInv w pb po base v bs at_ bad) :
    Calls Try.prog 29 #[.pointer (some ⟨pb, po, none⟩)] w fun e w' => e = .returned (.bool (closes bs at_ bad)) ∧ (closes bs at_ bad = true → RInv w' pb po base v bs (8 * bs.length) bad) ∧ Turned (fun k => k = pb) w w' := by
  have hsm := h.small
  have hle := h.le
  cases bad
  · by_cases hl : 8 * bs.length - at_ < 8
    · have h1 : ((8 * bs.length - at_ : Nat) : Int) < 8 := by omega
      have h2 : decide (8 * bs.length - at_ < 8) = true := by simp; omega
      go_enter Try.func29, Try.ntmps29
      go_wp2_with (first | (go_at_call 44; refine (right_any pb po base _ bs at_ _ _ h).mono ?_; rintro e w1 ⟨rfl, rfl⟩) | (go_at_call 47; refine (left_any pb po base _ bs at_ _ _ (by first | exact h | exact h.drewN _)).mono ?_; rintro e w2 ⟨rfl, n2, rfl⟩) | (go_at_call 43; refine (rnum_yes pb po base _ bs at_ _ (8 * bs.length - at_) _ (h.drewN _) (by omega)).mono ?_; rintro e w3 ⟨rfl, hR, hT⟩))
      go_ret
      refine ⟨ret_bool ?_, fun _ => ?_, ⟨hT.os, hT.tape, hT.output, hT.size, hT.block⟩⟩
      · simp only [closes, h2]
        rw [Bool.eq_iff_iff]
        simp
      · rwa [show at_ + (8 * bs.length - at_) = 8 * bs.length from by omega] at hR
    · have h1 : ¬ (((8 * bs.length - at_ : Nat) : Int) < 8) := by omega
      have h2 : decide (8 * bs.length - at_ < 8) = false := by simp; omega
      go_enter Try.func29, Try.ntmps29
      go_wp2_with (first | (go_at_call 44; refine (right_any pb po base _ bs at_ _ _ h).mono ?_; rintro e w1 ⟨rfl, rfl⟩) | (go_at_call 47; refine (left_any pb po base _ bs at_ _ _ h).mono ?_; rintro e w2 ⟨rfl, n2, rfl⟩))
      go_ret
      exact ⟨ret_bool (by simp [closes, h2]), fun h => by simp [closes, h2] at h, (Turned.refl _ _).drewN _⟩
  · go_enter Try.func29, Try.ntmps29
    go_wp2_with (go_at_call 44; refine (right_any pb po base _ bs at_ _ _ h).mono ?_; rintro e w1 ⟨rfl, rfl⟩)
    go_ret
    exact ⟨ret_bool (by simp [closes]), fun h => by simp [closes] at h, Turned.refl _ _⟩

theorem read_any (vx : Value) (bs : List Nat) (w : World) (h : Sl w 1 vx bs.length (u8s bs)) (hl : bs.length ≤ 140737488355328) (hb : ∀ x ∈ bs, x < 256) :
    Calls Try.prog 27 #[vx] w fun e w' => ∃ g v, e = .returned (.pointer (some ⟨g, 0, none⟩)) ∧ w.heap.size ≤ g ∧ RInv w' g 0 w.heap.size v bs 0 false ∧ Below w.heap.size w w' := by
  go_enter Try.func27, Try.ntmps27
  go_wp2_with (go_at_call 38; refine (clone_any vx bs _ h hl).mono ?_; rintro e w2 ⟨v2, rfl, ho, hB⟩; obtain ⟨a2, cp2, rfl, hcp1, hcp2⟩ := ownsRow_slice ho)
  go_ret
  refine ⟨_, _, rfl, hB.size, ⟨?_, ?_, ?_, ?_, ?_, ?_, ho.alloc _, ?_, Nat.zero_le _, hl, hb⟩, hB.alloc hB.size _⟩
  · rw [World.cell?_alloc_at _ _ _ _ rfl]; rfl
  · rw [World.cell?_alloc_at _ _ _ _ rfl]; rfl
  · rw [World.cell?_alloc_at _ _ _ _ rfl]; rfl
  · exact World.frozen?_alloc_at _ _ _ _ rfl
  · exact World.frozen?_alloc_at _ _ _ _ rfl
  · exact World.frozen?_alloc_at _ _ _ _ rfl
  · intro e
    have := (ho.lt _ e).2
    omega
end Go.Proofs.Ytapheokmoebgfaa
