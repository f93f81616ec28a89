/-
  The reference's functions on bits.
-/
import Derived.Test.YtapheokmoebgfaaBitW
set_option linter.unusedVariables false
set_option linter.unusedSimpArgs false
namespace Go.Proofs.Ytapheokmoebgfaa
open Go.RowKit Go.Th

theorem Ebool : ElemOf Try.prog 58 4 1 1 := ElemOf.mk' Try.underlying58 (z := .bool false) (by kernel_rfl) rfl (by decide)

def bls (l : List Bool) : List Value := l.map Value.bool

theorem oneCell_bls (l : List Bool) : ∀ u ∈ bls l, u.oneCell' = true := by
  intro u hu
  obtain ⟨x, _, rfl⟩ := List.mem_map.1 hu
  rfl

/-- The number of a row of bits, modulo 2^64. -/
def valL (l : List Bool) : Nat := l.foldl (fun x b => (2 * x + b.toNat) % 18446744073709551616) 0

theorem valL_snoc (l : List Bool) (b : Bool) : valL (l ++ [b]) = (2 * valL l + b.toNat) % 18446744073709551616 := by simp [valL]
theorem valL_lt (l : List Bool) : valL l < 18446744073709551616 := by
  rcases List.eq_nil_or_concat l with rfl | ⟨l', b, rfl⟩
  · simp [valL]
  · rw [List.concat_eq_append, valL_snoc]; omega

theorem wrap_two' (x : Nat) : IntKind.u64.wrap (2 * (x : Int)) = ((2 * x % 18446744073709551616 : Nat) : Int) := by
  simp [IntKind.wrap, IntKind.bits, IntKind.signed]
theorem wrap_two1 (x : Nat) : IntKind.u64.wrap (IntKind.u64.wrap (2 * (x : Int)) + 1) = (((2 * x + 1) % 18446744073709551616 : Nat) : Int) := by
  simp [IntKind.wrap, IntKind.bits, IntKind.signed]

theorem take_snoc_bool (l : List Bool) (k : Nat) (h : k < l.length) : l.take (k + 1) = l.take k ++ [l[k]] := by
  rw [List.take_add_one, List.getElem?_eq_getElem h]; rfl

/-- How many ones come ahead of the first nought. -/
def onesL : List Bool → Option Nat
  | [] => none
  | b :: r => if b then (onesL r).map (· + 1) else some 0

theorem onesL_some (l : List Bool) (i : Nat) (hi : i < l.length) (hall : ∀ j (h : j < l.length), j < i → l[j] = true) (hz : l[i] = false) : onesL l = some i := by
  induction l generalizing i with
  | nil => simp at hi
  | cons b r ih =>
    cases i with
    | zero => simp at hz; simp [onesL, hz]
    | succ i =>
      have hb : b = true := hall 0 (by simp) (by omega)
      have := ih i (by simpa using hi) (fun j h hj => by have := hall (j + 1) (by simp; omega) (by omega); simpa using this) (by simpa using hz)
      simp [onesL, hb, this]

theorem onesL_none (l : List Bool) (hall : ∀ j (h : j < l.length), l[j] = true) : onesL l = none := by
  induction l with
  | nil => rfl
  | cons b r ih =>
    have hb : b = true := hall 0 (by simp)
    have := ih (fun j h => by have := hall (j + 1) (by simp; omega); simpa using this)
    simp [onesL, hb, this]

def onesInt (l : List Bool) : Int := match onesL l with | some n => (n : Int) | none => -1

/-- The bits of bytes, the highest of each first. -/
def rowOf (bs : List Nat) : List Bool := bs.flatMap fun b => (List.range 8).map fun k => b / 2 ^ (7 - k) % 2 == 1

theorem byte_bit : ∀ (b : Fin 256) (k : Fin 8), decide (128 ≤ b.1 * 2 ^ k.1 % 256) = (b.1 / 2 ^ (7 - k.1) % 2 == 1) := by decide +kernel

theorem rowOf_length (bs : List Nat) : (rowOf bs).length = 8 * bs.length := by
  induction bs with
  | nil => rfl
  | cons b r ih => simp only [rowOf, List.flatMap_cons, List.length_append] at ih ⊢; rw [ih]; simp; omega

def partByte (l : List Bool) (i j : Nat) : Nat := (List.range j).foldl (fun n k => 2 * n + (l.getD (8 * i + k) false).toNat) 0

set_option maxHeartbeats 1600000 in
theorem refBytes_any (vx : Value) (l : List Bool) (w : World) (h : Sl w 1 vx l.length (bls l)) (hl : l.length ≤ 1000000) :
    Calls Try.prog 24 #[vx] w fun e w' => ∃ v, e = .returned v ∧ w'.ownsRow w.heap.size 5 1 v (pack l).length (u8s (pack l)) ∧ Below w.heap.size w w' := by
  obtain ⟨a, cap, rfl, h1, h2, h3, h4, h5⟩ := h
  have H5 := Lib.hid h5; clear h5
  go_enter Try.func24, Try.ntmps24
  go_wp2
  go_loopw [3, 4] (fun x c wx => ∃ i : Nat, i ≤ (l.length + 7) / 8 ∧ c = .int .i64 (8 * i : Nat) ∧ wx.ownsRow w.heap.size 5 1 x i (u8s ((List.range i).map (byteAt l))) ∧ Below w.heap.size w wx) (fun _ c _ => l.length + 8 - (intOf c).toNat)
  case atStart => exact ⟨0, Nat.zero_le _, rfl, World.ownsRow_nil _ _ _ _, Below.refl _ _⟩
  case round =>
    obtain ⟨i, hi, rfl, ho, hB⟩ := hrel
    by_cases hlt : 8 * i < l.length
    · obtain ⟨wo, rfl⟩ : ∃ wo : World, wo = wr := ⟨_, rfl⟩
      have hlt' : ((8 * i : Nat) : Int) < (l.length : Int) := by omega
      go_wp2
      go_loop [5, 6] (fun n c => ∃ j : Nat, j ≤ 8 ∧ c = .int .i64 j ∧ n = .int .i64 (partByte l i j : Nat)) (fun _ c => 8 - (intOf c).toNat)
      case atStart => exact ⟨0, Nat.zero_le _, rfl, rfl⟩
      case round =>
        obtain ⟨j, hj, rfl, rfl⟩ := hrel
        obtain ⟨n, hn⟩ : ∃ n, n = partByte l i j := ⟨_, rfl⟩
        have hnb : n < 2 ^ j := by rw [hn]; exact fold_lt _ j
        have hp : 2 ^ j ≤ 256 := Nat.pow_le_pow_right (n := 2) (by decide) hj
        have hn2 : n < 256 := by omega
        rw [← hn]
        clear hp hnb
        by_cases hj8 : j < 8
        · have hsn : partByte l i (j + 1) = 2 * n + (l.getD (8 * i + j) false).toNat := by
            rw [partByte, List.range_succ, List.foldl_append, hn]; rfl
          have HS := Lib.hid hsn; clear hsn hn
          by_cases hin : 8 * i + j < l.length
          · obtain ⟨b, o, rfl, hc⟩ := H5.out (8 * i + j) (.bool (l.getD (8 * i + j) false)) (by simp [bls, hin])
            have hc' := (hB.cell (p := ⟨b, o + (8 * i + j), none⟩) (World.block_lt_of_cell? w _ hc)).trans hc
            clear hc
            have hin' : ((8 * i : Nat) : Int) + (j : Int) < (l.length : Int) := by omega
            cases hb : l.getD (8 * i + j) false
            · rw [hb] at hc' HS
              go_wp2
              go_round
              case rel => exact ⟨j + 1, by omega, by go_num, by rw [HS.out]; go_num⟩
              case measure => simp [intOf]; omega
            · rw [hb] at hc' HS
              go_wp2
              go_round
              case rel => exact ⟨j + 1, by omega, by go_num, by rw [HS.out]; go_num⟩
              case measure => simp [intOf]; omega
          · have hin' : ¬ (((8 * i : Nat) : Int) + (j : Int) < (l.length : Int)) := by omega
            have hd : l.getD (8 * i + j) false = false := by rw [List.getD, List.getElem?_eq_none (by omega)]; rfl
            rw [hd] at HS
            clear hd
            go_wp2
            go_round
            case rel => exact ⟨j + 1, by omega, by go_num, by rw [HS.out]; go_num⟩
            case measure => simp [intOf]; omega
        · obtain rfl : j = 8 := by omega
          have hnn : n = byteAt l i := hn
          have HN := Lib.hid hnn; clear hnn hn
          go_wp2_with (at_builtin; refine wpList_app Eu8 rfl (.tmp 35) (.tmp 38) rfl w.heap.size rfl (ho.alloc _) rfl (Sl.one _ _ _) (by intro u hu; simp at hu; subst hu; rfl) (by unfold maxLen; omega) (by omega) (by have := hB.size; simp; omega) ?_)
          intro v2 w2 ho2 hg2 _
          have hB2 := (hB.alloc hB.size (.cells #[.int .u8 n] 5)).grown hg2 (by have := hB.size; simp; omega) (fun q hq => (ho.lt q hq).1)
          clear ho hB hg2
          go_wp2
          go_roundw
          case rel =>
            refine ⟨i + 1, by omega, by go_num, ?_, hB2⟩
            rw [List.range_succ, List.map_append, List.map_singleton, ← HN.out]
            simpa [u8s] using ho2
          case measure => simp [intOf]; omega
    · have hi' : i = (l.length + 7) / 8 := by omega
      subst hi'
      have hlt' : ¬ (((8 * ((l.length + 7) / 8) : Nat) : Int) < (l.length : Int)) := by omega
      go_wp2
      go_ret
      exact ⟨_, rfl, by simpa [pack, pack_length] using ho, hB⟩

end Go.Proofs.Ytapheokmoebgfaa
