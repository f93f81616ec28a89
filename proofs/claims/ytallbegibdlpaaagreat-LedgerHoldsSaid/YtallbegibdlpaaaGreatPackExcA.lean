/-
  Texts in one: ExcA, ExcB, ExcC, ExcD, ExcE, ExcF.
-/
import Derived.Test.YtallbegibdlpaaaGreatPackExactB
import Derived.Deep.Cut
import Derived.Deep.CutRange
import Derived.BigQuiet
set_option linter.unusedVariables false
set_option linter.unusedSimpArgs false

/-
  The code's filter: a number as one that counts, the sum of all, the sides that may be, one place.
-/
namespace Go.Proofs.YtallbegibdlpaaaGreat
open Go Go.RowKit Go.Th Go.Th.Dig Go.Th.Ex Go.Th.Grid

abbrev AnsV17 (f : Nat) (args : Array Value) (w : World) (p : Nat) : Prop := Calls Tryz.prog f args w fun e w' => ∃ v, e = .returned v ∧ IsN w' v p ∧ Below w.heap.size w w'

set_option maxRecDepth 20000 in
theorem counted_any (x : Nat) (hx : x < 9223372036854775808) (w : World) : AnsV17 22 #[.int .i64 x] w x := by
  have C1 := Lib.hid (of_any x (by omega))
  have hx0 : (0 : Int) ≤ (x : Int) := by omega
  have hmx : max (x : Int) 0 = (x : Int) := by omega
  have hwr : IntKind.u64.wrap (x : Int) = (x : Int) := u64_in _ (by omega)
  have M0 := Mem.start w
  clear hx
  go_enter Tryz.func22, Tryz.ntmps22
  go_wp2_with ((with_reducible refine (?_ : Go.wpList _ _ _ (_ :: _) _ _)); (first | go_skip | (refine wpL_bx M0 rfl rfl rfl rfl ?_; clear M0; intro g1 w1 M1) | (refine wpL_alc M0 rfl rfl ?_; clear M0; intro g1 w1 M1) | (refine wpL_ldc M0 rfl rfl rfl ?_) | (refine wpL_lgc M0 rfl rfl rfl ?_) | (refine wpL_stc M0 rfl rfl rfl rfl ?_; clear M0; intro w' M0) | (refine wpL_sti M0 rfl rfl rfl rfl ?_; clear M0; intro w' M0) | (refine wpL_sth M0 rfl rfl rfl rfl (wr_minus _ _ _) ?_; clear M0; intro w' M0) | (refine wpL_ldc M1 rfl rfl rfl ?_) | (refine wpL_lgc M1 rfl rfl rfl ?_) | (refine wpL_stc M1 rfl rfl rfl rfl ?_; clear M1; intro w' M1) | (refine wpL_sti M1 rfl rfl rfl rfl ?_; clear M1; intro w' M1) | (refine wpL_sth M1 rfl rfl rfl rfl (wr_minus _ _ _) ?_; clear M1; intro w' M1)))
  refine (C1.out _).mono ?_
  rintro e w2 ⟨v, rfl, hv, hA⟩
  have M2 := M1.call hA
  obtain ⟨d, c, rfl, hS⟩ := hv.form
  have K2 := M2.has (Has.head _ _ _ _)
  clear M1
  go_wp2_with ((with_reducible refine (?_ : Go.wpList _ _ _ (_ :: _) _ _)); (first | go_skip | (refine wpL_ldc M2 rfl rfl rfl ?_) | (refine wpL_lgc M2 rfl rfl rfl ?_) | (refine wpL_stcT M2 rfl rfl rfl rfl ?_; clear M2; intro w' M2 hT) | (refine wpL_stiT M2 rfl rfl rfl rfl ?_; clear M2; intro w' M2 hT)))
  refine bodyPost_ret (res_cell rfl M2 rfl (Has.head _ _ _ _) (rd_nat _)) rfl ?_
  exact ⟨_, rfl, hv.kept K2 (noPart_sl _ _ _) hT, M2.below⟩

theorem IsV.nats {w : World} {a : Option Addr} {n cap : Nat} {fs : List Nat} (h : IsV w a n cap fs) : ∃ cs, Nats w a n cap cs fs := by
  obtain ⟨cs, h, _⟩ := h
  exact ⟨cs, h⟩
theorem tot_all {fs : List Nat} {n : Nat} (h : fs.length = n) : tot fs n = fs.sum := by
  unfold tot
  rw [← h, List.take_length]

set_option maxRecDepth 20000 in
theorem fsum_any (x y : Int) (a : Option Addr) (n cap : Nat) (fs : List Nat) (hn : n ≤ 1000) (hl : ∀ k, len32 (fs.getD k 0) ≤ 1000) (w : World) (hV : IsV w a n cap fs) : AnsV17 42 #[fv x y (.slice a n cap)] w fs.sum := by
  obtain ⟨cs, hN⟩ := hV.nats
  have C1 := Lib.hid (fun wx (hx : Below w.heap.size w wx) => sum_any a n cap cs fs wx (hN.below hx) hn hl)
  rw [tot_all hV.len] at C1
  have M0 := Mem.start w
  clear hV hN hl
  go_enter Tryz.func42, Tryz.ntmps42
  go_wp2_with ((with_reducible refine (?_ : Go.wpList _ _ _ (_ :: _) _ _)); (first | go_skip | (refine wpL_bx M0 rfl rfl rfl rfl ?_; clear M0; intro g1 w1 M1) | (refine wpL_alc M0 rfl rfl ?_; clear M0; intro g1 w1 M1) | (refine wpL_ldc M0 rfl rfl rfl ?_) | (refine wpL_lgc M0 rfl rfl rfl ?_) | (refine wpL_stc M0 rfl rfl rfl rfl ?_; clear M0; intro w' M0) | (refine wpL_sti M0 rfl rfl rfl rfl ?_; clear M0; intro w' M0) | (refine wpL_sth M0 rfl rfl rfl rfl (wr_minus _ _ _) ?_; clear M0; intro w' M0) | (refine wpL_bx M1 rfl rfl rfl rfl ?_; clear M1; intro g2 w2 M2) | (refine wpL_alc M1 rfl rfl ?_; clear M1; intro g2 w2 M2) | (refine wpL_ldc M1 rfl rfl rfl ?_) | (refine wpL_lgc M1 rfl rfl rfl ?_) | (refine wpL_stc M1 rfl rfl rfl rfl ?_; clear M1; intro w' M1) | (refine wpL_sti M1 rfl rfl rfl rfl ?_; clear M1; intro w' M1) | (refine wpL_sth M1 rfl rfl rfl rfl (wr_minus _ _ _) ?_; clear M1; intro w' M1) | (refine wpL_ldc M2 rfl rfl rfl ?_) | (refine wpL_lgc M2 rfl rfl rfl ?_) | (refine wpL_stc M2 rfl rfl rfl rfl ?_; clear M2; intro w' M2) | (refine wpL_sti M2 rfl rfl rfl rfl ?_; clear M2; intro w' M2) | (refine wpL_sth M2 rfl rfl rfl rfl (wr_minus _ _ _) ?_; clear M2; intro w' M2)))
  refine (C1.out _ M2.below).mono ?_
  rintro e w3 ⟨v, rfl, hv, hA⟩
  have M3 := M2.call hA
  obtain ⟨d, c, rfl, hS⟩ := hv.form
  have K3 := M3.has (Has.head _ _ _ _)
  clear M2
  go_wp2_with ((with_reducible refine (?_ : Go.wpList _ _ _ (_ :: _) _ _)); (first | go_skip | (refine wpL_ldc M3 rfl rfl rfl ?_) | (refine wpL_lgc M3 rfl rfl rfl ?_) | (refine wpL_stcT M3 rfl rfl rfl rfl ?_; clear M3; intro w' M3 hT) | (refine wpL_stiT M3 rfl rfl rfl rfl ?_; clear M3; intro w' M3 hT)))
  refine bodyPost_ret (res_cell rfl M3 rfl (Has.head _ _ _ _) (rd_nat _)) rfl ?_
  exact ⟨_, rfl, hv.kept K3 (noPart_sl _ _ _) hT, M3.below⟩

/-- So many columns and rows there may be. -/
theorem isSides_any (x y : Nat) (hx : x ≤ 4096) (hy : y ≤ 4096) (w : World) : Calls Tryz.prog 96 #[.int .i64 x, .int .i64 y] w fun e w' => e = .returned (.bool true) ∧ w' = w := by
  have h1 : ¬ min (x : Int) (y : Int) < 0 := by omega
  have h1' : 0 ≤ min (x : Int) (y : Int) := by omega
  have h2 : max (x : Int) (y : Int) ≤ 89478485 := by omega
  by_cases hy0 : y = 0
  · subst hy0
    go_enter Tryz.func96, Tryz.ntmps96
    go_wp2_with fail
    go_ret
    exact ⟨rfl, rfl⟩
  · obtain ⟨q, hq⟩ : ∃ q : Nat, q = 89478485 / y := ⟨_, rfl⟩
    have hq1 : 89478485 / 4096 ≤ q := by rw [hq]; exact Nat.div_le_div_left hy (by omega)
    have hq2 : q ≤ 89478485 := by rw [hq]; exact Nat.div_le_self _ _
    have hqq : (89478485 : Int) / (y : Int) = (q : Int) := by rw [hq]; simp
    have hqt : (89478485 : Int).tdiv (y : Int) = (q : Int) := by rw [Int.tdiv_eq_ediv_of_nonneg (by omega), hqq]
    have hw1 : IntKind.i64.wrap (q : Int) = (q : Int) := IntWalk.i64_in _ (by omega)
    have hw2 : wrap64 (q : Int) = (q : Int) := IntWalk.wrap64_in _ (by omega)
    have h3 : (x : Int) ≤ (q : Int) := by omega
    have h4 : ¬ (y : Int) = 0 := by omega
    have h5 : ¬ y = 0 := hy0
    clear hq hq1
    go_enter Tryz.func96, Tryz.ntmps96
    go_wp2_with fail
    go_ret
    exact ⟨rfl, rfl⟩

set_option maxRecDepth 20000 in
theorem isWhole_any (x y : Nat) (a : Option Addr) (n cap : Nat) (hx : x ≤ 64) (hy : y ≤ 64) (hn : n = x * y) (w : World) : Calls Tryz.prog 64 #[fv x y (.slice a n cap)] w fun e w' => e = .returned (.bool true) ∧ Below w.heap.size w w' := by
  have C1 := Lib.hid (isSides_any x y (by omega) (by omega))
  have hle : x * y ≤ 64 * 64 := Nat.mul_le_mul hx hy
  have hxy : (x : Int) * (y : Int) = (n : Int) := by rw [hn]; simp
  have hn1 : n ≤ 4096 := by omega
  have M0 := Mem.start w
  clear hn hle
  go_enter Tryz.func64, Tryz.ntmps64
  go_wp2_with ((with_reducible refine (?_ : Go.wpList _ _ _ (_ :: _) _ _)); (first | go_skip | (refine wpL_bx M0 rfl rfl rfl rfl ?_; clear M0; intro g1 w1 M1) | (refine wpL_alc M0 rfl rfl ?_; clear M0; intro g1 w1 M1) | (refine wpL_ldc M0 rfl rfl rfl ?_) | (refine wpL_lgc M0 rfl rfl rfl ?_) | (refine wpL_stc M0 rfl rfl rfl rfl ?_; clear M0; intro w' M0) | (refine wpL_sti M0 rfl rfl rfl rfl ?_; clear M0; intro w' M0) | (refine wpL_sth M0 rfl rfl rfl rfl (wr_minus _ _ _) ?_; clear M0; intro w' M0) | (refine wpL_ldc M1 rfl rfl rfl ?_) | (refine wpL_lgc M1 rfl rfl rfl ?_) | (refine wpL_stc M1 rfl rfl rfl rfl ?_; clear M1; intro w' M1) | (refine wpL_sti M1 rfl rfl rfl rfl ?_; clear M1; intro w' M1) | (refine wpL_sth M1 rfl rfl rfl rfl (wr_minus _ _ _) ?_; clear M1; intro w' M1)))
  refine (C1.out _).mono ?_
  rintro e w2 ⟨rfl, rfl⟩
  go_wp2_with ((with_reducible refine (?_ : Go.wpList _ _ _ (_ :: _) _ _)); (first | go_skip | (refine wpL_ldc M1 rfl rfl rfl ?_) | (refine wpL_lgc M1 rfl rfl rfl ?_) | (refine wpL_stc M1 rfl rfl rfl rfl ?_; clear M1; intro w' M1) | (refine wpL_sti M1 rfl rfl rfl rfl ?_; clear M1; intro w' M1) | (refine wpL_sth M1 rfl rfl rfl rfl (wr_minus _ _ _) ?_; clear M1; intro w' M1)))
  go_ret
  exact ⟨rfl, M1.below⟩

/-- Is there such a place? -/
def hasB (x y : Nat) (ax ay : Int) : Bool := decide (0 ≤ ax) && decide (ax < (x : Int)) && decide (0 ≤ ay) && decide (ay < (y : Int))
set_option maxRecDepth 20000 in
set_option maxHeartbeats 3200000 in
theorem has_any (x y : Nat) (ax ay : Int) (v : Value) (w : World) : Calls Tryz.prog 99 #[fv x y v, .int .i64 ax, .int .i64 ay] w fun e w' => e = .returned (.bool (hasB x y ax ay)) ∧ Below w.heap.size w w' := by
  unfold hasB
  have M0 := Mem.start w
  by_cases h1 : 0 ≤ ax
  · by_cases h2 : ax < (x : Int)
    · by_cases h3 : 0 ≤ ay
      · by_cases h4 : ay < (y : Int)
        · go_enter Tryz.func99, Tryz.ntmps99
          go_wp2_with ((with_reducible refine (?_ : Go.wpList _ _ _ (_ :: _) _ _)); (first | go_skip | (refine wpL_bx M0 rfl rfl rfl rfl ?_; clear M0; intro g1 w1 M1) | (refine wpL_alc M0 rfl rfl ?_; clear M0; intro g1 w1 M1) | (refine wpL_ldc M0 rfl rfl rfl ?_) | (refine wpL_lgc M0 rfl rfl rfl ?_) | (refine wpL_stc M0 rfl rfl rfl rfl ?_; clear M0; intro w' M0) | (refine wpL_sti M0 rfl rfl rfl rfl ?_; clear M0; intro w' M0) | (refine wpL_sth M0 rfl rfl rfl rfl (wr_minus _ _ _) ?_; clear M0; intro w' M0) | (refine wpL_ldc M1 rfl rfl rfl ?_) | (refine wpL_lgc M1 rfl rfl rfl ?_) | (refine wpL_stc M1 rfl rfl rfl rfl ?_; clear M1; intro w' M1) | (refine wpL_sti M1 rfl rfl rfl rfl ?_; clear M1; intro w' M1) | (refine wpL_sth M1 rfl rfl rfl rfl (wr_minus _ _ _) ?_; clear M1; intro w' M1)))
          go_ret
          exact ⟨ret_bool (by simp [h1, h2, h3, h4]), M1.below⟩
        · have E4 := Lib.hid (decide_eq_false h4)
          go_enter Tryz.func99, Tryz.ntmps99
          go_wp2_with ((with_reducible refine (?_ : Go.wpList _ _ _ (_ :: _) _ _)); (first | go_skip | (refine wpL_bx M0 rfl rfl rfl rfl ?_; clear M0; intro g1 w1 M1) | (refine wpL_alc M0 rfl rfl ?_; clear M0; intro g1 w1 M1) | (refine wpL_ldc M0 rfl rfl rfl ?_) | (refine wpL_lgc M0 rfl rfl rfl ?_) | (refine wpL_stc M0 rfl rfl rfl rfl ?_; clear M0; intro w' M0) | (refine wpL_sti M0 rfl rfl rfl rfl ?_; clear M0; intro w' M0) | (refine wpL_sth M0 rfl rfl rfl rfl (wr_minus _ _ _) ?_; clear M0; intro w' M0) | (refine wpL_ldc M1 rfl rfl rfl ?_) | (refine wpL_lgc M1 rfl rfl rfl ?_) | (refine wpL_stc M1 rfl rfl rfl rfl ?_; clear M1; intro w' M1) | (refine wpL_sti M1 rfl rfl rfl rfl ?_; clear M1; intro w' M1) | (refine wpL_sth M1 rfl rfl rfl rfl (wr_minus _ _ _) ?_; clear M1; intro w' M1)))
          go_ret
          exact ⟨ret_bool (by rw [E4.out]), M1.below⟩
      · have E3 := Lib.hid (decide_eq_false h3)
        go_enter Tryz.func99, Tryz.ntmps99
        go_wp2_with ((with_reducible refine (?_ : Go.wpList _ _ _ (_ :: _) _ _)); (first | go_skip | (refine wpL_bx M0 rfl rfl rfl rfl ?_; clear M0; intro g1 w1 M1) | (refine wpL_alc M0 rfl rfl ?_; clear M0; intro g1 w1 M1) | (refine wpL_ldc M0 rfl rfl rfl ?_) | (refine wpL_lgc M0 rfl rfl rfl ?_) | (refine wpL_stc M0 rfl rfl rfl rfl ?_; clear M0; intro w' M0) | (refine wpL_sti M0 rfl rfl rfl rfl ?_; clear M0; intro w' M0) | (refine wpL_sth M0 rfl rfl rfl rfl (wr_minus _ _ _) ?_; clear M0; intro w' M0) | (refine wpL_ldc M1 rfl rfl rfl ?_) | (refine wpL_lgc M1 rfl rfl rfl ?_) | (refine wpL_stc M1 rfl rfl rfl rfl ?_; clear M1; intro w' M1) | (refine wpL_sti M1 rfl rfl rfl rfl ?_; clear M1; intro w' M1) | (refine wpL_sth M1 rfl rfl rfl rfl (wr_minus _ _ _) ?_; clear M1; intro w' M1)))
        go_ret
        exact ⟨ret_bool (by rw [E3.out]; simp), M1.below⟩
    · have E2 := Lib.hid (decide_eq_false h2)
      go_enter Tryz.func99, Tryz.ntmps99
      go_wp2_with ((with_reducible refine (?_ : Go.wpList _ _ _ (_ :: _) _ _)); (first | go_skip | (refine wpL_bx M0 rfl rfl rfl rfl ?_; clear M0; intro g1 w1 M1) | (refine wpL_alc M0 rfl rfl ?_; clear M0; intro g1 w1 M1) | (refine wpL_ldc M0 rfl rfl rfl ?_) | (refine wpL_lgc M0 rfl rfl rfl ?_) | (refine wpL_stc M0 rfl rfl rfl rfl ?_; clear M0; intro w' M0) | (refine wpL_sti M0 rfl rfl rfl rfl ?_; clear M0; intro w' M0) | (refine wpL_sth M0 rfl rfl rfl rfl (wr_minus _ _ _) ?_; clear M0; intro w' M0) | (refine wpL_ldc M1 rfl rfl rfl ?_) | (refine wpL_lgc M1 rfl rfl rfl ?_) | (refine wpL_stc M1 rfl rfl rfl rfl ?_; clear M1; intro w' M1) | (refine wpL_sti M1 rfl rfl rfl rfl ?_; clear M1; intro w' M1) | (refine wpL_sth M1 rfl rfl rfl rfl (wr_minus _ _ _) ?_; clear M1; intro w' M1)))
      go_ret
      exact ⟨ret_bool (by rw [E2.out]; simp), M1.below⟩
  · have E1 := Lib.hid (decide_eq_false h1)
    go_enter Tryz.func99, Tryz.ntmps99
    go_wp2_with ((with_reducible refine (?_ : Go.wpList _ _ _ (_ :: _) _ _)); (first | go_skip | (refine wpL_bx M0 rfl rfl rfl rfl ?_; clear M0; intro g1 w1 M1) | (refine wpL_alc M0 rfl rfl ?_; clear M0; intro g1 w1 M1) | (refine wpL_ldc M0 rfl rfl rfl ?_) | (refine wpL_lgc M0 rfl rfl rfl ?_) | (refine wpL_stc M0 rfl rfl rfl rfl ?_; clear M0; intro w' M0) | (refine wpL_sti M0 rfl rfl rfl rfl ?_; clear M0; intro w' M0) | (refine wpL_sth M0 rfl rfl rfl rfl (wr_minus _ _ _) ?_; clear M0; intro w' M0) | (refine wpL_ldc M1 rfl rfl rfl ?_) | (refine wpL_lgc M1 rfl rfl rfl ?_) | (refine wpL_stc M1 rfl rfl rfl rfl ?_; clear M1; intro w' M1) | (refine wpL_sti M1 rfl rfl rfl rfl ?_; clear M1; intro w' M1) | (refine wpL_sth M1 rfl rfl rfl rfl (wr_minus _ _ _) ?_; clear M1; intro w' M1)))
    go_ret
    exact ⟨ret_bool (by rw [E1.out]; simp), M1.below⟩

/-- How much a place is believed; nought, where there is none. -/
def fat (fs : List Nat) (x y : Nat) (ax ay : Int) : Nat := if hasB x y ax ay then fs.getD (ay.toNat * x + ax.toNat) 0 else 0
theorem isN_nil (w : World) : IsN w (.agg #[.slice none 0 0]) 0 := by
  refine ⟨none, 0, by rw [dg_0]; rfl, ?_⟩
  rw [dg_0]
  exact ⟨none, 0, rfl, rfl, Nat.le_refl _, by unfold maxLen; omega, fun _ => ⟨rfl, rfl⟩, fun j u h => by simp [u32s] at h⟩

set_option maxRecDepth 20000 in
set_option maxHeartbeats 3200000 in
theorem at_any17 (x y : Nat) (ax ay : Int) (a : Option Addr) (n cap : Nat) (fs : List Nat) (hn : n = x * y) (hx : x ≤ 64) (hy : y ≤ 64) (w : World) (hV : IsV w a n cap fs) : AnsV17 72 #[fv x y (.slice a n cap), .int .i64 ax, .int .i64 ay] w (fat fs x y ax ay) := by
  have C1 := Lib.hid (has_any x y ax ay (.slice a n cap))
  have hmx := hV.max
  have HV := Lib.hid hV
  have M0 := Mem.start w
  clear hV
  by_cases hb : hasB x y ax ay = true
  · have hf : fat fs x y ax ay = fs.getD (ay.toNat * x + ax.toNat) 0 := by unfold fat; rw [if_pos hb]
    rw [hb] at C1
    unfold hasB at hb
    simp only [Bool.and_eq_true, decide_eq_true_eq] at hb
    obtain ⟨⟨⟨h1, h2⟩, h3⟩, h4⟩ := hb
    obtain ⟨i, rfl⟩ := Int.eq_ofNat_of_zero_le h1
    obtain ⟨j, rfl⟩ := Int.eq_ofNat_of_zero_le h3
    have hk : j * x + i < n := by rw [hn]; exact at_lt17 (by omega) (by omega)
    have hle : j * x ≤ 64 * 64 := Nat.mul_le_mul (by omega) hx
    rw [hf, Int.toNat_natCast, Int.toNat_natCast]
    obtain ⟨k0, hk0⟩ : ∃ k0, k0 = j * x := ⟨_, rfl⟩
    have hmul : (j : Int) * (x : Int) = (k0 : Int) := by rw [hk0]; simp
    rw [← hk0] at hk hle ⊢
    have hi64 : i ≤ 64 := by omega
    clear hf hn hk0 h1 h2 h3 h4
    go_enter Tryz.func72, Tryz.ntmps72
    go_wp2_with ((with_reducible refine (?_ : Go.wpList _ _ _ (_ :: _) _ _)); (first | go_skip | (refine wpL_bx M0 rfl rfl rfl rfl ?_; clear M0; intro g1 w1 M1) | (refine wpL_alc M0 rfl rfl ?_; clear M0; intro g1 w1 M1) | (refine wpL_ldc M0 rfl rfl rfl ?_) | (refine wpL_lgc M0 rfl rfl rfl ?_) | (refine wpL_stc M0 rfl rfl rfl rfl ?_; clear M0; intro w' M0) | (refine wpL_sti M0 rfl rfl rfl rfl ?_; clear M0; intro w' M0) | (refine wpL_sth M0 rfl rfl rfl rfl (wr_minus _ _ _) ?_; clear M0; intro w' M0) | (refine wpL_bx M1 rfl rfl rfl rfl ?_; clear M1; intro g2 w2 M2) | (refine wpL_alc M1 rfl rfl ?_; clear M1; intro g2 w2 M2) | (refine wpL_ldc M1 rfl rfl rfl ?_) | (refine wpL_lgc M1 rfl rfl rfl ?_) | (refine wpL_stc M1 rfl rfl rfl rfl ?_; clear M1; intro w' M1) | (refine wpL_sti M1 rfl rfl rfl rfl ?_; clear M1; intro w' M1) | (refine wpL_sth M1 rfl rfl rfl rfl (wr_minus _ _ _) ?_; clear M1; intro w' M1) | (refine wpL_ldc M2 rfl rfl rfl ?_) | (refine wpL_lgc M2 rfl rfl rfl ?_) | (refine wpL_stc M2 rfl rfl rfl rfl ?_; clear M2; intro w' M2) | (refine wpL_sti M2 rfl rfl rfl rfl ?_; clear M2; intro w' M2) | (refine wpL_sth M2 rfl rfl rfl rfl (wr_minus _ _ _) ?_; clear M2; intro w' M2)))
    refine (C1.out _).mono ?_
    rintro e w3 ⟨rfl, hA⟩
    have M3 := M2.call hA
    obtain ⟨b, o, d, e, f, rfl, hb, hc, hd⟩ := (HV.out.below M3.below).cell hk
    have HD := Lib.hid hd
    have c0 := M3.cell (.tail _ _ _ _ _ (Has.head _ _ _ _)) (i := 0) rfl
    have c2 := M3.cell (.tail _ _ _ _ _ (Has.head _ _ _ _)) (i := 2) rfl
    have K3 := M3.has (Has.head _ _ _ _)
    clear M2 hd
    go_wp2_with ((with_reducible refine (?_ : Go.wpList _ _ _ (_ :: _) _ _)); (first | go_skip | (refine wpL_ldc M3 rfl rfl rfl ?_) | (refine wpL_lgc M3 rfl rfl rfl ?_) | (refine wpL_stcT M3 rfl rfl rfl rfl ?_; clear M3; intro w' M3 hT) | (refine wpL_stiT M3 rfl rfl rfl rfl ?_; clear M3; intro w' M3 hT)))
    refine bodyPost_ret (res_cell rfl M3 rfl (Has.head _ _ _ _) (rd_nat _)) rfl ?_
    exact ⟨_, rfl, HD.out.kept K3 (noPart_sl _ _ _) hT, M3.below⟩
  · have hb : hasB x y ax ay = false := by simpa using hb
    have hf : fat fs x y ax ay = 0 := by unfold fat; rw [if_neg (by rw [hb]; decide)]
    rw [hb] at C1
    rw [hf]
    clear hf hb hn
    go_enter Tryz.func72, Tryz.ntmps72
    go_wp2_with ((with_reducible refine (?_ : Go.wpList _ _ _ (_ :: _) _ _)); (first | go_skip | (refine wpL_bx M0 rfl rfl rfl rfl ?_; clear M0; intro g1 w1 M1) | (refine wpL_alc M0 rfl rfl ?_; clear M0; intro g1 w1 M1) | (refine wpL_ldc M0 rfl rfl rfl ?_) | (refine wpL_lgc M0 rfl rfl rfl ?_) | (refine wpL_stc M0 rfl rfl rfl rfl ?_; clear M0; intro w' M0) | (refine wpL_sti M0 rfl rfl rfl rfl ?_; clear M0; intro w' M0) | (refine wpL_sth M0 rfl rfl rfl rfl (wr_minus _ _ _) ?_; clear M0; intro w' M0) | (refine wpL_bx M1 rfl rfl rfl rfl ?_; clear M1; intro g2 w2 M2) | (refine wpL_alc M1 rfl rfl ?_; clear M1; intro g2 w2 M2) | (refine wpL_ldc M1 rfl rfl rfl ?_) | (refine wpL_lgc M1 rfl rfl rfl ?_) | (refine wpL_stc M1 rfl rfl rfl rfl ?_; clear M1; intro w' M1) | (refine wpL_sti M1 rfl rfl rfl rfl ?_; clear M1; intro w' M1) | (refine wpL_sth M1 rfl rfl rfl rfl (wr_minus _ _ _) ?_; clear M1; intro w' M1) | (refine wpL_ldc M2 rfl rfl rfl ?_) | (refine wpL_lgc M2 rfl rfl rfl ?_) | (refine wpL_stc M2 rfl rfl rfl rfl ?_; clear M2; intro w' M2) | (refine wpL_sti M2 rfl rfl rfl rfl ?_; clear M2; intro w' M2) | (refine wpL_sth M2 rfl rfl rfl rfl (wr_minus _ _ _) ?_; clear M2; intro w' M2)))
    refine (C1.out _).mono ?_
    rintro e w3 ⟨rfl, hA⟩
    have M3 := M2.call hA
    have K3 := M3.has (Has.head _ _ _ _)
    clear M2
    go_wp2_with ((with_reducible refine (?_ : Go.wpList _ _ _ (_ :: _) _ _)); (first | go_skip | (refine wpL_ldc M3 rfl rfl rfl ?_) | (refine wpL_lgc M3 rfl rfl rfl ?_) | (refine wpL_stcT M3 rfl rfl rfl rfl ?_; clear M3; intro w' M3 hT) | (refine wpL_stiT M3 rfl rfl rfl rfl ?_; clear M3; intro w' M3 hT)))
    refine bodyPost_ret (res_cell rfl M3 rfl (Has.head _ _ _ _) (rd_nat _)) rfl ?_
    exact ⟨_, rfl, isN_nil _, M3.below⟩
end Go.Proofs.YtallbegibdlpaaaGreat

/-
  A filter laid place by place by a function, and one made of another one's places: the code's.
-/
namespace Go.Proofs.YtallbegibdlpaaaGreat
open Go Go.RowKit Go.Th Go.Th.Dig Go.Th.Ex Go.Th.Grid

set_option maxRecDepth 20000 in
theorem run_mkNat (m : Nat) (hm : m ≤ 1000000) (wx : World) : (Instr.makeSlice 30 (.int .i64 (m : Int)) (.int .i64 (m : Int))).run Tryz.prog wx = .ok (.slice (some ⟨wx.heap.size, 0, none⟩) m m) (wx.alloc (.cells (List.replicate m (Value.slice none 0 0)).toArray 63)) := by
  obtain ⟨i, hi, h1, h2, h3⟩ := info_parts (P := Tryz.prog) (e := 63) (z := .agg #[.slice none 0 0]) (size := 1) (bytes := 24) (by kernel_rfl)
  have hr := run_make (P := Tryz.prog) wx 30 63 i (.agg #[.slice none 0 0]) Tryz.underlying30 hi h1 .i64 .i64 (m : Int) (m : Int) (by omega) (Int.le_refl _) (by rw [h3]; omega) (by omega)
  rw [hr, h2, Nat.mul_one]
  simp only [Int.toNat_natCast]
  congr 4
  apply Array.ext'
  show (madeCells #[Value.slice none 0 0] m).toList = _
  rw [toList_madeCells_one]
/-- The first ones are told, the others noughts. -/
def partN (F : Nat → Nat) (k j : Nat) : Nat := if j < k then F j else 0
/-- A row of numbers that is being filled. -/
structure NatsB (w : World) (n : Nat) (cs : List Value) (f : Nat → Nat) : Prop where
  len : cs.length = n
  is : ∀ j, j < n → ∃ b c, cs[j]? = some (.slice b (len32 (f j)) c) ∧ Sl w 1 (.slice b (len32 (f j)) c) (len32 (f j)) (u32s (dg 4294967296 (f j)))
theorem sl_nil32 (w : World) : Sl w 1 (.slice none (len32 0) 0) (len32 0) (u32s (dg 4294967296 0)) := by
  rw [dg_0]
  exact ⟨none, 0, rfl, rfl, Nat.le_refl _, by unfold maxLen; omega, fun _ => ⟨rfl, rfl⟩, fun j u h => by simp [u32s] at h⟩
theorem NatsB.start (w : World) (n : Nat) (F : Nat → Nat) : NatsB w n (List.replicate n (.slice none 0 0)) (partN F 0) := by
  refine ⟨by simp, fun j hj => ⟨none, 0, ?_, ?_⟩⟩
  · have e : partN F 0 j = 0 := if_neg (Nat.not_lt_zero _)
    have e2 : len32 0 = 0 := (len32_0 0).2 rfl
    rw [e, e2]
    simp [List.getElem?_replicate, hj]
  · have e : partN F 0 j = 0 := if_neg (Nat.not_lt_zero _)
    rw [e]
    exact sl_nil32 w
theorem NatsB.below {w w' : World} {n : Nat} {cs : List Value} {f : Nat → Nat} (h : NatsB w n cs f) (hB : Below w.heap.size w w') : NatsB w' n cs f :=
  ⟨h.len, fun j hj => let ⟨b, c, h1, h2⟩ := h.is j hj; ⟨b, c, h1, h2.below hB⟩⟩
theorem NatsB.noPart {w : World} {n : Nat} {cs : List Value} {f : Nat → Nat} (h : NatsB w n cs f) : NoPart cs := by
  intro u hu x e
  obtain ⟨j, hj⟩ := List.mem_iff_getElem?.1 hu
  have hjn : j < n := by
    rw [← h.len]
    exact (List.getElem?_eq_some_iff.1 hj).1
  obtain ⟨b, c, h1, _⟩ := h.is j hjn
  rw [hj] at h1
  rw [e] at h1
  cases h1
theorem NatsB.turnedB {w w' : World} {n g : Nat} {t : TypeId} {cs cs0 : List Value} {f : Nat → Nat} (h : NatsB w n cs f) (K : Blk w g t cs0) (hno : NoPart cs0) (hT : Turned (fun k => k = g) w w') : NatsB w' n cs f :=
  ⟨h.len, fun j hj => let ⟨b, c, h1, h2⟩ := h.is j hj; ⟨b, c, h1, sl_kept h2 K hno hT⟩⟩
theorem NatsB.step {w w' : World} {n k g : Nat} {t : TypeId} {cs : List Value} {F : Nat → Nat} {d : Option Addr} {c : Nat} (h : NatsB w n cs (partN F k)) (hk : k < n) (K : Blk w g t cs) (hS : Sl w 1 (.slice d (len32 (F k)) c) (len32 (F k)) (u32s (dg 4294967296 (F k)))) (hT : Turned (fun k => k = g) w w') :
    NatsB w' n (cs.set k (.slice d (len32 (F k)) c)) (partN F (k + 1)) := by
  refine ⟨by rw [List.length_set]; exact h.len, fun j hj => ?_⟩
  by_cases e : j = k
  · subst e
    have e1 : partN F (j + 1) j = F j := if_pos (Nat.lt_succ_self _)
    rw [e1]
    exact ⟨d, c, by rw [List.getElem?_set_self (by rw [h.len]; exact hj)], sl_kept hS K h.noPart hT⟩
  · have e1 : partN F (k + 1) j = partN F k j := by
      unfold partN
      by_cases hjk : j < k
      · rw [if_pos hjk, if_pos (by omega)]
      · rw [if_neg hjk, if_neg (by omega)]
    rw [e1]
    obtain ⟨b, c', h1, h2⟩ := h.is j hj
    exact ⟨b, c', by rw [List.getElem?_set_ne (by omega)]; exact h1, sl_kept h2 K h.noPart hT⟩
theorem NatsB.isV {w : World} {n g : Nat} {cs : List Value} {F : Nat → Nat} (h : NatsB w n cs (partN F n)) (K : Blk w g 63 cs) (hn : n ≤ 1000000) : IsV w (some ⟨g, 0, none⟩) n n (tabN F n) := by
  refine ⟨cs, ⟨⟨_, _, rfl, by rw [h.len, Nat.mul_one], Nat.le_refl _, by unfold maxLen; omega, fun h => (by cases h), fun j u hu => ⟨_, _, rfl, by have := K.cell hu; simpa using this⟩⟩, tabN_length _ _, fun j hj => ?_⟩, tyR_blk K 0 n n⟩
  obtain ⟨b, c, h1, h2⟩ := h.is j hj
  have e1 : partN F n j = F j := if_pos hj
  rw [e1] at h1 h2
  rw [tabN_getD F n j hj]
  exact ⟨b, c, h1, h2⟩
theorem wr_natAt {cs : List Value} {i : Nat} (s : Value) (h : i < cs.length) (h1 : s.oneCell' = true) : Wr Tryz.prog 63 i cs (.agg #[s]) (cs.set i s) := by
  have hw := Wr.agg (P := Tryz.prog) (ty := 63) (off := i) (cs := cs) (ds := [s]) size26 (by simp; omega) (by intro u hu; rw [List.mem_singleton.1 hu]; exact h1)
  have e : cs.take i ++ [s] ++ cs.drop (i + [s].length) = cs.set i s := by
    rw [List.set_eq_take_append_cons_drop, if_pos h]
    simp
  rwa [e] at hw

/-- A function of a column and a row, by the place's number, that tells a number, behind this world. -/
structure ToldF (f : Nat) (caps : Array Value) (x n : Nat) (F : Nat → Nat) (w : World) : Prop where
  enter : ∀ args w, (callFunc f args).run Tryz.prog w = .ok (.enter f args) w
  tells : ∀ w', Below w.heap.size w w' → ∀ j : Nat, j < n → AnsV17 f (#[.int .i64 ((j % x : Nat) : Int), .int .i64 ((j / x : Nat) : Int)] ++ caps) w' (F j)
/-- The code's filter is answered. -/
def ResX (x y : Int) (us : List Nat) (w : World) (e : Ending) (w' : World) : Prop :=
  ∃ a cap, e = .returned (fv x y (.slice a us.length cap)) ∧ IsV w' a us.length cap us ∧ Below w.heap.size w w'

set_option maxRecDepth 20000 in
set_option maxHeartbeats 3200000 in
theorem laid_any (x y n f : Nat) (caps : Array Value) (F : Nat → Nat) (hn : n = x * y) (hx : x ≤ 64) (hy : y ≤ 64) (w : World) (HF : ToldF f caps x n F w) :
    Calls Tryz.prog 70 #[.int .i64 x, .int .i64 y, .func (.func f) #[] caps] w (ResX x y (tabN F n) w) := by
  have C1 := Lib.hid (isSides_any x y (by omega) (by omega))
  have hle : x * y ≤ 64 * 64 := Nat.mul_le_mul hx hy
  have hxy : (x : Int) * (y : Int) = (n : Int) := by rw [hn]; simp
  have hn1 : n ≤ 4096 := by omega
  have HE := HF.enter
  have HST : Hid (∀ j k, j < y → k < x → j * x + k < n ∧ ∀ w', Below w.heap.size w w' → AnsV17 f (#[.int .i64 (k : Int), .int .i64 (j : Int)] ++ caps) w' (F (j * x + k))) := Lib.hid (fun j k hj hk => by
    have hlt : j * x + k < n := by rw [hn]; exact at_lt17 hk hj
    refine ⟨hlt, fun w' hw' => ?_⟩
    have := HF.tells w' hw' (j * x + k) hlt
    rwa [(div_row (k := j) hk).1, (div_row (k := j) hk).2] at this)
  have HEND : Hid (y * x = n) := Lib.hid (by rw [hn, Nat.mul_comm])
  have HRX : Hid (∀ j, (j + 1) * x = j * x + x) := Lib.hid (fun j => by rw [Nat.add_mul, Nat.one_mul])
  have HLE : Hid (∀ j, j < y → j * x ≤ 4096) := Lib.hid (fun j hj => by
    have : j * x ≤ 64 * 64 := Nat.mul_le_mul (by omega) hx
    omega)
  have M0 := Mem.start w
  clear hn hle HF
  go_enter Tryz.func70, Tryz.ntmps70
  go_upto_region 1 with (((with_reducible refine (?_ : Go.wpList _ _ _ (_ :: _) _ _)); (first | go_skip | (refine wpL_bx M0 rfl rfl rfl rfl ?_; clear M0; intro g1 w1 M1) | (refine wpL_alc M0 rfl rfl ?_; clear M0; intro g1 w1 M1) | (refine wpL_ldc M0 rfl rfl rfl ?_) | (refine wpL_lgc M0 rfl rfl rfl ?_) | (refine wpL_stc M0 rfl rfl rfl rfl ?_; clear M0; intro w' M0) | (refine wpL_sti M0 rfl rfl rfl rfl ?_; clear M0; intro w' M0) | (refine wpL_sth M0 rfl rfl rfl rfl (wr_minus _ _ _) ?_; clear M0; intro w' M0) | (refine wpL_ldc M1 rfl rfl rfl ?_) | (refine wpL_lgc M1 rfl rfl rfl ?_) | (refine wpL_stc M1 rfl rfl rfl rfl ?_; clear M1; intro w' M1) | (refine wpL_sti M1 rfl rfl rfl rfl ?_; clear M1; intro w' M1) | (refine wpL_sth M1 rfl rfl rfl rfl (wr_minus _ _ _) ?_; clear M1; intro w' M1))))
  go_wp2_with fail
  refine (C1.out _).mono ?_
  rintro e wz ⟨rfl, rfl⟩
  have MK : (Instr.makeSlice 30 (.int .i64 (n : Int)) (.int .i64 (n : Int))).run Tryz.prog wz = .ok (.slice (some ⟨wz.heap.size, 0, none⟩) n n) (wz.alloc (.cells (List.replicate n (Value.slice none 0 0)).toArray 63)) := run_mkNat n (by omega) wz
  have M2 := M1.alloc 63 (List.replicate n (Value.slice none 0 0))
  obtain ⟨w2, hw2⟩ : ∃ w2, wz.alloc (.cells (List.replicate n (Value.slice none 0 0)).toArray 63) = w2 := ⟨_, rfl⟩
  obtain ⟨G, hG⟩ : ∃ G, G = wz.heap.size := ⟨_, rfl⟩
  rw [hw2, ← hG] at MK M2
  have hN0 := Lib.hid (NatsB.start w2 n F)
  clear hw2 hG M1
  go_wp2_with fail
  clear MK
  go_loopw [20] (fun i wr => ∃ (j : Nat) (cs : List Value), j ≤ y ∧ i = .int .i64 j ∧ Hid (NatsB wr n cs (partN F (j * x))) ∧ Mem w wr [(G, 63, cs), (g1, 32, fc 0 0 (.slice none 0 0))]) (fun i _ => y - (intOf i).toNat)
  case atStart => exact ⟨0, _, Nat.zero_le _, rfl, by rw [Nat.zero_mul]; exact hN0, M2⟩
  case round =>
    clear M2 hN0
    obtain ⟨j, cs, hj, rfl, HN, M⟩ := hrel
    by_cases hlt : j < y
    · go_wp2_with fail
      go_loopw [24] (fun i wr => ∃ (k : Nat) (cs : List Value), k ≤ x ∧ i = .int .i64 k ∧ Hid (NatsB wr n cs (partN F (j * x + k))) ∧ Mem w wr [(G, 63, cs), (g1, 32, fc 0 0 (.slice none 0 0))]) (fun i _ => x - (intOf i).toNat)
      case atStart => exact ⟨0, cs, Nat.zero_le _, rfl, HN, M⟩
      case round =>
        clear M HN
        obtain ⟨k, cs, hk, rfl, HN, M⟩ := hrel
        by_cases hkt : k < x
        · obtain ⟨h1, h2⟩ := HST.out j k hlt hkt
          have h3 := HLE.out j hlt
          obtain ⟨p, hp⟩ : ∃ p, p = j * x := ⟨_, rfl⟩
          have hmul : (j : Int) * (x : Int) = (p : Int) := by rw [hp]; simp
          rw [← hp] at h1 h2 h3 HN
          have C := Lib.hid (h2 _ M.below)
          have HP := Lib.hid hp
          have hlen := HN.out.len
          obtain ⟨u0, hu0⟩ : ∃ u0, cs[p + k]? = some u0 := ⟨_, List.getElem?_eq_getElem (by omega)⟩
          clear h2 hp
          go_wp2_with fail
          refine C.out.mono ?_
          rintro e w3 ⟨v, rfl, hv, hA⟩
          have M3 := M.call hA
          have HN3 := Lib.hid (HN.out.below hA)
          obtain ⟨d, c, rfl, hS⟩ := hv.form
          have K3 := M3.has (Has.head _ _ _ _)
          have HS := Lib.hid hS
          have cu := M3.cell (Has.head _ _ _ _) hu0
          have fu := M3.free (Has.head _ _ _ _) (p + k)
          clear hv hS M HN C hA
          go_wp2_with ((with_reducible refine (?_ : Go.wpList _ _ _ (_ :: _) _ _)); (first | go_skip | (refine wpL_stT M3 rfl rfl rfl rfl (wr_natAt (i := p + k) _ (by omega) rfl) (Upd.head _ _ _ _ _) ?_; intro w4 M4 hT4)))
          have HN4 := Lib.hid (HN3.out.step h1 K3 HS.out hT4)
          clear HN3 K3 HS cu fu M3 hT4
          go_roundw
          case rel => exact ⟨k + 1, _, by omega, by go_num, by rw [← HP.out, ← Nat.add_assoc]; exact HN4, M4⟩
          case measure => simp [intOf]; omega
        · obtain rfl : k = x := by omega
          go_wp2_with fail
          go_roundw
          case rel => exact ⟨j + 1, cs, by omega, by go_num, by rw [HRX.out]; exact HN, M⟩
          case measure => simp [intOf]; omega
    · obtain rfl : j = y := by omega
      rw [HEND.out] at HN
      have K := M.has (.tail _ _ _ _ _ (Has.head _ _ _ _))
      have M1 := M
      clear M
      go_wp2_with ((with_reducible refine (?_ : Go.wpList _ _ _ (_ :: _) _ _)); (first | go_skip | (refine wpL_ldc M1 rfl rfl rfl ?_) | (refine wpL_lgc M1 rfl rfl rfl ?_) | (refine wpL_stcT M1 rfl rfl rfl rfl ?_; clear M1; intro w' M1 hT) | (refine wpL_stiT M1 rfl rfl rfl rfl ?_; clear M1; intro w' M1 hT)))
      refine bodyPost_ret (res_cell rfl M1 rfl (.tail _ _ _ _ _ (Has.head _ _ _ _)) (rd_fx _ _ _)) rfl ?_
      have hV := ((HN.out.turnedB K (noPart_f _ _ _ _ _) hT).isV (M1.has (Has.head _ _ _ _)) (by omega))
      have hl : (tabN F n).length = n := tabN_length F n
      refine ⟨some ⟨G, 0, none⟩, n, by rw [hl], by rw [hl]; exact hV, M1.below⟩
end Go.Proofs.YtallbegibdlpaaaGreat

/-
  A filter made of another one's places: the code's.
-/
namespace Go.Proofs.YtallbegibdlpaaaGreat
open Go Go.RowKit Go.Th Go.Th.Dig Go.Th.Ex Go.Th.Grid

/-- A function of a place's number, and of what it is believed, that tells a number, behind this world. -/
structure MadeF (f : Nat) (caps : Array Value) (n : Nat) (us : List Nat) (G : Nat → Nat) (w : World) : Prop where
  enter : ∀ args w, (callFunc f args).run Tryz.prog w = .ok (.enter f args) w
  tells : ∀ w', Below w.heap.size w w' → ∀ j : Nat, j < n → ∀ v, IsN w' v (us.getD j 0) → AnsV17 f (#[.int .i64 (j : Int), v] ++ caps) w' (G j)

set_option maxRecDepth 20000 in
set_option maxHeartbeats 3200000 in
theorem each_any (x y : Int) (a : Option Addr) (n cap f : Nat) (caps : Array Value) (us : List Nat) (F : Nat → Nat) (hn : n ≤ 4096) (w : World) (hV : IsV w a n cap us) (HF : MadeF f caps n us F w) :
    Calls Tryz.prog 44 #[fv x y (.slice a n cap), .func (.func f) #[] caps] w (ResX x y (tabN F n) w) := by
  have HE := HF.enter
  have HFT := Lib.hid HF.tells
  have HV := Lib.hid hV
  have M0 := Mem.start w
  clear HF hV
  go_enter Tryz.func44, Tryz.ntmps44
  go_upto_region 1 with (((with_reducible refine (?_ : Go.wpList _ _ _ (_ :: _) _ _)); (first | go_skip | (refine wpL_bx M0 rfl rfl rfl rfl ?_; clear M0; intro g1 w1 M1) | (refine wpL_alc M0 rfl rfl ?_; clear M0; intro g1 w1 M1) | (refine wpL_ldc M0 rfl rfl rfl ?_) | (refine wpL_lgc M0 rfl rfl rfl ?_) | (refine wpL_stc M0 rfl rfl rfl rfl ?_; clear M0; intro w' M0) | (refine wpL_sti M0 rfl rfl rfl rfl ?_; clear M0; intro w' M0) | (refine wpL_sth M0 rfl rfl rfl rfl (wr_minus _ _ _) ?_; clear M0; intro w' M0) | (refine wpL_bx M1 rfl rfl rfl rfl ?_; clear M1; intro g2 w2 M2) | (refine wpL_alc M1 rfl rfl ?_; clear M1; intro g2 w2 M2) | (refine wpL_ldc M1 rfl rfl rfl ?_) | (refine wpL_lgc M1 rfl rfl rfl ?_) | (refine wpL_stc M1 rfl rfl rfl rfl ?_; clear M1; intro w' M1) | (refine wpL_sti M1 rfl rfl rfl rfl ?_; clear M1; intro w' M1) | (refine wpL_sth M1 rfl rfl rfl rfl (wr_minus _ _ _) ?_; clear M1; intro w' M1) | (refine wpL_ldc M2 rfl rfl rfl ?_) | (refine wpL_lgc M2 rfl rfl rfl ?_) | (refine wpL_stc M2 rfl rfl rfl rfl ?_; clear M2; intro w' M2) | (refine wpL_sti M2 rfl rfl rfl rfl ?_; clear M2; intro w' M2) | (refine wpL_sth M2 rfl rfl rfl rfl (wr_minus _ _ _) ?_; clear M2; intro w' M2))))
  have MK : (Instr.makeSlice 30 (.int .i64 (n : Int)) (.int .i64 (n : Int))).run Tryz.prog w2 = .ok (.slice (some ⟨w2.heap.size, 0, none⟩) n n) (w2.alloc (.cells (List.replicate n (Value.slice none 0 0)).toArray 63)) := run_mkNat n (by omega) w2
  have M3 := M2.alloc 63 (List.replicate n (Value.slice none 0 0))
  obtain ⟨w3, hw3⟩ : ∃ w3, w2.alloc (.cells (List.replicate n (Value.slice none 0 0)).toArray 63) = w3 := ⟨_, rfl⟩
  obtain ⟨G, hG⟩ : ∃ G, G = w2.heap.size := ⟨_, rfl⟩
  rw [hw3, ← hG] at MK M3
  have hN0 := Lib.hid (NatsB.start w3 n F)
  have HM3 := Lib.hid M3
  clear hw3 hG M3
  go_upto_region 2 with (((with_reducible refine (?_ : Go.wpList _ _ _ (_ :: _) _ _)); (first | go_skip | (refine wpL_ldc M2 rfl rfl rfl ?_) | (refine wpL_lgc M2 rfl rfl rfl ?_) | (refine wpL_stc M2 rfl rfl rfl rfl ?_; clear M2; intro w' M2) | (refine wpL_sti M2 rfl rfl rfl rfl ?_; clear M2; intro w' M2) | (refine wpL_sth M2 rfl rfl rfl rfl (wr_minus _ _ _) ?_; clear M2; intro w' M2))))
  have M3 := HM3.out
  clear M2 MK HM3
  go_wp2_with ((with_reducible refine (?_ : Go.wpList _ _ _ (_ :: _) _ _)); (first | go_skip | (refine wpL_ldc M3 rfl rfl rfl ?_) | (refine wpL_lgc M3 rfl rfl rfl ?_) | (refine wpL_stc M3 rfl rfl rfl rfl ?_; clear M3; intro w' M3) | (refine wpL_sti M3 rfl rfl rfl rfl ?_; clear M3; intro w' M3) | (refine wpL_sth M3 rfl rfl rfl rfl (wr_minus _ _ _) ?_; clear M3; intro w' M3)))
  go_loopw [15] (fun i wr => ∃ (k : Nat) (cs : List Value), k ≤ n ∧ i = .int .i64 k ∧ Hid (NatsB wr n cs (partN F k)) ∧ Mem w wr [(G, 63, cs), (g2, 32, fc 0 0 (.slice none 0 0)), (g1, 32, fc x y (.slice a n cap))]) (fun i _ => n - (intOf i).toNat)
  case atStart => exact ⟨0, _, Nat.zero_le _, rfl, hN0, M3⟩
  case round =>
    clear M3 hN0
    obtain ⟨k, cs, hk, rfl, HN, M⟩ := hrel
    by_cases hlt : k < n
    · obtain ⟨b, o, d, e, f0, rfl, hb, hc, hd⟩ := (HV.out.below M.below).cell hlt
      obtain ⟨w4, hw4⟩ : ∃ w4, wr.alloc (.cells #[.slice d e f0] 63) = w4 := ⟨_, rfl⟩
      have hA4 : Below wr.heap.size wr w4 := by rw [← hw4]; exact (Below.refl _ _).alloc (Nat.le_refl _) _
      have c4 : w4.cell? ⟨wr.heap.size, 0, none⟩ = some (.slice d e f0) := by
        have := (M.alloc 63 [.slice d e f0]).cell (Has.head _ _ _ _) (i := 0) rfl
        rw [← hw4]; exact this
      have M4 := M.call hA4
      have HN4 := Lib.hid (HN.out.below hA4)
      have C := Lib.hid (HFT.out w4 M4.below k hlt _ (hd.below hA4))
      have hlen := HN.out.len
      obtain ⟨u0, hu0⟩ : ∃ u0, cs[k]? = some u0 := ⟨_, List.getElem?_eq_getElem (by omega)⟩
      have HW4 := Lib.hid hw4
      clear hd hA4 hw4 M HN
      go_upto_region 5 with fail
      rw [HW4.out]
      clear HW4
      go_wp2_with fail
      refine C.out.mono ?_
      rintro e w5 ⟨v, rfl, hv, hA⟩
      have M5 := M4.call hA
      have HN5 := Lib.hid (HN4.out.below hA)
      obtain ⟨d5, c5, rfl, hS⟩ := hv.form
      have K5 := M5.has (Has.head _ _ _ _)
      have HS := Lib.hid hS
      clear hv hS M4 HN4 C hA c4
      go_wp2_with ((with_reducible refine (?_ : Go.wpList _ _ _ (_ :: _) _ _)); (first | go_skip | (refine wpL_stT M5 rfl rfl rfl rfl (wr_natAt (i := k) _ (by omega) rfl) (Upd.head _ _ _ _ _) ?_; intro w6 M6 hT6)))
      have HN6 := Lib.hid (HN5.out.step hlt K5 HS.out hT6)
      clear HN5 K5 HS M5 hT6
      go_roundw
      case rel => exact ⟨k + 1, _, by omega, by go_num, HN6, M6⟩
      case measure => simp [intOf]; omega
    · obtain rfl : k = n := by omega
      have K := M.has (.tail _ _ _ _ _ (Has.head _ _ _ _))
      have c0 := M.cell (.tail _ _ _ _ _ (.tail _ _ _ _ _ (Has.head _ _ _ _))) (i := 0) rfl
      have c1 := M.cell (.tail _ _ _ _ _ (.tail _ _ _ _ _ (Has.head _ _ _ _))) (i := 1) rfl
      have M2 := M
      clear M
      go_wp2_with ((with_reducible refine (?_ : Go.wpList _ _ _ (_ :: _) _ _)); (first | go_skip | (refine wpL_ldc M2 rfl rfl rfl ?_) | (refine wpL_lgc M2 rfl rfl rfl ?_) | (refine wpL_stcT M2 rfl rfl rfl rfl ?_; clear M2; intro w' M2 hT) | (refine wpL_stiT M2 rfl rfl rfl rfl ?_; clear M2; intro w' M2 hT)))
      refine bodyPost_ret (res_cell rfl M2 rfl (.tail _ _ _ _ _ (Has.head _ _ _ _)) (rd_fx _ _ _)) rfl ?_
      have hV := ((HN.out.turnedB K (noPart_f _ _ _ _ _) hT).isV (M2.has (Has.head _ _ _ _)) (by omega))
      have hl : (tabN F k).length = k := tabN_length F k
      refine ⟨some ⟨G, 0, none⟩, k, by rw [hl], by rw [hl]; exact hV, M2.below⟩
end Go.Proofs.YtallbegibdlpaaaGreat

/-
  A part of a filter, four places for each, one for each four: the code's.
-/
namespace Go.Proofs.YtallbegibdlpaaaGreat
open Go Go.RowKit Go.Shelf Go.Th Go.Th.Dig Go.Th.Ex Go.Th.Grid

theorem fat_cut (us : List Nat) (x y : Nat) (X Y : Int) (cw j : Nat) : fat us x y (X + ((j % cw : Nat) : Int)) (Y + ((j / cw : Nat) : Int)) = cutAt17 us x y X Y cw j := by
  unfold cutAt17 fat hasB
  by_cases h : 0 ≤ X + ((j % cw : Nat) : Int) ∧ X + ((j % cw : Nat) : Int) < (x : Int) ∧ 0 ≤ Y + ((j / cw : Nat) : Int) ∧ Y + ((j / cw : Nat) : Int) < (y : Int)
  · rw [if_pos h, if_pos (by obtain ⟨h1, h2, h3, h4⟩ := h; rw [decide_eq_true h1, decide_eq_true h2, decide_eq_true h3, decide_eq_true h4]; rfl)]
  · rw [if_neg h, if_neg (fun h' => h (by simp only [Bool.and_eq_true, decide_eq_true_eq] at h'; exact ⟨h'.1.1.1, h'.1.1.2, h'.1.2, h'.2⟩))]
theorem fat_in (us : List Nat) {x y i j : Nat} (hi : i < x) (hj : j < y) : fat us x y (i : Int) (j : Int) = us.getD (j * x + i) 0 := by
  unfold fat hasB
  rw [if_pos (by simp; omega), Int.toNat_natCast, Int.toNat_natCast]
theorem fcells {w : World} {g : Nat} {x y : Int} {v : Value} (K : Blk w g 32 (fc x y v)) : w.cell? ⟨g, 0, none⟩ = some (.int .i64 x) ∧ w.cell? ⟨g, 1, none⟩ = some (.int .i64 y) ∧ w.cell? ⟨g, 2, none⟩ = some v :=
  ⟨K.cell (i := 0) rfl, K.cell (i := 1) rfl, K.cell (i := 2) rfl⟩

set_option maxRecDepth 20000 in
set_option maxHeartbeats 3200000 in
theorem cut1_go (x y i k n : Nat) (X Y : Int) (a : Option Addr) (cap : Nat) (fs : List Nat) (g gx gy : Nat) (hn : n = x * y) (hx : x ≤ 64) (hy : y ≤ 64) (hX : -1000 ≤ X ∧ X ≤ 1000) (hY : -1000 ≤ Y ∧ Y ≤ 1000) (hi : i ≤ 4096) (hk : k ≤ 4096) (w : World) (hV : IsV w a n cap fs)
    (K : Blk w g 32 (fc x y (.slice a n cap))) (Kx : Blk w gx 3 [.int .i64 X]) (Ky : Blk w gy 3 [.int .i64 Y]) :
    AnsV17 71 #[.int .i64 i, .int .i64 k, .pointer (some ⟨g, 0, none⟩), .pointer (some ⟨gx, 0, none⟩), .pointer (some ⟨gy, 0, none⟩)] w (fat fs x y (X + (i : Int)) (Y + (k : Int))) := by
  have C1 := Lib.hid (fun wx (hx' : Below w.heap.size w wx) => at_any17 x y (X + (i : Int)) (Y + (k : Int)) a n cap fs hn hx hy wx (hV.below hx'))
  have HK := Lib.hid K
  have HKx := Lib.hid Kx
  have HKy := Lib.hid Ky
  have M0 := Mem.start w
  clear hn hV K Kx Ky
  go_enter Tryz.func71, Tryz.ntmps71
  go_upto_region 1 with (((with_reducible refine (?_ : Go.wpList _ _ _ (_ :: _) _ _)); (first | go_skip | (refine wpL_bx M0 rfl rfl rfl rfl ?_; clear M0; intro g1 w1 M1) | (refine wpL_alc M0 rfl rfl ?_; clear M0; intro g1 w1 M1) | (refine wpL_ldc M0 rfl rfl rfl ?_) | (refine wpL_lgc M0 rfl rfl rfl ?_) | (refine wpL_stc M0 rfl rfl rfl rfl ?_; clear M0; intro w' M0) | (refine wpL_sti M0 rfl rfl rfl rfl ?_; clear M0; intro w' M0) | (refine wpL_sth M0 rfl rfl rfl rfl (wr_minus _ _ _) ?_; clear M0; intro w' M0) | (refine wpL_ldc M1 rfl rfl rfl ?_) | (refine wpL_lgc M1 rfl rfl rfl ?_) | (refine wpL_stc M1 rfl rfl rfl rfl ?_; clear M1; intro w' M1) | (refine wpL_sti M1 rfl rfl rfl rfl ?_; clear M1; intro w' M1) | (refine wpL_sth M1 rfl rfl rfl rfl (wr_minus _ _ _) ?_; clear M1; intro w' M1))))
  obtain ⟨c0, c1, c2⟩ := fcells (HK.out.below M1.below HK.out.lt)
  have c3 := (HKx.out.below M1.below HKx.out.lt).cell (i := 0) rfl
  have c4 := (HKy.out.below M1.below HKy.out.lt).cell (i := 0) rfl
  go_wp2_with fail
  refine (C1.out _ M1.below).mono ?_
  rintro e w2 ⟨v, rfl, hv, hA⟩
  have M2 := M1.call hA
  obtain ⟨d, c, rfl, hS⟩ := hv.form
  have K2 := M2.has (Has.head _ _ _ _)
  clear M1 c0 c1 c2 c3 c4
  go_wp2_with ((with_reducible refine (?_ : Go.wpList _ _ _ (_ :: _) _ _)); (first | go_skip | (refine wpL_ldc M2 rfl rfl rfl ?_) | (refine wpL_lgc M2 rfl rfl rfl ?_) | (refine wpL_stcT M2 rfl rfl rfl rfl ?_; clear M2; intro w' M2 hT) | (refine wpL_stiT M2 rfl rfl rfl rfl ?_; clear M2; intro w' M2 hT)))
  refine bodyPost_ret (res_cell rfl M2 rfl (Has.head _ _ _ _) (rd_nat _)) rfl ?_
  exact ⟨_, rfl, hv.kept K2 (noPart_sl _ _ _) hT, M2.below⟩
theorem cut1_told (x y n cw N : Nat) (X Y : Int) (a : Option Addr) (cap : Nat) (fs : List Nat) (g gx gy : Nat) (hn : n = x * y) (hx : x ≤ 64) (hy : y ≤ 64) (hX : -1000 ≤ X ∧ X ≤ 1000) (hY : -1000 ≤ Y ∧ Y ≤ 1000) (hN : N ≤ 4096) (w : World) (hV : IsV w a n cap fs)
    (K : Blk w g 32 (fc x y (.slice a n cap))) (Kx : Blk w gx 3 [.int .i64 X]) (Ky : Blk w gy 3 [.int .i64 Y]) :
    ToldF 71 #[.pointer (some ⟨g, 0, none⟩), .pointer (some ⟨gx, 0, none⟩), .pointer (some ⟨gy, 0, none⟩)] cw N (cutAt17 fs x y X Y cw) w :=
  ⟨enters_of Tryz.func71 (by kernel_rfl) rfl, fun w' hw' j hj => by
    have h1 := Nat.mod_le j cw
    have h2 := Nat.div_le_self j cw
    have := cut1_go x y (j % cw) (j / cw) n X Y a cap fs g gx gy hn hx hy hX hY (by omega) (by omega) w' (hV.below hw') (K.below hw' K.lt) (Kx.below hw' Kx.lt) (Ky.below hw' Ky.lt)
    rw [fat_cut] at this
    exact this⟩

set_option maxRecDepth 20000 in
set_option maxHeartbeats 3200000 in
theorem cut_any17 (x y cw ch n : Nat) (X Y : Int) (a : Option Addr) (cap : Nat) (fs : List Nat) (hn : n = x * y) (hx : x ≤ 64) (hy : y ≤ 64) (hX : -1000 ≤ X ∧ X ≤ 1000) (hY : -1000 ≤ Y ∧ Y ≤ 1000) (hcw : 1 ≤ cw ∧ cw ≤ 64) (hch : 1 ≤ ch ∧ ch ≤ 64) (w : World) (hV : IsV w a n cap fs) :
    Calls Tryz.prog 31 #[fv x y (.slice a n cap), .int .i64 X, .int .i64 Y, .int .i64 cw, .int .i64 ch] w (ResX cw ch (cutU fs x y X Y cw ch) w) := by
  have hle : cw * ch ≤ 64 * 64 := Nat.mul_le_mul hcw.2 hch.2
  have C1 := Lib.hid (isWhole_any x y a n cap hx hy hn)
  have CT := Lib.hid (fun wx g gx gy hw' K Kx Ky => laid_any cw ch (cw * ch) _ _ _ rfl hcw.2 hch.2 wx (cut1_told x y n cw (cw * ch) X Y a cap fs g gx gy hn hx hy hX hY (by omega) wx (hV.below (w' := wx) hw') K Kx Ky))
  have e : tabN (cutAt17 fs x y X Y cw) (cw * ch) = cutU fs x y X Y cw ch := by unfold cutU; rw [Nat.mul_comm]
  rw [e] at CT
  have hmf : ∀ (B C D : Nat) (wx : World), (Instr.makeFunc (.func 71) #[] #[.pointer (some ⟨B, 0, none⟩), .pointer (some ⟨C, 0, none⟩), .pointer (some ⟨D, 0, none⟩)]).run Tryz.prog wx = .ok (.func (.func 71) #[] #[.pointer (some ⟨B, 0, none⟩), .pointer (some ⟨C, 0, none⟩), .pointer (some ⟨D, 0, none⟩)]) wx := fun _ _ _ _ => rfl
  have hm1 : ¬ min (cw : Int) (ch : Int) < 1 := by omega
  have HRS : Hid (∀ wx e w2, ResX cw ch (cutU fs x y X Y cw ch) wx e w2 → ResX cw ch (cutU fs x y X Y cw ch) wx e w2) := Lib.hid (fun _ _ _ h => h)
  obtain ⟨us, hus⟩ : ∃ us, us = cutU fs x y X Y cw ch := ⟨_, rfl⟩
  rw [← hus] at CT ⊢
  have M0 := Mem.start w
  clear hle hn hV e hus HRS
  go_enter Tryz.func31, Tryz.ntmps31
  go_wp2_with ((with_reducible refine (?_ : Go.wpList _ _ _ (_ :: _) _ _)); (first | go_skip | (refine wpL_bx M0 rfl rfl rfl rfl ?_; clear M0; intro g1 w1 M1) | (refine wpL_alc M0 rfl rfl ?_; clear M0; intro g1 w1 M1) | (refine wpL_ldc M0 rfl rfl rfl ?_) | (refine wpL_lgc M0 rfl rfl rfl ?_) | (refine wpL_stc M0 rfl rfl rfl rfl ?_; clear M0; intro w' M0) | (refine wpL_sti M0 rfl rfl rfl rfl ?_; clear M0; intro w' M0) | (refine wpL_sth M0 rfl rfl rfl rfl (wr_minus _ _ _) ?_; clear M0; intro w' M0) | (refine wpL_bx M1 rfl rfl rfl rfl ?_; clear M1; intro g2 w2 M2) | (refine wpL_alc M1 rfl rfl ?_; clear M1; intro g2 w2 M2) | (refine wpL_ldc M1 rfl rfl rfl ?_) | (refine wpL_lgc M1 rfl rfl rfl ?_) | (refine wpL_stc M1 rfl rfl rfl rfl ?_; clear M1; intro w' M1) | (refine wpL_sti M1 rfl rfl rfl rfl ?_; clear M1; intro w' M1) | (refine wpL_sth M1 rfl rfl rfl rfl (wr_minus _ _ _) ?_; clear M1; intro w' M1) | (refine wpL_bx M2 rfl rfl rfl rfl ?_; clear M2; intro g3 w3 M3) | (refine wpL_alc M2 rfl rfl ?_; clear M2; intro g3 w3 M3) | (refine wpL_ldc M2 rfl rfl rfl ?_) | (refine wpL_lgc M2 rfl rfl rfl ?_) | (refine wpL_stc M2 rfl rfl rfl rfl ?_; clear M2; intro w' M2) | (refine wpL_sti M2 rfl rfl rfl rfl ?_; clear M2; intro w' M2) | (refine wpL_sth M2 rfl rfl rfl rfl (wr_minus _ _ _) ?_; clear M2; intro w' M2) | (refine wpL_bx M3 rfl rfl rfl rfl ?_; clear M3; intro g4 w4 M4) | (refine wpL_alc M3 rfl rfl ?_; clear M3; intro g4 w4 M4) | (refine wpL_ldc M3 rfl rfl rfl ?_) | (refine wpL_lgc M3 rfl rfl rfl ?_) | (refine wpL_stc M3 rfl rfl rfl rfl ?_; clear M3; intro w' M3) | (refine wpL_sti M3 rfl rfl rfl rfl ?_; clear M3; intro w' M3) | (refine wpL_sth M3 rfl rfl rfl rfl (wr_minus _ _ _) ?_; clear M3; intro w' M3) | (refine wpL_ldc M4 rfl rfl rfl ?_) | (refine wpL_lgc M4 rfl rfl rfl ?_) | (refine wpL_stc M4 rfl rfl rfl rfl ?_; clear M4; intro w' M4) | (refine wpL_sti M4 rfl rfl rfl rfl ?_; clear M4; intro w' M4) | (refine wpL_sth M4 rfl rfl rfl rfl (wr_minus _ _ _) ?_; clear M4; intro w' M4)))
  refine (C1.out _).mono ?_
  rintro e w5 ⟨rfl, hA⟩
  have M5 := M4.call hA
  clear M4 hA
  go_wp2_with ((with_reducible refine (?_ : Go.wpList _ _ _ (_ :: _) _ _)); (first | go_skip | (refine wpL_ldc M5 rfl rfl rfl ?_) | (refine wpL_lgc M5 rfl rfl rfl ?_) | (refine wpL_stc M5 rfl rfl rfl rfl ?_; clear M5; intro w' M5) | (refine wpL_sti M5 rfl rfl rfl rfl ?_; clear M5; intro w' M5) | (refine wpL_sth M5 rfl rfl rfl rfl (wr_minus _ _ _) ?_; clear M5; intro w' M5)))
  refine (CT.out _ _ _ _ M5.below (M5.has (.tail _ _ _ _ _ (.tail _ _ _ _ _ (.tail _ _ _ _ _ (Has.head _ _ _ _))))) (M5.has (.tail _ _ _ _ _ (.tail _ _ _ _ _ (Has.head _ _ _ _)))) (M5.has (.tail _ _ _ _ _ (Has.head _ _ _ _)))).mono ?_
  rintro e w6 ⟨a6, c6, rfl, hV6, hA⟩
  have M6 := M5.call hA
  have K6 := M6.has (Has.head _ _ _ _)
  have HV6 := Lib.hid hV6
  clear M5 hA hV6
  go_wp2_with ((with_reducible refine (?_ : Go.wpList _ _ _ (_ :: _) _ _)); (first | go_skip | (refine wpL_ldc M6 rfl rfl rfl ?_) | (refine wpL_lgc M6 rfl rfl rfl ?_) | (refine wpL_stcT M6 rfl rfl rfl rfl ?_; clear M6; intro w' M6 hT) | (refine wpL_stiT M6 rfl rfl rfl rfl ?_; clear M6; intro w' M6 hT)))
  refine bodyPost_ret (res_cell rfl M6 rfl (Has.head _ _ _ _) (rd_fx _ _ _)) rfl ?_
  exact ⟨a6, c6, rfl, HV6.out.turnedB K6 (by decide) (noPart_f _ _ _ _ _) hT, M6.below⟩
end Go.Proofs.YtallbegibdlpaaaGreat

/-
  Four places for each, one for each four: the code's.
-/
namespace Go.Proofs.YtallbegibdlpaaaGreat
open Go Go.RowKit Go.Shelf Go.Th Go.Th.Dig Go.Th.Ex Go.Th.Grid

set_option maxRecDepth 20000 in
set_option maxHeartbeats 3200000 in
theorem split1_go (x y i k i2 k2 n : Nat) (a : Option Addr) (cap : Nat) (fs : List Nat) (g : Nat) (hn : n = x * y) (hx : x ≤ 64) (hy : y ≤ 64) (hi : i ≤ 4096) (hk : k ≤ 4096) (hi2 : i / 2 = i2) (hk2 : k / 2 = k2) (w : World) (hV : IsV w a n cap fs) (K : Blk w g 32 (fc x y (.slice a n cap))) :
    AnsV17 73 #[.int .i64 i, .int .i64 k, .pointer (some ⟨g, 0, none⟩)] w (fat fs x y (i2 : Int) (k2 : Int)) := by
  have C1 := Lib.hid (fun wx (hx' : Below w.heap.size w wx) => at_any17 x y (i2 : Int) (k2 : Int) a n cap fs hn hx hy wx (hV.below hx'))
  have d1 : (i : Int) / 2 = (i2 : Int) := by omega
  have d2 : (k : Int) / 2 = (k2 : Int) := by omega
  have d3 : (i : Int).tdiv 2 = (i2 : Int) := by rw [Int.tdiv_eq_ediv_of_nonneg (by omega)]; exact d1
  have d4 : (k : Int).tdiv 2 = (k2 : Int) := by rw [Int.tdiv_eq_ediv_of_nonneg (by omega)]; exact d2
  have hi2' : i2 ≤ 4096 := by omega
  have hk2' : k2 ≤ 4096 := by omega
  have HK := Lib.hid K
  have M0 := Mem.start w
  clear hn hV K hi2 hk2
  go_enter Tryz.func73, Tryz.ntmps73
  go_upto_region 1 with (((with_reducible refine (?_ : Go.wpList _ _ _ (_ :: _) _ _)); (first | go_skip | (refine wpL_bx M0 rfl rfl rfl rfl ?_; clear M0; intro g1 w1 M1) | (refine wpL_alc M0 rfl rfl ?_; clear M0; intro g1 w1 M1) | (refine wpL_ldc M0 rfl rfl rfl ?_) | (refine wpL_lgc M0 rfl rfl rfl ?_) | (refine wpL_stc M0 rfl rfl rfl rfl ?_; clear M0; intro w' M0) | (refine wpL_sti M0 rfl rfl rfl rfl ?_; clear M0; intro w' M0) | (refine wpL_sth M0 rfl rfl rfl rfl (wr_minus _ _ _) ?_; clear M0; intro w' M0) | (refine wpL_ldc M1 rfl rfl rfl ?_) | (refine wpL_lgc M1 rfl rfl rfl ?_) | (refine wpL_stc M1 rfl rfl rfl rfl ?_; clear M1; intro w' M1) | (refine wpL_sti M1 rfl rfl rfl rfl ?_; clear M1; intro w' M1) | (refine wpL_sth M1 rfl rfl rfl rfl (wr_minus _ _ _) ?_; clear M1; intro w' M1))))
  obtain ⟨c0, c1, c2⟩ := fcells (HK.out.below M1.below HK.out.lt)
  go_wp2_with fail
  refine (C1.out _ M1.below).mono ?_
  rintro e w2 ⟨v, rfl, hv, hA⟩
  have M2 := M1.call hA
  obtain ⟨d, c, rfl, hS⟩ := hv.form
  have K2 := M2.has (Has.head _ _ _ _)
  clear M1 c0 c1 c2
  go_wp2_with ((with_reducible refine (?_ : Go.wpList _ _ _ (_ :: _) _ _)); (first | go_skip | (refine wpL_ldc M2 rfl rfl rfl ?_) | (refine wpL_lgc M2 rfl rfl rfl ?_) | (refine wpL_stcT M2 rfl rfl rfl rfl ?_; clear M2; intro w' M2 hT) | (refine wpL_stiT M2 rfl rfl rfl rfl ?_; clear M2; intro w' M2 hT)))
  refine bodyPost_ret (res_cell rfl M2 rfl (Has.head _ _ _ _) (rd_nat _)) rfl ?_
  exact ⟨_, rfl, hv.kept K2 (noPart_sl _ _ _) hT, M2.below⟩
theorem split1_told (x y n N : Nat) (a : Option Addr) (cap : Nat) (fs : List Nat) (g : Nat) (hn : n = x * y) (hx : x ≤ 32) (hy : y ≤ 32) (hN : N = 2 * x * (2 * y)) (w : World) (hV : IsV w a n cap fs) (K : Blk w g 32 (fc x y (.slice a n cap))) :
    ToldF 73 #[.pointer (some ⟨g, 0, none⟩)] (2 * x) N (splitAt17 fs x (2 * x)) w :=
  ⟨enters_of Tryz.func73 (by kernel_rfl) rfl, fun w' hw' j hj => by
    have hle : 2 * x * (2 * y) ≤ 64 * 64 := Nat.mul_le_mul (by omega) (by omega)
    have h1 := Nat.mod_le j (2 * x)
    have h2 := Nat.div_le_self j (2 * x)
    have hx0 : 0 < 2 * x := by
      rcases Nat.eq_zero_or_pos (2 * x) with h | h
      · rw [hN, h, Nat.zero_mul] at hj; omega
      · exact h
    have h3 := Nat.mod_lt j hx0
    have h4 : j / (2 * x) < 2 * y := by rw [Nat.div_lt_iff_lt_mul hx0, Nat.mul_comm]; omega
    have := split1_go x y (j % (2 * x)) (j / (2 * x)) _ _ n a cap fs g hn (by omega) (by omega) (by omega) (by omega) rfl rfl w' (hV.below hw') (K.below hw' K.lt)
    rw [fat_in fs (by omega) (by omega)] at this
    exact this⟩

set_option maxRecDepth 20000 in
set_option maxHeartbeats 3200000 in
theorem split_any17 (x y n x2 y2 : Nat) (a : Option Addr) (cap : Nat) (fs : List Nat) (hn : n = x * y) (hx : x ≤ 32) (hy : y ≤ 32) (hx2 : x2 = 2 * x) (hy2 : y2 = 2 * y) (w : World) (hV : IsV w a n cap fs) :
    Calls Tryz.prog 33 #[fv x y (.slice a n cap)] w (ResX x2 y2 (splitU fs x y) w) := by
  have C1 := Lib.hid (isWhole_any x y a n cap (by omega) (by omega) hn)
  have CT := Lib.hid (fun (wx : World) (g : Nat) (hw' : Below w.heap.size w wx) (K : Blk wx g 32 (fc x y (.slice a n cap))) => laid_any x2 y2 (x2 * y2) _ _ _ rfl (by omega) (by omega) wx (by rw [hx2, hy2]; exact split1_told x y n _ a cap fs g hn hx hy rfl wx (hV.below (w' := wx) hw') K))
  have e : tabN (splitAt17 fs x x2) (x2 * y2) = splitU fs x y := by rw [hx2, hy2]; unfold splitU; rw [Nat.mul_comm (2 * x) (2 * y)]
  rw [← hx2, e] at CT
  have hmf : ∀ (B : Nat) (wx : World), (Instr.makeFunc (.func 73) #[] #[.pointer (some ⟨B, 0, none⟩)]).run Tryz.prog wx = .ok (.func (.func 73) #[] #[.pointer (some ⟨B, 0, none⟩)]) wx := fun _ _ => rfl
  have d1 : 2 * (x : Int) = (x2 : Int) := by omega
  have d2 : 2 * (y : Int) = (y2 : Int) := by omega
  have b1 : x2 ≤ 64 := by omega
  have b2 : y2 ≤ 64 := by omega
  obtain ⟨us, hus⟩ : ∃ us, us = splitU fs x y := ⟨_, rfl⟩
  rw [← hus] at CT ⊢
  have M0 := Mem.start w
  clear hn hV e hus hx2 hy2
  go_enter Tryz.func33, Tryz.ntmps33
  go_wp2_with ((with_reducible refine (?_ : Go.wpList _ _ _ (_ :: _) _ _)); (first | go_skip | (refine wpL_bx M0 rfl rfl rfl rfl ?_; clear M0; intro g1 w1 M1) | (refine wpL_alc M0 rfl rfl ?_; clear M0; intro g1 w1 M1) | (refine wpL_ldc M0 rfl rfl rfl ?_) | (refine wpL_lgc M0 rfl rfl rfl ?_) | (refine wpL_stc M0 rfl rfl rfl rfl ?_; clear M0; intro w' M0) | (refine wpL_sti M0 rfl rfl rfl rfl ?_; clear M0; intro w' M0) | (refine wpL_sth M0 rfl rfl rfl rfl (wr_minus _ _ _) ?_; clear M0; intro w' M0) | (refine wpL_bx M1 rfl rfl rfl rfl ?_; clear M1; intro g2 w2 M2) | (refine wpL_alc M1 rfl rfl ?_; clear M1; intro g2 w2 M2) | (refine wpL_ldc M1 rfl rfl rfl ?_) | (refine wpL_lgc M1 rfl rfl rfl ?_) | (refine wpL_stc M1 rfl rfl rfl rfl ?_; clear M1; intro w' M1) | (refine wpL_sti M1 rfl rfl rfl rfl ?_; clear M1; intro w' M1) | (refine wpL_sth M1 rfl rfl rfl rfl (wr_minus _ _ _) ?_; clear M1; intro w' M1) | (refine wpL_ldc M2 rfl rfl rfl ?_) | (refine wpL_lgc M2 rfl rfl rfl ?_) | (refine wpL_stc M2 rfl rfl rfl rfl ?_; clear M2; intro w' M2) | (refine wpL_sti M2 rfl rfl rfl rfl ?_; clear M2; intro w' M2) | (refine wpL_sth M2 rfl rfl rfl rfl (wr_minus _ _ _) ?_; clear M2; intro w' M2)))
  refine (C1.out _).mono ?_
  rintro e w3 ⟨rfl, hA⟩
  have M3 := M2.call hA
  clear M2 hA
  go_wp2_with ((with_reducible refine (?_ : Go.wpList _ _ _ (_ :: _) _ _)); (first | go_skip | (refine wpL_ldc M3 rfl rfl rfl ?_) | (refine wpL_lgc M3 rfl rfl rfl ?_) | (refine wpL_stc M3 rfl rfl rfl rfl ?_; clear M3; intro w' M3) | (refine wpL_sti M3 rfl rfl rfl rfl ?_; clear M3; intro w' M3) | (refine wpL_sth M3 rfl rfl rfl rfl (wr_minus _ _ _) ?_; clear M3; intro w' M3)))
  refine (CT.out _ _ M3.below (M3.has (.tail _ _ _ _ _ (Has.head _ _ _ _)))).mono ?_
  rintro e w4 ⟨a6, c6, rfl, hV6, hA⟩
  have M4 := M3.call hA
  have K4 := M4.has (Has.head _ _ _ _)
  have HV6 := Lib.hid hV6
  clear M3 hA hV6
  go_wp2_with ((with_reducible refine (?_ : Go.wpList _ _ _ (_ :: _) _ _)); (first | go_skip | (refine wpL_ldc M4 rfl rfl rfl ?_) | (refine wpL_lgc M4 rfl rfl rfl ?_) | (refine wpL_stcT M4 rfl rfl rfl rfl ?_; clear M4; intro w' M4 hT) | (refine wpL_stiT M4 rfl rfl rfl rfl ?_; clear M4; intro w' M4 hT)))
  refine bodyPost_ret (res_cell rfl M4 rfl (Has.head _ _ _ _) (rd_fx _ _ _)) rfl ?_
  exact ⟨a6, c6, rfl, HV6.out.turnedB K4 (by decide) (noPart_f _ _ _ _ _) hT, M4.below⟩

theorem sl_blk {w : World} {g n : Nat} {t : TypeId} {cs : List Value} (K : Blk w g t cs) (hl : cs.length = n) (hn : n ≤ 1000000) : Sl w 1 (.slice (some ⟨g, 0, none⟩) n n) n cs :=
  ⟨_, _, rfl, by rw [hl, Nat.mul_one], Nat.le_refl _, by unfold maxLen; omega, fun h => (by cases h), fun j u hu => ⟨_, _, rfl, by have := K.cell hu; simpa using this⟩⟩
abbrev SlN (w : World) (d : Option Addr) (p c : Nat) : Prop := Sl w 1 (.slice d (len32 p) c) (len32 p) (u32s (dg 4294967296 p))
theorem nats4 {w : World} {g : Nat} {d1 d2 d3 d4 : Option Addr} {p1 p2 p3 p4 c1 c2 c3 c4 : Nat} (K : Blk w g 63 [.slice d1 (len32 p1) c1, .slice d2 (len32 p2) c2, .slice d3 (len32 p3) c3, .slice d4 (len32 p4) c4]) (h1 : SlN w d1 p1 c1) (h2 : SlN w d2 p2 c2) (h3 : SlN w d3 p3 c3) (h4 : SlN w d4 p4 c4) :
    Nats w (some ⟨g, 0, none⟩) 4 4 [.slice d1 (len32 p1) c1, .slice d2 (len32 p2) c2, .slice d3 (len32 p3) c3, .slice d4 (len32 p4) c4] [p1, p2, p3, p4] :=
  ⟨sl_blk K rfl (by omega), rfl, fun j hj => match j, hj with
    | 0, _ => ⟨d1, c1, rfl, h1⟩
    | 1, _ => ⟨d2, c2, rfl, h2⟩
    | 2, _ => ⟨d3, c3, rfl, h3⟩
    | 3, _ => ⟨d4, c4, rfl, h4⟩
    | j + 4, h => absurd h (by omega)⟩
theorem nats3 {w : World} {g : Nat} {d1 d2 d3 : Option Addr} {p1 p2 p3 c1 c2 c3 : Nat} (K : Blk w g 63 [.slice d1 (len32 p1) c1, .slice d2 (len32 p2) c2, .slice d3 (len32 p3) c3]) (h1 : SlN w d1 p1 c1) (h2 : SlN w d2 p2 c2) (h3 : SlN w d3 p3 c3) :
    Nats w (some ⟨g, 0, none⟩) 3 3 [.slice d1 (len32 p1) c1, .slice d2 (len32 p2) c2, .slice d3 (len32 p3) c3] [p1, p2, p3] :=
  ⟨sl_blk K rfl (by omega), rfl, fun j hj => match j, hj with
    | 0, _ => ⟨d1, c1, rfl, h1⟩
    | 1, _ => ⟨d2, c2, rfl, h2⟩
    | 2, _ => ⟨d3, c3, rfl, h3⟩
    | j + 3, h => absurd h (by omega)⟩

set_option maxRecDepth 20000 in
set_option maxHeartbeats 6400000 in
theorem join1_go (x y i k i2 k2 i3 k3 n p1 p2 p3 p4 : Nat) (a : Option Addr) (cap : Nat) (fs : List Nat) (g : Nat) (hn : n = x * y) (hx : x ≤ 64) (hy : y ≤ 64) (hi : i ≤ 64) (hk : k ≤ 64) (hi2 : i2 = 2 * i) (hk2 : k2 = 2 * k) (hi3 : i3 = 2 * i + 1) (hk3 : k3 = 2 * k + 1)
    (h1 : fat fs x y (i2 : Int) (k2 : Int) = p1) (h2 : fat fs x y (i3 : Int) (k2 : Int) = p2) (h3 : fat fs x y (i2 : Int) (k3 : Int) = p3) (h4 : fat fs x y (i3 : Int) (k3 : Int) = p4) (hl : ∀ q ∈ [p1, p2, p3, p4], len32 q ≤ 1000) (w : World) (hV : IsV w a n cap fs) (K : Blk w g 32 (fc x y (.slice a n cap))) :
    AnsV17 74 #[.int .i64 i, .int .i64 k, .pointer (some ⟨g, 0, none⟩)] w (p1 + p2 + p3 + p4) := by
  have C1 := Lib.hid (fun wx (hx' : Below w.heap.size w wx) => h1 ▸ at_any17 x y (i2 : Int) (k2 : Int) a n cap fs hn hx hy wx (hV.below hx'))
  have C2 := Lib.hid (fun wx (hx' : Below w.heap.size w wx) => h2 ▸ at_any17 x y (i3 : Int) (k2 : Int) a n cap fs hn hx hy wx (hV.below hx'))
  have C3 := Lib.hid (fun wx (hx' : Below w.heap.size w wx) => h3 ▸ at_any17 x y (i2 : Int) (k3 : Int) a n cap fs hn hx hy wx (hV.below hx'))
  have C4 := Lib.hid (fun wx (hx' : Below w.heap.size w wx) => h4 ▸ at_any17 x y (i3 : Int) (k3 : Int) a n cap fs hn hx hy wx (hV.below hx'))
  have CS := Lib.hid (fun wx gx cs (hN : Nats wx (some ⟨gx, 0, none⟩) 4 4 cs [p1, p2, p3, p4]) => sum_any (some ⟨gx, 0, none⟩) 4 4 cs [p1, p2, p3, p4] wx hN (by omega) (fun j => by
    rw [List.getD_eq_getElem?_getD]
    cases hq : [p1, p2, p3, p4][j]? with
    | none => show len32 0 ≤ 1000; rw [(len32_0 0).2 rfl]; omega
    | some q => exact hl q (List.mem_iff_getElem?.2 ⟨j, hq⟩)))
  have et : tot [p1, p2, p3, p4] 4 = p1 + p2 + p3 + p4 := by simp [tot]; omega
  rw [et] at CS
  have v1 : IntKind.i64.wrap (2 * (i : Int)) = (i2 : Int) := by rw [IntWalk.i64_in _ (by omega)]; omega
  have v2 : IntKind.i64.wrap (2 * (k : Int)) = (k2 : Int) := by rw [IntWalk.i64_in _ (by omega)]; omega
  have v3 : IntKind.i64.wrap ((i2 : Int) + 1) = (i3 : Int) := by rw [IntWalk.i64_in _ (by omega)]; omega
  have v4 : IntKind.i64.wrap ((k2 : Int) + 1) = (k3 : Int) := by rw [IntWalk.i64_in _ (by omega)]; omega
  have u1 : wrap64 (2 * (i : Int)) = (i2 : Int) := by rw [IntWalk.wrap64_in _ (by omega)]; omega
  have u2 : wrap64 (2 * (k : Int)) = (k2 : Int) := by rw [IntWalk.wrap64_in _ (by omega)]; omega
  have u3 : wrap64 ((i2 : Int) + 1) = (i3 : Int) := by rw [IntWalk.wrap64_in _ (by omega)]; omega
  have u4 : wrap64 ((k2 : Int) + 1) = (k3 : Int) := by rw [IntWalk.wrap64_in _ (by omega)]; omega
  have HK := Lib.hid K
  have M0 := Mem.start w
  clear hn hV K hi2 hk2 hi3 hk3 h1 h2 h3 h4 hl et
  go_enter Tryz.func74, Tryz.ntmps74
  go_upto_region 1 with (((with_reducible refine (?_ : Go.wpList _ _ _ (_ :: _) _ _)); (first | go_skip | (refine wpL_bx M0 rfl rfl rfl rfl ?_; clear M0; intro g1 w1 M1) | (refine wpL_alc M0 rfl rfl ?_; clear M0; intro g1 w1 M1) | (refine wpL_ldc M0 rfl rfl rfl ?_) | (refine wpL_lgc M0 rfl rfl rfl ?_) | (refine wpL_stc M0 rfl rfl rfl rfl ?_; clear M0; intro w' M0) | (refine wpL_sti M0 rfl rfl rfl rfl ?_; clear M0; intro w' M0) | (refine wpL_sth M0 rfl rfl rfl rfl (wr_minus _ _ _) ?_; clear M0; intro w' M0) | (refine wpL_ldc M1 rfl rfl rfl ?_) | (refine wpL_lgc M1 rfl rfl rfl ?_) | (refine wpL_stc M1 rfl rfl rfl rfl ?_; clear M1; intro w' M1) | (refine wpL_sti M1 rfl rfl rfl rfl ?_; clear M1; intro w' M1) | (refine wpL_sth M1 rfl rfl rfl rfl (wr_minus _ _ _) ?_; clear M1; intro w' M1))))
  refine wp_region_held_drew (S := (fun w' : World => w'.cell? ⟨g, 0, none⟩ = some (.int .i64 x) ∧ w'.cell? ⟨g, 1, none⟩ = some (.int .i64 y) ∧ w'.cell? ⟨g, 2, none⟩ = some (.slice a n cap))) (by kernel_rfl) (fcells (HK.out.below M1.drew.below HK.out.lt)) (fun hHeld => ?_)
  refine tkT 0 ?v1 ?hy1 hHeld ?rest1
  case hy1 => (intro w' hSw; (try dsimp only at hSw); go_simp; (try with_reducible rfl))
  try simp only [Act.put, puts]
  refine tkT 1 ?v2 ?hy2 hHeld ?rest2
  case hy2 => (intro w' hSw; (try dsimp only at hSw); go_simp; (try with_reducible rfl))
  try simp only [Act.put, puts]
  refine tkT 2 ?v3 ?hy3 hHeld ?rest3
  case hy3 => (intro w' hSw; (try dsimp only at hSw); go_simp; (try with_reducible rfl))
  try simp only [Act.put, puts]
  refine tkT 3 ?v4 ?hy4 hHeld ?rest4
  case hy4 => (intro w' hSw; (try dsimp only at hSw); go_simp; (try with_reducible rfl))
  try simp only [Act.put, puts]
  refine tkT 4 ?v5 ?hy5 hHeld ?rest5
  case hy5 => (intro w' hSw; (try dsimp only at hSw); go_simp; (try with_reducible rfl))
  try simp only [Act.put, puts]
  refine tkT 6 ?v6 ?hy6 hHeld ?rest6
  case hy6 => (intro w' hSw; (try dsimp only at hSw); go_simp; (try with_reducible rfl))
  try simp only [Act.put, puts]
  refine tkT 7 ?v7 ?hy7 hHeld ?rest7
  case hy7 => (intro w' hSw; (try dsimp only at hSw); go_simp; (try with_reducible rfl))
  try simp only [Act.put, puts]
  refine tkT 8 ?v8 ?hy8 hHeld ?rest8
  case hy8 => (intro w' hSw; (try dsimp only at hSw); go_simp; (try with_reducible rfl))
  try simp only [Act.put, puts]
  refine tkT 9 ?v9 ?hy9 hHeld ?rest9
  case hy9 => (intro w' hSw; (try dsimp only at hSw); go_simp; (try with_reducible rfl))
  try simp only [Act.put, puts]
  refine tkT 10 ?v10 ?hy10 hHeld ?rest10
  case hy10 => (intro w' hSw; (try dsimp only at hSw); go_simp; (try with_reducible rfl))
  try simp only [Act.put, puts]
  refine tkT 11 ?v11 ?hy11 hHeld ?rest11
  case hy11 => (intro w' hSw; (try dsimp only at hSw); go_simp; (try with_reducible rfl))
  try simp only [Act.put, puts]
  refine tkT 13 ?v12 ?hy12 hHeld ?rest12
  case hy12 => (intro w' hSw; (try dsimp only at hSw); go_simp; (try with_reducible rfl))
  try simp only [Act.put, puts]
  refine tkT 14 ?v13 ?hy13 hHeld ?rest13
  case hy13 => (intro w' hSw; (try dsimp only at hSw); go_simp; (try with_reducible rfl))
  try simp only [Act.put, puts]
  refine tkT 15 ?v14 ?hy14 hHeld ?rest14
  case hy14 => (intro w' hSw; (try dsimp only at hSw); go_simp; (try with_reducible rfl))
  try simp only [Act.put, puts]
  refine tkT 16 ?v15 ?hy15 hHeld ?rest15
  case hy15 => (intro w' hSw; (try dsimp only at hSw); go_simp; (try with_reducible rfl))
  try simp only [Act.put, puts]
  refine tkT 17 ?v16 ?hy16 hHeld ?rest16
  case hy16 => (intro w' hSw; (try dsimp only at hSw); go_simp; (try with_reducible rfl))
  try simp only [Act.put, puts]
  refine tkT 18 ?v17 ?hy17 hHeld ?rest17
  case hy17 => (intro w' hSw; (try dsimp only at hSw); go_simp; (try with_reducible rfl))
  try simp only [Act.put, puts]
  refine tkT 20 ?v18 ?hy18 hHeld ?rest18
  case hy18 => (intro w' hSw; (try dsimp only at hSw); go_simp; (try with_reducible rfl))
  try simp only [Act.put, puts]
  refine tkT 21 ?v19 ?hy19 hHeld ?rest19
  case hy19 => (intro w' hSw; (try dsimp only at hSw); go_simp; (try with_reducible rfl))
  try simp only [Act.put, puts]
  refine tkT 22 ?v20 ?hy20 hHeld ?rest20
  case hy20 => (intro w' hSw; (try dsimp only at hSw); go_simp; (try with_reducible rfl))
  try simp only [Act.put, puts]
  refine tkT 23 ?v21 ?hy21 hHeld ?rest21
  case hy21 => (intro w' hSw; (try dsimp only at hSw); go_simp; (try with_reducible rfl))
  try simp only [Act.put, puts]
  refine tkT 24 ?v22 ?hy22 hHeld ?rest22
  case hy22 => (intro w' hSw; (try dsimp only at hSw); go_simp; (try with_reducible rfl))
  try simp only [Act.put, puts]
  refine tkT 25 ?v23 ?hy23 hHeld ?rest23
  case hy23 => (intro w' hSw; (try dsimp only at hSw); go_simp; (try with_reducible rfl))
  try simp only [Act.put, puts]
  refine tkT 26 ?v24 ?hy24 hHeld ?rest24
  case hy24 => (intro w' hSw; (try dsimp only at hSw); go_simp; (try with_reducible rfl))
  try simp only [Act.put, puts]
  refine wpAnyH_ready (rs := [5]) (by kernel_rfl) (by simp) ?_
  refine AllReadyH.cons rfl (fun K hK => ?_) AllReadyH.nil
  go_simp
  refine (C1.out _ M1.drew.below).mono ?_
  rintro e w2 ⟨v, rfl, hv, hA⟩
  have M2 := M1.drew.call hA
  obtain ⟨d1, c1, rfl, hS⟩ := hv.form
  have HS1 := Lib.hid hS
  clear hv hS hA
  try go_wp2_with fail
  refine hK.out _ _ (fcells (HK.out.below M2.below HK.out.lt)) (fun hHeld => ?_)
  clear hK K
  try simp only [Act.put, puts]
  refine wpAnyH_ready (rs := [12]) (by kernel_rfl) (by simp) ?_
  refine AllReadyH.cons rfl (fun K hK => ?_) AllReadyH.nil
  go_simp
  refine (C2.out _ M2.below).mono ?_
  rintro e w3 ⟨v, rfl, hv, hA⟩
  have M3 := M2.call hA
  obtain ⟨d2, c2, rfl, hS⟩ := hv.form
  have HS2 := Lib.hid hS
  have HS13 := Lib.hid (HS1.out.below hA)
  clear hv hS hA HS1
  try go_wp2_with fail
  refine hK.out _ _ (fcells (HK.out.below M3.below HK.out.lt)) (fun hHeld => ?_)
  clear hK K
  try simp only [Act.put, puts]
  refine wpAnyH_ready (rs := [19]) (by kernel_rfl) (by simp) ?_
  refine AllReadyH.cons rfl (fun K hK => ?_) AllReadyH.nil
  go_simp
  refine (C3.out _ M3.below).mono ?_
  rintro e w4 ⟨v, rfl, hv, hA⟩
  have M4 := M3.call hA
  obtain ⟨d3, c3, rfl, hS⟩ := hv.form
  have HS3 := Lib.hid hS
  have HS14 := Lib.hid (HS13.out.below hA)
  have HS24 := Lib.hid (HS2.out.below hA)
  clear hv hS hA HS13 HS2
  try go_wp2_with fail
  refine hK.out _ _ (fcells (HK.out.below M4.below HK.out.lt)) (fun hHeld => ?_)
  clear hK K
  try simp only [Act.put, puts]
  refine wpAnyH_ready (rs := [27]) (by kernel_rfl) (by simp) ?_
  refine AllReadyH.cons rfl (fun K hK => ?_) AllReadyH.nil
  go_simp
  refine (C4.out _ M4.below).mono ?_
  rintro e w5 ⟨v, rfl, hv, hA⟩
  have M5 := M4.call hA
  obtain ⟨d4, c4, rfl, hS⟩ := hv.form
  have HS4 := Lib.hid hS
  have HS15 := Lib.hid (HS14.out.below hA)
  have HS25 := Lib.hid (HS24.out.below hA)
  have HS35 := Lib.hid (HS3.out.below hA)
  clear hv hS hA HS14 HS24 HS3
  try go_wp2_with fail
  refine hK.out _ _ (fcells (HK.out.below M5.below HK.out.lt)) (fun hHeld => ?_)
  clear hK K
  try simp only [Act.put, puts]
  refine wpAnyH_ready (rs := [28]) (by kernel_rfl) (by simp) ?_
  refine AllReadyH.cons rfl (fun K hK => ?_) AllReadyH.nil
  go_simp
  obtain ⟨w6, hw6⟩ : ∃ w6, w5.alloc (.cells #[.slice d1 (len32 p1) c1, .slice d2 (len32 p2) c2, .slice d3 (len32 p3) c3, .slice d4 (len32 p4) c4] 63) = w6 := ⟨_, rfl⟩
  have hA6 : Below w5.heap.size w5 w6 := by rw [← hw6]; exact (Below.refl _ _).alloc (Nat.le_refl _) _
  have M6 := M5.call hA6
  have K6 : Blk w6 w5.heap.size 63 [.slice d1 (len32 p1) c1, .slice d2 (len32 p2) c2, .slice d3 (len32 p3) c3, .slice d4 (len32 p4) c4] := by rw [← hw6]; exact Blk.new w5 _ _
  have HN6 := Lib.hid (nats4 K6 (HS15.out.below hA6) (HS25.out.below hA6) (HS35.out.below hA6) (HS4.out.below hA6))
  (try simp only [hw6])
  clear hw6 K6 hA6 HS15 HS25 HS35 HS4
  try go_wp2_with fail
  refine hK.out _ _ (fcells (HK.out.below M6.below HK.out.lt)) (fun hHeld => ?_)
  clear hK K
  try simp only [Act.put, puts]
  refine wpAnyH_ready (rs := [29]) (by kernel_rfl) (by simp) ?_
  refine AllReadyH.cons rfl (fun K hK => ?_) AllReadyH.nil
  go_simp
  refine (CS.out _ _ _ HN6.out).mono ?_
  rintro e w7 ⟨v, rfl, hv, hA⟩
  have M7 := M6.call hA
  obtain ⟨d7, c7, rfl, hS⟩ := hv.form
  have HV7 := Lib.hid hv
  clear hv hS hA HN6
  try go_wp2_with fail
  refine hK.out _ _ (fcells (HK.out.below M7.below HK.out.lt)) (fun hHeld => ?_)
  clear hK K
  try simp only [Act.put, puts]
  refine wpAnyH_ready (rs := [30]) (by kernel_rfl) (by simp) ?_
  refine AllReadyH.cons rfl (fun K hK => ?_) AllReadyH.nil
  rw [if_pos (by rfl)]
  refine Grid.wp_stM (v := .agg #[.slice d7 (len32 (p1 + p2 + p3 + p4)) c7]) M7 rfl rfl rfl (wr_nat _ _ _ _) (Upd.head _ _ _ _ _) ?_
  intro w8 M8 hT8
  have HV8 := Lib.hid (HV7.out.kept (M7.has (Has.head _ _ _ _)) (noPart_sl _ _ _) hT8)
  refine hK.out _ _ (fcells (HK.out.below M8.below HK.out.lt)) (fun hHeld => ?_)
  clear hK K
  try simp only [Act.put, puts]
  refine wpAnyH_done (by kernel_rfl) ?_ _
  clear M1 M2 M3 M4 M5 M6 M7 hT8 HV7
  go_wp2_with fail
  refine bodyPost_ret (res_cell rfl M8 rfl (Has.head _ _ _ _) (rd_nat _)) rfl ?_
  exact ⟨_, rfl, HV8.out, M8.below⟩
end Go.Proofs.YtallbegibdlpaaaGreat

/-
  One place for each four; each place mixed with those beside it: the code's.
-/
namespace Go.Proofs.YtallbegibdlpaaaGreat
open Go Go.RowKit Go.Shelf Go.Th Go.Th.Dig Go.Th.Ex Go.Th.Grid

theorem join_sum (us : List Nat) (x wq j i2 k2 i3 k3 : Nat) (h1 : i2 = 2 * (j % wq)) (h2 : k2 = 2 * (j / wq)) (h3 : i3 = 2 * (j % wq) + 1) (h4 : k3 = 2 * (j / wq) + 1) :
    us.getD (k2 * x + i2) 0 + us.getD (k2 * x + i3) 0 + us.getD (k3 * x + i2) 0 + us.getD (k3 * x + i3) 0 = joinAt17 us x wq j := by
  unfold joinAt17
  rw [h1, h2, h3, h4, Nat.add_mul, Nat.one_mul, ← Nat.add_assoc (2 * (j / wq) * x) (2 * (j % wq)) 1, ← Nat.add_assoc (2 * (j / wq) * x + x) (2 * (j % wq)) 1]
theorem join1_told (x y wq hq n N k0 : Nat) (a : Option Addr) (cap : Nat) (fs : List Nat) (g : Nat) (hn : n = x * y) (hxe : x = 2 * wq) (hye : y = 2 * hq) (hx : x ≤ 64) (hy : y ≤ 64) (hN : N = wq * hq) (hl : Lt k0 fs) (hk0 : k0 ≤ 8000) (w : World) (hV : IsV w a n cap fs) (K : Blk w g 32 (fc x y (.slice a n cap))) :
    ToldF 74 #[.pointer (some ⟨g, 0, none⟩)] wq N (joinAt17 fs x wq) w :=
  ⟨enters_of Tryz.func74 (by kernel_rfl) rfl, fun w' hw' j hj => by
    have hx0 : 0 < wq := by
      rcases Nat.eq_zero_or_pos wq with h | h
      · rw [hN, h, Nat.zero_mul] at hj; omega
      · exact h
    have h3 := Nat.mod_lt j hx0
    have h4 : j / wq < hq := by rw [Nat.div_lt_iff_lt_mul hx0, Nat.mul_comm]; omega
    have hlen : ∀ i, len32 (fs.getD i 0) ≤ 1000 := fun i => Nat.le_trans (d32 (m := 250) (hl i) (by omega)) (by omega)
    have := join1_go x y (j % wq) (j / wq) (2 * (j % wq)) (2 * (j / wq)) (2 * (j % wq) + 1) (2 * (j / wq) + 1) n _ _ _ _ a cap fs g hn hx hy (by omega) (by omega) rfl rfl rfl rfl
      (fat_in fs (by omega) (by omega)) (fat_in fs (by omega) (by omega)) (fat_in fs (by omega) (by omega)) (fat_in fs (by omega) (by omega)) (by
        intro q hq
        simp only [List.mem_cons, List.not_mem_nil, or_false] at hq
        rcases hq with rfl | rfl | rfl | rfl <;> exact hlen _) w' (hV.below hw') (K.below hw' K.lt)
    rw [join_sum fs x wq j _ _ _ _ rfl rfl rfl rfl] at this
    exact this⟩

set_option maxRecDepth 20000 in
set_option maxHeartbeats 3200000 in
theorem join_any17 (x y wq hq n k0 : Nat) (a : Option Addr) (cap : Nat) (fs : List Nat) (hn : n = x * y) (hxe : x = 2 * wq) (hye : y = 2 * hq) (hx : x ≤ 64) (hy : y ≤ 64) (hl : Lt k0 fs) (hk0 : k0 ≤ 8000) (w : World) (hV : IsV w a n cap fs) :
    Calls Tryz.prog 35 #[fv x y (.slice a n cap)] w (ResX wq hq (joinU fs x wq hq) w) := by
  have C1 := Lib.hid (isWhole_any x y a n cap (by omega) (by omega) hn)
  have CT := Lib.hid (fun (wx : World) (g : Nat) (hw' : Below w.heap.size w wx) (K : Blk wx g 32 (fc x y (.slice a n cap))) => laid_any wq hq (wq * hq) _ _ _ rfl (by omega) (by omega) wx (join1_told x y wq hq n _ k0 a cap fs g hn hxe hye hx hy rfl hl hk0 wx (hV.below (w' := wx) hw') K))
  have e : tabN (joinAt17 fs x wq) (wq * hq) = joinU fs x wq hq := by unfold joinU; rw [Nat.mul_comm]
  rw [e] at CT
  have hmf : ∀ (B : Nat) (wx : World), (Instr.makeFunc (.func 74) #[] #[.pointer (some ⟨B, 0, none⟩)]).run Tryz.prog wx = .ok (.func (.func 74) #[] #[.pointer (some ⟨B, 0, none⟩)]) wx := fun _ _ => rfl
  have d1 : (x : Int) / 2 = (wq : Int) := by omega
  have d2 : (y : Int) / 2 = (hq : Int) := by omega
  have d3 : (x : Int).tdiv 2 = (wq : Int) := by rw [Int.tdiv_eq_ediv_of_nonneg (by omega)]; exact d1
  have d4 : (y : Int).tdiv 2 = (hq : Int) := by rw [Int.tdiv_eq_ediv_of_nonneg (by omega)]; exact d2
  have d5 : (x : Int) % 2 = 0 := by omega
  have d6 : (y : Int) % 2 = 0 := by omega
  have d7 : (x : Int).tmod 2 = 0 := by rw [Int.tmod_eq_emod_of_nonneg (by omega)]; exact d5
  have d8 : (y : Int).tmod 2 = 0 := by rw [Int.tmod_eq_emod_of_nonneg (by omega)]; exact d6
  have b1 : wq ≤ 64 := by omega
  have b2 : hq ≤ 64 := by omega
  obtain ⟨us, hus⟩ : ∃ us, us = joinU fs x wq hq := ⟨_, rfl⟩
  rw [← hus] at CT ⊢
  have M0 := Mem.start w
  clear hn hV e hus hxe hye hl
  go_enter Tryz.func35, Tryz.ntmps35
  go_wp2_with ((with_reducible refine (?_ : Go.wpList _ _ _ (_ :: _) _ _)); (first | go_skip | (refine wpL_bx M0 rfl rfl rfl rfl ?_; clear M0; intro g1 w1 M1) | (refine wpL_alc M0 rfl rfl ?_; clear M0; intro g1 w1 M1) | (refine wpL_ldc M0 rfl rfl rfl ?_) | (refine wpL_lgc M0 rfl rfl rfl ?_) | (refine wpL_stc M0 rfl rfl rfl rfl ?_; clear M0; intro w' M0) | (refine wpL_sti M0 rfl rfl rfl rfl ?_; clear M0; intro w' M0) | (refine wpL_sth M0 rfl rfl rfl rfl (wr_minus _ _ _) ?_; clear M0; intro w' M0) | (refine wpL_bx M1 rfl rfl rfl rfl ?_; clear M1; intro g2 w2 M2) | (refine wpL_alc M1 rfl rfl ?_; clear M1; intro g2 w2 M2) | (refine wpL_ldc M1 rfl rfl rfl ?_) | (refine wpL_lgc M1 rfl rfl rfl ?_) | (refine wpL_stc M1 rfl rfl rfl rfl ?_; clear M1; intro w' M1) | (refine wpL_sti M1 rfl rfl rfl rfl ?_; clear M1; intro w' M1) | (refine wpL_sth M1 rfl rfl rfl rfl (wr_minus _ _ _) ?_; clear M1; intro w' M1) | (refine wpL_ldc M2 rfl rfl rfl ?_) | (refine wpL_lgc M2 rfl rfl rfl ?_) | (refine wpL_stc M2 rfl rfl rfl rfl ?_; clear M2; intro w' M2) | (refine wpL_sti M2 rfl rfl rfl rfl ?_; clear M2; intro w' M2) | (refine wpL_sth M2 rfl rfl rfl rfl (wr_minus _ _ _) ?_; clear M2; intro w' M2)))
  refine (C1.out _).mono ?_
  rintro e w3 ⟨rfl, hA⟩
  have M3 := M2.call hA
  clear M2 hA
  go_wp2_with ((with_reducible refine (?_ : Go.wpList _ _ _ (_ :: _) _ _)); (first | go_skip | (refine wpL_ldc M3 rfl rfl rfl ?_) | (refine wpL_lgc M3 rfl rfl rfl ?_) | (refine wpL_stc M3 rfl rfl rfl rfl ?_; clear M3; intro w' M3) | (refine wpL_sti M3 rfl rfl rfl rfl ?_; clear M3; intro w' M3) | (refine wpL_sth M3 rfl rfl rfl rfl (wr_minus _ _ _) ?_; clear M3; intro w' M3)))
  refine (CT.out _ _ M3.below (M3.has (.tail _ _ _ _ _ (Has.head _ _ _ _)))).mono ?_
  rintro e w4 ⟨a6, c6, rfl, hV6, hA⟩
  have M4 := M3.call hA
  have K4 := M4.has (Has.head _ _ _ _)
  have HV6 := Lib.hid hV6
  clear M3 hA hV6
  go_wp2_with ((with_reducible refine (?_ : Go.wpList _ _ _ (_ :: _) _ _)); (first | go_skip | (refine wpL_ldc M4 rfl rfl rfl ?_) | (refine wpL_lgc M4 rfl rfl rfl ?_) | (refine wpL_stcT M4 rfl rfl rfl rfl ?_; clear M4; intro w' M4 hT) | (refine wpL_stiT M4 rfl rfl rfl rfl ?_; clear M4; intro w' M4 hT)))
  refine bodyPost_ret (res_cell rfl M4 rfl (Has.head _ _ _ _) (rd_fx _ _ _)) rfl ?_
  exact ⟨a6, c6, rfl, HV6.out.turnedB K4 (by decide) (noPart_f _ _ _ _ _) hT, M4.below⟩

/-! ### What lies beside a place -/
/-- What is told of a place beside one: that one itself, where there is none. -/
def besV (fs : List Nat) (x y i j : Nat) (ci cj : Int) : Nat := if hasB x y ci cj then fat fs x y ci cj else fat fs x y (i : Int) (j : Int)
theorem clp_same {z : Int} {n : Nat} (h0 : 0 ≤ z) (h : z < (n : Int)) : clp z n = z.toNat := by unfold clp; rw [if_neg (by omega), if_neg (by omega)]
theorem clp_nat {i n : Nat} (h : i < n) : clp (i : Int) n = i := by rw [clp_same (by omega) (by omega)]; simp
theorem clp_side {i n : Nat} {z : Int} (hi : i < n) (hz : z = (i : Int) - 1 ∨ z = (i : Int) + 1) (ho : ¬ (0 ≤ z ∧ z < (n : Int))) : clp z n = i := by
  unfold clp
  split
  · omega
  · split <;> omega
theorem bes_row (fs : List Nat) {x y i j : Nat} (hi : i < x) (hj : j < y) {ci cj : Int} (hc : ci = (i : Int) - 1 ∨ ci = (i : Int) + 1) (hcj : cj = (j : Int)) : besV fs x y i j ci cj = fs.getD (clp cj y * x + clp ci x) 0 := by
  subst hcj
  unfold besV
  by_cases h : hasB x y ci (j : Int) = true
  · rw [if_pos h]
    unfold fat
    rw [if_pos h]
    unfold hasB at h
    simp only [Bool.and_eq_true, decide_eq_true_eq] at h
    rw [clp_nat hj, clp_same h.1.1.1 h.1.1.2, Int.toNat_natCast]
  · rw [if_neg h, fat_in fs hi hj, clp_nat hj, clp_side hi hc (fun h' => h (by
      unfold hasB
      rw [decide_eq_true h'.1, decide_eq_true h'.2, decide_eq_true (show (0 : Int) ≤ (j : Int) by omega), decide_eq_true (show (j : Int) < (y : Int) by omega)]
      rfl))]
theorem bes_col (fs : List Nat) {x y i j : Nat} (hi : i < x) (hj : j < y) {ci cj : Int} (hci : ci = (i : Int)) (hc : cj = (j : Int) - 1 ∨ cj = (j : Int) + 1) : besV fs x y i j ci cj = fs.getD (clp cj y * x + clp ci x) 0 := by
  subst hci
  unfold besV
  by_cases h : hasB x y (i : Int) cj = true
  · rw [if_pos h]
    unfold fat
    rw [if_pos h]
    unfold hasB at h
    simp only [Bool.and_eq_true, decide_eq_true_eq] at h
    rw [clp_nat hi, clp_same h.1.2 h.2, Int.toNat_natCast]
  · rw [if_neg h, fat_in fs hi hj, clp_nat hi, clp_side hj hc (fun h' => h (by
      unfold hasB
      rw [decide_eq_true h'.1, decide_eq_true h'.2, decide_eq_true (show (0 : Int) ≤ (i : Int) by omega), decide_eq_true (show (i : Int) < (x : Int) by omega)]
      rfl))]

set_option maxRecDepth 20000 in
set_option maxHeartbeats 6400000 in
theorem bes_go (x y i j n : Nat) (b DX DY m1 m2 ci cj : Int) (a : Option Addr) (cap : Nat) (fs : List Nat) (g gi gj gx gy : Nat) (hn : n = x * y) (hx : x ≤ 64) (hy : y ≤ 64) (h1 : IntKind.i64.wrap (b * DX) = m1) (h2 : IntKind.i64.wrap (b * DY) = m2) (h3 : IntKind.i64.wrap ((i : Int) + m1) = ci) (h4 : IntKind.i64.wrap ((j : Int) + m2) = cj)
    (h1' : wrap64 (b * DX) = m1) (h2' : wrap64 (b * DY) = m2) (h3' : wrap64 ((i : Int) + m1) = ci) (h4' : wrap64 ((j : Int) + m2) = cj) (w : World) (hV : IsV w a n cap fs)
    (K : Blk w g 32 (fc x y (.slice a n cap))) (Ki : Blk w gi 3 [.int .i64 i]) (Kj : Blk w gj 3 [.int .i64 j]) (Kx : Blk w gx 3 [.int .i64 DX]) (Ky : Blk w gy 3 [.int .i64 DY]) :
    AnsV17 98 #[.int .i64 b, .pointer (some ⟨gi, 0, none⟩), .pointer (some ⟨gx, 0, none⟩), .pointer (some ⟨gj, 0, none⟩), .pointer (some ⟨gy, 0, none⟩), .pointer (some ⟨g, 0, none⟩)] w (besV fs x y i j ci cj) := by
  have CH := Lib.hid (fun (wx : World) => has_any x y ci cj (.slice a n cap) wx)
  have C1 := Lib.hid (fun wx (hx' : Below w.heap.size w wx) => at_any17 x y ci cj a n cap fs hn hx hy wx (hV.below hx'))
  have C2 := Lib.hid (fun wx (hx' : Below w.heap.size w wx) => at_any17 x y (i : Int) (j : Int) a n cap fs hn hx hy wx (hV.below hx'))
  have HK := Lib.hid K
  have HKi := Lib.hid Ki
  have HKj := Lib.hid Kj
  have HKx := Lib.hid Kx
  have HKy := Lib.hid Ky
  obtain ⟨r, hr⟩ : ∃ r, r = besV fs x y i j ci cj := ⟨_, rfl⟩
  obtain ⟨p, hp⟩ : ∃ p, p = fat fs x y ci cj := ⟨_, rfl⟩
  obtain ⟨q, hq⟩ : ∃ q, q = fat fs x y (i : Int) (j : Int) := ⟨_, rfl⟩
  rw [← hp] at C1
  rw [← hq] at C2
  have hrb : r = if hasB x y ci cj then p else q := by rw [hr, hp, hq]; rfl
  rw [← hr]
  obtain ⟨B, hB⟩ : ∃ B, B = hasB x y ci cj := ⟨_, rfl⟩
  rw [← hB] at CH hrb
  have M0 := Mem.start w
  clear hn hV K Ki Kj Kx Ky hr hp hq hB
  go_enter Tryz.func98, Tryz.ntmps98
  go_upto_region 1 with (((with_reducible refine (?_ : Go.wpList _ _ _ (_ :: _) _ _)); (first | go_skip | (refine wpL_bx M0 rfl rfl rfl rfl ?_; clear M0; intro g1 w1 M1) | (refine wpL_alc M0 rfl rfl ?_; clear M0; intro g1 w1 M1) | (refine wpL_ldc M0 rfl rfl rfl ?_) | (refine wpL_lgc M0 rfl rfl rfl ?_) | (refine wpL_stc M0 rfl rfl rfl rfl ?_; clear M0; intro w' M0) | (refine wpL_sti M0 rfl rfl rfl rfl ?_; clear M0; intro w' M0) | (refine wpL_sth M0 rfl rfl rfl rfl (wr_minus _ _ _) ?_; clear M0; intro w' M0) | (refine wpL_ldc M1 rfl rfl rfl ?_) | (refine wpL_lgc M1 rfl rfl rfl ?_) | (refine wpL_stc M1 rfl rfl rfl rfl ?_; clear M1; intro w' M1) | (refine wpL_sti M1 rfl rfl rfl rfl ?_; clear M1; intro w' M1) | (refine wpL_sth M1 rfl rfl rfl rfl (wr_minus _ _ _) ?_; clear M1; intro w' M1))))
  obtain ⟨c0, c1, c2⟩ := fcells (HK.out.below M1.below HK.out.lt)
  have c3 := (HKi.out.below M1.below HKi.out.lt).cell (i := 0) rfl
  have c4 := (HKj.out.below M1.below HKj.out.lt).cell (i := 0) rfl
  have c5 := (HKx.out.below M1.below HKx.out.lt).cell (i := 0) rfl
  have c6 := (HKy.out.below M1.below HKy.out.lt).cell (i := 0) rfl
  go_quiet (fail)
  have M2 := M1.drewN nq
  obtain ⟨w2, hw2⟩ : ∃ w2, w1.drewN nq = w2 := ⟨_, rfl⟩
  rw [hw2] at M2 ⊢
  clear M1 c0 c1 c2 c3 c4 c5 c6 hw2
  obtain ⟨c0, c1, c2⟩ := fcells (HK.out.below M2.below HK.out.lt)
  go_wp2_with fail
  refine (CH.out _).mono ?_
  rintro e w3 ⟨rfl, hA⟩
  have M3 := M2.call hA
  clear M2 c0 c1 c2 hA
  obtain ⟨c0, c1, c2⟩ := fcells (HK.out.below M3.below HK.out.lt)
  have c3 := (HKi.out.below M3.below HKi.out.lt).cell (i := 0) rfl
  have c4 := (HKj.out.below M3.below HKj.out.lt).cell (i := 0) rfl
  cases B
  · have HR := Lib.hid (show r = q from hrb)
    clear hrb
    go_wp2_with fail
    refine (C2.out _ M3.below).mono ?_
    rintro e w4 ⟨v, rfl, hv, hA⟩
    have M4 := M3.call hA
    obtain ⟨d, c, rfl, hS⟩ := hv.form
    have K4 := M4.has (Has.head _ _ _ _)
    clear M3 c0 c1 c2 c3 c4
    go_wp2_with ((with_reducible refine (?_ : Go.wpList _ _ _ (_ :: _) _ _)); (first | go_skip | (refine wpL_ldc M4 rfl rfl rfl ?_) | (refine wpL_lgc M4 rfl rfl rfl ?_) | (refine wpL_stcT M4 rfl rfl rfl rfl ?_; clear M4; intro w' M4 hT) | (refine wpL_stiT M4 rfl rfl rfl rfl ?_; clear M4; intro w' M4 hT)))
    refine bodyPost_ret (res_cell rfl M4 rfl (Has.head _ _ _ _) (rd_nat _)) rfl ?_
    rw [HR.out]
    exact ⟨_, rfl, hv.kept K4 (noPart_sl _ _ _) hT, M4.below⟩
  · have HR := Lib.hid (show r = p from hrb)
    clear hrb
    go_wp2_with fail
    refine (C1.out _ M3.below).mono ?_
    rintro e w4 ⟨v, rfl, hv, hA⟩
    have M4 := M3.call hA
    obtain ⟨d, c, rfl, hS⟩ := hv.form
    have K4 := M4.has (Has.head _ _ _ _)
    clear M3 c0 c1 c2 c3 c4
    go_wp2_with ((with_reducible refine (?_ : Go.wpList _ _ _ (_ :: _) _ _)); (first | go_skip | (refine wpL_ldc M4 rfl rfl rfl ?_) | (refine wpL_lgc M4 rfl rfl rfl ?_) | (refine wpL_stcT M4 rfl rfl rfl rfl ?_; clear M4; intro w' M4 hT) | (refine wpL_stiT M4 rfl rfl rfl rfl ?_; clear M4; intro w' M4 hT)))
    refine bodyPost_ret (res_cell rfl M4 rfl (Has.head _ _ _ _) (rd_nat _)) rfl ?_
    rw [HR.out]
    exact ⟨_, rfl, hv.kept K4 (noPart_sl _ _ _) hT, M4.below⟩
end Go.Proofs.YtallbegibdlpaaaGreat
