/-
  Fields: checked; where a tile lies; a part of a row; a copy of heights: the code's.
-/
import Derived.Test.YtapheokmoebgfaaTileA
import Derived.Deep.QuietTactic
import Derived.BigQuiet
set_option linter.unusedVariables false
set_option linter.unusedSimpArgs false
namespace Go.Proofs.Ytapheokmoebgfaa
open Go Go.RowKit Go.Th

abbrev hv (W H : Int) (v : Value) : Value := .agg #[.int .i64 W, .int .i64 H, v]
abbrev pv (X Y : Int) : Value := .agg #[.int .i64 X, .int .i64 Y]
theorem quiet_pure {f : Nat} {args : Array Value} {v : Value} (h : Pure f args v) (w : World) (n : Nat) : Calls Try.prog f args (w.drewN n) fun e w' => e = .returned v ∧ w' = w.drewN n :=
  (h _).mono fun _ _ ⟨a, b⟩ => ⟨a, b.symm⟩

theorem ret4 {a b c d a' b' c' d' : Int} (h1 : a = a') (h2 : b = b') (h3 : c = c') (h4 : d = d') : Ending.returned (.tuple #[.int .i64 a, .int .i64 b, .int .i64 c, .int .i64 d]) = .returned (.tuple #[.int .i64 a', .int .i64 b', .int .i64 c', .int .i64 d']) := by rw [h1, h2, h3, h4]

theorem check_ok (x y n : Nat) (a : Option Addr) (cap : Nat) (hF : isF x y = true) (hn : n = x * y) (w : World) :
    Calls Try.prog 19 #[hv x y (.slice a n cap)] w fun e w' => e = .returned (.int .i64 0) ∧ Below w.heap.size w w' := by
  have C1 := isField_go x y
  obtain ⟨h1, h2, h3, h4⟩ := isF_yes hF
  have hle : x * y ≤ 256 * 256 := Nat.mul_le_mul (by omega) (by omega)
  have hm : (x : Int) * (y : Int) = (n : Int) := by rw [hn]; simp
  rw [← hn] at hle
  rw [hF] at C1
  have C1 := Lib.hid C1
  have hnn : ((n : Int) != (n : Int)) = false := by simp
  clear hF hn
  go_enter Try.func19, Try.ntmps19
  go_wp2_with fail
  refine (C1.out _).mono ?_
  rintro e wx ⟨rfl, rfl⟩
  go_wp2_with fail
  go_ret
  exact ⟨rfl, (Below.refl _ _).alloc (Nat.le_refl _) _⟩

theorem check_size (x y n p : Nat) (a : Option Addr) (cap : Nat) (hF : isF x y = true) (hp : p = x * y) (hn : n ≠ p) (hb : n ≤ 1000000000) (w : World) :
    Calls Try.prog 19 #[hv x y (.slice a n cap)] w fun e w' => e = .returned (.int .i64 5) ∧ Below w.heap.size w w' := by
  have C1 := isField_go x y
  obtain ⟨h1, h2, h3, h4⟩ := isF_yes hF
  have hle : x * y ≤ 256 * 256 := Nat.mul_le_mul (by omega) (by omega)
  have hm : (x : Int) * (y : Int) = (p : Int) := by rw [hp]; simp
  rw [← hp] at hle
  rw [hF] at C1
  have C1 := Lib.hid C1
  have hnn : ((n : Int) != (p : Int)) = true := by simp; omega
  clear hF hp hn
  go_enter Try.func19, Try.ntmps19
  go_wp2_with fail
  refine (C1.out _).mono ?_
  rintro e wx ⟨rfl, rfl⟩
  go_wp2_with fail
  go_ret
  exact ⟨rfl, (Below.refl _ _).alloc (Nat.le_refl _) _⟩

theorem check_range (x y : Int) (v : Value) (hF : isF x y = false) (w : World) (hv1 : ∃ a n cap, v = .slice a n cap) :
    Calls Try.prog 19 #[hv x y v] w fun e w' => e = .returned (.int .i64 2) ∧ Below w.heap.size w w' := by
  obtain ⟨a, n, cap, rfl⟩ := hv1
  have C1 := isField_go x y
  rw [hF] at C1
  have C1 := Lib.hid C1
  clear hF
  go_enter Try.func19, Try.ntmps19
  go_wp2_with fail
  refine (C1.out _).mono ?_
  rintro e wx ⟨rfl, rfl⟩
  go_wp2_with fail
  go_ret
  exact ⟨rfl, (Below.refl _ _).alloc (Nat.le_refl _) _⟩

set_option maxRecDepth 20000 in
theorem piece_any (W H x y k n : Nat) (a : Option Addr) (cap : Nat) (z : List Int) (hx : x + k ≤ W) (hy : y < H) (hW : W ≤ 256) (hH : H ≤ 256) (hn : n = W * H) (w : World) (hS : Sl w 1 (.slice a n cap) n (i16s z)) :
    Calls Try.prog 32 #[hv W H (.slice a n cap), .int .i64 x, .int .i64 y, .int .i64 k] w fun e w' => ∃ a' cap', e = .returned (.slice a' k cap') ∧ Sl w 1 (.slice a' k cap') k (i16s ((z.drop (y * W + x)).take k)) ∧
      (∀ p, a' = some p → ∃ q, a = some q ∧ q.block = p.block) ∧ (∀ b o, a = some ⟨b, o, none⟩ → 0 < k → a' = some ⟨b, o + (y * W + x), none⟩) ∧ Below w.heap.size w w' := by
  have hfit := place_fits W H x 0 k y hx (by omega)
  rw [Nat.zero_add] at hfit
  have hyW : y * W ≤ 256 * 256 := Nat.mul_le_mul (by omega) (by omega)
  have hWH : W * H ≤ 256 * 256 := Nat.mul_le_mul (by omega) (by omega)
  obtain ⟨p, hp⟩ : ∃ p, p = y * W := ⟨_, rfl⟩
  have hm : (y : Int) * (W : Int) = (p : Int) := by rw [hp]; simp
  rw [← hn] at hfit hWH
  rw [← hp] at hfit hyW ⊢
  obtain ⟨a', cap', hr, hs, hb1, hb2⟩ := Sl.cut_mid E16 hS (p + x) k (by omega) ((p : Int) + (x : Int)) ((p : Int) + (x : Int) + (k : Int)) (by omega) (by omega)
  have hs' : Sl w 1 (.slice a' k cap') k (i16s ((z.drop (p + x)).take k)) := by
    have e : i16s ((z.drop (p + x)).take k) = ((i16s z).drop (p + x)).take k := by simp [i16s, List.map_take, List.map_drop]
    rw [e]; exact hs
  have HS := Lib.hid hs'
  have HB1 := Lib.hid hb1
  have HB2 := Lib.hid hb2
  have hmx := hS.max
  clear hs hs' hb1 hb2 hp hn hS
  go_enter Try.func32, Try.ntmps32
  go_wp2_with fail
  go_ret
  exact ⟨a', cap', rfl, HS.out, HB1.out, HB2.out, (Below.refl _ _).alloc (Nat.le_refl _) _⟩

/-- A copy of heights. -/
theorem clone16_any (vx : Value) (z : List Int) (w : World) (h : Sl w 1 vx z.length (i16s z)) (hl : z.length ≤ 1000000) :
    Calls Try.prog 33 #[vx] w fun e w' => ∃ v, e = .returned v ∧ w'.ownsRow w.heap.size 30 1 v z.length (i16s z) ∧ Below w.heap.size w w' := by
  have hs := h
  obtain ⟨a, cap, rfl, h1, h2, h3, h4, h5⟩ := h
  cases a with
  | none =>
    obtain ⟨h0, rfl⟩ := h4 rfl
    have hnil : z = [] := List.eq_nil_of_length_eq_zero h0
    subst hnil
    have hq : ∀ wx : World, (binOp .eql 22 (.slice none 0 0) (.slice none 0 0)).run Try.prog wx = .ok (.bool true) wx := fun wx => Lib.run_eql_slice_nil wx 22 30 none _ _ 0 0 Try.underlying22
    go_enter Try.func33, Try.ntmps33
    go_wp2
    go_ret
    exact ⟨_, rfl, World.ownsRow_nil _ _ _ _, Below.refl _ _⟩
  | some ad =>
    have hx : Sl (w.alloc (.cells #[] 30)) 1 (.slice (some ad) z.length cap) z.length (i16s z) := hs.below ((Below.refl _ _).alloc (Nat.le_refl _) _)
    have hown := World.ownsRow_made (base := w.heap.size) (e := 30) (size := 1) w #[] 0 (Nat.le_refl _) (Nat.zero_le _) rfl
    have hq : ∀ wx : World, (binOp .eql 22 (.slice (some ad) z.length cap) (.slice none 0 0)).run Try.prog wx = .ok (.bool false) wx := fun wx => Lib.run_eql_slice_nil wx 22 30 (some ad) _ _ 0 0 Try.underlying22
    go_enter Try.func33, Try.ntmps33
    go_wp2_with (at_builtin; refine wpList_app E16 rfl (.tmp 5) (.tmp 6) rfl w.heap.size rfl hown rfl hx (oneCell_i16s _) (by unfold maxLen; omega) (by omega) (by simp) ?_)
    intro v' w' hown' hgrow _
    go_wp2
    go_ret
    exact ⟨_, rfl, by simpa using hown', ((Below.refl _ _).alloc (Nat.le_refl _) _).grown hgrow (by simp) (fun k hk => by simp [Value.ownBlock] at hk; omega)⟩
end Go.Proofs.Ytapheokmoebgfaa
