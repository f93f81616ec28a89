/-
  What the laws call, in the laws' own forms: numbers' values by their names, texts told, the law's small functions.
-/
import Derived.Test.YtghioakpigdagaaDoorNatEb
import Derived.Deep.Cut
set_option linter.unusedVariables false
set_option linter.unusedSimpArgs false
namespace Go.Th
open Go Go.RowKit
theorem Mem.perm16 {w0 w : World} {bs bs' : List (Nat × TypeId × List Value)} (M : Mem w0 w bs) (h : bs'.Perm bs) : Mem w0 w bs' :=
  ⟨M.below, (h.map _).nodup_iff.2 M.nodup, fun e he => M.old e (h.mem_iff.1 he), fun e he => M.blk e (h.mem_iff.1 he)⟩
end Go.Th
namespace Go.Proofs.YtghioakpigdagaaDoor
open Go Go.RowKit Go.Th Go.Th.Dig

theorem IsN.nm {w : World} {v : Value} {p : Nat} (h : IsN w v p) : ∃ a n c, v = .agg #[.slice a n c] ∧ IsN w (.agg #[.slice a n c]) p := by
  obtain ⟨a, c, rfl, _⟩ := h.form
  exact ⟨_, _, _, rfl, h⟩
theorem Is16.nm {w : World} {v : Value} {p : Nat} (h : Is16 w v p) : ∃ a n c, v = .slice a n c ∧ n = (dg 256 p).length ∧ Is16 w (.slice a n c) p := by
  obtain ⟨a, c, rfl, _⟩ := id h
  exact ⟨_, _, _, rfl, rfl, h⟩
theorem len_le {p k : Nat} (h : p < 4294967296 ^ k) (hk : k ≤ 1000) : len32 p ≤ 1000 := Nat.le_trans (dg_len_le (by decide) h) hk
theorem len8_le {p k : Nat} (h : p < 4294967296 ^ k) (hk : k ≤ 1000) : (dg 256 p).length ≤ 10000 := by
  have e : 4294967296 ^ k = 256 ^ (4 * k) := by rw [show 4294967296 = 256 ^ 4 by decide, ← Nat.pow_mul]
  rw [e] at h
  exact Nat.le_trans (dg_len_le (by decide) h) (by omega)
theorem txt_of {l : List Nat} {n : Nat} (h0 : n ≠ 0) (h1 : ∀ d ∈ l, d < 10) (h2 : ∀ d, l.getLast? = some d → d ≠ 0) (h3 : val 10 l = n) : txt n = (l.map (48 + ·)).reverse := by
  have e := dg_of (B := 10) (by decide) h1 h2 h3
  unfold txt dz
  rw [if_neg h0, ← e]
theorem text_told (v : Value) (p : Nat) (b : ByteArray) (w : World) (hp : IsN w v p) (h1 : len32 p ≤ 1000) (hb : strOf (txt p) = b) :
    Calls Tryd.prog 31 #[v] w fun e w' => e = .returned (.string b) ∧ Below w.heap.size w w' := by
  subst hb
  exact text_any16 v p w hp h1
theorem nats_pair {w : World} {p q : Nat} {a b : Option Addr} {n m ca cb : Nat} (hp : IsN w (.agg #[.slice a n ca]) p) (hq : IsN w (.agg #[.slice b m cb]) q) :
    Nats (w.alloc (.cells #[.slice a n ca, .slice b m cb] 26)) (some ⟨w.heap.size, 0, none⟩) 2 2 [.slice a n ca, .slice b m cb] [p, q] := by
  obtain ⟨a', ca', e, hS⟩ := hp.form
  obtain ⟨b', cb', e', hT⟩ := hq.form
  simp at e e'
  obtain ⟨rfl, rfl, rfl⟩ := e
  obtain ⟨rfl, rfl, rfl⟩ := e'
  exact nats_two w a b ca cb p q hS hT
theorem drew_below (w : World) : Below w.heap.size w w.drew := (Below.refl _ w).drew

theorem light_any16 (a : Option Addr) (n cap : Nat) (w : World) :
    Calls Tryd.prog 8 #[.slice a n cap] w fun e w' => e = .returned (.bool (decide (n ≤ 20))) ∧ w = w' := by
  by_cases h : n ≤ 20
  · have e : decide ((n : Int) ≤ 20) = true := decide_eq_true (by omega)
    have e2 : decide (n ≤ 20) = true := decide_eq_true h
    rw [e2]
    go_enter Tryd.func8, Tryd.ntmps8
    go_wp2_with fail
    go_ret
    exact ⟨rfl, rfl⟩
  · have e : decide ((n : Int) ≤ 20) = false := decide_eq_false (by omega)
    have e2 : decide (n ≤ 20) = false := decide_eq_false h
    rw [e2]
    go_enter Tryd.func8, Tryd.ntmps8
    go_wp2_with fail
    go_ret
    exact ⟨rfl, rfl⟩

set_option maxRecDepth 20000 in
theorem is_any16 (v u : Value) (p q : Nat) (w : World) (hp : IsN w v p) (hq : Is16 w u q) (h1 : len32 p ≤ 1000) (h2 : (dg 256 q).length ≤ 1000000) :
    Calls Tryd.prog 12 #[v, u] w fun e w' => e = .returned (.bool (decide (p = q))) ∧ Below w.heap.size w w' := by
  obtain ⟨a, n, c, rfl, hp⟩ := hp.nm
  have h3 : (dg 256 p).length ≤ 10000 := len8_le (len32_lt p) h1
  have CP := Lib.hid (fun wx hx => parts_any (.agg #[.slice a n c]) p wx hx (by omega))
  have CO := Lib.hid (fun wx x cx (hx : Sl wx 1 (.slice x (len32 p) cx) (len32 p) (u32s (dg 4294967296 p))) => refOf16_any x (len32 p) cx _ wx hx (by omega) (dg_lt (by decide) p))
  rw [dg_val (by decide)] at CO
  have CS := Lib.hid (fun vx ux wx hx hy => refSame16_any vx ux p q wx hx hy (by omega) h2)
  obtain ⟨b, hb⟩ : ∃ b, b = decide (p = q) := ⟨_, rfl⟩
  rw [← hb] at CS ⊢
  obtain ⟨m, hm⟩ : ∃ m, m = len32 p := ⟨_, rfl⟩
  rw [← hm] at CP CO
  have HP := Lib.hid hp
  have HQ := Lib.hid hq
  have M0 := Mem.start w
  clear hp hq h1 h2 h3 hm hb
  go_enter Tryd.func12, Tryd.ntmps12
  go_wp2_with ((with_reducible refine (?_ : Go.wpList _ _ _ (_ :: _) _ _)); (first | go_skip | (refine wpL_bx M0 rfl rfl rfl rfl ?_; clear M0; intro g1 w1 M1) | (refine wpL_alc M0 rfl rfl ?_; clear M0; intro g1 w1 M1) | (refine wpL_ldc M0 rfl rfl rfl ?_) | (refine wpL_lgc M0 rfl rfl rfl ?_) | (refine wpL_stc M0 rfl rfl rfl rfl ?_; clear M0; intro w' M0) | (refine wpL_sti M0 rfl rfl rfl rfl ?_; clear M0; intro w' M0) | (refine wpL_sth M0 rfl rfl rfl rfl (wr_minus _ _ _) ?_; clear M0; intro w' M0) | (refine wpL_ldc M1 rfl rfl rfl ?_) | (refine wpL_lgc M1 rfl rfl rfl ?_) | (refine wpL_stc M1 rfl rfl rfl rfl ?_; clear M1; intro w' M1) | (refine wpL_sti M1 rfl rfl rfl rfl ?_; clear M1; intro w' M1) | (refine wpL_sth M1 rfl rfl rfl rfl (wr_minus _ _ _) ?_; clear M1; intro w' M1)))
  refine (CP.out _ (HP.out.below M1.below)).mono ?_
  rintro e w1 ⟨x, cx, rfl, hx, hA⟩
  replace M1 := M1.call hA
  have HX := Lib.hid hx
  clear hA hx
  go_wp2_with ((with_reducible refine (?_ : Go.wpList _ _ _ (_ :: _) _ _)); (first | go_skip | (refine wpL_ldc M1 rfl rfl rfl ?_) | (refine wpL_lgc M1 rfl rfl rfl ?_) | (refine wpL_stc M1 rfl rfl rfl rfl ?_; clear M1; intro w' M1) | (refine wpL_sti M1 rfl rfl rfl rfl ?_; clear M1; intro w' M1) | (refine wpL_sth M1 rfl rfl rfl rfl (wr_minus _ _ _) ?_; clear M1; intro w' M1)))
  refine (CO.out _ _ _ HX.out).mono ?_
  rintro e w2 ⟨t, rfl, ht, hA⟩
  replace M1 := M1.call hA
  have HT := Lib.hid ht
  clear hA ht HX
  go_wp2_with ((with_reducible refine (?_ : Go.wpList _ _ _ (_ :: _) _ _)); (first | go_skip | (refine wpL_ldc M1 rfl rfl rfl ?_) | (refine wpL_lgc M1 rfl rfl rfl ?_) | (refine wpL_stc M1 rfl rfl rfl rfl ?_; clear M1; intro w' M1) | (refine wpL_sti M1 rfl rfl rfl rfl ?_; clear M1; intro w' M1) | (refine wpL_sth M1 rfl rfl rfl rfl (wr_minus _ _ _) ?_; clear M1; intro w' M1)))
  refine (CS.out _ _ _ HT.out (HQ.out.below M1.below)).mono ?_
  rintro e w3 ⟨rfl, hA⟩
  replace M1 := M1.call hA
  clear hA HT
  go_wp2_with ((with_reducible refine (?_ : Go.wpList _ _ _ (_ :: _) _ _)); (first | go_skip | (refine wpL_ldc M1 rfl rfl rfl ?_) | (refine wpL_lgc M1 rfl rfl rfl ?_) | (refine wpL_stc M1 rfl rfl rfl rfl ?_; clear M1; intro w' M1) | (refine wpL_sti M1 rfl rfl rfl rfl ?_; clear M1; intro w' M1) | (refine wpL_sth M1 rfl rfl rfl rfl (wr_minus _ _ _) ?_; clear M1; intro w' M1)))
  go_ret
  exact ⟨rfl, M1.below⟩
end Go.Proofs.YtghioakpigdagaaDoor
