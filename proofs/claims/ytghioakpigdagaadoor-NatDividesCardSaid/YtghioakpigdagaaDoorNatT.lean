/-
  The sum of two numbers, the difference: the code's.
-/
import Derived.Test.YtghioakpigdagaaDoorNatG
import Derived.Test.YtghioakpigdagaaDoorNatS
set_option linter.unusedVariables false
set_option linter.unusedSimpArgs false
namespace Go.Th
open Go Go.RowKit
/-- An owned row's block. -/
theorem own_blk {w : World} {base : Nat} {e : TypeId} {g n cap : Nat} {xs : List Value} (h : w.ownsRow base e 1 (.slice (some ⟨g, 0, none⟩) n cap) n xs) :
    ∃ cs, Blk w g e cs ∧ cs.length = cap ∧ over cs 0 xs = cs ∧ n ≤ cap ∧ cap ≤ maxLen ∧ base ≤ g ∧ xs.length = n := by
  obtain ⟨h1, h2⟩ := h
  rcases h2 with ⟨he, _⟩ | ⟨g', cap', cur, he, hb, hg, hnc, hcm, hcs, ht⟩
  · cases he
  · cases he
    refine ⟨cur.toList, by unfold Blk; simpa using hg, by simpa using hcs, ?_, hnc, hcm, hb, by simpa using h1⟩
    unfold over splice
    rw [List.take_zero, List.nil_append, ← ht, Nat.zero_add, List.length_take]
    have : min (n * 1) cur.toList.length = n * 1 := by
      have : cur.toList.length = cap := by simpa using hcs
      omega
    rw [this, List.take_append_drop]
theorem Mem.add {w0 w : World} {bs : List (Nat × TypeId × List Value)} {g : Nat} {t : TypeId} {cs : List Value} (M : Mem w0 w bs) (K : Blk w g t cs) (h1 : w0.heap.size ≤ g) (h2 : ∀ e ∈ bs, e.1 ≠ g) : Mem w0 w ((g, t, cs) :: bs) :=
  Mem.of_mew ((Mew.of_mem (S := fun _ => False) M).add K (.inr h1) h2)
end Go.Th
namespace Go.Proofs.YtghioakpigdagaaDoor
open Go Go.RowKit Go.Th Go.Th.Dig

theorem IsN.form {w : World} {v : Value} {p : Nat} (h : IsN w v p) : ∃ a cap, v = .agg #[.slice a (len32 p) cap] ∧ Sl w 1 (.slice a (len32 p) cap) (len32 p) (u32s (dg 4294967296 p)) := h
theorem nats_two (w : World) (a b : Option Addr) (ca cb p q : Nat) (hS : Sl w 1 (.slice a (len32 p) ca) (len32 p) (u32s (dg 4294967296 p))) (hT : Sl w 1 (.slice b (len32 q) cb) (len32 q) (u32s (dg 4294967296 q))) :
    Nats (w.alloc (.cells #[.slice a (len32 p) ca, .slice b (len32 q) cb] 26)) (some ⟨w.heap.size, 0, none⟩) 2 2 [.slice a (len32 p) ca, .slice b (len32 q) cb] [p, q] := by
  have hB := (Below.refl w.heap.size w).alloc (Nat.le_refl _) (.cells #[.slice a (len32 p) ca, .slice b (len32 q) cb] 26)
  refine ⟨sl_lit2 w _ _ _, rfl, fun j hj => ?_⟩
  match j, hj with
  | 0, _ => exact ⟨a, ca, rfl, hS.below hB⟩
  | 1, _ => exact ⟨b, cb, rfl, hT.below hB⟩

set_option maxRecDepth 20000 in
theorem add_any16 (v u : Value) (p q : Nat) (w : World) (hp : IsN w v p) (hq : IsN w u q) (h1 : len32 p ≤ 1000) (h2 : len32 q ≤ 1000) :
    Calls Tryd.prog 13 #[v, u] w fun e w' => ∃ t, e = .returned t ∧ IsN w' t (p + q) ∧ Below w.heap.size w w' := by
  obtain ⟨a, ca, rfl, hS⟩ := hp.form
  obtain ⟨b, cb, rfl, hT⟩ := hq.form
  have hlen : ∀ k, len32 ([p, q].getD k 0) ≤ 1000 := fun k => by
    match k with
    | 0 => exact h1
    | 1 => exact h2
    | k + 2 => exact Nat.zero_le _
  have C := fun wx (hx : Below w.heap.size w wx) => sum_any _ 2 2 _ [p, q] _ (nats_two wx a b ca cb p q (hS.below hx) (hT.below hx)) (by omega) hlen
  rw [show tot [p, q] 2 = p + q by simp [tot]] at C
  have HC := Lib.hid C
  obtain ⟨n, hn⟩ : ∃ n, n = len32 p := ⟨_, rfl⟩
  obtain ⟨m, hm⟩ : ∃ m, m = len32 q := ⟨_, rfl⟩
  obtain ⟨s, hs⟩ : ∃ s, s = p + q := ⟨_, rfl⟩
  rw [← hn, ← hm, ← hs] at HC
  rw [← hn, ← hm, ← hs]
  have M0 := Mem.start w
  clear hp hq hS hT hlen C hn hm hs h1 h2
  go_enter Tryd.func13, Tryd.ntmps13
  go_wp2_with ((with_reducible refine (?_ : Go.wpList _ _ _ (_ :: _) _ _)); (first | go_skip | (refine wpL_bx M0 rfl rfl rfl rfl ?_; clear M0; intro g1 w1 M1) | (refine wpL_alc M0 rfl rfl ?_; clear M0; intro g1 w1 M1) | (refine wpL_ldc M0 rfl rfl rfl ?_) | (refine wpL_lgc M0 rfl rfl rfl ?_) | (refine wpL_stc M0 rfl rfl rfl rfl ?_; clear M0; intro w' M0) | (refine wpL_sti M0 rfl rfl rfl rfl ?_; clear M0; intro w' M0) | (refine wpL_sth M0 rfl rfl rfl rfl (wr_minus _ _ _) ?_; clear M0; intro w' M0) | (refine wpL_bx M1 rfl rfl rfl rfl ?_; clear M1; intro g2 w2 M2) | (refine wpL_alc M1 rfl rfl ?_; clear M1; intro g2 w2 M2) | (refine wpL_ldc M1 rfl rfl rfl ?_) | (refine wpL_lgc M1 rfl rfl rfl ?_) | (refine wpL_stc M1 rfl rfl rfl rfl ?_; clear M1; intro w' M1) | (refine wpL_sti M1 rfl rfl rfl rfl ?_; clear M1; intro w' M1) | (refine wpL_sth M1 rfl rfl rfl rfl (wr_minus _ _ _) ?_; clear M1; intro w' M1) | (refine wpL_bx M2 rfl rfl rfl rfl ?_; clear M2; intro g3 w3 M3) | (refine wpL_alc M2 rfl rfl ?_; clear M2; intro g3 w3 M3) | (refine wpL_ldc M2 rfl rfl rfl ?_) | (refine wpL_lgc M2 rfl rfl rfl ?_) | (refine wpL_stc M2 rfl rfl rfl rfl ?_; clear M2; intro w' M2) | (refine wpL_sti M2 rfl rfl rfl rfl ?_; clear M2; intro w' M2) | (refine wpL_sth M2 rfl rfl rfl rfl (wr_minus _ _ _) ?_; clear M2; intro w' M2) | (refine wpL_ldc M3 rfl rfl rfl ?_) | (refine wpL_lgc M3 rfl rfl rfl ?_) | (refine wpL_stc M3 rfl rfl rfl rfl ?_; clear M3; intro w' M3) | (refine wpL_sti M3 rfl rfl rfl rfl ?_; clear M3; intro w' M3) | (refine wpL_sth M3 rfl rfl rfl rfl (wr_minus _ _ _) ?_; clear M3; intro w' M3)))
  refine (HC.out _ M3.below).mono ?_
  rintro e w4 ⟨t, rfl, ht, hA⟩
  have M4 := (M3.alloc 26 [.slice a n ca, .slice b m cb]).drop
  replace M4 := M4.call hA
  obtain ⟨x, cx, rfl, hx⟩ := ht.form
  have K4 := M4.has (Has.head _ _ _ _)
  have hx := Lib.hid hx
  obtain ⟨l, hl⟩ : ∃ l, l = len32 s := ⟨_, rfl⟩
  have hx2 : Hid (Sl w4 1 (.slice x l cx) l (u32s (dg 4294967296 s))) := by rw [hl]; exact hx
  rw [← hl]
  have HL := Lib.hid hl
  clear hA ht hx hl
  go_wp2_with ((with_reducible refine (?_ : Go.wpList _ _ _ (_ :: _) _ _)); (first | go_skip | (refine wpL_ldc M4 rfl rfl rfl ?_) | (refine wpL_lgc M4 rfl rfl rfl ?_) | (refine wpL_stcT M4 rfl rfl rfl rfl ?_; clear M4; intro w' M4 hT) | (refine wpL_stiT M4 rfl rfl rfl rfl ?_; clear M4; intro w' M4 hT)))
  refine bodyPost_ret (res_cell rfl M4 rfl (Has.head _ _ _ _) (rd_nat _)) rfl ?_
  refine ⟨_, rfl, ⟨x, cx, by rw [HL.out], ?_⟩, M4.below⟩
  have := sl_kept hx2.out K4 (noPart_sl _ _ _) hT
  rwa [HL.out] at this

set_option maxRecDepth 20000 in
theorem lower_nil (a b : Option Addr) (cap capb : Nat) (w : World) :
    Calls Tryd.prog 38 #[.slice a 0 cap, .slice b 0 capb, .int .u32 1] w fun e w' => e = .returned (.bool false) ∧ w = w' := by
  have hd0 : ((0 : Int) != 0) = false := by decide
  go_enter Tryd.func38, Tryd.ntmps38
  go_wp2_with fail
  go_loop [7, 13] (fun r c => r = .int .u64 0 ∧ c = .int .i64 0) (fun _ c => (intOf c).toNat)
  case atStart => exact ⟨rfl, rfl⟩
  case round =>
    obtain ⟨rfl, rfl⟩ := hrel
    go_wp2_with fail
    go_loop [7, 10] (fun r c => r = .int .u64 0 ∧ c = .int .i64 0) (fun _ c => (intOf c).toNat)
    case atStart => exact ⟨rfl, rfl⟩
    case round =>
      obtain ⟨rfl, rfl⟩ := hrel
      go_wp2_with fail
      go_ret
      exact ⟨rfl, rfl⟩

/-- What is left of a greater number, taken off. -/
theorem sub_val {p q c n : Nat} {O : List Nat} (h1 : O.length = n) (h2 : ∀ d ∈ O, d < 4294967296) (hq : q ≤ p) (hp : p < 4294967296 ^ n) (h : val 4294967296 O + q = p + 4294967296 ^ n * c) : val 4294967296 O = p - q := by
  have hv := val_lt (B := 4294967296) (by decide) h2
  rw [h1] at hv
  by_cases h0 : c = 0
  · rw [h0] at h; omega
  · have : 4294967296 ^ n * 1 ≤ 4294967296 ^ n * c := Nat.mul_le_mul_left _ (by omega)
    omega

/-- A copy, lowered by another row, cut: behind the exchange of both. -/
theorem lower_own (v : Value) (n : Nat) (p q : Nat) (b : Option Addr) (cb : Nat) (w1 w : World) (hn : n = len32 p) (ho : w.ownsRow w1.heap.size 38 1 v n (u32s (dg 4294967296 p))) (hB : w1.heap.size ≤ w.heap.size)
    (hT : Sl w1 1 (.slice b (len32 q) cb) (len32 q) (u32s (dg 4294967296 q))) (hT2 : Sl w 1 (.slice b (len32 q) cb) (len32 q) (u32s (dg 4294967296 q))) (hq : q ≤ p) (hl : len32 p ≤ 1000) :
    ∃ a cap, v = .slice a n cap ∧ Calls Tryd.prog 38 #[v, .slice b (len32 q) cb, .int .u32 1] w fun e w' => ∃ x O, e = .returned (.bool x) ∧ Sl w' 1 v n (u32s O) ∧ (∀ d ∈ O, d < 4294967296) ∧ val 4294967296 O = p - q ∧
      ((w = w') ∨ ∃ g, w1.heap.size ≤ g ∧ Turned (fun k => k = g) w w') := by
  have hlq : len32 q ≤ len32 p := dg_len_of (by decide) hq (Nat.le_refl _)
  by_cases h0 : n = 0
  · subst h0
    have hp0 : p = 0 := (len32_0 p).1 hn.symm
    have hq0 : q = 0 := by omega
    subst hp0 hq0
    obtain ⟨a, cap, rfl, _⟩ := ownsRow_slice ho
    exact ⟨a, cap, rfl, (lower_nil a b cap cb w).mono fun e w' ⟨h1, h2⟩ => ⟨false, [], h1, h2 ▸ Sl.of_own ho, by simp, rfl, .inl h2⟩⟩
  · obtain ⟨g, cap, rfl, hg⟩ := own_form ho (by omega)
    obtain ⟨cs, K, k1, k2, k3, k4, k5, k6⟩ := own_blk ho
    rw [← k2] at K
    refine ⟨_, _, rfl, (lower_go g 0 n cap b (len32 q) cb 1 (dg 4294967296 p) (dg 4294967296 q) cs w K (by omega) hn.symm (dg_lt (by decide) p) hT2 (fun h1 x hx e => ?_) (by omega) (by omega) (by decide) (dg_lt (by decide) q)).mono ?_⟩
    · have := sl_lt32 hT x hx h1
      omega
    · rintro e w' ⟨c, O, h1, h2, h3, h4, h5, h6⟩
      rw [Nat.one_mul, dg_val (by decide), dg_val (by decide)] at h5
      exact ⟨_, O, h1, win_sl h2 (by omega) h3 k3 k4, h4, sub_val h3 h4 hq (by rw [hn]; exact len32_lt p) h5, .inr ⟨g, hg, h6⟩⟩
end Go.Proofs.YtghioakpigdagaaDoor
