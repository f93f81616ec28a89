/-
  A number's text; the division by any number: the code's.
-/
import Derived.Test.YtghioakpigdagaaDoorNatEa
set_option linter.unusedVariables false
set_option linter.unusedSimpArgs false
namespace Go.Th
open Go Go.RowKit
theorem own_aside {w w' : World} {base : Nat} {e : TypeId} {v : Value} {n G : Nat} {xs : List Value} (h : w.ownsRow base e 1 v n xs) (hT : Turned (fun k => k = G) w w') (hG : G < base) : w'.ownsRow base e 1 v n xs := by
  refine ⟨h.1, ?_⟩
  rcases h.2 with h0 | ⟨g, cap, cur, e0, hb, hg, r⟩
  · exact .inl h0
  · exact .inr ⟨g, cap, cur, e0, hb, (hT.block g (Array.getElem?_eq_some_iff.1 hg).1 (by omega)).trans hg, r⟩
theorem below_aside {B : Nat} {w wr w' : World} {G : Nat} (hB : Below B w wr) (hT : Turned (fun k => k = G) wr w') (hG : B ≤ G) (hs : B ≤ wr.heap.size) : Below B w w' :=
  hB.trans ⟨hT.os, hT.tape, hT.output, hT.size, fun k hk => hT.block k (by omega) (by omega)⟩
end Go.Th
namespace Go.Proofs.YtghioakpigdagaaDoor
open Go Go.RowKit Go.Th Go.Th.Dig

theorem div_any16 (v u : Value) (p q : Nat) (w : World) (hp : IsN w v p) (hq : IsN w u q) (h1 : len32 p ≤ 1000) (h2 : len32 q ≤ 1000) :
    Calls Tryd.prog 25 #[v, u] w fun e w' => ∃ t s, e = .returned (.tuple #[t, s]) ∧ IsN w' t (p / q) ∧ IsN w' s (p % q) ∧ Below w.heap.size w w' := by
  by_cases hs : q = 0 ∨ p < q
  · have C := div_small v u p q w hp hq h1 h2 hs
    rcases hs with rfl | hs
    · rw [Nat.div_zero, Nat.mod_zero]; exact C
    · rw [Nat.div_eq_of_lt hs, Nat.mod_eq_of_lt hs]; exact C
  · exact div_go v u p q w hp hq h1 (by omega) (by omega)

theorem dropWhile_at {a b : Type} (f : a → b) (p : b → Bool) (q : a → Bool) : ∀ l : List a, (∀ x ∈ l, p (f x) = q x) → (l.map f).dropWhile p = (l.dropWhile q).map f
  | [], _ => rfl
  | x :: l, h => by
    rw [List.map_cons, List.dropWhile_cons, List.dropWhile_cons, h x (.head _)]
    split
    · exact dropWhile_at f p q l fun y hy => h y (.tail _ hy)
    · rfl
theorem strOf_drop (l : List Nat) (h : ∀ x ∈ l, x < 256) : (⟨((l.map UInt8.ofNat).dropWhile (· == 48)).toArray⟩ : ByteArray) = strOf (l.dropWhile (· == 48)) := by
  unfold strOf
  rw [dropWhile_at UInt8.ofNat (· == 48) (· == 48) l fun x hx => ?_]
  have := h x hx
  by_cases e : x = 48
  · subst e; rfl
  · rw [beq_eq_false_iff_ne.2 e, beq_eq_false_iff_ne]
    intro e2
    have := congrArg UInt8.toNat e2
    rw [UInt8.toNat_ofNat'] at this
    have e3 : (48 : UInt8).toNat = 48 := rfl
    rw [e3, Nat.mod_eq_of_lt (by omega)] at this
    exact e this
theorem over_front (cs : List Value) (A R : List Nat) : over (over cs 0 (u32s (A ++ R))) 0 (u32s A) = over cs 0 (u32s (A ++ R)) := by
  have e : u32s (A ++ R) = u32s A ++ u32s R := by simp [u32s]
  unfold over splice
  rw [e]
  simp [List.drop_append]
def slN : Value → Nat
  | .slice _ n _ => n
  | _ => 0
theorem slN_own {w : World} {base : Nat} {e : TypeId} {v : Value} {n : Nat} {xs : List Value} (h : w.ownsRow base e 1 v n xs) : slN v = n := by
  obtain ⟨a, cap, rfl, _, _⟩ := ownsRow_slice h
  rfl

set_option maxRecDepth 20000 in
set_option maxHeartbeats 3200000 in
theorem text_nz (v : Value) (p : Nat) (w : World) (hp : IsN w v p) (h1 : len32 p ≤ 1000) (hp0 : p ≠ 0) :
    Calls Tryd.prog 31 #[v] w fun e w' => e = .returned (.string (strOf (txt p))) ∧ Below w.heap.size w w' := by
  have CZ := fun wx hx => zero_any v p wx hx (by omega)
  rw [decide_eq_false hp0] at CZ
  have HP := Lib.hid hp
  have hpl := len32_lt p
  obtain ⟨a, ca, rfl, hS⟩ := hp.form
  have CL := fun wx hx => clone32_any (.slice a (len32 p) ca) (len32 p) (dg 4294967296 p) rfl wx hx (by omega)
  have hl0 : 0 < len32 p := Nat.pos_of_ne_zero fun e => hp0 ((len32_0 p).1 e)
  obtain ⟨n, hn⟩ : ∃ n, n = len32 p := ⟨_, rfl⟩
  rw [← hn] at hS HP CZ CL h1 hl0 hpl ⊢
  have HN := Lib.hid hn
  have HPL := Lib.hid hpl
  have HS := Lib.hid hS
  have CZ := Lib.hid CZ
  have CL := Lib.hid CL
  have HP0 := Lib.hid hp0
  have M0 := Mem.start w
  clear hp hS hpl hn hp0
  go_enter Tryd.func31, Tryd.ntmps31
  go_wp2_with ((with_reducible refine (?_ : Go.wpList _ _ _ (_ :: _) _ _)); (first | go_skip | (refine wpL_bx M0 rfl rfl rfl rfl ?_; clear M0; intro g1 w1 M1) | (refine wpL_alc M0 rfl rfl ?_; clear M0; intro g1 w1 M1) | (refine wpL_ldc M0 rfl rfl rfl ?_) | (refine wpL_lgc M0 rfl rfl rfl ?_) | (refine wpL_stc M0 rfl rfl rfl rfl ?_; clear M0; intro w' M0) | (refine wpL_sti M0 rfl rfl rfl rfl ?_; clear M0; intro w' M0) | (refine wpL_sth M0 rfl rfl rfl rfl (wr_minus _ _ _) ?_; clear M0; intro w' M0) | (refine wpL_ldc M1 rfl rfl rfl ?_) | (refine wpL_lgc M1 rfl rfl rfl ?_) | (refine wpL_stc M1 rfl rfl rfl rfl ?_; clear M1; intro w' M1) | (refine wpL_sti M1 rfl rfl rfl rfl ?_; clear M1; intro w' M1) | (refine wpL_sth M1 rfl rfl rfl rfl (wr_minus _ _ _) ?_; clear M1; intro w' M1)))
  refine (CZ.out _ (HP.out.below M1.below)).mono ?_
  rintro e w2 ⟨rfl, hA⟩
  replace M1 := M1.call hA
  clear hA CZ
  go_wp2_with ((with_reducible refine (?_ : Go.wpList _ _ _ (_ :: _) _ _)); (first | go_skip | (refine wpL_ldc M1 rfl rfl rfl ?_) | (refine wpL_lgc M1 rfl rfl rfl ?_) | (refine wpL_stc M1 rfl rfl rfl rfl ?_; clear M1; intro w' M1) | (refine wpL_sti M1 rfl rfl rfl rfl ?_; clear M1; intro w' M1) | (refine wpL_sth M1 rfl rfl rfl rfl (wr_minus _ _ _) ?_; clear M1; intro w' M1)))
  refine (CL.out _ (HS.out.below M1.below)).mono ?_
  rintro e w3 ⟨v3, rfl, ho, hA⟩
  obtain ⟨G, cap, rfl, hlo⟩ := own_form ho hl0
  obtain ⟨cs, K, k1, k2, k3, k4, k5, k6⟩ := own_blk ho
  rw [← k2] at K
  have hB := M1.below.trans (hA.mono M1.below.size)
  have hsz := hB.size
  have hGw := K.lt
  have hlw : w.heap.size ≤ G := Nat.le_trans M1.below.size hlo
  have HT0 := Lib.hid (Tex.start p)
  have ho0 : w3.ownsRow w3.heap.size 5 1 (.slice none 0 0) ([] : List Nat).length (u8s (([] : List Nat).map (48 + ·))) := ⟨rfl, .inl ⟨rfl, rfl⟩⟩
  obtain ⟨B1, hB1⟩ : ∃ B1, B1 = w3.heap.size := ⟨_, rfl⟩
  rw [← hB1] at ho0 hGw
  have hb1 : B1 ≤ w3.heap.size := by omega
  have hwb : w.heap.size ≤ B1 := by omega
  have HK0 : Hid (∃ c0 : List Value, n ≤ c0.length ∧ Blk w3 G 38 (over c0 0 (u32s (dg 4294967296 p)))) := Lib.hid ⟨cs, by omega, K⟩
  clear M1 hA ho K k1 k2 k5 k6 hB1 CL
  go_wp2_with fail
  go_loopw [3, 4] (fun b l wr => ∃ (T : List Nat) (q m cm : Nat), m = len32 q ∧ T.length ≤ 10 * n + 9 ∧ m ≤ cm ∧ cm ≤ maxLen ∧ l = .slice (some ⟨G, 0, none⟩) m cm ∧ Hid (Tex p T q) ∧ Hid (∃ c0 : List Value, m ≤ c0.length ∧ Blk wr G 38 (over c0 0 (u32s (dg 4294967296 q)))) ∧ wr.ownsRow B1 5 1 b T.length (u8s (T.map (48 + ·))) ∧ Below w.heap.size w wr ∧ B1 ≤ wr.heap.size)
    (fun b _ _ => 10 * n + 20 - slN b)
  case atStart => exact ⟨[], p, n, cap, HN.out, Nat.zero_le _, k3, k4, rfl, HT0, HK0, ho0, hB, hb1⟩
  case round =>
    clear ho0 hB hb1 HT0 HK0 k3 k4 hsz
    obtain ⟨T, q, m, cm, hm, hTn, hmc, hcm, rfl, HT, HK, ho, hB, hb1⟩ := hrel
    by_cases hq0 : q = 0
    · subst hq0
      have hm0 : m = 0 := hm
      subst hm0
      have hX := HT.out.done HP0.out
      have hdg := HT.out.dig
      have hTl : 0 < T.length := Nat.pos_of_ne_zero fun e => HP0.out (by have := HT.out.sum; rw [List.eq_nil_of_length_eq_zero e] at this; simpa [val] using this.symm)
      obtain ⟨gB, cB, rfl, hlB⟩ := own_form ho hTl
      have C := reverse_any B1 gB T.length cB (T.map (48 + ·)) wr ho (by simp) (by omega) hb1
      obtain ⟨X, eX⟩ : ∃ X, X = (T.map (48 + ·)).reverse := ⟨_, rfl⟩
      rw [← eX] at C hX
      have hXb : ∀ x ∈ X, x < 256 := by
        intro x hx
        rw [eX] at hx
        obtain ⟨d, hd, rfl⟩ := List.mem_map.1 (List.mem_reverse.1 hx)
        have := hdg d hd
        omega
      have CT : ∀ wx, Calls Tryd.prog 50 #[.string (strOf X), .string ⟨#[48]⟩] wx fun e w' => e = .returned (.string (strOf (txt p))) ∧ wx = w' := by
        intro wx
        have := trimLeft_any (X.map UInt8.ofNat) wx
        rw [strOf_drop X hXb, hX] at this
        exact this
      have HC := Lib.hid C
      have HCT := Lib.hid CT
      clear HT HK ho C CT eX hXb hX hdg hm
      go_wp2_with fail
      refine HC.out.mono ?_
      rintro e w4 ⟨rfl, ho4, hB4⟩
      have HB4 := Lib.hid (hB.trans (hB4.mono hwb))
      have ST := run_str (Sl.of_own ho4)
      clear ho4 hB4 hB
      go_wp2_with fail
      refine (HCT.out _).mono ?_
      rintro e w5 ⟨rfl, rfl⟩
      go_wp2_with fail
      go_ret
      exact ⟨rfl, HB4.out⟩
    · have hTl := HT.out.len (Nat.pos_of_ne_zero hq0) HPL.out
      have hm0 : 0 < m := by rw [hm]; exact Nat.pos_of_ne_zero fun e => hq0 ((len32_0 q).1 e)
      obtain ⟨c0, k1, K⟩ := HK.out
      have hs1 := Lib.hid (slN_own ho)
      have hmn : m ≤ n := by
        rw [hm, HN.out]
        refine dg_len_of (by decide) ?_ (Nat.le_refl _)
        rw [← HT.out.sum]
        have : 1 * q ≤ 10 ^ T.length * q := Nat.mul_le_mul_right _ (Nat.pow_pos (by decide))
        omega
      have C := nines_go G 0 m cm (dg 4294967296 q) c0 wr K (by omega) hm.symm (dg_lt (by decide) q) (by omega) hmc hcm
      rw [dg_val (by decide)] at C
      have HST := Lib.hid HT.out.step
      obtain ⟨x, ex⟩ : ∃ x, x = q % 1000000000 := ⟨_, rfl⟩
      have hx : x < 1000000000 := by rw [ex]; exact Nat.mod_lt _ (by decide)
      rw [← ex] at C HST
      have HC := Lib.hid C
      clear HT HK K C ex hm
      go_wp2_with fail
      refine HC.out.mono ?_
      rintro e w4 ⟨O, rfl, hK4, o1, o2, o3, hT4⟩
      have hB4 := below_aside hB hT4 hlw (by omega)
      have ho4 := own_aside ho hT4 hGw
      have hs4 := hT4.size
      have hb4 : B1 ≤ w4.heap.size := by omega
      have HK4 := Lib.hid hK4
      have HO1 := Lib.hid o1
      have HO2 := Lib.hid o2
      have HO3 := Lib.hid o3
      clear HC hB ho hT4 hK4 o1 o2 o3 hs4
      go_wp2_with fail
      go_loopw [3, 5, 18] (fun b y i wx => ∃ (k : Nat), k ≤ 9 ∧ i = .int .i64 k ∧ y = .int .u64 ((x / 10 ^ k : Nat) : Int) ∧ wx.ownsRow B1 5 1 b (T.length + k) (u8s ((T ++ low x k).map (48 + ·))) ∧ Below w.heap.size w wx ∧ Below B1 w4 wx) (fun _ _ i _ => 9 - (intOf i).toNat)
      case atStart => exact ⟨0, Nat.zero_le _, rfl, by rw [Nat.pow_zero, Nat.div_one], by simpa [low] using ho4, hB4, Below.refl _ _⟩
      case round =>
        clear ho4 hB4
        obtain ⟨k, hk, rfl, rfl, ho, hB, hBB⟩ := hrel
        by_cases hlt : k < 9
        · have hpk := Nat.div_le_self x (10 ^ k)
          have hnx : x / 10 ^ (k + 1) = x / 10 ^ k / 10 := by rw [Nat.div_div_eq_div_mul, Nat.pow_succ]
          have hlw := low_succ x k
          obtain ⟨y, ey⟩ : ∃ y, y = x / 10 ^ k := ⟨_, rfl⟩
          rw [← ey] at hpk hnx hlw ⊢
          obtain ⟨d, ed⟩ : ∃ d, d = y % 10 := ⟨_, rfl⟩
          have hd : d < 10 := by omega
          have e0 : (y : Int) % 10 = (d : Int) := by omega
          have e1 : IntKind.u64.wrap (48 + (d : Int)) = 48 + (d : Int) := IntWalk.u64_in _ (by omega)
          have e2 : IntKind.u8.wrap (48 + (d : Int)) = 48 + (d : Int) := IntWalk.u8_in _ (by omega)
          rw [← ed] at hlw
          have HLW := Lib.hid hlw
          have HNX := Lib.hid hnx
          have hb5 : B1 ≤ wr.heap.size := Nat.le_trans hb4 hBB.size
          clear hlw hnx ed ey
          go_wp2_with (at_builtin; refine wpList_app Eu8 rfl (.tmp 20) (.tmp 25) rfl B1 rfl (ho.alloc _) rfl (Sl.one _ _ _) (by intro u hu; simp at hu; subst hu; rfl) (by unfold maxLen; omega) (by omega) (by simp; omega) ?_)
          intro v2 w5 ho5 hg5 _
          have hA5 := app_below ho hb5 hg5
          have hB5 := hB.trans (hA5.mono hwb)
          have hBB5 := hBB.trans hA5
          clear ho hg5 hB hBB hA5
          go_wp2_with fail
          go_roundw
          case rel => exact ⟨k + 1, by omega, by go_num, by rw [HNX.out]; go_num, by rw [HLW.out, ← Nat.add_assoc]; simp only [u8s, List.map_append, List.map_cons, List.map_nil, List.append_assoc] at ho5 ⊢; exact_mod_cast ho5, hB5, hBB5⟩
          case measure => simp [intOf]; omega
        · obtain rfl : k = 9 := by omega
          have hK5 := HK4.out.below hBB hGw
          have S5 := win_sl hK5 (by rw [HO1.out]; omega) HO1.out hmc hcm
          have C := cut_any _ m cm O wr S5 HO2.out (by omega)
          obtain ⟨z, hz⟩ := dg_zeros (B := 4294967296) (by decide) m O HO1.out HO2.out
          rw [HO3.out] at C hz
          have hlm : len32 (q / 1000000000) ≤ m := by
            show (dg 4294967296 (q / 1000000000)).length ≤ m
            have := congrArg List.length hz
            rw [List.length_append, HO1.out] at this
            omega
          have HK6 : Hid (∃ c0 : List Value, len32 (q / 1000000000) ≤ c0.length ∧ Blk wr G 38 (over c0 0 (u32s (dg 4294967296 (q / 1000000000))))) := Lib.hid ⟨over c0 0 (u32s O), by rw [win_len (by rw [HO1.out]; omega)]; omega, by
            have e := over_front c0 (dg 4294967296 (q / 1000000000)) (List.replicate z 0)
            rw [← hz] at e
            rw [e]; exact hK5⟩
          obtain ⟨m2, em2⟩ : ∃ m2, m2 = len32 (q / 1000000000) := ⟨_, rfl⟩
          have C : Calls Tryd.prog 35 #[.slice (some ⟨G, 0, none⟩) m cm] wr fun e w' => e = .returned (.slice (some ⟨G, 0, none⟩) m2 m2) ∧ wr = w' := by
            rw [em2]; exact C.mono fun e w' ⟨a1, a2, _⟩ => ⟨a1, a2⟩
          rw [← em2] at hlm HK6
          have HC := Lib.hid C
          have HM2 := Lib.hid em2
          have hs2 := Lib.hid (slN_own ho)
          have hb5 : B1 ≤ wr.heap.size := Nat.le_trans hb4 hBB.size
          clear hK5 S5 C hz em2 hBB
          go_wp2_with fail
          refine HC.out.mono ?_
          rintro e w6 ⟨rfl, rfl⟩
          go_wp2_with fail
          go_roundw
          case rel => exact ⟨_, q / 1000000000, m2, m2, HM2.out, by rw [List.length_append, low_length]; omega, Nat.le_refl _, by omega, rfl, HST, HK6, by rw [List.length_append, low_length]; exact ho, hB, hb5⟩
          case measure =>
            have e1 := hs1.out
            have e2 := hs2.out
            simp [e1, e2]; omega

theorem text_any16 (v : Value) (p : Nat) (w : World) (hp : IsN w v p) (h1 : len32 p ≤ 1000) :
    Calls Tryd.prog 31 #[v] w fun e w' => e = .returned (.string (strOf (txt p))) ∧ Below w.heap.size w w' := by
  by_cases hp0 : p = 0
  · have CZ := fun wx hx => zero_any v p wx hx (by omega)
    rw [decide_eq_true hp0] at CZ
    have HP := Lib.hid hp
    obtain ⟨a, ca, rfl, hS⟩ := hp.form
    have CZ := Lib.hid CZ
    subst hp0
    have M0 := Mem.start w
    clear hp hS
    go_enter Tryd.func31, Tryd.ntmps31
    go_wp2_with ((with_reducible refine (?_ : Go.wpList _ _ _ (_ :: _) _ _)); (first | go_skip | (refine wpL_bx M0 rfl rfl rfl rfl ?_; clear M0; intro g1 w1 M1) | (refine wpL_alc M0 rfl rfl ?_; clear M0; intro g1 w1 M1) | (refine wpL_ldc M0 rfl rfl rfl ?_) | (refine wpL_lgc M0 rfl rfl rfl ?_) | (refine wpL_stc M0 rfl rfl rfl rfl ?_; clear M0; intro w' M0) | (refine wpL_sti M0 rfl rfl rfl rfl ?_; clear M0; intro w' M0) | (refine wpL_sth M0 rfl rfl rfl rfl (wr_minus _ _ _) ?_; clear M0; intro w' M0) | (refine wpL_ldc M1 rfl rfl rfl ?_) | (refine wpL_lgc M1 rfl rfl rfl ?_) | (refine wpL_stc M1 rfl rfl rfl rfl ?_; clear M1; intro w' M1) | (refine wpL_sti M1 rfl rfl rfl rfl ?_; clear M1; intro w' M1) | (refine wpL_sth M1 rfl rfl rfl rfl (wr_minus _ _ _) ?_; clear M1; intro w' M1)))
    refine (CZ.out _ (HP.out.below M1.below)).mono ?_
    rintro e w2 ⟨rfl, hA⟩
    replace M1 := M1.call hA
    clear hA CZ
    go_wp2_with ((with_reducible refine (?_ : Go.wpList _ _ _ (_ :: _) _ _)); (first | go_skip | (refine wpL_ldc M1 rfl rfl rfl ?_) | (refine wpL_lgc M1 rfl rfl rfl ?_) | (refine wpL_stc M1 rfl rfl rfl rfl ?_; clear M1; intro w' M1) | (refine wpL_sti M1 rfl rfl rfl rfl ?_; clear M1; intro w' M1) | (refine wpL_sth M1 rfl rfl rfl rfl (wr_minus _ _ _) ?_; clear M1; intro w' M1)))
    go_ret
    exact ⟨rfl, M1.below⟩
  · exact text_nz v p w hp h1 hp0
end Go.Proofs.YtghioakpigdagaaDoor
