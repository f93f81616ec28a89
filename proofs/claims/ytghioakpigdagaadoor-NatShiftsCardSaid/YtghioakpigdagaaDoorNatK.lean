/-
  Parts in a row of the call's own: raised by a number times another row: the code's.
-/
import Derived.Test.YtghioakpigdagaaDoorNatJ
import Derived.Test.YtghioakpigdagaaDoorPackBits
set_option linter.unusedVariables false
set_option linter.unusedSimpArgs false
namespace Go.Proofs.YtghioakpigdagaaDoor
open Go Go.RowKit Go.Th Go.Th.Dig

/-! ### A part of a block -/
theorem u32s_at (l : List Nat) (i : Nat) (h : i < l.length) : (u32s l)[i]? = some (.int .u32 ((l.getD i 0 : Nat) : Int)) := by simp [u32s, List.getElem?_eq_getElem h]
theorem u32s_set (l : List Nat) (i v : Nat) : (u32s l).set i (.int .u32 (v : Int)) = u32s (l.set i v) := by simp [u32s, List.map_set]
theorem win_len {cs : List Value} {o : Nat} {R : List Nat} (h : o + R.length ≤ cs.length) : (over cs o (u32s R)).length = cs.length := over_length _ _ _ (by rw [u32s_length]; exact h)
theorem win_at {cs : List Value} {o : Nat} {R : List Nat} (h : o + R.length ≤ cs.length) {j : Nat} (hj : j < R.length) : (over cs o (u32s R))[o + j]? = some (.int .u32 ((R.getD j 0 : Nat) : Int)) := by
  unfold over splice
  have e : (cs.take o).length = o := by rw [List.length_take]; omega
  rw [List.getElem?_append_right (by omega), e, Nat.add_sub_cancel_left, List.getElem?_append_left (by rw [u32s_length]; exact hj), u32s_at _ _ hj]
theorem win_set {cs : List Value} {o : Nat} {R : List Nat} (h : o + R.length ≤ cs.length) {j : Nat} (hj : j < R.length) (v : Nat) : (over cs o (u32s R)).set (o + j) (.int .u32 (v : Int)) = over cs o (u32s (R.set j v)) := by
  unfold over splice
  have e : (cs.take o).length = o := by rw [List.length_take]; omega
  rw [List.set_append_right _ _ (by omega), e, Nat.add_sub_cancel_left, List.set_append_left _ _ (by rw [u32s_length]; exact hj), u32s_set, u32s_length, u32s_length, List.length_set]
theorem win_mod {cs : List Value} {o : Nat} {R : List Nat} (h : o + R.length ≤ cs.length) {j : Nat} (hj : j < R.length) (T : Nat) : (over cs o (u32s R)).set (o + j) (.int .u32 ((T : Int) % 4294967296)) = over cs o (u32s (R.set j (T % 4294967296))) := by
  rw [← win_set h hj]
  congr 2
theorem win_self {l : List Nat} {o k : Nat} (h : o + k ≤ l.length) : over (u32s l) o (u32s ((l.drop o).take k)) = u32s l := by
  have e : (u32s ((l.drop o).take k)).length = k := by rw [u32s_length, List.length_take, List.length_drop]; omega
  unfold over splice
  rw [e, u32s_take, u32s_drop]
  show u32s _ ++ (u32s _ ++ u32s _) = _
  have : l = l.take o ++ ((l.drop o).take k ++ l.drop (o + k)) := by
    have e2 : l.drop (o + k) = (l.drop o).drop k := by rw [List.drop_drop]
    rw [e2, List.take_append_drop, List.take_append_drop]
  conv => rhs; rw [this]
  simp [u32s]
/-- .., as a row. -/
theorem win_sl {w : World} {g o : Nat} {cs : List Value} {R : List Nat} (K : Blk w g 38 (over cs o (u32s R))) (h : o + R.length ≤ cs.length) {n cap : Nat} (hn : R.length = n) (h1 : n ≤ cap) (h2 : cap ≤ maxLen) : Sl w 1 (.slice (some ⟨g, o, none⟩) n cap) n (u32s R) := by
  refine ⟨_, _, rfl, by rw [u32s_length, Nat.mul_one]; exact hn, h1, h2, fun h => (by cases h), fun j u hu => ?_⟩
  have hj : j < R.length := by have := (List.getElem?_eq_some_iff.1 hu).1; rwa [u32s_length] at this
  rw [u32s_at _ _ hj] at hu
  cases hu
  exact ⟨_, _, rfl, K.cell (win_at h hj)⟩

/-- A row that lies elsewhere, if it has any part. -/
theorem sl_turned {w w' : World} {S : Nat → Prop} {a : Option Addr} {n cap : Nat} {l : List Nat} (h : Sl w 1 (.slice a n cap) n (u32s l)) (hT : Turned S w w') (hs : 0 < n → ∀ q, a = some q → ¬ S q.block) : Sl w' 1 (.slice a n cap) n (u32s l) := by
  by_cases h0 : 0 < n
  · exact h.turned hT (hs h0)
  · have hl := u32_len h
    obtain ⟨a0, c0, he, h1, h2, h3, h4, h5⟩ := h
    cases he
    exact ⟨a, cap, rfl, h1, h2, h3, h4, fun j u hu => by
      have := (List.getElem?_eq_some_iff.1 hu).1
      rw [u32s_length] at this
      omega⟩
theorem mul_small {x p : Nat} (hx : x < 4294967296) (hp : p < 4294967296) : x * p ≤ 18446744065119617025 :=
  Nat.le_trans (Nat.mul_le_mul (by omega : x ≤ 4294967295) (by omega : p ≤ 4294967295)) (by decide)
theorem u64_in (n : Nat) (h : n ≤ 18446744073709551615) : IntKind.u64.wrap (n : Int) = (n : Int) := by
  have e : IntKind.u64.wrap (n : Int) = (n : Int) % 18446744073709551616 := rfl
  rw [e]; omega

set_option maxRecDepth 20000 in
set_option maxHeartbeats 3200000 in
theorem raise_go (g o n cap : Nat) (b : Option Addr) (m capb x : Nat) (W L : List Nat) (cs : List Value) (w : World) (hK : Blk w g 38 (over cs o (u32s W))) (ho : o + n ≤ cs.length) (hW : W.length = n) (hd : ∀ d ∈ W, d < 4294967296)
    (hL : Sl w 1 (.slice b m capb) m (u32s L)) (hap : 0 < m → ∀ q, b = some q → q.block ≠ g) (hm : m ≤ n) (hn : n ≤ 1000000) (hx : x < 4294967296) (hl : ∀ d ∈ L, d < 4294967296) :
    Calls Tryd.prog 42 #[.slice (some ⟨g, o, none⟩) n cap, .slice b m capb, .int .u32 x] w fun e w' => ∃ c O, e = .returned (.bool (decide (c ≠ 0))) ∧ Blk w' g 38 (over cs o (u32s O)) ∧ O.length = n ∧ (∀ d ∈ O, d < 4294967296) ∧
      val 4294967296 O + 4294967296 ^ n * c = val 4294967296 W + x * val 4294967296 L ∧ Turned (fun k => k = g) w w' := by
  have lx := u32_len hL
  have HL := Lib.hid hL
  have HD := Lib.hid (getD_u32 hl)
  have HAP := Lib.hid (fun wr (hT : Turned (fun k => k = g) w wr) => sl_turned hL hT hap)
  have HW := Lib.hid hW
  have LX := Lib.hid lx
  have HC0 : Hid (Car 4294967296 (x * val 4294967296 (L.take 0)) W 0 0 W) := Lib.hid (Car.start hd)
  have HTK : Hid (∀ k, k < m → x * val 4294967296 (L.take (k + 1)) = x * val 4294967296 (L.take k) + 4294967296 ^ k * (x * L.getD k 0)) := Lib.hid (fun k hk => by
    rw [take_val (by omega), Nat.mul_add, Nat.mul_left_comm])
  have hT0 := Turned.refl (fun k => k = g) w
  clear hL hap hd hl lx
  go_enter Tryd.func42, Tryd.ntmps42
  go_wp2_with fail
  go_loopw [7, 13] (fun c i wr => ∃ (k r : Nat) (O : List Nat), k ≤ m ∧ r < 4294967296 ∧ c = .int .u64 r ∧ i = .int .i64 k ∧ Hid (Car 4294967296 (x * val 4294967296 (L.take k)) W k r O) ∧ Blk wr g 38 (over cs o (u32s O)) ∧ Turned (fun k => k = g) w wr) (fun _ i _ => m - (intOf i).toNat)
  case atStart => exact ⟨0, 0, W, Nat.zero_le _, by omega, rfl, rfl, HC0, hK, hT0⟩
  case round =>
    clear hK HC0 hT0
    obtain ⟨k, r, O, hk, hr, rfl, rfl, HI, hK, hT⟩ := hrel
    by_cases hlt : k < m
    · have hol : O.length = n := by rw [HI.out.len, HW.out]
      obtain ⟨b1, o1, rfl, hb1, hc1⟩ := cell_u32 (HAP.out wr hT) k (by rw [LX.out]; exact hlt)
      have hc0 := hK.cell (win_at (by omega) (by omega : k < O.length))
      have hf0 := hK.free (o + k)
      have hu := HD.out k
      have hv := getD_mem (by decide : 0 < 4294967296) HI.out.dig k
      have hst := HI.out.step (p := x * L.getD k 0) (by decide) (by rw [HW.out]; omega)
      rw [← HTK.out k hlt] at hst
      obtain ⟨u, eu⟩ : ∃ u, u = L.getD k 0 := ⟨_, rfl⟩
      obtain ⟨d, ed⟩ : ∃ d, d = O.getD k 0 := ⟨_, rfl⟩
      rw [← eu] at hc1 hu hst
      rw [← ed] at hc0 hv hst
      have hq := mul_small hx hu
      obtain ⟨q, eq⟩ : ∃ q, q = x * u := ⟨_, rfl⟩
      rw [← eq] at hq hst
      have e1 : IntKind.u64.wrap ((x : Int) * (u : Int)) = (q : Int) := by
        rw [← Int.natCast_mul, ← eq]; exact u64_in _ (by omega)
      obtain ⟨s, es⟩ : ∃ s, s = q + d := ⟨_, rfl⟩
      have e2 : IntKind.u64.wrap ((q : Int) + (d : Int)) = (s : Int) := by
        rw [← Int.natCast_add, ← es]; exact u64_in _ (by omega)
      obtain ⟨T, eT⟩ : ∃ T, T = r + q + d := ⟨_, rfl⟩
      have e3 : IntKind.u64.wrap ((r : Int) + (s : Int)) = (T : Int) := by
        rw [← Int.natCast_add, show r + s = T by omega]; exact u64_in _ (by omega)
      rw [← eT] at hst
      have HTB := Lib.hid (show T / 4294967296 < 4294967296 by omega)
      have HST := Lib.hid hst
      have HS := Lib.hid (win_mod (o := o) (R := O) (cs := cs) (by omega) (by omega : k < O.length) T)
      have K7 := hK.set (o + k) (.int .u32 ((T : Int) % 4294967296)) (by rw [win_len (by omega)]; omega)
      rw [HS.out] at K7
      have T7 := hT.setCell (a := ⟨g, o + k, none⟩) (.inl rfl) (.int .u32 ((T : Int) % 4294967296))
      have HK7 := Lib.hid K7
      have HT7 := Lib.hid T7
      clear eu ed eq es eT hst HI K7 T7 HS hK hT hq
      go_wp2_with fail
      go_roundw
      case rel => exact ⟨k + 1, T / 4294967296, _, by omega, HTB.out, by go_num, by go_num, HST, HK7.out, HT7.out⟩
      case measure => simp [intOf]; omega
    · obtain rfl : k = m := by omega
      have HI2 : Hid (Car 4294967296 (x * val 4294967296 L) W k r O) := Lib.hid (by
        have := HI.out
        rwa [List.take_of_length_le (by rw [LX.out]; exact Nat.le_refl _)] at this)
      clear HI HTK HD HAP HL
      go_wp2_with fail
      go_loopw [7, 10] (fun c i wr => ∃ (j r : Nat) (O : List Nat), k ≤ j ∧ j ≤ n ∧ r < 4294967296 ∧ c = .int .u64 r ∧ i = .int .i64 j ∧ Hid (Car 4294967296 (x * val 4294967296 L) W j r O) ∧ Blk wr g 38 (over cs o (u32s O)) ∧ Turned (fun k => k = g) w wr) (fun _ i _ => n - (intOf i).toNat)
      case atStart => exact ⟨k, r, O, Nat.le_refl _, hm, hr, rfl, rfl, HI2, hK, hT⟩
      case round =>
        clear hK hT HI2 hr
        obtain ⟨j, r, O, hkj, hj, hr, rfl, rfl, HI, hK, hT⟩ := hrel
        have hol : O.length = n := by rw [HI.out.len, HW.out]
        by_cases hr0 : r = 0
        · have hd0 : ((r : Int) != 0) = false := by simp [hr0]
          have ht := HI.out.total (by rw [HW.out]; exact hj) (.inl hr0)
          rw [HW.out] at ht
          have HTT := Lib.hid ht
          have HDG := Lib.hid HI.out.dig
          have HR0 := Lib.hid hr0
          clear HI ht hr0
          go_wp2_with fail
          go_ret
          exact ⟨r, O, ret_bool (by simp [HR0.out]), hK, hol, HDG.out, HTT.out, hT⟩
        · have hd0 : ((r : Int) != 0) = true := by simp; omega
          by_cases hjn : j < n
          · have hc0 := hK.cell (win_at (by omega) (by omega : j < O.length))
            have hf0 := hK.free (o + j)
            have hv := getD_mem (by decide : 0 < 4294967296) HI.out.dig j
            have hst := HI.out.step (p := 0) (by decide) (by rw [HW.out]; omega)
            rw [Nat.mul_zero, Nat.add_zero, Nat.add_zero r] at hst
            obtain ⟨d, ed⟩ : ∃ d, d = O.getD j 0 := ⟨_, rfl⟩
            rw [← ed] at hc0 hv hst
            obtain ⟨T, eT⟩ : ∃ T, T = r + d := ⟨_, rfl⟩
            have e3 : IntKind.u64.wrap ((r : Int) + (d : Int)) = (T : Int) := by
              rw [← Int.natCast_add, ← eT]; exact u64_in _ (by omega)
            rw [← eT] at hst
            have HTB := Lib.hid (show T / 4294967296 < 4294967296 by omega)
            have HST := Lib.hid hst
            have HS := Lib.hid (win_mod (o := o) (R := O) (cs := cs) (by omega) (by omega : j < O.length) T)
            have K7 := hK.set (o + j) (.int .u32 ((T : Int) % 4294967296)) (by rw [win_len (by omega)]; omega)
            rw [HS.out] at K7
            have T7 := hT.setCell (a := ⟨g, o + j, none⟩) (.inl rfl) (.int .u32 ((T : Int) % 4294967296))
            have HK7 := Lib.hid K7
            have HT7 := Lib.hid T7
            clear ed eT hst HI K7 T7 HS hK hT
            go_wp2_with fail
            go_roundw
            case rel => exact ⟨j + 1, T / 4294967296, _, by omega, by omega, HTB.out, by go_num, by go_num, HST, HK7.out, HT7.out⟩
            case measure => simp [intOf]; omega
          · obtain rfl : j = n := by omega
            have ht := HI.out.total (by rw [HW.out]; exact hj) (.inr HW.out.symm)
            rw [HW.out] at ht
            have HTT := Lib.hid ht
            have HDG := Lib.hid HI.out.dig
            clear HI ht
            go_wp2_with fail
            go_ret
            exact ⟨r, O, ret_bool (by simp [hr0]), hK, hol, HDG.out, HTT.out, hT⟩
end Go.Proofs.YtghioakpigdagaaDoor
