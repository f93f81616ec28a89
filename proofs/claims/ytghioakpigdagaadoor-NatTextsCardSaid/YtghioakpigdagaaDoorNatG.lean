/-
  A number's text: the reference's.
-/
import Derived.Test.YtghioakpigdagaaDoorNatF
set_option linter.unusedVariables false
set_option linter.unusedSimpArgs false
namespace Go.Proofs.YtghioakpigdagaaDoor
open Go Go.RowKit Go.Th Go.Th.Dig

theorem own_form {w : World} {base : Nat} {e : TypeId} {v : Value} {n : Nat} {xs : List Value} (h : w.ownsRow base e 1 v n xs) (hn : 0 < n) : ∃ g cap, v = .slice (some ⟨g, 0, none⟩) n cap ∧ base ≤ g := by
  rcases h.2 with ⟨_, rfl⟩ | ⟨g, cap, cur, rfl, hb, _⟩
  · omega
  · exact ⟨g, cap, rfl, hb⟩
theorem own_lit1 (w : World) (u : Value) (t : TypeId) : (w.alloc (.cells #[u] t)).ownsRow w.heap.size t 1 (.slice (some ⟨w.heap.size, 0, none⟩) 1 1) 1 [u] :=
  ⟨rfl, .inr ⟨w.heap.size, 1, #[u], rfl, Nat.le_refl _, heap_alloc_new w _, Nat.le_refl _, by unfold maxLen; omega, rfl, rfl⟩⟩

theorem strOf_size (l : List Nat) : (strOf l).size = l.length := by simp [strOf, ByteArray.size]
theorem strOf_app (a b : List Nat) : strOf a ++ strOf b = strOf (a ++ b) := by
  apply ByteArray.ext
  simp [strOf]
set_option maxRecDepth 20000 in
set_option maxHeartbeats 3200000 in
theorem text_go (a : Option Addr) (n ca : Nat) (x : List Nat) (s : Nat) (w : World) (ha : Sl w 1 (.slice a n ca) n (digs x)) (hn : n ≤ 10000) (hx : ∀ d ∈ x, d < 256) (hs : s = val 256 x) :
    Calls Tryd.prog 32 #[.slice a n ca] w fun e w' => e = .returned (.string (strOf (txt s))) ∧ Below w.heap.size w w' := by
  have lx := sl_len ha
  have HA := Lib.hid ha
  have HX := Lib.hid (getD_lt hx)
  have HV := Lib.hid (fun k => val_lt (by decide : 0 < 256) (l := x.drop k) (fun d hd => hx d (List.mem_of_mem_drop hd)))
  have HS := Lib.hid hs
  have LX := Lib.hid lx
  clear ha hx hs lx
  have B0 : Below w.heap.size w (w.alloc (.cells #[.int .i64 0] 3)) := (Below.refl _ _).alloc (Nat.le_refl _) _
  have O0 := own_lit1 w (.int .i64 0) 3
  go_enter Tryd.func32, Tryd.ntmps32
  go_wp2_with fail
  go_loopw [3, 4] (fun v c wr => ∃ (k : Nat) (T : List Nat), k ≤ n ∧ c = .int .i64 ((k : Int) - 1) ∧ Hid (T = dz 10 (val 256 (x.drop k))) ∧ wr.ownsRow w.heap.size 3 1 v T.length (digs T) ∧ Below w.heap.size w wr) (fun _ c _ => (intOf c + 1).toNat)
  case atStart => exact ⟨n, [0], Nat.le_refl _, rfl, Lib.hid (by rw [List.drop_of_length_le (by rw [LX.out]; exact Nat.le_refl _)]; rfl), O0, B0⟩
  case round =>
    clear O0 B0
    obtain ⟨k, T, hk, hcv, HT, ho, hB⟩ := hrel
    by_cases hlt : 0 < k
    · obtain ⟨j, rfl⟩ : ∃ j, k = j + 1 := ⟨k - 1, by omega⟩
      rw [show (((j + 1 : Nat) : Int) - 1) = (j : Int) by omega] at hcv
      subst hcv
      obtain ⟨b, o, rfl, hb, hc⟩ := cell_dig (HA.out.below hB) j (by rw [LX.out]; omega)
      have hu := HX.out j
      have hpos : 0 < T.length := by rw [HT.out]; exact dz_pos (by decide) _
      have hV := HV.out (j + 1)
      have hlen : T.length ≤ 3 * n + 1 := by
        rw [HT.out]
        refine Nat.le_trans (dz_len hV) ?_
        rw [List.length_drop, LX.out]
        omega
      have hst := Row16.start (val 256 (x.drop (j + 1))) (x.getD j 0) (by omega)
      have hnx := drop_any x j 256
      rw [← HT.out] at hst
      obtain ⟨u, eu⟩ : ∃ u, u = x.getD j 0 := ⟨_, rfl⟩
      obtain ⟨V, eV⟩ : ∃ V, V = val 256 (x.drop (j + 1)) := ⟨_, rfl⟩
      rw [← eu, ← eV] at hst hnx
      rw [← eu] at hc hu
      have HST := Lib.hid hst
      have HNX := Lib.hid hnx
      obtain ⟨g, cap, rfl, hlo⟩ := own_form ho hpos
      obtain ⟨L, hL⟩ : ∃ L, L = T.length := ⟨_, rfl⟩
      rw [← hL] at ho hpos hlen ⊢
      have HL := Lib.hid hL
      clear hst hnx eu eV hV HT hL
      go_wp2_with fail
      go_loopw [5, 6] (fun v q wr => ∃ (i c : Nat) (N : List Nat), i ≤ L ∧ c ≤ 255 ∧ N.length = L ∧ v = .int .i64 c ∧ q = .int .i64 i ∧ Hid (Row16 V u i c N) ∧ wr.ownsRow w.heap.size 3 1 (.slice (some ⟨g, 0, none⟩) L cap) L (digs N) ∧ Below w.heap.size w wr) (fun _ q _ => L - (intOf q).toNat)
      case atStart => exact ⟨0, u, T, Nat.zero_le _, by omega, HL.out.symm, rfl, rfl, HST, ho, hB⟩
      case round =>
        clear HST hB ho hc
        obtain ⟨i, c, N, hi, hcc, hNL, rfl, rfl, HI, ho, hB⟩ := hrel
        by_cases hli : i < L
        · have hst := HI.out.step (by omega)
          have hdg : N.getD i 0 < 10 := by
            rw [List.getD_eq_getElem?_getD, List.getElem?_eq_getElem (by omega)]; exact HI.out.dig _ (List.getElem_mem _)
          have hc1 := ownsRow_cell ho (digs_at N i (by omega))
          have hf1 := ownsRow_free ho i
          obtain ⟨d, ed⟩ : ∃ d, d = N.getD i 0 := ⟨_, rfl⟩
          rw [← ed] at hst hdg hc1
          obtain ⟨q, eq⟩ : ∃ q, q = c + 256 * d := ⟨_, rfl⟩
          rw [← eq] at hst
          have hwq : IntKind.i64.wrap ((c : Int) + 256 * (d : Int)) = (q : Int) := by
            rw [IntWalk.i64_in _ (by omega)]; omega
          have hq : q ≤ 2559 := by omega
          have ho2 := ownsRow_set ho i hli (.int .i64 ((q % 10 : Nat) : Int))
          rw [digs_set] at ho2
          have hB2 := hB.setCell (p := ⟨g, i, none⟩) hlo (.int .i64 ((q % 10 : Nat) : Int))
          have HST := Lib.hid hst
          have HO2 := Lib.hid ho2
          have HB2 := Lib.hid hB2
          clear hst ed eq HI ho2 hB2
          go_wp2_with fail
          go_roundw
          case rel => exact ⟨i + 1, q / 10, _, by omega, by omega, by rw [List.length_set]; exact hNL, by go_num, by go_num, HST, by exact_mod_cast HO2.out, by exact_mod_cast HB2.out⟩
          case measure => simp [intOf]; omega
        · obtain rfl : i = L := by omega
          have HA0 := Lib.hid (HI.out.done hNL)
          have HZ : Hid (u + 256 * V < 256 ^ n) := Lib.hid (by
            rw [← HNX.out]
            refine Nat.lt_of_lt_of_le (HV.out j) (Nat.pow_le_pow_right (by decide) ?_)
            rw [List.length_drop, LX.out]
            omega)
          clear HI
          subst hNL
          clear hli hpos HL
          go_wp2_with fail
          go_loopw [3, 5] (fun v c wr => ∃ (q : Nat) (N : List Nat), q ≤ 255 ∧ N.length ≤ 40000 ∧ c = .int .i64 q ∧ Hid (App16 (u + 256 * V) q N) ∧ wr.ownsRow w.heap.size 3 1 v N.length (digs N) ∧ Below w.heap.size w wr) (fun _ c _ => (intOf c).toNat)
          case atStart => exact ⟨c, N, hcc, by omega, rfl, HA0, ho, hB⟩
          case round =>
            clear HA0 hB ho hcc hlen
            obtain ⟨q, N, hq, hN, rfl, HI, ho, hB⟩ := hrel
            have hsz := hB.size
            by_cases hq0 : 0 < q
            · have hnl := HI.out.len hq0 HZ.out
              have HST := Lib.hid (HI.out.step hq0)
              clear HI
              go_wp2_with (at_builtin; refine wpList_app Edig rfl (.tmp 43) (.tmp 46) rfl w.heap.size rfl (ho.alloc _) rfl (Sl.one _ _ _) (by intro u hu; simp at hu; subst hu; rfl) (by unfold maxLen; omega) (by omega) (by simp; omega) ?_)
              intro v2 w3 ho3 hg3 _
              have hB3 := hB.trans (app_below ho hsz hg3)
              clear ho hg3 hB
              go_wp2_with fail
              go_roundw
              case rel => exact ⟨q / 10, _, by omega, by rw [List.length_append, List.length_singleton]; omega, by go_num, HST, by rw [digs_snoc, List.length_append]; exact_mod_cast ho3, hB3⟩
              case measure => simp [intOf]; omega
            · obtain rfl : q = 0 := by omega
              have HD : Hid (N = dz 10 (val 256 (x.drop j))) := Lib.hid (by rw [HNX.out]; exact HI.out.done)
              clear HI HZ HNX
              go_wp2_with fail
              go_roundw
              case rel => exact ⟨j, N, by omega, by first | rfl | go_num, HD, ho, hB⟩
              case measure => simp [intOf] <;> omega
    · obtain rfl : k = 0 := by omega
      rw [show (((0 : Nat) : Int) - 1) = -1 by rfl] at hcv
      subst hcv
      have HD : Hid (T = dz 10 s) := Lib.hid (by rw [HT.out, List.drop_zero, HS.out])
      have hlen : T.length ≤ 3 * n + 1 := by
        rw [HT.out]
        refine Nat.le_trans (dz_len (HV.out 0)) ?_
        rw [List.length_drop, LX.out]
        omega
      have hpos : 0 < T.length := by rw [HT.out]; exact dz_pos (by decide) _
      have hdig : ∀ d ∈ T, d < 10 := by rw [HT.out]; exact dz_lt (by decide) _
      have HDG := Lib.hid hdig
      obtain ⟨g, cap, rfl, hlo⟩ := own_form ho hpos
      obtain ⟨L, hL⟩ : ∃ L, L = T.length := ⟨_, rfl⟩
      rw [← hL] at ho hlen ⊢
      have S0 := Lib.hid (Sl.of_own ho)
      have HL := Lib.hid hL
      clear HT HX HV HS HA ho hL hdig hpos
      go_wp2_with fail
      go_loopw [7, 8] (fun v c wx => ∃ k : Nat, k ≤ L ∧ c = .int .i64 k ∧ v = .string (strOf ((T.map (48 + ·)).take k).reverse) ∧ Below wr.heap.size wr wx) (fun _ c _ => L - (intOf c).toNat)
      case atStart => exact ⟨0, Nat.zero_le _, rfl, rfl, Below.refl _ _⟩
      case round =>
        obtain ⟨k, hk, rfl, rfl, hB2⟩ := hrel
        by_cases hlk : k < L
        · obtain ⟨b2, o2, e2, hb2, hc2⟩ := cell_dig (S0.out.below hB2) k (by rw [← HL.out]; exact hlk)
          cases e2
          rw [Nat.zero_add] at hc2
          have hd : T.getD k 0 < 10 := by
            rw [List.getD_eq_getElem?_getD, List.getElem?_eq_getElem (by rw [← HL.out]; exact hlk)]; exact HDG.out _ (List.getElem_mem _)
          have hnx : ((T.map (48 + ·)).take (k + 1)).reverse = (48 + T.getD k 0) :: ((T.map (48 + ·)).take k).reverse := by
            rw [List.take_add_one, List.getElem?_map, List.getElem?_eq_getElem (by rw [← HL.out]; exact hlk), List.reverse_append, List.getD_eq_getElem?_getD, List.getElem?_eq_getElem (by rw [← HL.out]; exact hlk)]; rfl
          obtain ⟨d, ed⟩ : ∃ d, d = T.getD k 0 := ⟨_, rfl⟩
          rw [← ed] at hc2 hd hnx
          have HN := Lib.hid hnx
          clear hnx ed
          have S1 : Sl (wr.alloc (.cells #[.int .u8 (48 + (d : Int))] 5)) 1 (.slice (some ⟨wr.heap.size, 0, none⟩) 1 1) 1 (u8s [48 + d]) := by
            have h := Sl.one wr (.int .u8 (48 + (d : Int))) 5
            have e : u8s [48 + d] = [.int .u8 (48 + (d : Int))] := by simp [u8s]
            rw [e]
            exact h
          have ST := run_str S1
          have hsl : ¬ 9223372036854775807 < (strOf [48 + d]).size + (strOf ((T.map (48 + ·)).take k).reverse).size := by
            rw [strOf_size, strOf_size, List.length_reverse, List.length_take, List.length_singleton]
            omega
          have HB3 := Lib.hid (hB2.alloc hB2.size (.cells #[.int .u8 (48 + (d : Int))] 5))
          clear S1
          go_wp2_with fail
          go_roundw
          case rel => exact ⟨k + 1, by omega, by go_num, by rw [HN.out, strOf_app]; rfl, HB3.out⟩
          case measure => simp [intOf] <;> omega
        · obtain rfl : k = L := by omega
          have e : (T.map (48 + ·)).take k = (dz 10 s).map (48 + ·) := by rw [List.take_of_length_le (by rw [List.length_map, ← HL.out]; exact Nat.le_refl _), HD.out]
          have HE := Lib.hid e
          clear e
          go_wp2_with fail
          go_ret
          exact ⟨by rw [HE.out]; rfl, hB.trans (hB2.mono hB.size)⟩
theorem refText16_any (v : Value) (p : Nat) (w : World) (hp : Is16 w v p) (h1 : (dg 256 p).length ≤ 10000) :
    Calls Tryd.prog 32 #[v] w fun e w' => e = .returned (.string (strOf (txt p))) ∧ Below w.heap.size w w' := by
  obtain ⟨a, ca, rfl, _⟩ := id hp
  exact text_go a _ ca _ _ w hp h1 (dg_lt (by decide) p) (by rw [dg_val (by decide)])
end Go.Proofs.YtghioakpigdagaaDoor
