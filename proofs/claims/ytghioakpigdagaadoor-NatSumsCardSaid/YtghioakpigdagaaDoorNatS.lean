/-
  The sum of many numbers, of two, the difference: the code's.
-/
import Derived.Test.YtghioakpigdagaaDoorNatR
set_option linter.unusedVariables false
set_option linter.unusedSimpArgs false
namespace Go.Th
open Go Go.RowKit
theorem Mem.turn {w0 w V : World} {bs bs' : List (Nat × TypeId × List Value)} {g : Nat} {t : TypeId} {cs cs' : List Value} (M : Mem w0 w bs) (hu : Upd bs g t cs cs' bs') (K : Blk V g t cs') (hT : Turned (fun k => k = g) w V) : Mem w0 V bs' :=
  Mem.of_mew ((Mew.of_mem (S := fun _ => False) M).turn hu K hT)
end Go.Th
namespace Go.Th.Dig
/-- So many numbers together. -/
def tot (ps : List Nat) (k : Nat) : Nat := (ps.take k).sum
theorem tot_0 (ps : List Nat) : tot ps 0 = 0 := rfl
theorem tot_succ {ps : List Nat} {k : Nat} (h : k < ps.length) : tot ps (k + 1) = tot ps k + ps.getD k 0 := by
  have e : ps.take (k + 1) = ps.take k ++ [ps.getD k 0] := by
    rw [List.take_add_one, List.getElem?_eq_getElem h, List.getD_eq_getElem?_getD, List.getElem?_eq_getElem h]; rfl
  unfold tot
  rw [e, List.sum_append, List.sum_singleton]
theorem tot_le {ps : List Nat} {M : Nat} (h : ∀ k, ps.getD k 0 < M) : ∀ k, k ≤ ps.length → tot ps k ≤ k * M
  | 0, _ => by rw [tot_0]; exact Nat.zero_le _
  | k + 1, hk => by
    rw [tot_succ (by omega), Nat.add_mul, Nat.one_mul]
    have := tot_le h k (by omega)
    have := h k
    omega
end Go.Th.Dig
namespace Go.Proofs.YtghioakpigdagaaDoor
open Go Go.RowKit Go.Th Go.Th.Dig

theorem over_all {l m : List Value} (h : m.length = l.length) : over l 0 m = m := by
  unfold over splice
  rw [List.take_zero, List.nil_append, List.drop_of_length_le (by omega), List.append_nil]
theorem EnatS : ElemOf Tryd.prog 53 26 1 24 := ElemOf.mk' Tryd.underlying53 (z := .agg #[.slice none 0 0]) (by kernel_rfl) rfl (by decide)
set_option maxRecDepth 20000 in
theorem run_mkU32 (m : Nat) (hm : m ≤ 1000000) (wx : World) : (Instr.makeSlice 22 (.int .i64 (m : Int)) (.int .i64 (m : Int))).run Tryd.prog wx = .ok (.slice (some ⟨wx.heap.size, 0, none⟩) m m) (wx.alloc (.cells (u32s (List.replicate m 0)).toArray 38)) := by
  obtain ⟨i, hi, h1, h2, h3⟩ := info_parts (P := Tryd.prog) (e := 38) (z := .int .u32 0) (size := 1) (bytes := 4) (by kernel_rfl)
  have hr := run_make (P := Tryd.prog) wx 22 38 i (.int .u32 0) Tryd.underlying22 hi h1 .i64 .i64 (m : Int) (m : Int) (by omega) (Int.le_refl _) (by rw [h3]; omega) (by omega)
  rw [hr, h2, Nat.mul_one]
  simp only [Int.toNat_natCast]
  congr 4
  apply Array.ext'
  show (madeCells #[Value.int .u32 0] m).toList = _
  rw [toList_madeCells_one]
  simp [u32s]
theorem rep_lt (m : Nat) : ∀ d ∈ List.replicate m 0, d < 4294967296 := by
  intro d hd
  rw [(List.mem_replicate.1 hd).2]
  decide
/-- Numbers as an argument. -/
structure Nats (w : World) (a : Option Addr) (n cap : Nat) (cs : List Value) (ps : List Nat) : Prop where
  sl : Sl w 1 (.slice a n cap) n cs
  len : ps.length = n
  is : ∀ j, j < n → ∃ b c, cs[j]? = some (.slice b (len32 (ps.getD j 0)) c) ∧ Sl w 1 (.slice b (len32 (ps.getD j 0)) c) (len32 (ps.getD j 0)) (u32s (dg 4294967296 (ps.getD j 0)))
theorem Nats.below {w w' : World} {a : Option Addr} {n cap : Nat} {cs : List Value} {ps : List Nat} (h : Nats w a n cap cs ps) (hB : Below w.heap.size w w') : Nats w' a n cap cs ps :=
  ⟨h.sl.below hB, h.len, fun j hj => let ⟨b, c, h1, h2⟩ := h.is j hj; ⟨b, c, h1, h2.below hB⟩⟩
theorem Nats.cell {w : World} {a : Option Addr} {n cap : Nat} {cs : List Value} {ps : List Nat} (h : Nats w a n cap cs ps) {j : Nat} (hj : j < n) :
    ∃ b o d c, a = some ⟨b, o, none⟩ ∧ b < w.heap.size ∧ w.cell? ⟨b, o + j, none⟩ = some (.slice d (len32 (ps.getD j 0)) c) ∧ Sl w 1 (.slice d (len32 (ps.getD j 0)) c) (len32 (ps.getD j 0)) (u32s (dg 4294967296 (ps.getD j 0))) := by
  obtain ⟨d, c, h1, h2⟩ := h.is j hj
  obtain ⟨_, _, e, _, _, _, _, h5⟩ := h.sl
  cases e
  obtain ⟨b, o, ha, hc⟩ := h5 j _ h1
  exact ⟨b, o, d, c, ha, by have := World.block_lt_of_cell? w _ hc; simpa using this, hc, h2⟩

set_option maxRecDepth 20000 in
set_option maxHeartbeats 3200000 in
theorem sum_any (a : Option Addr) (n cap : Nat) (cs : List Value) (ps : List Nat) (w : World) (h : Nats w a n cap cs ps) (hn : n ≤ 1000) (hl : ∀ k, len32 (ps.getD k 0) ≤ 1000) :
    Calls Tryd.prog 33 #[.slice a n cap] w fun e w' => ∃ v, e = .returned v ∧ IsN w' v (tot ps n) ∧ Below w.heap.size w w' := by
  have H := Lib.hid h
  have HL := Lib.hid hl
  have HLEN := Lib.hid h.len
  clear h hl
  have M0 := Mem.start w
  go_enter Tryd.func33, Tryd.ntmps33
  go_upto_region 1 with (((with_reducible refine (?_ : Go.wpList _ _ _ (_ :: _) _ _)); (first | go_skip | (refine wpL_bx M0 rfl rfl rfl rfl ?_; clear M0; intro g1 w1 M1) | (refine wpL_alc M0 rfl rfl ?_; clear M0; intro g1 w1 M1) | (refine wpL_ldc M0 rfl rfl rfl ?_) | (refine wpL_lgc M0 rfl rfl rfl ?_) | (refine wpL_stc M0 rfl rfl rfl rfl ?_; clear M0; intro w' M0) | (refine wpL_sti M0 rfl rfl rfl rfl ?_; clear M0; intro w' M0) | (refine wpL_sth M0 rfl rfl rfl rfl (wr_minus _ _ _) ?_; clear M0; intro w' M0) | (refine wpL_ldc M1 rfl rfl rfl ?_) | (refine wpL_lgc M1 rfl rfl rfl ?_) | (refine wpL_stc M1 rfl rfl rfl rfl ?_; clear M1; intro w' M1) | (refine wpL_sti M1 rfl rfl rfl rfl ?_; clear M1; intro w' M1) | (refine wpL_sth M1 rfl rfl rfl rfl (wr_minus _ _ _) ?_; clear M1; intro w' M1))))
  go_wp2_with fail
  go_loopw [3, 11] (fun m i wr => ∃ (k lg : Nat), k ≤ n ∧ lg ≤ 1000 ∧ m = .int .i64 lg ∧ i = .int .i64 k ∧ Hid (∀ j, j < k → len32 (ps.getD j 0) ≤ lg) ∧ Mem w wr [(g1, 26, [.slice none 0 0])]) (fun _ i _ => n - (intOf i).toNat)
  case atStart => exact ⟨0, 0, Nat.zero_le _, Nat.zero_le _, rfl, rfl, Lib.hid (fun j hj => absurd hj (Nat.not_lt_zero _)), M1⟩
  case round =>
    clear M1
    obtain ⟨k, lg, hk, hlg, rfl, rfl, HM, M1⟩ := hrel
    by_cases hlt : k < n
    · obtain ⟨b, o, d, c, rfl, hb, hc, hS⟩ := (H.out.below M1.below).cell hlt
      have hx := HL.out k
      obtain ⟨x, ex⟩ : ∃ x, x = len32 (ps.getD k 0) := ⟨_, rfl⟩
      rw [← ex] at hc hS hx
      have M2 := M1.alloc 26 [.slice d x c]
      have EX := Lib.hid ex
      have M2 := Lib.hid M2
      clear ex hS
      go_wp2_with fail
      go_roundw
      case rel => exact ⟨k + 1, max lg x, by omega, by omega, by rw [show ((max lg x : Nat) : Int) = max (lg : Int) (x : Int) by omega], by go_num, Lib.hid (fun j hj => by
        by_cases e : j = k
        · rw [e, ← EX.out]; omega
        · have := HM.out j (by omega); omega), M2.out.drop⟩
      case measure => simp [intOf]; omega
    · obtain rfl : k = n := by omega
      have HB : Hid (∀ j, ps.getD j 0 < 4294967296 ^ lg) := Lib.hid (fun j => by
        by_cases hj : j < k
        · exact Nat.lt_of_lt_of_le (len32_lt _) (Nat.pow_le_pow_right (by decide) (HM.out j hj))
        · rw [List.getD_eq_getElem?_getD, List.getElem?_eq_none (by rw [HLEN.out]; omega)]
          exact Nat.pow_pos (by decide))
      have MK : ∀ wx, (Instr.makeSlice 22 (.int .i64 ((lg : Int) + 1)) (.int .i64 ((lg : Int) + 1))).run Tryd.prog wx = .ok (.slice (some ⟨wx.heap.size, 0, none⟩) (lg + 1) (lg + 1)) (wx.alloc (.cells (u32s (List.replicate (lg + 1) 0)).toArray 38)) := fun wx => run_mkU32 (lg + 1) (by omega) wx
      have M2 := M1.alloc 38 (u32s (List.replicate (lg + 1) 0))
      obtain ⟨w2, hw2⟩ : ∃ w2, wr.alloc (.cells (u32s (List.replicate (lg + 1) 0)).toArray 38) = w2 := ⟨_, rfl⟩
      have MK1 : (Instr.makeSlice 22 (.int .i64 ((lg : Int) + 1)) (.int .i64 ((lg : Int) + 1))).run Tryd.prog wr = .ok (.slice (some ⟨wr.heap.size, 0, none⟩) (lg + 1) (lg + 1)) w2 := by rw [MK wr, hw2]
      rw [hw2] at M2
      obtain ⟨G, hG⟩ : ∃ G, G = wr.heap.size := ⟨_, rfl⟩
      rw [← hG] at MK1 M2
      have HO0 : Hid ((List.replicate (lg + 1) 0).length = lg + 1 ∧ (∀ d ∈ List.replicate (lg + 1) 0, d < 4294967296) ∧ val 4294967296 (List.replicate (lg + 1) 0) = tot ps 0) := Lib.hid ⟨by simp, rep_lt _, by rw [val_zeros, tot_0]⟩
      have hGw : w.heap.size ≤ G := M2.from (Has.head _ _ _ _)
      clear MK hw2 hG M1 HM HL
      go_wp2_with fail
      clear MK1
      go_loopw [26] (fun i wr => ∃ (j : Nat) (O : List Nat), j ≤ k ∧ i = .int .i64 j ∧ Hid (O.length = lg + 1 ∧ (∀ d ∈ O, d < 4294967296) ∧ val 4294967296 O = tot ps j) ∧ Mem w wr [(G, 38, u32s O), (g1, 26, [.slice none 0 0])]) (fun i _ => k - (intOf i).toNat)
      case atStart => exact ⟨0, _, Nat.zero_le _, rfl, HO0, M2⟩
      case round =>
        clear M2 HO0
        obtain ⟨j, O, hj, rfl, HO, M2⟩ := hrel
        by_cases hlj : j < k
        · obtain ⟨b, o, d, c, rfl, hb, hc0, hS0⟩ := H.out.cell hlj
          have hc := (M2.below.cell (p := ⟨b, o + j, none⟩) hb).trans hc0
          obtain ⟨h1, h2, h3⟩ := HO.out
          have hB3 := (Below.refl _ wr).alloc (Nat.le_refl _) (.cells #[.slice d (len32 (ps.getD j 0)) c] 26)
          have M3 := M2.alloc 26 [.slice d (len32 (ps.getD j 0)) c]
          have hS3 := (hS0.below M2.below).below hB3
          have hlen : len32 (ps.getD j 0) ≤ lg + 1 := Nat.le_succ_of_le (dg_len_le (by decide) (HB.out j))
          have hap : 0 < len32 (ps.getD j 0) → ∀ q, d = some q → q.block ≠ G := fun h0 q hq e => by
            have := sl_lt32 hS0 q hq h0
            omega
          have K3 := M3.has (.tail _ _ _ _ _ (Has.head _ _ _ _))
          rw [← over_all (l := u32s O) (m := u32s O) rfl] at K3
          have C := raise_go G 0 (lg + 1) (lg + 1) d (len32 (ps.getD j 0)) c 1 O (dg 4294967296 (ps.getD j 0)) (u32s O) _ K3 (by rw [u32s_length, h1]; omega) h1 h2 hS3 hap hlen (by omega) (by decide) (dg_lt (by decide) _)
          rw [dg_val (by decide), Nat.one_mul, h3, ← tot_succ (by rw [HLEN.out]; exact hlj)] at C
          have hbd : tot ps (j + 1) < 4294967296 ^ (lg + 1) := by
            have := tot_le HB.out (j + 1) (by rw [HLEN.out]; omega)
            have h4 : (j + 1) * 4294967296 ^ lg ≤ 1000 * 4294967296 ^ lg := Nat.mul_le_mul_right _ (by omega)
            have h5 : 0 < 4294967296 ^ lg := Nat.pow_pos (by decide)
            rw [Nat.pow_succ]
            omega
          obtain ⟨x, ex⟩ : ∃ x, x = len32 (ps.getD j 0) := ⟨_, rfl⟩
          rw [← ex] at hc C M3
          obtain ⟨w3, hw3⟩ : ∃ w3, wr.alloc (.cells #[.slice d x c] 26) = w3 := ⟨_, rfl⟩
          have M3 : Mem w w3 [(wr.heap.size, 26, [.slice d x c]), (G, 38, u32s O), (g1, 26, [.slice none 0 0])] := by rw [← hw3]; exact M3
          rw [hw3] at C
          have C : Calls Tryd.prog 42 #[.slice (some ⟨G, 0, none⟩) (lg + 1) (lg + 1), .slice d x c, .int .u32 1] w3 fun e w' => ∃ c O', e = .returned (.bool (decide (c ≠ 0))) ∧ Blk w' G 38 (over (u32s O) 0 (u32s O')) ∧ O'.length = lg + 1 ∧ (∀ d ∈ O', d < 4294967296) ∧
            val 4294967296 O' + 4294967296 ^ (lg + 1) * c = tot ps (j + 1) ∧ Turned (fun k => k = G) w3 w' := C
          have HC := Lib.hid C
          have HBD := Lib.hid hbd
          have HM3 := Lib.hid M3
          have HW3 := Lib.hid hw3
          have HO1 := Lib.hid h1
          clear C hbd M3 hw3 hap hS3 hS0 hlen K3 hB3 h1 h2 h3 HO ex hc0 M2
          go_upto_region 11 with fail
          rw [HW3.out]
          clear HW3
          have hc3 := HM3.out.cell (Has.head _ _ _ _) (i := 0) rfl
          go_wp2_with fail
          refine HC.out.mono ?_
          rintro e w4 ⟨c4, O4, rfl, hK4, h1, h2, h3, hT4⟩
          have hc0 : c4 = 0 := by
            refine Nat.eq_zero_of_not_pos fun h => ?_
            have h5 : 4294967296 ^ (lg + 1) * 1 ≤ 4294967296 ^ (lg + 1) * c4 := Nat.mul_le_mul_left _ h
            have := HBD.out
            omega
          rw [hc0, Nat.mul_zero, Nat.add_zero] at h3
          rw [over_all (by rw [u32s_length, u32s_length, h1, HO1.out])] at hK4
          have M4 := (HM3.out.turn (.tail _ _ _ _ _ _ _ (Upd.head _ _ _ _ _)) hK4 hT4).drop
          have HO4 := Lib.hid (And.intro h1 (And.intro h2 h3))
          clear hc0 h1 h2 h3 hK4 hT4 HC HM3 hc3
          go_wp2_with fail
          go_roundw
          case rel => exact ⟨j + 1, O4, by omega, by go_num, HO4, M4⟩
          case measure => simp [intOf]; omega
        · obtain rfl : j = k := by omega
          obtain ⟨h1, h2, h3⟩ := HO.out
          have K3 := M2.has (Has.head _ _ _ _)
          rw [← over_all (l := u32s O) (m := u32s O) rfl] at K3
          have S0 := win_sl K3 (by rw [u32s_length]; omega) h1 (Nat.le_refl _) (by unfold maxLen; omega)
          have C := cut_any _ (lg + 1) (lg + 1) O wr S0 h2 (by omega)
          rw [h3] at C
          have C := Lib.hid C
          clear h1 h2 h3 K3 S0 HO
          go_wp2_with fail
          refine C.out.mono ?_
          rintro e w4 ⟨rfl, rfl, S2⟩
          have K2 := M2.has (.tail _ _ _ _ _ (Has.head _ _ _ _))
          have S2 := Lib.hid S2
          go_wp2_with ((with_reducible refine (?_ : Go.wpList _ _ _ (_ :: _) _ _)); (first | go_skip | (refine wpL_ldc M2 rfl rfl rfl ?_) | (refine wpL_lgc M2 rfl rfl rfl ?_) | (refine wpL_stcT M2 rfl rfl rfl rfl ?_; clear M2; intro w' M2 hT) | (refine wpL_stiT M2 rfl rfl rfl rfl ?_; clear M2; intro w' M2 hT)))
          refine bodyPost_ret (res_cell rfl M2 rfl (.tail _ _ _ _ _ (Has.head _ _ _ _)) (rd_nat _)) rfl ?_
          exact ⟨_, rfl, ⟨_, _, rfl, sl_kept S2.out K2 (noPart_sl _ _ _) hT⟩, M2.below⟩
end Go.Proofs.YtghioakpigdagaaDoor
