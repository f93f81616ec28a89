/-
  Texts in one: NatS, NatT, NatU, NatV, NatW, NatX, NatY, NatZ, NatDa, NatDb, NatEa, NatEb.
-/
import Derived.Test.YtallbegibdlpaaaGreatPackNatA
import Derived.Test.YtallbegibdlpaaaGreatPackNatR
import Derived.Test.YtallbegibdlpaaaGreatPackBits
import Derived.Sort.CutIn
import Derived.Lib.Strings
import Derived.Lib.TrimByte
set_option linter.unusedVariables false
set_option linter.unusedSimpArgs false

/-
  The sum of many numbers, of two, the difference: the code's.
-/
namespace Go.Th
open Go Go.RowKit
theorem Mem.turn {w0 w V : World} {bs bs' : List (Nat × TypeId × List Value)} {g : Nat} {t : TypeId} {cs cs' : List Value} (M : Mem w0 w bs) (hu : Upd bs g t cs cs' bs') (K : Blk V g t cs') (hT : Turned (fun k => k = g) w V) : Mem w0 V bs' :=
  Mem.of_mew ((Mew.of_mem (S := fun _ => False) M).turn hu K hT)
end Go.Th
namespace Go.Th.Dig
/-- So many numbers together. -/
def tot (ps : List Nat) (k : Nat) : Nat := (ps.take k).sum
theorem tot_0 (ps : List Nat) : tot ps 0 = 0 := rfl
theorem tot_succ {ps : List Nat} {k : Nat} (h : k < ps.length) : tot ps (k + 1) = tot ps k + ps.getD k 0 := by
  have e : ps.take (k + 1) = ps.take k ++ [ps.getD k 0] := by
    rw [List.take_add_one, List.getElem?_eq_getElem h, List.getD_eq_getElem?_getD, List.getElem?_eq_getElem h]; rfl
  unfold tot
  rw [e, List.sum_append, List.sum_singleton]
theorem tot_le {ps : List Nat} {M : Nat} (h : ∀ k, ps.getD k 0 < M) : ∀ k, k ≤ ps.length → tot ps k ≤ k * M
  | 0, _ => by rw [tot_0]; exact Nat.zero_le _
  | k + 1, hk => by
    rw [tot_succ (by omega), Nat.add_mul, Nat.one_mul]
    have := tot_le h k (by omega)
    have := h k
    omega
end Go.Th.Dig
namespace Go.Proofs.YtallbegibdlpaaaGreat
open Go Go.RowKit Go.Th Go.Th.Dig

theorem over_all {l m : List Value} (h : m.length = l.length) : over l 0 m = m := by
  unfold over splice
  rw [List.take_zero, List.nil_append, List.drop_of_length_le (by omega), List.append_nil]
set_option maxRecDepth 20000 in
theorem run_mkU32 (m : Nat) (hm : m ≤ 1000000) (wx : World) : (Instr.makeSlice 61 (.int .i64 (m : Int)) (.int .i64 (m : Int))).run Tryz.prog wx = .ok (.slice (some ⟨wx.heap.size, 0, none⟩) m m) (wx.alloc (.cells (u32s (List.replicate m 0)).toArray 109)) := by
  obtain ⟨i, hi, h1, h2, h3⟩ := info_parts (P := Tryz.prog) (e := 109) (z := .int .u32 0) (size := 1) (bytes := 4) (by kernel_rfl)
  have hr := run_make (P := Tryz.prog) wx 61 109 i (.int .u32 0) Tryz.underlying61 hi h1 .i64 .i64 (m : Int) (m : Int) (by omega) (Int.le_refl _) (by rw [h3]; omega) (by omega)
  rw [hr, h2, Nat.mul_one]
  simp only [Int.toNat_natCast]
  congr 4
  apply Array.ext'
  show (madeCells #[Value.int .u32 0] m).toList = _
  rw [toList_madeCells_one]
  simp [u32s]
theorem rep_lt (m : Nat) : ∀ d ∈ List.replicate m 0, d < 4294967296 := by
  intro d hd
  rw [(List.mem_replicate.1 hd).2]
  decide
/-- Numbers as an argument. -/
structure Nats (w : World) (a : Option Addr) (n cap : Nat) (cs : List Value) (ps : List Nat) : Prop where
  sl : Sl w 1 (.slice a n cap) n cs
  len : ps.length = n
  is : ∀ j, j < n → ∃ b c, cs[j]? = some (.slice b (len32 (ps.getD j 0)) c) ∧ Sl w 1 (.slice b (len32 (ps.getD j 0)) c) (len32 (ps.getD j 0)) (u32s (dg 4294967296 (ps.getD j 0)))
theorem Nats.below {w w' : World} {a : Option Addr} {n cap : Nat} {cs : List Value} {ps : List Nat} (h : Nats w a n cap cs ps) (hB : Below w.heap.size w w') : Nats w' a n cap cs ps :=
  ⟨h.sl.below hB, h.len, fun j hj => let ⟨b, c, h1, h2⟩ := h.is j hj; ⟨b, c, h1, h2.below hB⟩⟩
theorem Nats.cell {w : World} {a : Option Addr} {n cap : Nat} {cs : List Value} {ps : List Nat} (h : Nats w a n cap cs ps) {j : Nat} (hj : j < n) :
    ∃ b o d c, a = some ⟨b, o, none⟩ ∧ b < w.heap.size ∧ w.cell? ⟨b, o + j, none⟩ = some (.slice d (len32 (ps.getD j 0)) c) ∧ Sl w 1 (.slice d (len32 (ps.getD j 0)) c) (len32 (ps.getD j 0)) (u32s (dg 4294967296 (ps.getD j 0))) := by
  obtain ⟨d, c, h1, h2⟩ := h.is j hj
  obtain ⟨_, _, e, _, _, _, _, h5⟩ := h.sl
  cases e
  obtain ⟨b, o, ha, hc⟩ := h5 j _ h1
  exact ⟨b, o, d, c, ha, by have := World.block_lt_of_cell? w _ hc; simpa using this, hc, h2⟩

set_option maxRecDepth 20000 in
set_option maxHeartbeats 3200000 in
theorem sum_any (a : Option Addr) (n cap : Nat) (cs : List Value) (ps : List Nat) (w : World) (h : Nats w a n cap cs ps) (hn : n ≤ 1000) (hl : ∀ k, len32 (ps.getD k 0) ≤ 1000) :
    Calls Tryz.prog 75 #[.slice a n cap] w fun e w' => ∃ v, e = .returned v ∧ IsN w' v (tot ps n) ∧ Below w.heap.size w w' := by
  have H := Lib.hid h
  have HL := Lib.hid hl
  have HLEN := Lib.hid h.len
  clear h hl
  have M0 := Mem.start w
  go_enter Tryz.func75, Tryz.ntmps75
  go_upto_region 1 with (((with_reducible refine (?_ : Go.wpList _ _ _ (_ :: _) _ _)); (first | go_skip | (refine wpL_bx M0 rfl rfl rfl rfl ?_; clear M0; intro g1 w1 M1) | (refine wpL_alc M0 rfl rfl ?_; clear M0; intro g1 w1 M1) | (refine wpL_ldc M0 rfl rfl rfl ?_) | (refine wpL_lgc M0 rfl rfl rfl ?_) | (refine wpL_stc M0 rfl rfl rfl rfl ?_; clear M0; intro w' M0) | (refine wpL_sti M0 rfl rfl rfl rfl ?_; clear M0; intro w' M0) | (refine wpL_sth M0 rfl rfl rfl rfl (wr_minus _ _ _) ?_; clear M0; intro w' M0) | (refine wpL_ldc M1 rfl rfl rfl ?_) | (refine wpL_lgc M1 rfl rfl rfl ?_) | (refine wpL_stc M1 rfl rfl rfl rfl ?_; clear M1; intro w' M1) | (refine wpL_sti M1 rfl rfl rfl rfl ?_; clear M1; intro w' M1) | (refine wpL_sth M1 rfl rfl rfl rfl (wr_minus _ _ _) ?_; clear M1; intro w' M1))))
  go_wp2_with fail
  go_loopw [3, 11] (fun m i wr => ∃ (k lg : Nat), k ≤ n ∧ lg ≤ 1000 ∧ m = .int .i64 lg ∧ i = .int .i64 k ∧ Hid (∀ j, j < k → len32 (ps.getD j 0) ≤ lg) ∧ Mem w wr [(g1, 63, [.slice none 0 0])]) (fun _ i _ => n - (intOf i).toNat)
  case atStart => exact ⟨0, 0, Nat.zero_le _, Nat.zero_le _, rfl, rfl, Lib.hid (fun j hj => absurd hj (Nat.not_lt_zero _)), M1⟩
  case round =>
    clear M1
    obtain ⟨k, lg, hk, hlg, rfl, rfl, HM, M1⟩ := hrel
    by_cases hlt : k < n
    · obtain ⟨b, o, d, c, rfl, hb, hc, hS⟩ := (H.out.below M1.below).cell hlt
      have hx := HL.out k
      obtain ⟨x, ex⟩ : ∃ x, x = len32 (ps.getD k 0) := ⟨_, rfl⟩
      rw [← ex] at hc hS hx
      have M2 := M1.alloc 63 [.slice d x c]
      have EX := Lib.hid ex
      have M2 := Lib.hid M2
      clear ex hS
      go_wp2_with fail
      go_roundw
      case rel => exact ⟨k + 1, max lg x, by omega, by omega, by rw [show ((max lg x : Nat) : Int) = max (lg : Int) (x : Int) by omega], by go_num, Lib.hid (fun j hj => by
        by_cases e : j = k
        · rw [e, ← EX.out]; omega
        · have := HM.out j (by omega); omega), M2.out.drop⟩
      case measure => simp [intOf]; omega
    · obtain rfl : k = n := by omega
      have HB : Hid (∀ j, ps.getD j 0 < 4294967296 ^ lg) := Lib.hid (fun j => by
        by_cases hj : j < k
        · exact Nat.lt_of_lt_of_le (len32_lt _) (Nat.pow_le_pow_right (by decide) (HM.out j hj))
        · rw [List.getD_eq_getElem?_getD, List.getElem?_eq_none (by rw [HLEN.out]; omega)]
          exact Nat.pow_pos (by decide))
      have MK : ∀ wx, (Instr.makeSlice 61 (.int .i64 ((lg : Int) + 1)) (.int .i64 ((lg : Int) + 1))).run Tryz.prog wx = .ok (.slice (some ⟨wx.heap.size, 0, none⟩) (lg + 1) (lg + 1)) (wx.alloc (.cells (u32s (List.replicate (lg + 1) 0)).toArray 109)) := fun wx => run_mkU32 (lg + 1) (by omega) wx
      have M2 := M1.alloc 109 (u32s (List.replicate (lg + 1) 0))
      obtain ⟨w2, hw2⟩ : ∃ w2, wr.alloc (.cells (u32s (List.replicate (lg + 1) 0)).toArray 109) = w2 := ⟨_, rfl⟩
      have MK1 : (Instr.makeSlice 61 (.int .i64 ((lg : Int) + 1)) (.int .i64 ((lg : Int) + 1))).run Tryz.prog wr = .ok (.slice (some ⟨wr.heap.size, 0, none⟩) (lg + 1) (lg + 1)) w2 := by rw [MK wr, hw2]
      rw [hw2] at M2
      obtain ⟨G, hG⟩ : ∃ G, G = wr.heap.size := ⟨_, rfl⟩
      rw [← hG] at MK1 M2
      have HO0 : Hid ((List.replicate (lg + 1) 0).length = lg + 1 ∧ (∀ d ∈ List.replicate (lg + 1) 0, d < 4294967296) ∧ val 4294967296 (List.replicate (lg + 1) 0) = tot ps 0) := Lib.hid ⟨by simp, rep_lt _, by rw [val_zeros, tot_0]⟩
      have hGw : w.heap.size ≤ G := M2.from (Has.head _ _ _ _)
      clear MK hw2 hG M1 HM HL
      go_wp2_with fail
      clear MK1
      go_loopw [26] (fun i wr => ∃ (j : Nat) (O : List Nat), j ≤ k ∧ i = .int .i64 j ∧ Hid (O.length = lg + 1 ∧ (∀ d ∈ O, d < 4294967296) ∧ val 4294967296 O = tot ps j) ∧ Mem w wr [(G, 109, u32s O), (g1, 63, [.slice none 0 0])]) (fun i _ => k - (intOf i).toNat)
      case atStart => exact ⟨0, _, Nat.zero_le _, rfl, HO0, M2⟩
      case round =>
        clear M2 HO0
        obtain ⟨j, O, hj, rfl, HO, M2⟩ := hrel
        by_cases hlj : j < k
        · obtain ⟨b, o, d, c, rfl, hb, hc0, hS0⟩ := H.out.cell hlj
          have hc := (M2.below.cell (p := ⟨b, o + j, none⟩) hb).trans hc0
          obtain ⟨h1, h2, h3⟩ := HO.out
          have hB3 := (Below.refl _ wr).alloc (Nat.le_refl _) (.cells #[.slice d (len32 (ps.getD j 0)) c] 63)
          have M3 := M2.alloc 63 [.slice d (len32 (ps.getD j 0)) c]
          have hS3 := (hS0.below M2.below).below hB3
          have hlen : len32 (ps.getD j 0) ≤ lg + 1 := Nat.le_succ_of_le (dg_len_le (by decide) (HB.out j))
          have hap : 0 < len32 (ps.getD j 0) → ∀ q, d = some q → q.block ≠ G := fun h0 q hq e => by
            have := sl_lt32 hS0 q hq h0
            omega
          have K3 := M3.has (.tail _ _ _ _ _ (Has.head _ _ _ _))
          rw [← over_all (l := u32s O) (m := u32s O) rfl] at K3
          have C := raise_go G 0 (lg + 1) (lg + 1) d (len32 (ps.getD j 0)) c 1 O (dg 4294967296 (ps.getD j 0)) (u32s O) _ K3 (by rw [u32s_length, h1]; omega) h1 h2 hS3 hap hlen (by omega) (by decide) (dg_lt (by decide) _)
          rw [dg_val (by decide), Nat.one_mul, h3, ← tot_succ (by rw [HLEN.out]; exact hlj)] at C
          have hbd : tot ps (j + 1) < 4294967296 ^ (lg + 1) := by
            have := tot_le HB.out (j + 1) (by rw [HLEN.out]; omega)
            have h4 : (j + 1) * 4294967296 ^ lg ≤ 1000 * 4294967296 ^ lg := Nat.mul_le_mul_right _ (by omega)
            have h5 : 0 < 4294967296 ^ lg := Nat.pow_pos (by decide)
            rw [Nat.pow_succ]
            omega
          obtain ⟨x, ex⟩ : ∃ x, x = len32 (ps.getD j 0) := ⟨_, rfl⟩
          rw [← ex] at hc C M3
          obtain ⟨w3, hw3⟩ : ∃ w3, wr.alloc (.cells #[.slice d x c] 63) = w3 := ⟨_, rfl⟩
          have M3 : Mem w w3 [(wr.heap.size, 63, [.slice d x c]), (G, 109, u32s O), (g1, 63, [.slice none 0 0])] := by rw [← hw3]; exact M3
          rw [hw3] at C
          have C : Calls Tryz.prog 82 #[.slice (some ⟨G, 0, none⟩) (lg + 1) (lg + 1), .slice d x c, .int .u32 1] w3 fun e w' => ∃ c O', e = .returned (.bool (decide (c ≠ 0))) ∧ Blk w' G 109 (over (u32s O) 0 (u32s O')) ∧ O'.length = lg + 1 ∧ (∀ d ∈ O', d < 4294967296) ∧
            val 4294967296 O' + 4294967296 ^ (lg + 1) * c = tot ps (j + 1) ∧ Turned (fun k => k = G) w3 w' := C
          have HC := Lib.hid C
          have HBD := Lib.hid hbd
          have HM3 := Lib.hid M3
          have HW3 := Lib.hid hw3
          have HO1 := Lib.hid h1
          clear C hbd M3 hw3 hap hS3 hS0 hlen K3 hB3 h1 h2 h3 HO ex hc0 M2
          go_upto_region 11 with fail
          rw [HW3.out]
          clear HW3
          have hc3 := HM3.out.cell (Has.head _ _ _ _) (i := 0) rfl
          go_wp2_with fail
          refine HC.out.mono ?_
          rintro e w4 ⟨c4, O4, rfl, hK4, h1, h2, h3, hT4⟩
          have hc0 : c4 = 0 := by
            refine Nat.eq_zero_of_not_pos fun h => ?_
            have h5 : 4294967296 ^ (lg + 1) * 1 ≤ 4294967296 ^ (lg + 1) * c4 := Nat.mul_le_mul_left _ h
            have := HBD.out
            omega
          rw [hc0, Nat.mul_zero, Nat.add_zero] at h3
          rw [over_all (by rw [u32s_length, u32s_length, h1, HO1.out])] at hK4
          have M4 := (HM3.out.turn (.tail _ _ _ _ _ _ _ (Upd.head _ _ _ _ _)) hK4 hT4).drop
          have HO4 := Lib.hid (And.intro h1 (And.intro h2 h3))
          clear hc0 h1 h2 h3 hK4 hT4 HC HM3 hc3
          go_wp2_with fail
          go_roundw
          case rel => exact ⟨j + 1, O4, by omega, by go_num, HO4, M4⟩
          case measure => simp [intOf]; omega
        · obtain rfl : j = k := by omega
          obtain ⟨h1, h2, h3⟩ := HO.out
          have K3 := M2.has (Has.head _ _ _ _)
          rw [← over_all (l := u32s O) (m := u32s O) rfl] at K3
          have S0 := win_sl K3 (by rw [u32s_length]; omega) h1 (Nat.le_refl _) (by unfold maxLen; omega)
          have C := cut_any _ (lg + 1) (lg + 1) O wr S0 h2 (by omega)
          rw [h3] at C
          have C := Lib.hid C
          clear h1 h2 h3 K3 S0 HO
          go_wp2_with fail
          refine C.out.mono ?_
          rintro e w4 ⟨rfl, rfl, S2⟩
          have K2 := M2.has (.tail _ _ _ _ _ (Has.head _ _ _ _))
          have S2 := Lib.hid S2
          go_wp2_with ((with_reducible refine (?_ : Go.wpList _ _ _ (_ :: _) _ _)); (first | go_skip | (refine wpL_ldc M2 rfl rfl rfl ?_) | (refine wpL_lgc M2 rfl rfl rfl ?_) | (refine wpL_stcT M2 rfl rfl rfl rfl ?_; clear M2; intro w' M2 hT) | (refine wpL_stiT M2 rfl rfl rfl rfl ?_; clear M2; intro w' M2 hT)))
          refine bodyPost_ret (res_cell rfl M2 rfl (.tail _ _ _ _ _ (Has.head _ _ _ _)) (rd_nat _)) rfl ?_
          exact ⟨_, rfl, ⟨_, _, rfl, sl_kept S2.out K2 (noPart_sl _ _ _) hT⟩, M2.below⟩
end Go.Proofs.YtallbegibdlpaaaGreat

/-
  The sum of two numbers, the difference: the code's.
-/
namespace Go.Th
open Go Go.RowKit
/-- An owned row's block. -/
theorem own_blk {w : World} {base : Nat} {e : TypeId} {g n cap : Nat} {xs : List Value} (h : w.ownsRow base e 1 (.slice (some ⟨g, 0, none⟩) n cap) n xs) :
    ∃ cs, Blk w g e cs ∧ cs.length = cap ∧ over cs 0 xs = cs ∧ n ≤ cap ∧ cap ≤ maxLen ∧ base ≤ g ∧ xs.length = n := by
  obtain ⟨h1, h2⟩ := h
  rcases h2 with ⟨he, _⟩ | ⟨g', cap', cur, he, hb, hg, hnc, hcm, hcs, ht⟩
  · cases he
  · cases he
    refine ⟨cur.toList, by unfold Blk; simpa using hg, by simpa using hcs, ?_, hnc, hcm, hb, by simpa using h1⟩
    unfold over splice
    rw [List.take_zero, List.nil_append, ← ht, Nat.zero_add, List.length_take]
    have : min (n * 1) cur.toList.length = n * 1 := by
      have : cur.toList.length = cap := by simpa using hcs
      omega
    rw [this, List.take_append_drop]
theorem Mem.add {w0 w : World} {bs : List (Nat × TypeId × List Value)} {g : Nat} {t : TypeId} {cs : List Value} (M : Mem w0 w bs) (K : Blk w g t cs) (h1 : w0.heap.size ≤ g) (h2 : ∀ e ∈ bs, e.1 ≠ g) : Mem w0 w ((g, t, cs) :: bs) :=
  Mem.of_mew ((Mew.of_mem (S := fun _ => False) M).add K (.inr h1) h2)
end Go.Th
namespace Go.Proofs.YtallbegibdlpaaaGreat
open Go Go.RowKit Go.Th Go.Th.Dig

theorem IsN.form {w : World} {v : Value} {p : Nat} (h : IsN w v p) : ∃ a cap, v = .agg #[.slice a (len32 p) cap] ∧ Sl w 1 (.slice a (len32 p) cap) (len32 p) (u32s (dg 4294967296 p)) := h
set_option maxRecDepth 20000 in
theorem lower_nil (a b : Option Addr) (cap capb : Nat) (w : World) :
    Calls Tryz.prog 80 #[.slice a 0 cap, .slice b 0 capb, .int .u32 1] w fun e w' => e = .returned (.bool false) ∧ w = w' := by
  have hd0 : ((0 : Int) != 0) = false := by decide
  go_enter Tryz.func80, Tryz.ntmps80
  go_wp2_with fail
  go_loop [7, 13] (fun r c => r = .int .u64 0 ∧ c = .int .i64 0) (fun _ c => (intOf c).toNat)
  case atStart => exact ⟨rfl, rfl⟩
  case round =>
    obtain ⟨rfl, rfl⟩ := hrel
    go_wp2_with fail
    go_loop [7, 10] (fun r c => r = .int .u64 0 ∧ c = .int .i64 0) (fun _ c => (intOf c).toNat)
    case atStart => exact ⟨rfl, rfl⟩
    case round =>
      obtain ⟨rfl, rfl⟩ := hrel
      go_wp2_with fail
      go_ret
      exact ⟨rfl, rfl⟩

/-- What is left of a greater number, taken off. -/
theorem sub_val {p q c n : Nat} {O : List Nat} (h1 : O.length = n) (h2 : ∀ d ∈ O, d < 4294967296) (hq : q ≤ p) (hp : p < 4294967296 ^ n) (h : val 4294967296 O + q = p + 4294967296 ^ n * c) : val 4294967296 O = p - q := by
  have hv := val_lt (B := 4294967296) (by decide) h2
  rw [h1] at hv
  by_cases h0 : c = 0
  · rw [h0] at h; omega
  · have : 4294967296 ^ n * 1 ≤ 4294967296 ^ n * c := Nat.mul_le_mul_left _ (by omega)
    omega

/-- A copy, lowered by another row, cut: behind the exchange of both. -/
theorem lower_own (v : Value) (n : Nat) (p q : Nat) (b : Option Addr) (cb : Nat) (w1 w : World) (hn : n = len32 p) (ho : w.ownsRow w1.heap.size 109 1 v n (u32s (dg 4294967296 p))) (hB : w1.heap.size ≤ w.heap.size)
    (hT : Sl w1 1 (.slice b (len32 q) cb) (len32 q) (u32s (dg 4294967296 q))) (hT2 : Sl w 1 (.slice b (len32 q) cb) (len32 q) (u32s (dg 4294967296 q))) (hq : q ≤ p) (hl : len32 p ≤ 1000) :
    ∃ a cap, v = .slice a n cap ∧ Calls Tryz.prog 80 #[v, .slice b (len32 q) cb, .int .u32 1] w fun e w' => ∃ x O, e = .returned (.bool x) ∧ Sl w' 1 v n (u32s O) ∧ (∀ d ∈ O, d < 4294967296) ∧ val 4294967296 O = p - q ∧
      ((w = w') ∨ ∃ g, w1.heap.size ≤ g ∧ Turned (fun k => k = g) w w') := by
  have hlq : len32 q ≤ len32 p := dg_len_of (by decide) hq (Nat.le_refl _)
  by_cases h0 : n = 0
  · subst h0
    have hp0 : p = 0 := (len32_0 p).1 hn.symm
    have hq0 : q = 0 := by omega
    subst hp0 hq0
    obtain ⟨a, cap, rfl, _⟩ := ownsRow_slice ho
    exact ⟨a, cap, rfl, (lower_nil a b cap cb w).mono fun e w' ⟨h1, h2⟩ => ⟨false, [], h1, h2 ▸ Sl.of_own ho, by simp, rfl, .inl h2⟩⟩
  · obtain ⟨g, cap, rfl, hg⟩ := own_form ho (by omega)
    obtain ⟨cs, K, k1, k2, k3, k4, k5, k6⟩ := own_blk ho
    rw [← k2] at K
    refine ⟨_, _, rfl, (lower_go g 0 n cap b (len32 q) cb 1 (dg 4294967296 p) (dg 4294967296 q) cs w K (by omega) hn.symm (dg_lt (by decide) p) hT2 (fun h1 x hx e => ?_) (by omega) (by omega) (by decide) (dg_lt (by decide) q)).mono ?_⟩
    · have := sl_lt32 hT x hx h1
      omega
    · rintro e w' ⟨c, O, h1, h2, h3, h4, h5, h6⟩
      rw [Nat.one_mul, dg_val (by decide), dg_val (by decide)] at h5
      exact ⟨_, O, h1, win_sl h2 (by omega) h3 k3 k4, h4, sub_val h3 h4 hq (by rw [hn]; exact len32_lt p) h5, .inr ⟨g, hg, h6⟩⟩
end Go.Proofs.YtallbegibdlpaaaGreat

/-
  The difference of two numbers: the code's.
-/
namespace Go.Proofs.YtallbegibdlpaaaGreat
open Go Go.RowKit Go.Th Go.Th.Dig

theorem cmpN_lt (p q : Nat) : (p < q → cmpN p q = -1) ∧ (¬ p < q → 0 ≤ cmpN p q) := by
  unfold cmpN
  by_cases h : p < q
  · rw [if_pos h]; simp [h]
  · rw [if_neg h]; split <;> simp [h]

theorem mem_aside {w0 w w1 w' : World} {bs : List (Nat × TypeId × List Value)} (M : Mem w0 w bs) (h : (w = w') ∨ ∃ g, w1.heap.size ≤ g ∧ Turned (fun k => k = g) w w') (h0 : w0.heap.size ≤ w1.heap.size) (hl : ∀ e ∈ bs, e.1 < w1.heap.size) : Mem w0 w' bs := by
  rcases h with rfl | ⟨g, hg, hT⟩
  · exact M
  · exact ⟨⟨hT.os.trans M.below.os, hT.tape.trans M.below.tape, hT.output.trans M.below.output, Nat.le_trans M.below.size hT.size, fun k hk => (hT.block k (Nat.lt_of_lt_of_le hk M.below.size) (by omega)).trans (M.below.block k hk)⟩, M.nodup, M.old, fun e he => (M.blk e he).turned hT (by have := hl e he; omega)⟩

set_option maxRecDepth 20000 in
set_option maxHeartbeats 1600000 in
theorem sub_any16 (v u : Value) (p q : Nat) (w : World) (hp : IsN w v p) (hq : IsN w u q) (h1 : len32 p ≤ 1000) (h2 : len32 q ≤ 1000) :
    Calls Tryz.prog 46 #[v, u] w fun e w' => ∃ t, e = .returned t ∧ IsN w' t (if p < q then q - p else p - q) ∧ Below w.heap.size w w' := by
  have C1 := fun wx (hx : IsN wx v p) (hy : IsN wx u q) => cmp_any v u p q wx hx hy (by omega) (by omega)
  have HP := Lib.hid hp
  have HQ := Lib.hid hq
  obtain ⟨a, ca, rfl, hS⟩ := hp.form
  obtain ⟨b, cb, rfl, hT⟩ := hq.form
  have CA := fun wx hx => clone32_any (.slice a (len32 p) ca) (len32 p) (dg 4294967296 p) rfl wx hx (by omega)
  have CB := fun wx hx => clone32_any (.slice b (len32 q) cb) (len32 q) (dg 4294967296 q) rfl wx hx (by omega)
  have LA := fun v w1 w ho hB hT hT2 hq => lower_own v (len32 p) p q b cb w1 w rfl ho hB hT hT2 hq h1
  have LB := fun v w1 w ho hB hT hT2 hq => lower_own v (len32 q) q p a ca w1 w rfl ho hB hT hT2 hq h2
  obtain ⟨n, hn⟩ : ∃ n, n = len32 p := ⟨_, rfl⟩
  obtain ⟨m, hm⟩ : ∃ m, m = len32 q := ⟨_, rfl⟩
  rw [← hn] at C1 CA LA LB hS HP h1
  rw [← hm] at C1 CB LA LB hT HQ h2
  rw [← hn, ← hm]
  have HCA := Lib.hid CA
  have HCB := Lib.hid CB
  have HLA := Lib.hid LA
  have HLB := Lib.hid LB
  have HS := Lib.hid hS
  have HT := Lib.hid hT
  have HD : Hid (∀ O : List Nat, ∀ d, (∀ x ∈ O, x < 4294967296) → val 4294967296 O = d → d ≤ p ∨ d ≤ q → len32 d ≤ 1000) := Lib.hid (fun O d _ _ h => by
    rcases h with h | h
    · exact Nat.le_trans (dg_len_of (by decide) h (Nat.le_refl _)) (by show len32 p ≤ _; omega)
    · exact Nat.le_trans (dg_len_of (by decide) h (Nat.le_refl _)) (by show len32 q ≤ _; omega))
  have M0 := Mem.start w
  clear hp hq hS hT CA CB LA LB hn hm
  by_cases hpq : p < q
  · rw [if_pos hpq]
    rw [(cmpN_lt p q).1 hpq] at C1
    have C1 := Lib.hid C1
    have HLE : Hid (p ≤ q) := Lib.hid (by omega)
    obtain ⟨d, hd⟩ : ∃ d, d = q - p := ⟨_, rfl⟩
    rw [← hd] at HLB ⊢
    have HDL : Hid (d ≤ q) := Lib.hid (by omega)
    clear hpq hd
    go_enter Tryz.func46, Tryz.ntmps46
    go_wp2_with ((with_reducible refine (?_ : Go.wpList _ _ _ (_ :: _) _ _)); (first | go_skip | (refine wpL_bx M0 rfl rfl rfl rfl ?_; clear M0; intro g1 w1 M1) | (refine wpL_alc M0 rfl rfl ?_; clear M0; intro g1 w1 M1) | (refine wpL_ldc M0 rfl rfl rfl ?_) | (refine wpL_lgc M0 rfl rfl rfl ?_) | (refine wpL_stc M0 rfl rfl rfl rfl ?_; clear M0; intro w' M0) | (refine wpL_sti M0 rfl rfl rfl rfl ?_; clear M0; intro w' M0) | (refine wpL_sth M0 rfl rfl rfl rfl (wr_minus _ _ _) ?_; clear M0; intro w' M0) | (refine wpL_bx M1 rfl rfl rfl rfl ?_; clear M1; intro g2 w2 M2) | (refine wpL_alc M1 rfl rfl ?_; clear M1; intro g2 w2 M2) | (refine wpL_ldc M1 rfl rfl rfl ?_) | (refine wpL_lgc M1 rfl rfl rfl ?_) | (refine wpL_stc M1 rfl rfl rfl rfl ?_; clear M1; intro w' M1) | (refine wpL_sti M1 rfl rfl rfl rfl ?_; clear M1; intro w' M1) | (refine wpL_sth M1 rfl rfl rfl rfl (wr_minus _ _ _) ?_; clear M1; intro w' M1) | (refine wpL_bx M2 rfl rfl rfl rfl ?_; clear M2; intro g3 w3 M3) | (refine wpL_alc M2 rfl rfl ?_; clear M2; intro g3 w3 M3) | (refine wpL_ldc M2 rfl rfl rfl ?_) | (refine wpL_lgc M2 rfl rfl rfl ?_) | (refine wpL_stc M2 rfl rfl rfl rfl ?_; clear M2; intro w' M2) | (refine wpL_sti M2 rfl rfl rfl rfl ?_; clear M2; intro w' M2) | (refine wpL_sth M2 rfl rfl rfl rfl (wr_minus _ _ _) ?_; clear M2; intro w' M2) | (refine wpL_ldc M3 rfl rfl rfl ?_) | (refine wpL_lgc M3 rfl rfl rfl ?_) | (refine wpL_stc M3 rfl rfl rfl rfl ?_; clear M3; intro w' M3) | (refine wpL_sti M3 rfl rfl rfl rfl ?_; clear M3; intro w' M3) | (refine wpL_sth M3 rfl rfl rfl rfl (wr_minus _ _ _) ?_; clear M3; intro w' M3)))
    refine (C1.out _ (HP.out.below M3.below) (HQ.out.below M3.below)).mono ?_
    rintro e w4 ⟨rfl, hA⟩
    replace M3 := M3.call hA
    clear hA C1
    go_wp2_with ((with_reducible refine (?_ : Go.wpList _ _ _ (_ :: _) _ _)); (first | go_skip | (refine wpL_ldc M3 rfl rfl rfl ?_) | (refine wpL_lgc M3 rfl rfl rfl ?_) | (refine wpL_stc M3 rfl rfl rfl rfl ?_; clear M3; intro w' M3) | (refine wpL_sti M3 rfl rfl rfl rfl ?_; clear M3; intro w' M3) | (refine wpL_sth M3 rfl rfl rfl rfl (wr_minus _ _ _) ?_; clear M3; intro w' M3)))
    refine (HCB.out _ (HT.out.below M3.below)).mono ?_
    rintro e w5 ⟨x, rfl, ho, hA⟩
    have hT3 := HS.out.below M3.below
    have hT5 := hT3.below hA
    obtain ⟨y, cy, rfl, CLW⟩ := HLB.out x _ w5 ho hA.size hT3 hT5 HLE.out
    have hne3 := M3.lt (Has.head _ _ _ _)
    have hbs := M3.below.size
    have HLT := Lib.hid (fun e he => (M3.blk e he).lt)
    replace M3 := M3.call hA
    have CLW := Lib.hid CLW
    have hz5 := hA.size
    clear ho hA hT3 hT5
    go_wp2_with ((with_reducible refine (?_ : Go.wpList _ _ _ (_ :: _) _ _)); (first | go_skip | (refine wpL_ldc M3 rfl rfl rfl ?_) | (refine wpL_lgc M3 rfl rfl rfl ?_) | (refine wpL_stc M3 rfl rfl rfl rfl ?_; clear M3; intro w' M3) | (refine wpL_sti M3 rfl rfl rfl rfl ?_; clear M3; intro w' M3) | (refine wpL_sth M3 rfl rfl rfl rfl (wr_minus _ _ _) ?_; clear M3; intro w' M3)))
    refine CLW.out.mono ?_
    rintro e w6 ⟨x6, O, rfl, S6, hdg, hval, hw6⟩
    have M6 := mem_aside M3 hw6 hbs HLT.out
    have hol := u32_len S6
    have CC := Lib.hid (cut_any y m cy O w6 S6 hdg (by omega))
    rw [hval] at CC
    have HLD := Lib.hid (HD.out O d hdg hval (.inr HDL.out))
    clear S6 hdg hval hw6 hol M3
    go_wp2_with fail
    refine CC.out.mono ?_
    rintro e w7 ⟨rfl, rfl, S7⟩
    have K2 := M6.has (Has.head _ _ _ _)
    have S7 := Lib.hid S7
    go_wp2_with ((with_reducible refine (?_ : Go.wpList _ _ _ (_ :: _) _ _)); (first | go_skip | (refine wpL_ldc M6 rfl rfl rfl ?_) | (refine wpL_lgc M6 rfl rfl rfl ?_) | (refine wpL_stcT M6 rfl rfl rfl rfl ?_; clear M6; intro w' M6 hT) | (refine wpL_stiT M6 rfl rfl rfl rfl ?_; clear M6; intro w' M6 hT)))
    refine bodyPost_ret (res_cell rfl M6 rfl (Has.head _ _ _ _) (rd_nat _)) rfl ?_
    exact ⟨_, rfl, ⟨_, _, rfl, sl_kept S7.out K2 (noPart_sl _ _ _) hT⟩, M6.below⟩
  · rw [if_neg hpq]
    have hcm := (cmpN_lt p q).2 hpq
    obtain ⟨c, hc⟩ : ∃ c, c = cmpN p q := ⟨_, rfl⟩
    rw [← hc] at C1 hcm
    have hcm2 : ¬ c < 0 := by omega
    have C1 := Lib.hid C1
    clear hc
    have HLE : Hid (q ≤ p) := Lib.hid (by omega)
    obtain ⟨d, hd⟩ : ∃ d, d = p - q := ⟨_, rfl⟩
    rw [← hd] at HLA ⊢
    have HDL : Hid (d ≤ p) := Lib.hid (by omega)
    clear hpq hd
    go_enter Tryz.func46, Tryz.ntmps46
    go_wp2_with ((with_reducible refine (?_ : Go.wpList _ _ _ (_ :: _) _ _)); (first | go_skip | (refine wpL_bx M0 rfl rfl rfl rfl ?_; clear M0; intro g1 w1 M1) | (refine wpL_alc M0 rfl rfl ?_; clear M0; intro g1 w1 M1) | (refine wpL_ldc M0 rfl rfl rfl ?_) | (refine wpL_lgc M0 rfl rfl rfl ?_) | (refine wpL_stc M0 rfl rfl rfl rfl ?_; clear M0; intro w' M0) | (refine wpL_sti M0 rfl rfl rfl rfl ?_; clear M0; intro w' M0) | (refine wpL_sth M0 rfl rfl rfl rfl (wr_minus _ _ _) ?_; clear M0; intro w' M0) | (refine wpL_bx M1 rfl rfl rfl rfl ?_; clear M1; intro g2 w2 M2) | (refine wpL_alc M1 rfl rfl ?_; clear M1; intro g2 w2 M2) | (refine wpL_ldc M1 rfl rfl rfl ?_) | (refine wpL_lgc M1 rfl rfl rfl ?_) | (refine wpL_stc M1 rfl rfl rfl rfl ?_; clear M1; intro w' M1) | (refine wpL_sti M1 rfl rfl rfl rfl ?_; clear M1; intro w' M1) | (refine wpL_sth M1 rfl rfl rfl rfl (wr_minus _ _ _) ?_; clear M1; intro w' M1) | (refine wpL_bx M2 rfl rfl rfl rfl ?_; clear M2; intro g3 w3 M3) | (refine wpL_alc M2 rfl rfl ?_; clear M2; intro g3 w3 M3) | (refine wpL_ldc M2 rfl rfl rfl ?_) | (refine wpL_lgc M2 rfl rfl rfl ?_) | (refine wpL_stc M2 rfl rfl rfl rfl ?_; clear M2; intro w' M2) | (refine wpL_sti M2 rfl rfl rfl rfl ?_; clear M2; intro w' M2) | (refine wpL_sth M2 rfl rfl rfl rfl (wr_minus _ _ _) ?_; clear M2; intro w' M2) | (refine wpL_ldc M3 rfl rfl rfl ?_) | (refine wpL_lgc M3 rfl rfl rfl ?_) | (refine wpL_stc M3 rfl rfl rfl rfl ?_; clear M3; intro w' M3) | (refine wpL_sti M3 rfl rfl rfl rfl ?_; clear M3; intro w' M3) | (refine wpL_sth M3 rfl rfl rfl rfl (wr_minus _ _ _) ?_; clear M3; intro w' M3)))
    refine (C1.out _ (HP.out.below M3.below) (HQ.out.below M3.below)).mono ?_
    rintro e w4 ⟨rfl, hA⟩
    replace M3 := M3.call hA
    clear hA C1
    go_wp2_with ((with_reducible refine (?_ : Go.wpList _ _ _ (_ :: _) _ _)); (first | go_skip | (refine wpL_ldc M3 rfl rfl rfl ?_) | (refine wpL_lgc M3 rfl rfl rfl ?_) | (refine wpL_stc M3 rfl rfl rfl rfl ?_; clear M3; intro w' M3) | (refine wpL_sti M3 rfl rfl rfl rfl ?_; clear M3; intro w' M3) | (refine wpL_sth M3 rfl rfl rfl rfl (wr_minus _ _ _) ?_; clear M3; intro w' M3)))
    refine (HCA.out _ (HS.out.below M3.below)).mono ?_
    rintro e w5 ⟨x, rfl, ho, hA⟩
    have hT3 := HT.out.below M3.below
    have hT5 := hT3.below hA
    obtain ⟨y, cy, rfl, CLW⟩ := HLA.out x _ w5 ho hA.size hT3 hT5 HLE.out
    have hne3 := M3.lt (Has.head _ _ _ _)
    have hbs := M3.below.size
    have HLT := Lib.hid (fun e he => (M3.blk e he).lt)
    replace M3 := M3.call hA
    have CLW := Lib.hid CLW
    have hz5 := hA.size
    clear ho hA hT3 hT5
    go_wp2_with ((with_reducible refine (?_ : Go.wpList _ _ _ (_ :: _) _ _)); (first | go_skip | (refine wpL_ldc M3 rfl rfl rfl ?_) | (refine wpL_lgc M3 rfl rfl rfl ?_) | (refine wpL_stc M3 rfl rfl rfl rfl ?_; clear M3; intro w' M3) | (refine wpL_sti M3 rfl rfl rfl rfl ?_; clear M3; intro w' M3) | (refine wpL_sth M3 rfl rfl rfl rfl (wr_minus _ _ _) ?_; clear M3; intro w' M3)))
    refine CLW.out.mono ?_
    rintro e w6 ⟨x6, O, rfl, S6, hdg, hval, hw6⟩
    have M6 := mem_aside M3 hw6 hbs HLT.out
    have hol := u32_len S6
    have CC := Lib.hid (cut_any y n cy O w6 S6 hdg (by omega))
    rw [hval] at CC
    have HLD := Lib.hid (HD.out O d hdg hval (.inl HDL.out))
    clear S6 hdg hval hw6 hol M3
    go_wp2_with fail
    refine CC.out.mono ?_
    rintro e w7 ⟨rfl, rfl, S7⟩
    have K2 := M6.has (Has.head _ _ _ _)
    have S7 := Lib.hid S7
    go_wp2_with ((with_reducible refine (?_ : Go.wpList _ _ _ (_ :: _) _ _)); (first | go_skip | (refine wpL_ldc M6 rfl rfl rfl ?_) | (refine wpL_lgc M6 rfl rfl rfl ?_) | (refine wpL_stcT M6 rfl rfl rfl rfl ?_; clear M6; intro w' M6 hT) | (refine wpL_stiT M6 rfl rfl rfl rfl ?_; clear M6; intro w' M6 hT)))
    refine bodyPost_ret (res_cell rfl M6 rfl (Has.head _ _ _ _) (rd_nat _)) rfl ?_
    exact ⟨_, rfl, ⟨_, _, rfl, sl_kept S7.out K2 (noPart_sl _ _ _) hT⟩, M6.below⟩
end Go.Proofs.YtallbegibdlpaaaGreat

/-
  The product of two numbers: the code's.
-/
namespace Go.Th
open Go Go.RowKit
section
variable {P : Program} {ops : Array Oper} {rest : List Oper} {o : Oper} {a : Act} {w w0 : World} {Q : Exit → Act → World → Prop} {K : Act → World → Prop} {bs bs' : List (Nat × TypeId × List Value)}
  {g off : Nat} {t ty : TypeId} {cs cs' : List Value} {v : Value} {x y : Operand}
theorem wp_stM (M : Mem w0 w bs) (ho : o.op = .store ty x y) (hx : a.eval x = .pointer (some ⟨g, off, none⟩)) (hy : a.eval y = v) (hr : Wr P ty off cs v cs') (hu : Upd bs g t cs cs' bs')
    (h : ∀ w', Mem w0 w' bs' → Turned (fun k => k = g) w w' → K (a.put o.dst undef) w') : o.wp P a w K Q := by
  unfold Oper.wp execOp
  simp only [ho, hx, hy, Instr.storeAt, Instr.sureAddr, Sem.run_bind, Sem.run_pure, Result.andThen_ok, hr.run w g t (M.has hu.has)]
  exact h _ (M.row hu) (turned_row16 _ _ _)
end
end Go.Th
namespace Go.Proofs.YtallbegibdlpaaaGreat
open Go Go.RowKit Go.Th Go.Th.Dig

theorem wr_nat (s : Value) (a : Option Addr) (n cap : Nat) : Wr Tryz.prog 63 0 [s] (.agg #[.slice a n cap]) [.slice a n cap] :=
  Wr.whole (ds := [.slice a n cap]) size26 rfl (by intro u hu; simp at hu; subst hu; rfl)
theorem run_from {P : Program} {t e : TypeId} {bytes : Nat} (E : ElemOf P t e 1 bytes) (g o n cap k : Nat) (hk : k < n) (hn : n ≤ cap) (hc : cap ≤ maxLen) (wx : World) :
    (Instr.slice t (.slice (some ⟨g, o, none⟩) n cap) (some (.int .i64 k)) none none).run P wx = .ok (.slice (some ⟨g, o + k, none⟩) (n - k) (cap - k)) wx := by
  obtain ⟨i, z, hi, hz, hsize, hby, hzs⟩ := E.info
  unfold maxLen at hc
  have hb2 : (k : Int) ≤ n := by omega
  have hne : ¬ cap = k := by omega
  simp [Instr.slice, run_underlying E.und, Instr.sliceBounds, run_sliceBound, hb2, sizeOf, typeInfo, hi, hsize, hne, add_none]
theorem over_drop {O R : List Nat} {k : Nat} (hk : k ≤ O.length) (hR : R.length = O.length - k) : over (u32s O) k (u32s R) = u32s (O.take k ++ R) := by
  unfold over splice
  rw [List.drop_of_length_le (by rw [u32s_length, u32s_length]; omega), List.append_nil, u32s_take]
  simp [u32s]
/-- One more part of the first one. -/
theorem mul_step {A O R : List Nat} {q k c n m : Nat} (hA : A.length = n) (hd : ∀ d ∈ A, d < 4294967296) (hk : k < n) (hO : O.length = n + m) (hq : q < 4294967296 ^ m) (hv : val 4294967296 O = val 4294967296 (A.take k) * q) (hR : R.length = n + m - k)
    (h : val 4294967296 R + 4294967296 ^ (n + m - k) * c = val 4294967296 (O.drop k) + A.getD k 0 * q) : val 4294967296 (O.take k ++ R) = val 4294967296 (A.take (k + 1)) * q := by
  have e : (O.take k).length = k := by rw [List.length_take]; omega
  have hj := val_join (B := 4294967296) O (i := k) (by omega)
  rw [hv] at hj
  have ht : val 4294967296 (A.take (k + 1)) * q = val 4294967296 (A.take k) * q + 4294967296 ^ k * (A.getD k 0 * q) := by
    rw [take_val (by omega), Nat.add_mul, Nat.mul_assoc]
  have hs : 4294967296 ^ k * val 4294967296 R + 4294967296 ^ (n + m) * c = 4294967296 ^ k * val 4294967296 (O.drop k) + 4294967296 ^ k * (A.getD k 0 * q) := by
    have := congrArg (4294967296 ^ k * ·) h
    simp only [Nat.mul_add] at this
    rw [← Nat.mul_assoc, ← Nat.pow_add, show k + (n + m - k) = n + m by omega] at this
    exact this
  have hlt : val 4294967296 (A.take (k + 1)) * q < 4294967296 ^ (n + m) := by
    have h1 := val_lt (B := 4294967296) (by decide) (l := A.take (k + 1)) (fun d hd' => hd d (List.mem_of_mem_take hd'))
    rw [List.length_take, Nat.min_eq_left (by omega)] at h1
    refine Nat.lt_of_lt_of_le (Nat.mul_lt_mul_of_lt_of_lt h1 hq) ?_
    rw [← Nat.pow_add]
    exact Nat.pow_le_pow_right (by decide) (by omega)
  rw [val_app, e]
  by_cases h0 : c = 0
  · rw [h0] at hs; omega
  · have : 4294967296 ^ (n + m) * 1 ≤ 4294967296 ^ (n + m) * c := Nat.mul_le_mul_left _ (by omega)
    omega

set_option maxRecDepth 20000 in
set_option maxHeartbeats 3200000 in
theorem mul_any16 (v u : Value) (p q : Nat) (w : World) (hp : IsN w v p) (hq : IsN w u q) (h1 : len32 p ≤ 1000) (h2 : len32 q ≤ 1000) :
    Calls Tryz.prog 47 #[v, u] w fun e w' => ∃ t, e = .returned t ∧ IsN w' t (p * q) ∧ Below w.heap.size w w' := by
  obtain ⟨a, ca, rfl, hS⟩ := hp.form
  obtain ⟨b, cb, rfl, hT⟩ := hq.form
  have hdA := dg_lt (B := 4294967296) (by decide) p
  have hdQ := dg_lt (B := 4294967296) (by decide) q
  have hvA := dg_val (B := 4294967296) (by decide) p
  have hvQ := dg_val (B := 4294967296) (by decide) q
  have hqb := len32_lt q
  have hltT := sl_lt32 hT
  obtain ⟨A, hA⟩ : ∃ A, A = dg 4294967296 p := ⟨_, rfl⟩
  obtain ⟨R, hR⟩ : ∃ R, R = dg 4294967296 q := ⟨_, rfl⟩
  obtain ⟨n, hn⟩ : ∃ n, n = len32 p := ⟨_, rfl⟩
  obtain ⟨m, hm⟩ : ∃ m, m = len32 q := ⟨_, rfl⟩
  have hAl : A.length = n := by rw [hA, hn]
  have hRl : R.length = m := by rw [hR, hm]
  rw [← hA] at hS hdA hvA
  rw [← hR] at hT hdQ hvQ
  rw [← hn] at hS h1 ⊢
  rw [← hm] at hT h2 hqb hltT ⊢
  have HDA := Lib.hid hdA
  have HDQ := Lib.hid hdQ
  have HVA := Lib.hid hvA
  have HVQ := Lib.hid hvQ
  have HQB := Lib.hid hqb
  have HLT := Lib.hid hltT
  have HAL := Lib.hid hAl
  have HS := Lib.hid hS
  have HT := Lib.hid hT
  have M0 := Mem.start w
  clear hp hq hdA hdQ hvA hvQ hqb hltT hA hR hn hm hAl hRl hS hT
  go_enter Tryz.func47, Tryz.ntmps47
  go_upto_region 1 with (((with_reducible refine (?_ : Go.wpList _ _ _ (_ :: _) _ _)); (first | go_skip | (refine wpL_bx M0 rfl rfl rfl rfl ?_; clear M0; intro g1 w1 M1) | (refine wpL_alc M0 rfl rfl ?_; clear M0; intro g1 w1 M1) | (refine wpL_ldc M0 rfl rfl rfl ?_) | (refine wpL_lgc M0 rfl rfl rfl ?_) | (refine wpL_stc M0 rfl rfl rfl rfl ?_; clear M0; intro w' M0) | (refine wpL_sti M0 rfl rfl rfl rfl ?_; clear M0; intro w' M0) | (refine wpL_sth M0 rfl rfl rfl rfl (wr_minus _ _ _) ?_; clear M0; intro w' M0) | (refine wpL_bx M1 rfl rfl rfl rfl ?_; clear M1; intro g2 w2 M2) | (refine wpL_alc M1 rfl rfl ?_; clear M1; intro g2 w2 M2) | (refine wpL_ldc M1 rfl rfl rfl ?_) | (refine wpL_lgc M1 rfl rfl rfl ?_) | (refine wpL_stc M1 rfl rfl rfl rfl ?_; clear M1; intro w' M1) | (refine wpL_sti M1 rfl rfl rfl rfl ?_; clear M1; intro w' M1) | (refine wpL_sth M1 rfl rfl rfl rfl (wr_minus _ _ _) ?_; clear M1; intro w' M1) | (refine wpL_bx M2 rfl rfl rfl rfl ?_; clear M2; intro g3 w3 M3) | (refine wpL_alc M2 rfl rfl ?_; clear M2; intro g3 w3 M3) | (refine wpL_ldc M2 rfl rfl rfl ?_) | (refine wpL_lgc M2 rfl rfl rfl ?_) | (refine wpL_stc M2 rfl rfl rfl rfl ?_; clear M2; intro w' M2) | (refine wpL_sti M2 rfl rfl rfl rfl ?_; clear M2; intro w' M2) | (refine wpL_sth M2 rfl rfl rfl rfl (wr_minus _ _ _) ?_; clear M2; intro w' M2) | (refine wpL_ldc M3 rfl rfl rfl ?_) | (refine wpL_lgc M3 rfl rfl rfl ?_) | (refine wpL_stc M3 rfl rfl rfl rfl ?_; clear M3; intro w' M3) | (refine wpL_sti M3 rfl rfl rfl rfl ?_; clear M3; intro w' M3) | (refine wpL_sth M3 rfl rfl rfl rfl (wr_minus _ _ _) ?_; clear M3; intro w' M3))))
  have MK : (Instr.makeSlice 61 (.int .i64 ((n : Int) + (m : Int))) (.int .i64 ((n : Int) + (m : Int)))).run Tryz.prog w3 = .ok (.slice (some ⟨w3.heap.size, 0, none⟩) (n + m) (n + m)) (w3.alloc (.cells (u32s (List.replicate (n + m) 0)).toArray 109)) := run_mkU32 (n + m) (by omega) w3
  have M4 := M3.alloc 109 (u32s (List.replicate (n + m) 0))
  obtain ⟨w4, hw4⟩ : ∃ w4, w3.alloc (.cells (u32s (List.replicate (n + m) 0)).toArray 109) = w4 := ⟨_, rfl⟩
  obtain ⟨G, hG⟩ : ∃ G, G = w3.heap.size := ⟨_, rfl⟩
  rw [hw4, ← hG] at MK M4
  have hGw : w.heap.size ≤ G := M4.from (Has.head _ _ _ _)
  have HO0 : Hid ((List.replicate (n + m) 0).length = n + m ∧ (∀ d ∈ List.replicate (n + m) 0, d < 4294967296) ∧ val 4294967296 (List.replicate (n + m) 0) = val 4294967296 (A.take 0) * q) := Lib.hid ⟨by simp, rep_lt _, by rw [val_zeros]; simp [val]⟩
  have HM4 := Lib.hid M4
  clear hw4 hG M4
  go_upto_region 2 with (((with_reducible refine (?_ : Go.wpList _ _ _ (_ :: _) _ _)); (first | go_skip | (refine wpL_ldc M3 rfl rfl rfl ?_) | (refine wpL_lgc M3 rfl rfl rfl ?_) | (refine wpL_stc M3 rfl rfl rfl rfl ?_; clear M3; intro w' M3) | (refine wpL_sti M3 rfl rfl rfl rfl ?_; clear M3; intro w' M3) | (refine wpL_sth M3 rfl rfl rfl rfl (wr_minus _ _ _) ?_; clear M3; intro w' M3))))
  have M4 := HM4.out
  clear M3 MK HM4
  go_wp2_with ((with_reducible refine (?_ : Go.wpList _ _ _ (_ :: _) _ _)); (first | go_skip | (refine wpL_ldc M4 rfl rfl rfl ?_) | (refine wpL_lgc M4 rfl rfl rfl ?_) | (refine wpL_stc M4 rfl rfl rfl rfl ?_; clear M4; intro w' M4) | (refine wpL_sti M4 rfl rfl rfl rfl ?_; clear M4; intro w' M4) | (refine wpL_sth M4 rfl rfl rfl rfl (wr_minus _ _ _) ?_; clear M4; intro w' M4)))
  go_loopw [19] (fun i wr => ∃ (k : Nat) (O : List Nat), k ≤ n ∧ i = .int .i64 k ∧ Hid (O.length = n + m ∧ (∀ d ∈ O, d < 4294967296) ∧ val 4294967296 O = val 4294967296 (A.take k) * q) ∧ Mem w wr [(G, 109, u32s O), (g3, 63, [.slice none 0 0]), (g2, 63, [.slice b m cb]), (g1, 63, [.slice a n ca])]) (fun i _ => n - (intOf i).toNat)
  case atStart => exact ⟨0, _, Nat.zero_le _, rfl, HO0, M4⟩
  case round =>
    clear M4 HO0
    obtain ⟨k, O, hk, rfl, HO, M⟩ := hrel
    by_cases hlt : k < n
    · obtain ⟨h3, h4, h5⟩ := HO.out
      obtain ⟨b1, o1, rfl, hb1, hc1⟩ := cell_u32 (HS.out.below M.below) k (by rw [HAL.out]; exact hlt)
      have hx := getD_mem (by decide : 0 < 4294967296) HDA.out k
      have hsl : ∀ wx, (Instr.slice 61 (.slice (some ⟨G, 0, none⟩) (n + m) (n + m)) (some (.int .i64 k)) none none).run Tryz.prog wx = .ok (.slice (some ⟨G, k, none⟩) (n + m - k) (n + m - k)) wx := fun wx => by
        have := run_from Eu32 G 0 (n + m) (n + m) k (by omega) (Nat.le_refl _) (by unfold maxLen; omega) wx
        rwa [Nat.zero_add] at this
      have K := M.drew.has (Has.head _ _ _ _)
      rw [← win_self (l := O) (o := k) (k := n + m - k) (by omega), List.take_of_length_le (by rw [List.length_drop]; omega)] at K
      have C := raise_go G k (n + m - k) (n + m - k) b m cb (A.getD k 0) (O.drop k) R (u32s O) wr.drew K (by rw [u32s_length]; omega) (by rw [List.length_drop, h3]) (fun d hd => h4 d (List.mem_of_mem_drop hd)) (HT.out.below M.drew.below)
        (fun h0 x hx => by have := HLT.out x hx h0; omega) (by omega) (by omega) hx HDQ.out
      rw [HVQ.out] at C
      have HST : Hid (∀ c R', R'.length = n + m - k → (∀ d ∈ R', d < 4294967296) → val 4294967296 R' + 4294967296 ^ (n + m - k) * c = val 4294967296 (O.drop k) + A.getD k 0 * q → (O.take k ++ R').length = n + m ∧ (∀ d ∈ O.take k ++ R', d < 4294967296) ∧ val 4294967296 (O.take k ++ R') = val 4294967296 (A.take (k + 1)) * q ∧ over (u32s O) k (u32s R') = u32s (O.take k ++ R')) := Lib.hid (fun c R' k1 k2 k3 =>
        ⟨by rw [List.length_append, List.length_take]; omega, fun d hd => by
          rcases List.mem_append.1 hd with hd | hd
          · exact h4 d (List.mem_of_mem_take hd)
          · exact k2 d hd, mul_step HAL.out HDA.out hlt h3 HQB.out h5 k1 k3, over_drop (by omega) (by omega)⟩)
      obtain ⟨x, ex⟩ : ∃ x, x = A.getD k 0 := ⟨_, rfl⟩
      rw [← ex] at hc1 hx C HST
      have C := Lib.hid C
      have c2 := M.cell (.tail _ _ _ _ _ (.tail _ _ _ _ _ (Has.head _ _ _ _))) (i := 0) rfl
      clear h3 h4 h5 K ex HO
      go_wp2_with fail
      refine wp_region_held_drew (S := (fun w' : World => w'.cell? ⟨g2, 0, none⟩ = some (.slice b m cb))) (by kernel_rfl) (c2) (fun hHeld => ?_)
      refine tkT 0 ?v1 ?hy1 hHeld ?rest1
      case hy1 => (intro w' hSw; (try dsimp only at hSw); go_simp; (try with_reducible rfl))
      try simp only [Act.put, puts]
      refine tkT 1 ?v2 ?hy2 hHeld ?rest2
      case hy2 => (intro w' hSw; (try dsimp only at hSw); go_simp; (try with_reducible rfl))
      try simp only [Act.put, puts]
      refine tkT 2 ?v3 ?hy3 hHeld ?rest3
      case hy3 => (intro w' hSw; (try dsimp only at hSw); go_simp; (try with_reducible rfl))
      try simp only [Act.put, puts]
      refine tkT 3 ?v4 ?hy4 hHeld ?rest4
      case hy4 => (intro w' hSw; (try dsimp only at hSw); go_simp; (try with_reducible rfl))
      try simp only [Act.put, puts]
      refine tkT 4 ?v5 ?hy5 hHeld ?rest5
      case hy5 => (intro w' hSw; (try dsimp only at hSw); go_simp; (try with_reducible rfl))
      try simp only [Act.put, puts]
      refine tkT 5 ?v6 ?hy6 hHeld ?rest6
      case hy6 => (intro w' hSw; (try dsimp only at hSw); go_simp; (try with_reducible rfl))
      try simp only [Act.put, puts]
      refine wpAnyH_ready (rs := [6]) (by kernel_rfl) (by simp) ?_
      refine AllReadyH.cons rfl (fun K hK => ?_) AllReadyH.nil
      go_simp
      refine C.out.mono ?_
      rintro e w7 ⟨c7, R7, rfl, hK7, k1, k2, k3, hT7⟩
      obtain ⟨k4, k5, k6, k7⟩ := HST.out c7 R7 k1 k2 k3
      rw [k7] at hK7
      have M7 := M.drew.turn (Upd.head _ _ _ _ _) hK7 hT7
      try go_wp2_with fail
      refine hK.out _ _ (M7.cell (.tail _ _ _ _ _ (.tail _ _ _ _ _ (Has.head _ _ _ _))) (i := 0) rfl) (fun hHeld => ?_)
      clear hK K
      try simp only [Act.put, puts]
      refine wpAnyH_done (by kernel_rfl) ?_ _
      have HO7 := Lib.hid (And.intro k4 (And.intro k5 k6))
      clear k1 k2 k3 k4 k5 k6 k7 hK7 hT7
      go_wp2_with fail
      go_roundw
      case rel => exact ⟨k + 1, _, by omega, by go_num, HO7, M7⟩
      case measure => simp [intOf]; omega
    · obtain rfl : k = n := by omega
      obtain ⟨h3, h4, h5⟩ := HO.out
      rw [List.take_of_length_le (by rw [HAL.out]; exact Nat.le_refl _), HVA.out] at h5
      have K := M.has (Has.head _ _ _ _)
      rw [← over_all (l := u32s O) (m := u32s O) rfl] at K
      have S0 := win_sl K (by rw [u32s_length]; omega) h3 (Nat.le_refl _) (by unfold maxLen; omega)
      have C := cut_any _ (k + m) (k + m) O wr S0 h4 (by omega)
      rw [h5] at C
      have C := Lib.hid C
      clear h3 h4 h5 K S0 HO
      go_wp2_with fail
      refine C.out.mono ?_
      rintro e w4 ⟨rfl, rfl, S2⟩
      have K2 := M.has (.tail _ _ _ _ _ (Has.head _ _ _ _))
      have S2 := Lib.hid S2
      have M8 := M
      clear M
      go_wp2_with ((with_reducible refine (?_ : Go.wpList _ _ _ (_ :: _) _ _)); (first | go_skip | (refine wpL_ldc M8 rfl rfl rfl ?_) | (refine wpL_lgc M8 rfl rfl rfl ?_) | (refine wpL_stcT M8 rfl rfl rfl rfl ?_; clear M8; intro w' M8 hT) | (refine wpL_stiT M8 rfl rfl rfl rfl ?_; clear M8; intro w' M8 hT)))
      refine bodyPost_ret (res_cell rfl M8 rfl (.tail _ _ _ _ _ (Has.head _ _ _ _)) (rd_nat _)) rfl ?_
      exact ⟨_, rfl, ⟨_, _, rfl, sl_kept S2.out K2 (noPart_sl _ _ _) hT⟩, M8.below⟩

set_option maxRecDepth 20000 in
theorem times_any16 (v : Value) (p x : Nat) (w : World) (hp : IsN w v p) (h1 : len32 p ≤ 1000) (hx : x < 18446744073709551616) :
    Calls Tryz.prog 48 #[v, .int .u64 x] w fun e w' => ∃ t, e = .returned t ∧ IsN w' t (p * x) ∧ Below w.heap.size w w' := by
  have hxl : len32 x ≤ 1000 := Nat.le_trans (dg_len_le (B := 4294967296) (k := 2) (by decide) (by omega)) (by omega)
  have C1 := Lib.hid (of_any x hx)
  have C2 := Lib.hid (fun u wx (hu : IsN wx u x) (hv : IsN wx v p) => mul_any16 u v x p wx hu hv hxl h1)
  rw [Nat.mul_comm x p] at C2
  have HP := Lib.hid hp
  obtain ⟨a, ca, rfl, hS⟩ := hp.form
  obtain ⟨n, hn⟩ : ∃ n, n = len32 p := ⟨_, rfl⟩
  rw [← hn] at C2 HP ⊢
  have M0 := Mem.start w
  clear hp hS hn hxl hx h1
  go_enter Tryz.func48, Tryz.ntmps48
  go_wp2_with ((with_reducible refine (?_ : Go.wpList _ _ _ (_ :: _) _ _)); (first | go_skip | (refine wpL_bx M0 rfl rfl rfl rfl ?_; clear M0; intro g1 w1 M1) | (refine wpL_alc M0 rfl rfl ?_; clear M0; intro g1 w1 M1) | (refine wpL_ldc M0 rfl rfl rfl ?_) | (refine wpL_lgc M0 rfl rfl rfl ?_) | (refine wpL_stc M0 rfl rfl rfl rfl ?_; clear M0; intro w' M0) | (refine wpL_sti M0 rfl rfl rfl rfl ?_; clear M0; intro w' M0) | (refine wpL_sth M0 rfl rfl rfl rfl (wr_minus _ _ _) ?_; clear M0; intro w' M0) | (refine wpL_bx M1 rfl rfl rfl rfl ?_; clear M1; intro g2 w2 M2) | (refine wpL_alc M1 rfl rfl ?_; clear M1; intro g2 w2 M2) | (refine wpL_ldc M1 rfl rfl rfl ?_) | (refine wpL_lgc M1 rfl rfl rfl ?_) | (refine wpL_stc M1 rfl rfl rfl rfl ?_; clear M1; intro w' M1) | (refine wpL_sti M1 rfl rfl rfl rfl ?_; clear M1; intro w' M1) | (refine wpL_sth M1 rfl rfl rfl rfl (wr_minus _ _ _) ?_; clear M1; intro w' M1) | (refine wpL_ldc M2 rfl rfl rfl ?_) | (refine wpL_lgc M2 rfl rfl rfl ?_) | (refine wpL_stc M2 rfl rfl rfl rfl ?_; clear M2; intro w' M2) | (refine wpL_sti M2 rfl rfl rfl rfl ?_; clear M2; intro w' M2) | (refine wpL_sth M2 rfl rfl rfl rfl (wr_minus _ _ _) ?_; clear M2; intro w' M2)))
  have c1 := M2.cell (.tail _ _ _ _ _ (Has.head _ _ _ _)) (i := 0) rfl
  refine wp_region_held_drew (S := (fun w' : World => w'.cell? ⟨g1, 0, none⟩ = some (.slice a n ca))) (by kernel_rfl) (c1) (fun hHeld => ?_)
  refine tkT 0 ?v8 ?hy8 hHeld ?rest8
  case hy8 => (intro w' hSw; (try dsimp only at hSw); go_simp; (try with_reducible rfl))
  try simp only [Act.put, puts]
  refine tkT 2 ?v9 ?hy9 hHeld ?rest9
  case hy9 => (intro w' hSw; (try dsimp only at hSw); go_simp; (try with_reducible rfl))
  try simp only [Act.put, puts]
  refine wpAnyH_ready (rs := [1]) (by kernel_rfl) (by simp) ?_
  refine AllReadyH.cons rfl (fun K hK => ?_) AllReadyH.nil
  go_simp
  refine (C1.out _).mono ?_
  rintro e w3 ⟨u, rfl, hu, hA⟩
  have M3 := M2.drew.call hA
  obtain ⟨d, cd, rfl, hSd⟩ := hu.form
  try go_wp2_with fail
  refine hK.out _ _ (M3.cell (.tail _ _ _ _ _ (Has.head _ _ _ _)) (i := 0) rfl) (fun hHeld => ?_)
  clear hK K
  try simp only [Act.put, puts]
  refine wpAnyH_ready (rs := [3]) (by kernel_rfl) (by simp) ?_
  refine AllReadyH.cons rfl (fun K hK => ?_) AllReadyH.nil
  go_simp
  refine (C2.out _ _ hu (HP.out.below M3.below)).mono ?_
  rintro e w4 ⟨t, rfl, ht, hA⟩
  have M4 := M3.call hA
  obtain ⟨f, cf, rfl, hSf⟩ := ht.form
  try go_wp2_with fail
  refine hK.out _ _ (M4.cell (.tail _ _ _ _ _ (Has.head _ _ _ _)) (i := 0) rfl) (fun hHeld => ?_)
  clear hK K
  try simp only [Act.put, puts]
  refine wpAnyH_ready (rs := [4]) (by kernel_rfl) (by simp) ?_
  refine AllReadyH.cons rfl (fun K hK => ?_) AllReadyH.nil
  rw [if_pos (by rfl)]
  refine wp_stM (v := .agg #[.slice f (len32 (p * x)) cf]) M4 rfl rfl rfl (wr_nat _ _ _ _) (Upd.head _ _ _ _ _) ?_
  intro w5 M5 hT5
  refine hK.out _ _ (M5.cell (.tail _ _ _ _ _ (Has.head _ _ _ _)) (i := 0) rfl) (fun hHeld => ?_)
  clear hK K
  try simp only [Act.put, puts]
  refine wpAnyH_done (by kernel_rfl) ?_ _
  have hS5 := Lib.hid (sl_kept hSf (M4.has (Has.head _ _ _ _)) (noPart_sl _ _ _) hT5)
  clear hSf hT5 ht hA
  go_wp2_with fail
  refine bodyPost_ret (res_cell rfl M5 rfl (Has.head _ _ _ _) (rd_nat _)) rfl ?_
  exact ⟨_, rfl, ⟨f, cf, rfl, hS5.out⟩, M5.below⟩
end Go.Proofs.YtallbegibdlpaaaGreat

/-
  A number times a power of two: the code's.
-/
namespace Go.Th
open Go Go.RowKit
theorem over_all16 {l m : List Value} (h : m.length = l.length) : over l 0 m = m := by
  unfold over splice
  rw [List.take_zero, List.nil_append, List.drop_of_length_le (by omega), List.append_nil]
section
variable {P : Program} {w : World} {t e : TypeId} {bytes : Nat}
theorem blk_own {g base : Nat} {cs : List Value} (K : Blk w g e cs) (hb : base ≤ g) (hm : cs.length ≤ maxLen) : w.ownsRow base e 1 (.slice (some ⟨g, 0, none⟩) cs.length cs.length) cs.length cs :=
  ⟨by simp, .inr ⟨g, cs.length, cs.toArray, rfl, hb, K, Nat.le_refl _, hm, by simp, by simp⟩⟩
/-- copy into a block that is known whole. -/
theorem wp_copy_blk (E : ElemOf P t e 1 bytes) {o : Oper} {b : Act} {K : Act → World → Prop} {Q : Exit → Act → World → Prop} (d s : Operand)
    (ho : o.op = .call { callee := .builtin .copy, args := #[d, s], argTypes := #[t, t] }) {g off m dcap sl scap : Nat} {sa : Option Addr} {cs ys : List Value}
    (hd : b.eval d = .slice (some ⟨g, off, none⟩) m dcap) (hs : b.eval s = .slice sa sl scap)
    (HK : Blk w g e cs) (hcm : cs.length ≤ maxLen) (hS : Sl w 1 (.slice sa sl scap) sl ys) (hsm : sl ≤ m) (h0 : 0 < sl) (hfit : off + sl ≤ cs.length) (h1 : ∀ u ∈ ys, u.oneCell' = true)
    (h : ∀ w', Blk w' g e (over cs off ys) → Turned (fun j => j = g) w w' → K (b.put o.dst (goInt sl)) w') : o.wp P b w K Q := by
  have hyl : ys.length = sl := by obtain ⟨_, _, e, h1, _⟩ := hS; cases e; simpa using h1
  refine wp_copy_at E d s ho (base := 0) (g := g) (n := cs.length) (cap := cs.length) (xs := cs) (ys := ys) sl hd hs (blk_own HK (Nat.zero_le _) hcm) hS (Nat.min_eq_left hsm).symm h0 hfit h1 ?_
  intro w' ho' hT
  refine h w' ?_ hT
  obtain ⟨cs', K', k1, k2, _, _, _, k6⟩ := own_blk ho'
  have e : cs' = over cs off (ys.take sl) := by
    rw [← k2]
    exact over_all16 (by rw [k6, k1])
  rw [List.take_of_length_le (by omega)] at e
  rw [e] at K'
  exact K'
end
end Go.Th
namespace Go.Th.Dig
theorem dg_full {B : Nat} (hB : 2 ≤ B) {l : List Nat} {n : Nat} (h1 : ∀ d ∈ l, d < B) (h2 : val B l = n) (h3 : 0 < l.length) (h4 : B ^ (l.length - 1) ≤ n) : l = dg B n := by
  refine dg_of hB h1 (fun d hd e => ?_) h2
  subst e
  rw [List.getLast?_eq_getElem?] at hd
  have hg : l.getD (l.length - 1) 0 = 0 := by rw [List.getD_eq_getElem?_getD, hd]; rfl
  have hj := val_join (B := B) l (i := l.length - 1) (by omega)
  rw [h2, drop_step (by omega), List.drop_of_length_le (by omega), hg, val, val, Nat.mul_zero, Nat.add_zero, Nat.mul_zero, Nat.add_zero] at hj
  have hlow := val_lt (B := B) (by omega) (l := l.take (l.length - 1)) (fun d hd' => h1 d (List.mem_of_mem_take hd'))
  rw [List.length_take, Nat.min_eq_left (by omega)] at hlow
  omega
theorem big_two (k : Nat) : 4294967296 ^ k = 2 ^ (32 * k) := by rw [show 4294967296 = 2 ^ 32 by decide, ← Nat.pow_mul]
/-- How many parts a number has, by its bits. -/
theorem len_nb {p : Nat} (h : p ≠ 0) : (dg 4294967296 p).length = (nb p + 31) / 32 := by
  have hl : 0 < (dg 4294967296 p).length := by
    refine Nat.pos_of_ne_zero fun e => h ?_
    have := dg_val (B := 4294967296) (by decide) p
    rw [List.eq_nil_of_length_eq_zero e] at this
    exact this.symm
  obtain ⟨a1, a2⟩ := nb_ge h
  have a3 := nb_lt p
  have b1 := dg_top (B := 4294967296) (by decide) (p := p) hl
  have b2 := val_lt (B := 4294967296) (by decide) (dg_lt (by decide : 0 < 4294967296) p)
  rw [dg_val (by decide)] at b2
  rw [big_two] at b1 b2
  have c1 := (Nat.pow_lt_pow_iff_right (by decide : 1 < 2)).1 (Nat.lt_of_le_of_lt a2 b2)
  have c2 := (Nat.pow_lt_pow_iff_right (by decide : 1 < 2)).1 (Nat.lt_of_le_of_lt b1 a3)
  omega
/-- The parts of a number times a power of two. -/
theorem shl_parts {p s : Nat} {O : List Nat} (hp : p ≠ 0) (h1 : ∀ d ∈ O, d < 4294967296) (h2 : O.length = (nb p + s % 32 + 31) / 32) (h3 : val 4294967296 O = 2 ^ (s % 32) * p) :
    List.replicate (s / 32) 0 ++ O = dg 4294967296 (p * 2 ^ s) := by
  obtain ⟨a1, a2⟩ := nb_ge hp
  have hr : List.replicate (s / 32) 0 = (List.replicate (s / 32) 0 : List Nat) := rfl
  refine dg_full (by decide) (fun d hd => ?_) ?_ (by rw [List.length_append, h2]; omega) ?_
  · rcases List.mem_append.1 hd with hd | hd
    · rw [(List.mem_replicate.1 hd).2]; decide
    · exact h1 d hd
  · rw [val_app, val_zeros, Nat.zero_add, List.length_replicate, h3, big_two, ← Nat.mul_assoc, ← Nat.pow_add, Nat.mul_comm, Nat.div_add_mod]
  · rw [List.length_append, List.length_replicate, h2, big_two]
    have e : 2 ^ (32 * (s / 32 + (nb p + s % 32 + 31) / 32 - 1)) ≤ 2 ^ (nb p - 1 + s) := Nat.pow_le_pow_right (by decide) (by omega)
    rw [Nat.pow_add] at e
    exact Nat.le_trans e (Nat.mul_le_mul_right _ a2)
theorem shl_room {p s : Nat} : 2 ^ (s % 32) * p < 4294967296 ^ ((nb p + s % 32 + 31) / 32) := by
  have a3 := nb_lt p
  rw [big_two]
  have e : 2 ^ (s % 32 + nb p) ≤ 2 ^ (32 * ((nb p + s % 32 + 31) / 32)) := Nat.pow_le_pow_right (by decide) (by omega)
  rw [Nat.pow_add] at e
  exact Nat.lt_of_lt_of_le (Nat.mul_lt_mul_of_pos_left a3 (Nat.two_pow_pos _)) e
end Go.Th.Dig
namespace Go.Proofs.YtallbegibdlpaaaGreat
open Go Go.RowKit Go.Th Go.Th.Dig

set_option maxRecDepth 20000 in
theorem shl_self (v : Value) (p : Nat) (k : Int) (w : World) (hp : IsN w v p) (h1 : len32 p ≤ 1000) (hk : k < 1 ∨ p = 0) :
    Calls Tryz.prog 50 #[v, .int .i64 k] w fun e w' => ∃ t, e = .returned t ∧ IsN w' t p ∧ Below w.heap.size w w' := by
  obtain ⟨a, ca, rfl, hS⟩ := hp.form
  obtain ⟨n, hn⟩ : ∃ n, n = len32 p := ⟨_, rfl⟩
  have HIS : Hid (∀ wx, Sl wx 1 (.slice a n ca) n (u32s (dg 4294967296 p)) → IsN wx (.agg #[.slice a n ca]) p) := Lib.hid (fun wx hx => ⟨a, ca, by rw [hn], by rw [hn] at hx; exact hx⟩)
  have CZ := Lib.hid (fun wx hx => zero_any (.agg #[.slice a n ca]) p wx (HIS.out wx hx) (by omega))
  rw [← hn] at hS ⊢
  have HS := Lib.hid hS
  have M0 := Mem.start w
  clear hp hS hn h1
  by_cases hk1 : k < 1
  · clear hk
    go_enter Tryz.func50, Tryz.ntmps50
    go_upto_region 2 with (((with_reducible refine (?_ : Go.wpList _ _ _ (_ :: _) _ _)); (first | go_skip | (refine wpL_bx M0 rfl rfl rfl rfl ?_; clear M0; intro g1 w1 M1) | (refine wpL_alc M0 rfl rfl ?_; clear M0; intro g1 w1 M1) | (refine wpL_ldc M0 rfl rfl rfl ?_) | (refine wpL_lgc M0 rfl rfl rfl ?_) | (refine wpL_stc M0 rfl rfl rfl rfl ?_; clear M0; intro w' M0) | (refine wpL_sti M0 rfl rfl rfl rfl ?_; clear M0; intro w' M0) | (refine wpL_sth M0 rfl rfl rfl rfl (wr_minus _ _ _) ?_; clear M0; intro w' M0) | (refine wpL_bx M1 rfl rfl rfl rfl ?_; clear M1; intro g2 w2 M2) | (refine wpL_alc M1 rfl rfl ?_; clear M1; intro g2 w2 M2) | (refine wpL_ldc M1 rfl rfl rfl ?_) | (refine wpL_lgc M1 rfl rfl rfl ?_) | (refine wpL_stc M1 rfl rfl rfl rfl ?_; clear M1; intro w' M1) | (refine wpL_sti M1 rfl rfl rfl rfl ?_; clear M1; intro w' M1) | (refine wpL_sth M1 rfl rfl rfl rfl (wr_minus _ _ _) ?_; clear M1; intro w' M1) | (refine wpL_ldc M2 rfl rfl rfl ?_) | (refine wpL_lgc M2 rfl rfl rfl ?_) | (refine wpL_stc M2 rfl rfl rfl rfl ?_; clear M2; intro w' M2) | (refine wpL_sti M2 rfl rfl rfl rfl ?_; clear M2; intro w' M2) | (refine wpL_sth M2 rfl rfl rfl rfl (wr_minus _ _ _) ?_; clear M2; intro w' M2))))
    have K2 := M2.has (Has.head _ _ _ _)
    have hS2 := Lib.hid (HS.out.below M2.below)
    go_wp2_with ((with_reducible refine (?_ : Go.wpList _ _ _ (_ :: _) _ _)); (first | go_skip | (refine wpL_ldc M2 rfl rfl rfl ?_) | (refine wpL_lgc M2 rfl rfl rfl ?_) | (refine wpL_stcT M2 rfl rfl rfl rfl ?_; clear M2; intro w' M2 hT) | (refine wpL_stiT M2 rfl rfl rfl rfl ?_; clear M2; intro w' M2 hT)))
    refine bodyPost_ret (res_cell rfl M2 rfl (Has.head _ _ _ _) (rd_nat _)) rfl ?_
    exact ⟨_, rfl, HIS.out _ (sl_kept hS2.out K2 (noPart_sl _ _ _) hT), M2.below⟩
  · have hp0 : p = 0 := by omega
    rw [decide_eq_true hp0] at CZ
    clear hk hp0
    go_enter Tryz.func50, Tryz.ntmps50
    go_wp2_with ((with_reducible refine (?_ : Go.wpList _ _ _ (_ :: _) _ _)); (first | go_skip | (refine wpL_bx M0 rfl rfl rfl rfl ?_; clear M0; intro g1 w1 M1) | (refine wpL_alc M0 rfl rfl ?_; clear M0; intro g1 w1 M1) | (refine wpL_ldc M0 rfl rfl rfl ?_) | (refine wpL_lgc M0 rfl rfl rfl ?_) | (refine wpL_stc M0 rfl rfl rfl rfl ?_; clear M0; intro w' M0) | (refine wpL_sti M0 rfl rfl rfl rfl ?_; clear M0; intro w' M0) | (refine wpL_sth M0 rfl rfl rfl rfl (wr_minus _ _ _) ?_; clear M0; intro w' M0) | (refine wpL_bx M1 rfl rfl rfl rfl ?_; clear M1; intro g2 w2 M2) | (refine wpL_alc M1 rfl rfl ?_; clear M1; intro g2 w2 M2) | (refine wpL_ldc M1 rfl rfl rfl ?_) | (refine wpL_lgc M1 rfl rfl rfl ?_) | (refine wpL_stc M1 rfl rfl rfl rfl ?_; clear M1; intro w' M1) | (refine wpL_sti M1 rfl rfl rfl rfl ?_; clear M1; intro w' M1) | (refine wpL_sth M1 rfl rfl rfl rfl (wr_minus _ _ _) ?_; clear M1; intro w' M1) | (refine wpL_ldc M2 rfl rfl rfl ?_) | (refine wpL_lgc M2 rfl rfl rfl ?_) | (refine wpL_stc M2 rfl rfl rfl rfl ?_; clear M2; intro w' M2) | (refine wpL_sti M2 rfl rfl rfl rfl ?_; clear M2; intro w' M2) | (refine wpL_sth M2 rfl rfl rfl rfl (wr_minus _ _ _) ?_; clear M2; intro w' M2)))
    refine (CZ.out _ (HS.out.below M2.below)).mono ?_
    rintro e w3 ⟨rfl, hA⟩
    replace M2 := M2.call hA
    have K2 := M2.has (Has.head _ _ _ _)
    have hS2 := Lib.hid (HS.out.below M2.below)
    clear hA
    go_wp2_with ((with_reducible refine (?_ : Go.wpList _ _ _ (_ :: _) _ _)); (first | go_skip | (refine wpL_ldc M2 rfl rfl rfl ?_) | (refine wpL_lgc M2 rfl rfl rfl ?_) | (refine wpL_stcT M2 rfl rfl rfl rfl ?_; clear M2; intro w' M2 hT) | (refine wpL_stiT M2 rfl rfl rfl rfl ?_; clear M2; intro w' M2 hT)))
    refine bodyPost_ret (res_cell rfl M2 rfl (Has.head _ _ _ _) (rd_nat _)) rfl ?_
    exact ⟨_, rfl, HIS.out _ (sl_kept hS2.out K2 (noPart_sl _ _ _) hT), M2.below⟩
end Go.Proofs.YtallbegibdlpaaaGreat

/-
  A number times a power of two, and more than itself: the code's.
-/
namespace Go.Proofs.YtallbegibdlpaaaGreat
open Go Go.RowKit Go.Th Go.Th.Dig

set_option maxRecDepth 20000 in
set_option maxHeartbeats 3200000 in
theorem shl_go (v : Value) (p s : Nat) (w : World) (hp : IsN w v p) (h1 : len32 p ≤ 1000) (hs : 1 ≤ s) (hs2 : s ≤ 100000) (hp0 : p ≠ 0) :
    Calls Tryz.prog 50 #[v, .int .i64 s] w fun e w' => ∃ t, e = .returned t ∧ IsN w' t (p * 2 ^ s) ∧ Below w.heap.size w w' := by
  obtain ⟨a, ca, rfl, hS⟩ := hp.form
  have hln := len_nb hp0
  have hl0 : 0 < len32 p := Nat.pos_of_ne_zero fun e => hp0 ((len32_0 p).1 e)
  have hdA := dg_lt (B := 4294967296) (by decide) p
  have hvA := dg_val (B := 4294967296) (by decide) p
  have HSP : Hid (∀ O : List Nat, (∀ d ∈ O, d < 4294967296) → O.length = (nb p + s % 32 + 31) / 32 → val 4294967296 O = 2 ^ (s % 32) * p → List.replicate (s / 32) 0 ++ O = dg 4294967296 (p * 2 ^ s)) := Lib.hid (fun O a b c => shl_parts hp0 a b c)
  have HRM := Lib.hid (shl_room (p := p) (s := s))
  have CZ := fun wx hx => zero_any (.agg #[.slice a (len32 p) ca]) p wx hx (by omega)
  have CB := fun wx hx => bits_any16 (.agg #[.slice a (len32 p) ca]) p wx hx (by omega)
  rw [decide_eq_false hp0] at CZ
  have hlt := sl_lt32 hS
  obtain ⟨A, hA⟩ : ∃ A, A = dg 4294967296 p := ⟨_, rfl⟩
  obtain ⟨n, hn⟩ : ∃ n, n = len32 p := ⟨_, rfl⟩
  have hAl : A.length = n := by rw [hA, hn]
  have hln : n = (nb p + 31) / 32 := by rw [hn]; exact hln
  rw [← hA] at hS hdA hvA
  rw [← hn] at hS CZ CB hlt hl0 h1 hp ⊢
  have HP := Lib.hid hp
  obtain ⟨b, hb⟩ : ∃ b, b = nb p := ⟨_, rfl⟩
  rw [← hb] at CB HSP HRM hln
  obtain ⟨q, hq⟩ : ∃ q, q = s / 32 := ⟨_, rfl⟩
  obtain ⟨r, hr⟩ : ∃ r, r = s % 32 := ⟨_, rfl⟩
  rw [← hq] at HSP
  rw [← hr] at HSP HRM
  obtain ⟨y, hy⟩ : ∃ y, y = (b + r + 31) / 32 := ⟨_, rfl⟩
  rw [← hy] at HSP HRM
  have hr32 : r < 32 := by omega
  have hqb : q ≤ 4000 := by omega
  have hbl : b ≤ 33000 := by omega
  have hyb : y ≤ 1100 := by omega
  have hny : n ≤ y := by omega
  have e1 : (s : Int) / 32 = (q : Int) := by omega
  have e2 : (s : Int) % 32 = (r : Int) := by omega
  have e3 : ((b : Int) + (r : Int) + 32 - 1) / 32 = (y : Int) := by omega
  have hk1 : ¬ (s : Int) < 1 := by omega
  have HDA := Lib.hid hdA
  have HVA := Lib.hid hvA
  have HAL := Lib.hid hAl
  have HS := Lib.hid hS
  have HLT := Lib.hid hlt
  have CZ := Lib.hid CZ
  have CB := Lib.hid CB
  have M0 := Mem.start w
  clear hp hS hdA hvA hlt hA hn hb hq hr hy hAl hln hp0
  go_enter Tryz.func50, Tryz.ntmps50
  go_wp2_with ((with_reducible refine (?_ : Go.wpList _ _ _ (_ :: _) _ _)); (first | go_skip | (refine wpL_bx M0 rfl rfl rfl rfl ?_; clear M0; intro g1 w1 M1) | (refine wpL_alc M0 rfl rfl ?_; clear M0; intro g1 w1 M1) | (refine wpL_ldc M0 rfl rfl rfl ?_) | (refine wpL_lgc M0 rfl rfl rfl ?_) | (refine wpL_stc M0 rfl rfl rfl rfl ?_; clear M0; intro w' M0) | (refine wpL_sti M0 rfl rfl rfl rfl ?_; clear M0; intro w' M0) | (refine wpL_sth M0 rfl rfl rfl rfl (wr_minus _ _ _) ?_; clear M0; intro w' M0) | (refine wpL_bx M1 rfl rfl rfl rfl ?_; clear M1; intro g2 w2 M2) | (refine wpL_alc M1 rfl rfl ?_; clear M1; intro g2 w2 M2) | (refine wpL_ldc M1 rfl rfl rfl ?_) | (refine wpL_lgc M1 rfl rfl rfl ?_) | (refine wpL_stc M1 rfl rfl rfl rfl ?_; clear M1; intro w' M1) | (refine wpL_sti M1 rfl rfl rfl rfl ?_; clear M1; intro w' M1) | (refine wpL_sth M1 rfl rfl rfl rfl (wr_minus _ _ _) ?_; clear M1; intro w' M1) | (refine wpL_ldc M2 rfl rfl rfl ?_) | (refine wpL_lgc M2 rfl rfl rfl ?_) | (refine wpL_stc M2 rfl rfl rfl rfl ?_; clear M2; intro w' M2) | (refine wpL_sti M2 rfl rfl rfl rfl ?_; clear M2; intro w' M2) | (refine wpL_sth M2 rfl rfl rfl rfl (wr_minus _ _ _) ?_; clear M2; intro w' M2)))
  refine (CZ.out _ (HP.out.below M2.below)).mono ?_
  rintro e w3 ⟨rfl, hA⟩
  replace M2 := M2.call hA
  clear hA CZ
  go_wp2_with ((with_reducible refine (?_ : Go.wpList _ _ _ (_ :: _) _ _)); (first | go_skip | (refine wpL_ldc M2 rfl rfl rfl ?_) | (refine wpL_lgc M2 rfl rfl rfl ?_) | (refine wpL_stc M2 rfl rfl rfl rfl ?_; clear M2; intro w' M2) | (refine wpL_sti M2 rfl rfl rfl rfl ?_; clear M2; intro w' M2) | (refine wpL_sth M2 rfl rfl rfl rfl (wr_minus _ _ _) ?_; clear M2; intro w' M2)))
  refine (CB.out _ (HP.out.below M2.below)).mono ?_
  rintro e w3 ⟨rfl, hA⟩
  replace M2 := M2.call hA
  clear hA CB
  go_upto_region 7 with ((with_reducible refine (?_ : Go.wpList _ _ _ (_ :: _) _ _)); (first | go_skip | (refine wpL_ldc M2 rfl rfl rfl ?_) | (refine wpL_lgc M2 rfl rfl rfl ?_) | (refine wpL_stc M2 rfl rfl rfl rfl ?_; clear M2; intro w' M2) | (refine wpL_sti M2 rfl rfl rfl rfl ?_; clear M2; intro w' M2) | (refine wpL_sth M2 rfl rfl rfl rfl (wr_minus _ _ _) ?_; clear M2; intro w' M2)))
  have MK : (Instr.makeSlice 61 (.int .i64 ((q : Int) + (y : Int))) (.int .i64 ((q : Int) + (y : Int)))).run Tryz.prog w3 = .ok (.slice (some ⟨w3.heap.size, 0, none⟩) (q + y) (q + y)) (w3.alloc (.cells (u32s (List.replicate (q + y) 0)).toArray 109)) := run_mkU32 (q + y) (by omega) w3
  have M4 := M2.alloc 109 (u32s (List.replicate (q + y) 0))
  obtain ⟨w4, hw4⟩ : ∃ w4, w3.alloc (.cells (u32s (List.replicate (q + y) 0)).toArray 109) = w4 := ⟨_, rfl⟩
  obtain ⟨G, hG⟩ : ∃ G, G = w3.heap.size := ⟨_, rfl⟩
  rw [hw4, ← hG] at MK M4
  have hGw : w.heap.size ≤ G := M4.from (Has.head _ _ _ _)
  have hsl : ∀ wx, (Instr.slice 61 (.slice (some ⟨G, 0, none⟩) (q + y) (q + y)) (some (.int .i64 q)) none none).run Tryz.prog wx = .ok (.slice (some ⟨G, q, none⟩) y y) wx := fun wx => by
    have := run_from Eu32 G 0 (q + y) (q + y) q (by omega) (Nat.le_refl _) (by unfold maxLen; omega) wx
    rwa [Nat.zero_add, Nat.add_sub_cancel_left] at this
  have c1 := M4.cell (.tail _ _ _ _ _ (.tail _ _ _ _ _ (Has.head _ _ _ _))) (i := 0) rfl
  have HM4 := Lib.hid M4
  clear hw4 hG M4 M2
  go_wp2_with fail
  have M4 := HM4.out
  clear HM4
  refine wp_region_held_drew (S := (fun w' : World => w'.cell? ⟨g1, 0, none⟩ = some (.slice a n ca))) (by kernel_rfl) (c1) (fun hHeld => ?_)
  refine tkT 0 ?v13 ?hy13 hHeld ?rest13
  case hy13 => (intro w' hSw; (try dsimp only at hSw); go_simp; (try with_reducible rfl))
  try simp only [Act.put, puts]
  refine tkT 1 ?v14 ?hy14 hHeld ?rest14
  case hy14 => (intro w' hSw; (try dsimp only at hSw); go_simp; (try with_reducible rfl))
  try simp only [Act.put, puts]
  refine tkT 2 ?v15 ?hy15 hHeld ?rest15
  case hy15 => (intro w' hSw; (try dsimp only at hSw); go_simp; (try with_reducible rfl))
  try simp only [Act.put, puts]
  refine tkT 3 ?v16 ?hy16 hHeld ?rest16
  case hy16 => (intro w' hSw; (try dsimp only at hSw); go_simp; (try with_reducible rfl))
  try simp only [Act.put, puts]
  refine tkT 4 ?v17 ?hy17 hHeld ?rest17
  case hy17 => (intro w' hSw; (try dsimp only at hSw); go_simp; (try with_reducible rfl))
  try simp only [Act.put, puts]
  refine wpAnyH_ready (rs := [5]) (by kernel_rfl) (by simp) ?_
  refine AllReadyH.cons rfl (fun K hK => ?_) AllReadyH.nil
  rw [if_pos (by rfl)]
  refine wp_copy_blk Eu32 (.tmp 36) (.tmp 38) rfl rfl rfl (M4.drew.has (Has.head _ _ _ _)) (by rw [u32s_length, List.length_replicate]; unfold maxLen; omega) (HS.out.below M4.drew.below) (by omega) hl0 (by rw [u32s_length, List.length_replicate]; omega) (oneCell_u32s _) ?_
  intro w5 hK5 hT5
  have M5 := M4.drew.turn (Upd.head _ _ _ _ _) hK5 hT5
  refine hK.out _ _ (M5.cell (.tail _ _ _ _ _ (.tail _ _ _ _ _ (Has.head _ _ _ _))) (i := 0) rfl) (fun hHeld => ?_)
  clear hK K
  try simp only [Act.put, puts]
  refine wpAnyH_done (by kernel_rfl) ?_ _
  have hWl : (A ++ List.replicate (y - n) 0).length = y := by rw [List.length_append, List.length_replicate, HAL.out]; omega
  have hov : over (u32s (List.replicate (q + y) 0)) q (u32s A) = over (u32s (List.replicate (q + y) 0)) q (u32s (A ++ List.replicate (y - n) 0)) := by
    have e : ∀ k, u32s (List.replicate k 0) = List.replicate k (.int .u32 0) := fun k => by simp [u32s]
    unfold over splice
    rw [u32s_length, u32s_length, hWl, HAL.out, e, List.drop_replicate, List.drop_replicate]
    rw [show u32s (A ++ List.replicate (y - n) 0) = u32s A ++ List.replicate (y - n) (.int .u32 0) by simp [u32s]]
    rw [show q + y - (q + n) = y - n by omega, show q + y - (q + y) = 0 by omega, List.replicate_zero, List.append_nil]
  have hK5 := M5.has (Has.head _ _ _ _)
  rw [hov] at hK5
  obtain ⟨Z, hZ⟩ : ∃ Z, Z = A ++ List.replicate (y - n) 0 := ⟨_, rfl⟩
  rw [← hZ] at hK5 hWl
  have hZv : val 4294967296 Z = p := by rw [hZ, val_app, val_zeros, HVA.out, Nat.mul_zero, Nat.add_zero]
  have C := climb_go G q y y r Z (u32s (List.replicate (q + y) 0)) w5 hK5 (by rw [u32s_length, List.length_replicate]; omega) hWl (fun d hd => by
    rw [hZ] at hd
    rcases List.mem_append.1 hd with hd | hd
    · exact HDA.out d hd
    · rw [(List.mem_replicate.1 hd).2]; decide) (by omega) hr32
  have HVW : Hid (∀ c O, O.length = y → (∀ d ∈ O, d < 4294967296) → Cli 4294967296 (2 ^ r) Z y c O → over (u32s (List.replicate (q + y) 0)) q (u32s O) = u32s (dg 4294967296 (p * 2 ^ s))) := Lib.hid (fun c O k1 k2 k3 => by
    have k4 : Cli 4294967296 (2 ^ r) Z Z.length c O := by rw [hWl]; exact k3
    have := k4.room (by rw [hZv, hWl]; exact HRM.out)
    rw [hZv] at this
    rw [over_drop (by rw [List.length_replicate]; omega) (by rw [List.length_replicate, k1]; omega), List.take_replicate, Nat.min_eq_left (by omega), HSP.out O k2 k1 this])
  have C := Lib.hid C
  clear hov hK5 hT5 hZ hZv hWl
  go_wp2_with fail
  refine C.out.mono ?_
  rintro e w6 ⟨c6, O, rfl, hK6, k1, k2, k3, hT6⟩
  have hf := HVW.out c6 O k1 k2 k3
  have hdl : len32 (p * 2 ^ s) = q + y := by
    have := congrArg List.length hf
    rw [win_len (by rw [u32s_length, List.length_replicate, k1]; omega), u32s_length, u32s_length, List.length_replicate] at this
    exact this.symm
  rw [hf] at hK6
  have M6 := M5.turn (Upd.head _ _ _ _ _) hK6 hT6
  rw [← over_all (l := u32s (dg 4294967296 (p * 2 ^ s))) (m := u32s (dg 4294967296 (p * 2 ^ s))) rfl] at hK6
  have hS6 := win_sl hK6 (by rw [u32s_length]; omega) hdl (Nat.le_refl (q + y)) (by unfold maxLen; omega)
  have HS6 := Lib.hid hS6
  have HDL := Lib.hid hdl
  have K6 := M6.has (.tail _ _ _ _ _ (Has.head _ _ _ _))
  clear M5 hf hdl hK6 hS6 hT6 k1 k2 k3 HVW HSP HRM C
  go_wp2_with ((with_reducible refine (?_ : Go.wpList _ _ _ (_ :: _) _ _)); (first | go_skip | (refine wpL_ldc M6 rfl rfl rfl ?_) | (refine wpL_lgc M6 rfl rfl rfl ?_) | (refine wpL_stcT M6 rfl rfl rfl rfl ?_; clear M6; intro w' M6 hT) | (refine wpL_stiT M6 rfl rfl rfl rfl ?_; clear M6; intro w' M6 hT)))
  refine bodyPost_ret (res_cell rfl M6 rfl (.tail _ _ _ _ _ (Has.head _ _ _ _)) (rd_nat _)) rfl ?_
  exact ⟨_, rfl, ⟨some ⟨G, 0, none⟩, q + y, by rw [← HDL.out], by
    have := sl_kept HS6.out K6 (noPart_sl _ _ _) hT
    rw [← HDL.out] at this
    rw [← HDL.out]
    exact this⟩, M6.below⟩

theorem shl_any16 (v : Value) (p s : Nat) (w : World) (hp : IsN w v p) (h1 : len32 p ≤ 1000) (hs2 : s ≤ 100000) :
    Calls Tryz.prog 50 #[v, .int .i64 s] w fun e w' => ∃ t, e = .returned t ∧ IsN w' t (p * 2 ^ s) ∧ Below w.heap.size w w' := by
  by_cases h0 : s = 0
  · subst h0
    rw [Nat.pow_zero, Nat.mul_one]
    exact shl_self v p _ w hp h1 (.inl (by decide))
  · by_cases hp0 : p = 0
    · have := shl_self v p s w hp h1 (.inr hp0)
      rw [hp0, Nat.zero_mul]
      rwa [hp0] at this
    · exact shl_go v p s w hp h1 (by omega) hs2 hp0
end Go.Proofs.YtallbegibdlpaaaGreat

/-
  A number divided by a power of two: the code's.
-/
namespace Go.Th
open Go Go.RowKit
section
variable {P : Program} {w : World} {t e : TypeId} {bytes : Nat}
end
end Go.Th
namespace Go.Th.Dig
end Go.Th.Dig
namespace Go.Proofs.YtallbegibdlpaaaGreat
open Go Go.RowKit Go.Th Go.Th.Dig

end Go.Proofs.YtallbegibdlpaaaGreat

/-
  How often one row goes into another that has one part more: the code's.
-/
namespace Go.Th.Dig
/-- So often it was taken off; c: that was too often. -/
structure Goe (V D n f c : Nat) (O : List Nat) : Prop where
  len : O.length = n
  dig : ∀ d ∈ O, d < 4294967296
  sum : val 4294967296 O + f * D = V + 4294967296 ^ n * c
  ge : V / D ≤ f
theorem Goe.le {V D n f c : Nat} {O : List Nat} (h : Goe V D n f c O) (hD : 0 < D) (hV : V < 4294967296 ^ n) (hf : f * D < 4294967296 ^ n) : c ≤ 1 := by
  have hv := val_lt (B := 4294967296) (by decide) h.dig
  rw [h.len] at hv
  refine Nat.le_of_not_lt fun hc => ?_
  have : 4294967296 ^ n * 2 ≤ 4294967296 ^ n * c := Nat.mul_le_mul_left _ hc
  have := h.sum
  omega
theorem Goe.done {V D n f : Nat} {O : List Nat} (h : Goe V D n f 0 O) (hD : 0 < D) : f = V / D ∧ val 4294967296 O = V % D := by
  have hs := h.sum
  rw [Nat.mul_zero, Nat.add_zero] at hs
  have h1 : f ≤ V / D := (Nat.le_div_iff_mul_le hD).2 (by omega)
  have h2 : f = V / D := Nat.le_antisymm h1 h.ge
  refine ⟨h2, ?_⟩
  have := Nat.div_add_mod V D
  rw [← h2, Nat.mul_comm] at this
  omega
theorem Goe.more {V D n f : Nat} {O : List Nat} (h : Goe V D n f 1 O) (hD : 0 < D) : 0 < f ∧ V / D ≤ f - 1 := by
  have hv := val_lt (B := 4294967296) (by decide) h.dig
  rw [h.len] at hv
  have hs := h.sum
  rw [Nat.mul_one] at hs
  have h1 : V < f * D := by omega
  have h2 : V / D < f := (Nat.div_lt_iff_lt_mul hD).2 h1
  exact ⟨Nat.lt_of_le_of_lt (Nat.zero_le _) h2, Nat.le_sub_one_of_lt h2⟩
theorem Goe.step {V D n f c' : Nat} {O O' : List Nat} (h : Goe V D n f 1 O) (hD : 0 < D) (hDn : D < 4294967296 ^ n) (k1 : O'.length = n) (k2 : ∀ d ∈ O', d < 4294967296) (k3 : val 4294967296 O' + 4294967296 ^ n * c' = val 4294967296 O + D) :
    c' ≤ 1 ∧ Goe V D n (f - 1) (1 - c') O' := by
  have hv := val_lt (B := 4294967296) (by decide) h.dig
  rw [h.len] at hv
  obtain ⟨m1, m2⟩ := h.more hD
  have hc : c' ≤ 1 := by
    refine Nat.le_of_not_lt fun hc => ?_
    have : 4294967296 ^ n * 2 ≤ 4294967296 ^ n * c' := Nat.mul_le_mul_left _ hc
    omega
  refine ⟨hc, k1, k2, ?_, m2⟩
  have hs := h.sum
  rw [Nat.mul_one] at hs
  obtain ⟨e, rfl⟩ : ∃ e, f = e + 1 := ⟨f - 1, by omega⟩
  rw [Nat.add_sub_cancel]
  rw [Nat.add_mul, Nat.one_mul] at hs
  rcases (by omega : c' = 0 ∨ c' = 1) with rfl | rfl
  · rw [Nat.mul_zero] at k3; omega
  · rw [Nat.sub_self, Nat.mul_zero]; omega
end Go.Th.Dig
namespace Go.Proofs.YtallbegibdlpaaaGreat
open Go Go.RowKit Go.Th Go.Th.Dig

end Go.Proofs.YtallbegibdlpaaaGreat

/-
  How often one number goes into another one: where it doesn't; plain facts of the long way: the code's.
-/
namespace Go.Th.Dig
/-- The long way: rows of parts; so many of the quotient's are known. -/
structure Lon (P D m N i : Nat) (R O : List Nat) : Prop where
  lenR : R.length = N + m + 1
  lenO : O.length = N
  digR : ∀ d ∈ R, d < 4294967296
  digO : ∀ d ∈ O, d < 4294967296
  sum : val 4294967296 R + D * (4294967296 ^ i * val 4294967296 (O.drop i)) = P
  lt : val 4294967296 (R.drop i) < D
theorem Lon.window {P D m N i : Nat} {R O : List Nat} (h : Lon P D m N (i + 1) R O) (hi : i < N) (hD : D < 4294967296 ^ (m + 1)) :
    val 4294967296 (R.drop i) < 4294967296 * D ∧ val 4294967296 ((R.drop i).take (m + 2)) = val 4294967296 (R.drop i) ∧ val 4294967296 (R.drop (i + (m + 2))) = 0 := by
  obtain ⟨h1, h2, h3, h4, h5, h6⟩ := h
  have e := drop_any R i 4294967296
  have hb := getD_mem (by decide : 0 < 4294967296) h3 i
  have hlt : val 4294967296 (R.drop i) < 4294967296 * D := by
    rw [e]
    have : 4294967296 * (val 4294967296 (R.drop (i + 1)) + 1) ≤ 4294967296 * D := Nat.mul_le_mul_left _ h6
    omega
  have hj := val_join (B := 4294967296) (R.drop i) (i := m + 2) (by rw [List.length_drop]; omega)
  rw [List.drop_drop] at hj
  have hz : val 4294967296 (R.drop (i + (m + 2))) = 0 := by
    refine Nat.eq_zero_of_not_pos fun hp => ?_
    have k1 : 4294967296 ^ (m + 2) * 1 ≤ 4294967296 ^ (m + 2) * val 4294967296 (R.drop (i + (m + 2))) := Nat.mul_le_mul_left _ hp
    have k2 : 4294967296 * D < 4294967296 ^ (m + 2) := by
      rw [show m + 2 = m + 1 + 1 by omega, Nat.pow_succ, Nat.mul_comm (4294967296 ^ (m + 1))]
      exact Nat.mul_lt_mul_of_pos_left hD (by decide)
    omega
  refine ⟨hlt, ?_, hz⟩
  rw [hz, Nat.mul_zero, Nat.add_zero] at hj
  exact hj.symm
theorem Lon.step {P D m N i : Nat} {R O W : List Nat} (h : Lon P D m N (i + 1) R O) (hi : i < N) (hD : D < 4294967296 ^ (m + 1)) (hD0 : 0 < D) (hW : W.length = m + 2) (hd : ∀ d ∈ W, d < 4294967296)
    (hv : val 4294967296 W = val 4294967296 (R.drop i) % D) : Lon P D m N i (R.take i ++ W ++ R.drop (i + (m + 2))) (O.set i (val 4294967296 (R.drop i) / D)) := by
  obtain ⟨w1, w2, w3⟩ := h.window hi hD
  obtain ⟨h1, h2, h3, h4, h5, h6⟩ := h
  have hq : val 4294967296 (R.drop i) / D < 4294967296 := (Nat.div_lt_iff_lt_mul hD0).2 w1
  have e1 : (R.take i).length = i := by rw [List.length_take]; omega
  have e2 : (R.take i ++ W ++ R.drop (i + (m + 2))).drop i = W ++ R.drop (i + (m + 2)) := by
    rw [List.append_assoc, List.drop_append, e1, Nat.sub_self, List.drop_zero, List.drop_of_length_le (by omega), List.nil_append]
  have e3 : val 4294967296 (W ++ R.drop (i + (m + 2))) = val 4294967296 (R.drop i) % D := by rw [val_app, w3, Nat.mul_zero, Nat.add_zero, hv]
  have e4 : val 4294967296 (R.take i ++ W ++ R.drop (i + (m + 2))) = val 4294967296 (R.take i) + 4294967296 ^ i * (val 4294967296 (R.drop i) % D) := by
    rw [List.append_assoc, val_app, e1, e3]
  refine ⟨?_, by simpa using h2, fun d hd' => ?_, mem_set h4 hq, ?_, ?_⟩
  · rw [List.length_append, List.length_append, e1, hW, List.length_drop]; omega
  · rcases List.mem_append.1 hd' with hd' | hd'
    · rcases List.mem_append.1 hd' with hd' | hd'
      · exact h3 d (List.mem_of_mem_take hd')
      · exact hd d hd'
    · exact h3 d (List.mem_of_mem_drop hd')
  · rw [e4, ← h5, val_set_high (by omega)]
    have hj := val_join (B := 4294967296) R (i := i) (by omega)
    obtain ⟨V, hV⟩ : ∃ V, V = val 4294967296 (R.drop i) := ⟨_, rfl⟩
    obtain ⟨X, hX⟩ : ∃ X, X = val 4294967296 (O.drop (i + 1)) := ⟨_, rfl⟩
    rw [← hV] at hj ⊢
    rw [← hX]
    have hm := Nat.div_add_mod V D
    rw [hj, Nat.pow_succ]
    have k : 4294967296 ^ i * (V % D) + D * (4294967296 ^ i * (V / D)) = 4294967296 ^ i * V := by
      rw [Nat.mul_left_comm D, ← Nat.mul_add, Nat.add_comm, hm]
    rw [Nat.mul_add (4294967296 ^ i), Nat.mul_add D, Nat.mul_assoc (4294967296 ^ i) 4294967296]
    omega
  · rw [e2, e3]; exact Nat.mod_lt _ hD0
theorem Lon.done {P D m N : Nat} {R O : List Nat} (h : Lon P D m N 0 R O) : val 4294967296 O = P / D ∧ val 4294967296 R = P % D := by
  have hs := h.sum
  have hl := h.lt
  rw [List.drop_zero] at hs hl
  rw [Nat.pow_zero, Nat.one_mul] at hs
  have hD : 0 < D := by omega
  rw [← hs, Nat.add_comm]
  exact ⟨by rw [Nat.mul_add_div hD, Nat.div_eq_of_lt hl, Nat.add_zero], by rw [Nat.mul_add_mod, Nat.mod_eq_of_lt hl]⟩
/-- At the start: nothing of the quotient is known. -/
theorem Lon.start {p q m N b : Nat} {R O : List Nat} (h1 : R.length = N + m + 1) (h2 : O.length = N) (h3 : ∀ d ∈ R, d < 4294967296) (h4 : ∀ d ∈ O, d < 4294967296) (hR : val 4294967296 R = p * 2 ^ b) (hp : p < 4294967296 ^ (N + m)) (hb : b ≤ 31) (hD : 2 ^ (32 * m + 31) ≤ q * 2 ^ b) :
    Lon (p * 2 ^ b) (q * 2 ^ b) m N N R O := by
  refine ⟨h1, h2, h3, h4, by rw [List.drop_of_length_le (by omega)]; simp [val, hR], ?_⟩
  refine Nat.lt_of_lt_of_le ?_ hD
  have hj := val_join (B := 4294967296) R (i := N) (by omega)
  refine Nat.lt_of_mul_lt_mul_left (a := 4294967296 ^ N) ?_
  have k1 : p * 2 ^ b < 4294967296 ^ (N + m) * 2 ^ b := Nat.mul_lt_mul_of_pos_right hp (Nat.two_pow_pos b)
  have k2 : 4294967296 ^ (N + m) * 2 ^ b ≤ 4294967296 ^ N * 2 ^ (32 * m + 31) := by
    rw [Nat.pow_add, Nat.mul_assoc, big_two m, ← Nat.pow_add]
    exact Nat.mul_le_mul_left _ (Nat.pow_le_pow_right (by decide) (by omega))
  omega
end Go.Th.Dig
namespace Go.Proofs.YtallbegibdlpaaaGreat
open Go Go.RowKit Go.Th Go.Th.Dig

end Go.Proofs.YtallbegibdlpaaaGreat

/-
  How often one number goes into another one, and what is left: the long way: the code's.
-/
namespace Go.Th
open Go Go.RowKit
section
variable {P : Program} {w w0 : World} {bs bs' : List (Nat × TypeId × List Value)} {g off : Nat} {t ty : TypeId} {cs cs' : List Value} {v : Value} {ops : Array Oper} {rest : List Oper} {o : Oper} {a : Act} {Q : Exit → Act → World → Prop} {x y : Operand}
end
end Go.Th
namespace Go.Proofs.YtallbegibdlpaaaGreat
open Go Go.RowKit Go.Th Go.Th.Dig
theorem Mem.join {w V W : World} {bs cs : List (Nat × TypeId × List Value)} (M : Mem w V bs) (N : Mem V W cs) : Mem w W (cs ++ bs) :=
  ⟨(M.call N.below).below, by
    rw [List.map_append, List.nodup_append]
    refine ⟨N.nodup, M.nodup, fun x hx y hy e => ?_⟩
    obtain ⟨c, hc, rfl⟩ := List.mem_map.1 hx
    obtain ⟨b, hb, rfl⟩ := List.mem_map.1 hy
    have h1 := N.old c hc
    have h2 := (M.blk b hb).lt
    omega, fun e he => by
    rcases List.mem_append.1 he with he | he
    · exact Nat.le_trans M.below.size (N.old e he)
    · exact M.old e he, fun e he => by
    rcases List.mem_append.1 he with he | he
    · exact N.blk e he
    · exact (M.call N.below).blk e he⟩
end Go.Proofs.YtallbegibdlpaaaGreat
namespace Go.Proofs.YtallbegibdlpaaaGreat
open Go Go.RowKit Go.Shelf Go.Th Go.Th.Dig
attribute [local go_sem] Oper.semAt_some
instance kU32r : SzI Tryz.prog 61 1 := ⟨by kernel_rfl⟩
instance zU32r : ZrI Tryz.prog 61 (.slice none 0 0) [.slice none 0 0] := ⟨by kernel_rfl, rfl⟩

end Go.Proofs.YtallbegibdlpaaaGreat

/-
  Digits of ten, nine at a time, and what stands in front of them cut away: plain; the library's functions: a row of bytes turned round, a text without its leading zeros.
-/
namespace Go.Th.Dig
/-- So many of a number's lowest digits of ten. -/
def low (n k : Nat) : List Nat := (List.range k).map fun i => n / 10 ^ i % 10
theorem low_succ (n k : Nat) : low n (k + 1) = low n k ++ [n / 10 ^ k % 10] := by simp [low, List.range_succ]
theorem low_length (n k : Nat) : (low n k).length = k := by simp [low]
theorem low_lt (n k : Nat) : ∀ d ∈ low n k, d < 10 := by
  intro d hd
  obtain ⟨i, _, rfl⟩ := List.mem_map.1 hd
  exact Nat.mod_lt _ (by decide)
theorem low_val (n : Nat) : ∀ k, val 10 (low n k) = n % 10 ^ k
  | 0 => by simp [low, val, Nat.mod_one]
  | k + 1 => by rw [low_succ, val_snoc, low_length, low_val n k, Nat.mod_pow_succ]
/-- The digits of ten that are told, and what is left of the number. -/
structure Tex (p : Nat) (T : List Nat) (left : Nat) : Prop where
  dig : ∀ d ∈ T, d < 10
  sum : val 10 T + 10 ^ T.length * left = p
theorem Tex.start (p : Nat) : Tex p [] p := ⟨by simp, by simp [val]⟩
theorem Tex.step {p left : Nat} {T : List Nat} (h : Tex p T left) : Tex p (T ++ low (left % 1000000000) 9) (left / 1000000000) := by
  obtain ⟨h1, h2⟩ := h
  refine ⟨fun d hd => ?_, ?_⟩
  · rcases List.mem_append.1 hd with hd | hd
    · exact h1 d hd
    · exact low_lt _ _ d hd
  · rw [val_app, low_val, List.length_append, low_length, Nat.pow_add, ← h2, Nat.mod_eq_of_lt (show left % 1000000000 < 10 ^ 9 from Nat.mod_lt _ (by decide)), Nat.add_assoc, Nat.mul_assoc, ← Nat.mul_add]
    congr 2
    exact Nat.mod_add_div left 1000000000
theorem Tex.len {p left n : Nat} {T : List Nat} (h : Tex p T left) (hl : 0 < left) (hp : p < 4294967296 ^ n) : T.length < 10 * n := by
  have h1 : 10 ^ T.length * 1 ≤ 10 ^ T.length * left := Nat.mul_le_mul_left _ hl
  have h2 := h.sum
  have h3 : 4294967296 ^ n ≤ (10 ^ 10) ^ n := Nat.pow_le_pow_left (by decide) n
  rw [← Nat.pow_mul] at h3
  exact (Nat.pow_lt_pow_iff_right (by decide : 1 < 10)).1 (show 10 ^ T.length < 10 ^ (10 * n) by omega)
/-- A row of digits is its number's, and zeros. -/
theorem dg_zeros {B : Nat} (hB : 2 ≤ B) : ∀ (n : Nat) (l : List Nat), l.length = n → (∀ d ∈ l, d < B) → ∃ z, l = dg B (val B l) ++ List.replicate z 0 := by
  intro n
  induction n with
  | zero =>
    intro l hl _
    rw [List.eq_nil_of_length_eq_zero hl]
    exact ⟨0, rfl⟩
  | succ n ih =>
    intro l hl hd
    have hne : l ≠ [] := fun h => by rw [h] at hl; cases hl
    have e := List.dropLast_concat_getLast hne
    by_cases h0 : l.getLast hne = 0
    · rw [h0] at e
      obtain ⟨z, hz⟩ := ih l.dropLast (by rw [List.length_dropLast]; omega) (fun d hd' => hd d (List.dropLast_subset _ hd'))
      refine ⟨z + 1, ?_⟩
      have hv : val B l = val B l.dropLast := by rw [← e, val_snoc, Nat.mul_zero, Nat.add_zero, List.dropLast_concat]
      rw [hv, List.replicate_succ', ← List.append_assoc, ← hz, e]
    · refine ⟨0, ?_⟩
      rw [List.replicate_zero, List.append_nil]
      exact dg_of hB hd (fun d hd' => by rw [List.getLast?_eq_some_getLast hne] at hd'; rw [← Option.some.inj hd']; exact h0) rfl
theorem dropWhile_rep (p : Nat → Bool) (a : Nat) (ha : p a = true) (l : List Nat) : ∀ n, (List.replicate n a ++ l).dropWhile p = l.dropWhile p
  | 0 => rfl
  | n + 1 => by rw [List.replicate_succ, List.cons_append, List.dropWhile_cons_of_pos ha]; exact dropWhile_rep p a ha l n
/-- All told: behind the zeros in front, the number's text. -/
theorem Tex.done {p : Nat} {T : List Nat} (h : Tex p T 0) (hp : p ≠ 0) : ((T.map (48 + ·)).reverse).dropWhile (· == 48) = txt p := by
  obtain ⟨h1, h2⟩ := h
  rw [Nat.mul_zero, Nat.add_zero] at h2
  obtain ⟨z, hz⟩ := dg_zeros (B := 10) (by decide) T.length T rfl h1
  rw [h2] at hz
  have e : txt p = ((dg 10 p).map (48 + ·)).reverse := by unfold txt dz; rw [if_neg hp]
  rw [e, hz, List.map_append, List.reverse_append, List.map_replicate, List.reverse_replicate, dropWhile_rep _ _ rfl]
  have hl : ∀ d, ((dg 10 p).map (48 + ·)).reverse.head? = some d → d ≠ 48 := by
    intro d hd
    rw [List.head?_reverse, List.getLast?_map] at hd
    cases hq : (dg 10 p).getLast? with
    | none => rw [hq] at hd; cases hd
    | some x =>
      rw [hq] at hd
      have := dg_last (B := 10) (by decide) p x hq
      simp at hd
      omega
  cases hr : ((dg 10 p).map (48 + ·)).reverse with
  | nil => rfl
  | cons x r =>
    rw [hr] at hl
    rw [List.dropWhile_cons_of_neg (by have := hl x rfl; simpa using this)]
/-- A row, so many of both its ends changed for one another. -/
structure Rvs (L : List Nat) (k : Nat) (O : List Nat) : Prop where
  len : O.length = L.length
  at_ : ∀ x, x < L.length → O.getD x 0 = if x < k ∨ L.length ≤ x + k then L.getD (L.length - 1 - x) 0 else L.getD x 0
theorem Rvs.start (L : List Nat) : Rvs L 0 L := ⟨rfl, fun x hx => by rw [if_neg (by omega)]⟩
theorem Rvs.step {L O : List Nat} {k : Nat} (h : Rvs L k O) (hk : k + k + 1 < L.length) : Rvs L (k + 1) ((O.set k (O.getD (L.length - 1 - k) 0)).set (L.length - 1 - k) (O.getD k 0)) := by
  obtain ⟨h1, h2⟩ := h
  refine ⟨by simpa using h1, fun x hx => ?_⟩
  rw [getD_set _ _ _ _ (by rw [List.length_set]; omega), getD_set _ _ _ _ (by omega)]
  have e1 := h2 k (by omega)
  have e2 := h2 (L.length - 1 - k) (by omega)
  rw [if_neg (by omega)] at e1 e2
  by_cases c1 : x = L.length - 1 - k
  · subst c1
    rw [if_pos rfl, if_pos (by omega), e1]
    congr 1; omega
  · rw [if_neg c1]
    by_cases c2 : x = k
    · subst c2
      rw [if_pos rfl, if_pos (by omega), e2]
    · rw [if_neg c2, h2 x hx]
      by_cases c3 : x < k ∨ L.length ≤ x + k
      · rw [if_pos c3, if_pos (by omega)]
      · rw [if_neg c3, if_neg (by omega)]
theorem Rvs.done {L O : List Nat} {k : Nat} (h : Rvs L k O) (hk : L.length ≤ k + k + 1) : O = L.reverse := by
  obtain ⟨h1, h2⟩ := h
  refine List.ext_getElem (by rw [List.length_reverse, h1]) fun x hx1 hx2 => ?_
  have := h2 x (by omega)
  rw [List.getD_eq_getElem?_getD, List.getElem?_eq_getElem hx1, Option.getD_some] at this
  rw [this, List.getElem_reverse]
  split
  · rw [List.getD_eq_getElem?_getD, List.getElem?_eq_getElem (by omega)]; rfl
  · rw [List.getD_eq_getElem?_getD, List.getElem?_eq_getElem (by omega), Option.getD_some]
    congr 1; omega
end Go.Th.Dig
namespace Go.Proofs.YtallbegibdlpaaaGreat
open Go Go.RowKit Go.Th Go.Th.Dig

end Go.Proofs.YtallbegibdlpaaaGreat

/-
  A number's text; the division by any number: the code's.
-/
namespace Go.Th
open Go Go.RowKit
end Go.Th
namespace Go.Proofs.YtallbegibdlpaaaGreat
open Go Go.RowKit Go.Th Go.Th.Dig

end Go.Proofs.YtallbegibdlpaaaGreat
