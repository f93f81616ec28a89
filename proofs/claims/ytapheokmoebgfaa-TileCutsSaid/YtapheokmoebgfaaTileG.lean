/-
  A tile's heights of their bytes: the code's.
-/
import Derived.Test.YtapheokmoebgfaaTileB
set_option linter.unusedVariables false
set_option linter.unusedSimpArgs false
namespace Go.Th
theorem pack_closes_valAt (l : List Bool) : valAt (pack l) l.length (8 * (pack l).length - l.length) = 0 := by
  refine valAt_of_noughts _ _ _ (by rw [pack_length]; omega) fun j hj => ?_
  have hl : (l.length + j) / 8 < (pack l).length := by omega
  have h : (pack l).getD ((l.length + j) / 8) 0 = byteAt l ((l.length + j) / 8) := by
    simp only [pack, List.getD, List.getElem?_map]
    rw [List.getElem?_range (by simpa [pack] using hl)]
    rfl
  rw [bitAt, h, byteAt_bit l _ _ (by omega), List.getD, List.getElem?_eq_none (by omega)]
  rfl
/-- Where these bits come first, and nothing but noughts is left, the bytes are these bits. -/
theorem pack_only (bs : List Nat) (l : List Bool) (hb : ∀ x ∈ bs, x < 256) (h : Here bs 0 l) (h8 : 8 * bs.length - l.length < 8) (hv : valAt bs l.length (8 * bs.length - l.length) = 0) : bs = pack l := by
  have h1 := h.1
  have hl : bs.length = (pack l).length := by rw [pack_length]; omega
  refine bytes_of_bits bs (pack l) hl hb (pack_lt l) fun j hj => ?_
  by_cases hjl : j < l.length
  · have := here_get h j hjl
    rw [Nat.zero_add] at this
    rw [this, bitAt_pack l j hjl, List.getD, List.getElem?_eq_getElem hjl]; rfl
  · have e1 := valAt_nought bs l.length _ (by omega) hv (j - l.length) (by omega)
    have e2 := valAt_nought (pack l) l.length _ (by omega) (pack_closes_valAt l) (j - l.length) (by omega)
    rw [show l.length + (j - l.length) = j by omega] at e1 e2
    rw [e1, e2]
end Go.Th
namespace Go.Proofs.Ytapheokmoebgfaa
open Go Go.RowKit Go.Th
theorem closes_pack (l : List Bool) : closes (pack l) l.length false = true := by
  have h1 : 8 * (pack l).length - l.length < 8 := by rw [pack_length]; omega
  simp [closes, h1, pack_closes_valAt l]
theorem pack_of_closes (bs : List Nat) (l : List Bool) (hb : ∀ x ∈ bs, x < 256) (h : Here bs 0 l) (hc : closes bs l.length false = true) : bs = pack l := by
  simp only [closes, Bool.not_false, Bool.true_and, Bool.and_eq_true, decide_eq_true_eq, beq_iff_eq] at hc
  exact pack_only bs l hb h hc.1 hc.2

/-- Bytes that are no row of so many numbers. -/
def NoRow (bs : List Nat) (n : Nat) : Prop := ∀ m : List Int, m.length = n → (∀ x ∈ m, Rm x) → bs ≠ pack (row m)

theorem get_size (w h : Int) (v : Value) (W : World) (H : isT w h = false) :
    Calls Try.prog 10 #[.int .i64 w, .int .i64 h, v] W fun e w' => e = .returned (.tuple #[.slice none 0 0, .int .i64 5]) ∧ W = w' := by
  have C1 := isTile_go w h
  rw [H] at C1
  have C1 := Lib.hid C1
  clear H
  go_enter Try.func10, Try.ntmps10
  go_wp2_with fail
  refine (C1.out _).mono ?_
  rintro e wx ⟨rfl, rfl⟩
  go_wp2_with fail
  go_ret2
  exact ⟨rfl, rfl⟩

set_option maxRecDepth 20000 in
set_option maxHeartbeats 3200000 in
theorem tget_no (x y n : Nat) (hT : isT x y = true) (hn : n = x * y) (v : Value) (bs : List Nat) (hl : bs.length ≤ 1000000) (hb : ∀ u ∈ bs, u < 256) (w : World) (hS : Sl w 1 v bs.length (u8s bs)) (H : NoRow bs n) :
    Calls Try.prog 10 #[.int .i64 x, .int .i64 y, v] w fun e w' => e = .returned (.tuple #[.slice none 0 0, .int .i64 3]) ∧ Below w.heap.size w w' := by
  have C1 := isTile_go x y
  obtain ⟨h1, h2, h3, h4⟩ := isT_yes hT
  have hle : x * y ≤ 16 * 16 := Nat.mul_le_mul (by omega) (by omega)
  have hm : (x : Int) * (y : Int) = (n : Int) := by rw [hn]; simp
  rw [← hn] at hle
  rw [hT] at C1
  have C1 := Lib.hid C1
  have C2 := Lib.hid (read_any v bs w hS (by omega) hb)
  clear hT hn hS
  by_cases hr : ∃ m, RowAt bs 0 n m
  · obtain ⟨m, hr⟩ := hr
    have hcl : closes bs (row m).length false = false := by
      rw [Bool.eq_false_iff]
      intro hc
      exact H m hr.len hr.room (pack_of_closes bs _ hb hr.here hc)
    have CI := Lib.hid (fun pb base vr wx h => isrow_yes n (by omega) m pb 0 base vr bs 0 wx h hr)
    have CC := Lib.hid (fun pb base vr wx h => close_any pb 0 base vr bs (0 + (row m).length) false wx h)
    rw [Nat.zero_add, hcl] at CC
    rw [Nat.zero_add] at CI
    clear H hb hr hcl
    go_enter Try.func10, Try.ntmps10
    go_wp2_with fail
    refine (C1.out _).mono ?_
    rintro e wx ⟨rfl, rfl⟩
    clear C1
    go_wp2_with fail
    refine C2.out.mono ?_
    rintro e w1 ⟨rb, vr, rfl, hrb, hR1, hB1⟩
    clear C2
    have C3 := Lib.hid (CI.out rb _ vr w1 hR1)
    clear CI
    go_wp2_with fail
    refine C3.out.mono ?_
    rintro e w2 ⟨v2, rfl, ho2, hR2, hT2⟩
    clear C3
    have hB2 := hT2.old hB1 hB1.size (by rintro q hq rfl; omega)
    have C4 := Lib.hid (CC.out rb _ vr w2 hR2)
    clear CC hR1 hR2 hT2 hB1
    go_wp2_with fail
    refine C4.out.mono ?_
    rintro e w3 ⟨rfl, _, hT3⟩
    have hB3 := hT3.old hB2 hB2.size (by rintro q hq rfl; omega)
    go_wp2_with fail
    go_ret2
    exact ⟨rfl, hB3⟩
  · have CI := Lib.hid (fun pb base vr wx h => isrow_no n (by omega) pb 0 base vr bs 0 wx h (fun m hm => hr ⟨m, hm⟩))
    clear H hb hr
    go_enter Try.func10, Try.ntmps10
    go_wp2_with fail
    refine (C1.out _).mono ?_
    rintro e wx ⟨rfl, rfl⟩
    clear C1
    go_wp2_with fail
    refine C2.out.mono ?_
    rintro e w1 ⟨rb, vr, rfl, hrb, hR1, hB1⟩
    clear C2
    have C3 := Lib.hid (CI.out rb _ vr w1 hR1)
    clear CI
    go_wp2_with fail
    refine C3.out.mono ?_
    rintro e w2 ⟨rfl, hT2⟩
    have hB2 := hT2.old hB1 hB1.size (by rintro q hq rfl; omega)
    go_wp2_with fail
    go_ret2
    exact ⟨rfl, hB2⟩

/-- What so many numbers make: the heights, or that one of them is none. -/
def Made (w0 : World) (x n : Nat) (m : List Int) (e : Ending) (w' : World) : Prop :=
  ((∀ u ∈ raise x m n, In16 u) ∧ ∃ v, e = .returned (.tuple #[v, .int .i64 0]) ∧ w'.ownsRow w0.heap.size 30 1 v n (i16s (raise x m n)) ∧ Below w0.heap.size w0 w') ∨
  (¬ (∀ u ∈ raise x m n, In16 u) ∧ e = .returned (.tuple #[.slice none 0 0, .int .i64 2]) ∧ Below w0.heap.size w0 w')
theorem raise_mem (x : Nat) (m : List Int) (i n : Nat) (h : i ≤ n) : ∀ u ∈ raise x m i, u ∈ raise x m n := by
  induction n with
  | zero => obtain rfl : i = 0 := by omega
            exact fun u h => h
  | succ n ih =>
    by_cases e : i = n + 1
    · subst e; exact fun u h => h
    · intro u hu
      rw [raise]
      exact List.mem_append_left _ (ih (by omega) u hu)

set_option maxRecDepth 20000 in
set_option maxHeartbeats 3200000 in
theorem tget_row (x y n : Nat) (hT : isT x y = true) (hn : n = x * y) (v : Value) (m : List Int) (hml : m.length = n) (hmr : ∀ u ∈ m, Rm u) (w : World) (hS : Sl w 1 v (pack (row m)).length (u8s (pack (row m)))) :
    Calls Try.prog 10 #[.int .i64 x, .int .i64 y, v] w (Made w x n m) := by
  have C1 := isTile_go x y
  obtain ⟨h1, h2, h3, h4⟩ := isT_yes hT
  have hle : x * y ≤ 16 * 16 := Nat.mul_le_mul (by omega) (by omega)
  have hm : (x : Int) * (y : Int) = (n : Int) := by rw [hn]; simp
  rw [← hn] at hle
  rw [hT] at C1
  have C1 := Lib.hid C1
  have hsl := sizes_le m (best m) (best_le m)
  have hrl := row_length m
  have C2 := Lib.hid (read_any v (pack (row m)) w hS (by rw [pack_length]; omega) (pack_lt _))
  have CI := Lib.hid (fun pb base vr wx h => isrow_yes n (by omega) m pb 0 base vr (pack (row m)) 0 wx h (rowAt_pack m n hml hmr))
  have CC := Lib.hid (fun pb base vr wx h => close_any pb 0 base vr (pack (row m)) (0 + (row m).length) false wx h)
  rw [Nat.zero_add, closes_pack] at CC
  rw [Nat.zero_add] at CI
  obtain ⟨bs, hbs⟩ : ∃ bs, bs = pack (row m) := ⟨_, rfl⟩
  rw [← hbs] at C2 CI CC
  have hx1 : 0 < x := by omega
  have hx2 : x ≤ 1000 := by omega
  have CB := Lib.hid (fun a cap i z hz hi h16 wx hs => beside_go a n cap x i z hz hx1 hx2 hi h16 wx hs)
  have HML := Lib.hid hml
  have HMR := Lib.hid hmr
  clear hT hn hS hbs hrl hsl hml hmr
  go_enter Try.func10, Try.ntmps10
  go_wp2_with fail
  refine (C1.out _).mono ?_
  rintro e wx ⟨rfl, rfl⟩
  clear C1
  go_wp2_with fail
  refine C2.out.mono ?_
  rintro e w1 ⟨rb, vr, rfl, hrb, hR1, hB1⟩
  clear C2
  have C3 := Lib.hid (CI.out rb _ vr w1 hR1)
  clear CI
  go_wp2_with fail
  refine C3.out.mono ?_
  rintro e w2 ⟨v2, rfl, ho2, hR2, hT2⟩
  clear C3
  obtain ⟨a2, cap2, rfl, hc1, hc2⟩ := ownsRow_slice ho2
  have hB2 := hT2.old hB1 hB1.size (by rintro q hq rfl; omega)
  have C4 := Lib.hid (CC.out rb _ vr w2 hR2)
  have hrb1 := hR1.lt
  clear CC hR1 hR2 hT2
  go_wp2_with fail
  refine C4.out.mono ?_
  rintro e w3 ⟨rfl, _, hT3⟩
  clear C4
  have hB3 := hT3.old hB2 hB2.size (by rintro q hq rfl; omega)
  replace ho2 := hT3.own ho2 (by rintro q hq rfl; have := (ho2.lt _ hq).1; omega)
  clear hT3 hB2 hB1 hrb1
  have HS := Lib.hid (Sl.of_own ho2)
  clear ho2
  go_wp2_with (refine wpList_mk (t := 22) (e := 30) (z := .int .i16 0) (bytes := 2) Try.underlying22 (by kernel_rfl) rfl rfl _ _ rfl w3.heap.size n _ _ rfl rfl (by omega) (by unfold maxLen; omega) (Nat.le_refl _) ?_)
  intro w4 ho4 hg4
  have hB4 := grown_below hg4
  have hs3 := hB3.size
  clear hg4
  go_wp2_with fail
  go_loopw [41] (fun c wx => ∃ i : Nat, i ≤ n ∧ c = .int .i64 i ∧ Hid (∀ u ∈ raise x m i, In16 u) ∧ wx.ownsRow w3.heap.size 30 1 (.slice (some ⟨w3.heap.size, 0, none⟩) n n) n (i16s (raise x m i ++ List.replicate (n - i) 0)) ∧ Below w3.heap.size w3 wx) (fun c _ => n - (intOf c).toNat)
  case atStart => exact ⟨0, Nat.zero_le _, rfl, Lib.hid (fun u hu => by simp [raise] at hu), by simpa [raise, i16s] using ho4, hB4⟩
  case round =>
    clear ho4 hB4
    obtain ⟨i, hi, rfl, hall, ho, hB⟩ := hrel
    have hsz := hB.size
    by_cases hlt : i < n
    · have him : i < m.length := by rw [HML.out]; exact hlt
      obtain ⟨b, o, rfl, hbl, hc⟩ := cell_i32 HS.out i him
      have hc' := (hB.cell (p := ⟨b, o + i, none⟩) hbl).trans hc
      have hrm := rm_def (HMR.out m[i] (List.getElem_mem him))
      have hgd : m.getD i 0 = m[i] := by rw [List.getD, List.getElem?_eq_getElem him]; rfl
      have hl16 : ∀ u ∈ raise x m i ++ List.replicate (n - i) 0, In16 u := by
        intro u hu
        rcases List.mem_append.1 hu with hu | hu
        · exact hall.out u hu
        · rw [List.eq_of_mem_replicate hu]; exact ⟨by decide, by decide⟩
      have hrl := raise_length x m i
      have hC := CB.out (some ⟨w3.heap.size, 0, none⟩) n i (raise x m i ++ List.replicate (n - i) 0) (by rw [List.length_append, hrl, List.length_replicate]; omega) hlt hl16 wr (Sl.of_own ho)
      rw [bes_same x hx1 _ (raise x m i) i (fun j hj => getD_app _ _ j (by rw [hrl]; exact hj))] at hC
      have hb16 := in16_def (bes_in16 hall.out x i)
      have hnx : raise x m (i + 1) = raise x m i ++ [bes x (raise x m i) i + m[i]] := by rw [raise, hgd]
      obtain ⟨d, hd⟩ : ∃ d, d = m[i] := ⟨_, rfl⟩
      obtain ⟨s, hs⟩ : ∃ s, s = bes x (raise x m i) i := ⟨_, rfl⟩
      rw [← hd] at hc' hrm hnx
      rw [← hs] at hC hb16 hnx
      have hil : (i16s (raise x m i)).length = i := by rw [i16s_length, hrl]
      have e0 : i16s (raise x m i ++ List.replicate (n - i) 0) = i16s (raise x m i) ++ List.replicate (n - (i + 1) + 1) (.int .i16 0) := by
        rw [show n - (i + 1) + 1 = n - i by omega]; simp [i16s]
      have hnxt := set_next (i16s (raise x m i)) (n - (i + 1)) i (.int .i16 0) (.int .i16 (s + d)) hil
      rw [← i16s_snoc, ← hnx] at hnxt
      have e1 : i16s (raise x m (i + 1)) ++ List.replicate (n - (i + 1)) (.int .i16 0) = i16s (raise x m (i + 1) ++ List.replicate (n - (i + 1)) 0) := by simp [i16s]
      rw [e1, ← e0] at hnxt
      have hcell : wr.cell? ⟨w3.heap.size, i, none⟩ = some (.int .i16 0) := by
        refine ownsRow_cell ho ?_
        rw [e0, List.getElem?_append_right (by omega), hil, Nat.sub_self]; rfl
      have hfree := ownsRow_free ho i
      have hC := Lib.hid hC
      have HN := Lib.hid hnxt
      have HX := Lib.hid hnx
      obtain ⟨r1, r2⟩ := hrm
      obtain ⟨b1, b2⟩ := hb16
      clear hd hs hc hgd hl16 hrl hil e0 e1 hnx hnxt
      by_cases hin : In16 (s + d)
      · obtain ⟨q1, q2⟩ := in16_def hin
        have hall' : ∀ u ∈ raise x m (i + 1), In16 u := by
          intro u hu
          rw [HX.out] at hu
          rcases List.mem_append.1 hu with hu | hu
          · exact hall.out u hu
          · simp at hu; rw [hu]; exact hin
        have HA := Lib.hid hall'
        clear hall' hin
        go_wp2_with fail
        refine hC.out.mono ?_
        rintro e wx ⟨rfl, rfl⟩
        clear hC
        go_wp2_with fail
        go_roundw
        case rel =>
          refine ⟨i + 1, by omega, by go_num, HA, ?_, hB.setCell (Nat.le_refl _) _⟩
          have := ownsRow_set ho i hlt (.int .i16 (s + d))
          rwa [HN.out] at this
        case measure => simp [intOf]; omega
      · have hno : ¬ (∀ u ∈ raise x m n, In16 u) := by
          intro hA
          exact hin (hA _ (raise_mem x m (i + 1) n (by omega) _ (by rw [HX.out]; simp)))
        have HNO := Lib.hid hno
        clear hno
        have hBn := hB3.trans (hB.mono hs3)
        by_cases hlow : s + d < -32768
        · clear hin
          go_wp2_with fail
          refine hC.out.mono ?_
          rintro e wx ⟨rfl, rfl⟩
          clear hC
          go_wp2_with fail
          go_ret2
          exact .inr ⟨HNO.out, rfl, hBn⟩
        · have hhi : 32767 < s + d := by
            rcases Int.lt_or_le 32767 (s + d) with h | h
            · exact h
            · exact absurd ⟨by omega, h⟩ hin
          clear hin
          go_wp2_with fail
          refine hC.out.mono ?_
          rintro e wx ⟨rfl, rfl⟩
          clear hC
          go_wp2_with fail
          go_ret2
          exact .inr ⟨HNO.out, rfl, hBn⟩
    · obtain rfl : i = n := by omega
      rw [Nat.sub_self, List.replicate_zero, List.append_nil] at ho
      have hBn := hB3.trans (hB.mono hs3)
      go_wp2_with fail
      go_ret2
      exact .inl ⟨hall.out, _, rfl, ownsRow_base ho hs3, hBn⟩
end Go.Proofs.Ytapheokmoebgfaa
