/-
  BitsWrite's walk.
-/
import Derived.Test.YtjbapbenlaccfaaBitsWorks
namespace Go.Proofs.Ytjbapbenlaccfaa
open Go.RowKit Go.Th

/-- Parts as cells. -/
def parts (ps : List (Nat × Nat)) : List Value := ps.flatMap fun p => [.int .u8 (p.1 : Int), .int .u64 (p.2 : Int)]
theorem parts_length (ps : List (Nat × Nat)) : (parts ps).length = ps.length * 2 := by
  induction ps with
  | nil => rfl
  | cons p r ih => simp only [parts, List.flatMap_cons, List.length_append, List.length_cons, List.length_nil] at ih ⊢; omega
theorem parts_at (ps : List (Nat × Nat)) (i : Nat) (h : i < ps.length) : (parts ps)[i * 2]? = some (.int .u8 (ps[i].1 : Int)) ∧ (parts ps)[i * 2 + 1]? = some (.int .u64 (ps[i].2 : Int)) := by
  induction ps generalizing i with
  | nil => simp at h
  | cons p r ih =>
    cases i with
    | zero => simp [parts]
    | succ i =>
      have := ih i (by simpa using h)
      simp only [parts, List.flatMap_cons] at this ⊢
      rw [show (i + 1) * 2 = i * 2 + 1 + 1 from by omega]
      simpa using this

/-- What is written of a part. -/
def partBits (p : Nat × Nat) : List Bool := if p.1 % 66 < 65 then numBits p.2 (p.1 % 66) else onesBits (p.2 % 50)
def allBits (ps : List (Nat × Nat)) : List Bool := ps.flatMap partBits

theorem partBits_length (p : Nat × Nat) : (partBits p).length ≤ 65 := by
  unfold partBits
  split
  · rw [numBits_length]; omega
  · simp [onesBits]; omega

theorem allBits_length (ps : List (Nat × Nat)) : (allBits ps).length ≤ 65 * ps.length := by
  induction ps with
  | nil => simp [allBits]
  | cons p r ih =>
    have := partBits_length p
    simp only [allBits, List.flatMap_cons, List.length_append, List.length_cons] at ih ⊢
    omega

theorem allBits_take (ps : List (Nat × Nat)) (i : Nat) (h : i < ps.length) : allBits (ps.take (i + 1)) = allBits (ps.take i) ++ partBits ps[i] := by
  rw [List.take_add_one, List.getElem?_eq_getElem h]
  simp only [allBits, Option.toList, List.flatMap_append, List.flatMap_cons, List.flatMap_nil, List.append_nil]

/-- A part's two cells, in a later world. -/
theorem part_cells {w : World} {a : Option Addr} {n cap : Nat} {ps : List (Nat × Nat)} (h : Sl w 2 (.slice a n cap) n (parts ps)) (i : Nat) (hi : i < ps.length) :
    ∃ b o, a = some ⟨b, o, none⟩ ∧ w.cell? ⟨b, o + i * 2, none⟩ = some (.int .u8 (ps[i].1 : Int)) ∧ w.cell? ⟨b, o + i * 2 + 1, none⟩ = some (.int .u64 (ps[i].2 : Int)) := by
  obtain ⟨a', cp, he, _, _, _, _, h5⟩ := h
  cases he
  obtain ⟨e0, e1⟩ := parts_at ps i hi
  obtain ⟨b, o, rfl, c0⟩ := h5 _ _ e0
  obtain ⟨b', o', hA, c1⟩ := h5 _ _ e1
  cases hA
  exact ⟨b, o, rfl, c0, c1⟩

/-- A writer, and a row of the call's own apart from it. -/
structure Both (w : World) (B : Nat) (vw v : Value) (l l' : List Bool) : Prop where
  wr : WInv w B 0 B vw l
  row : w.ownsRow (B + 1) 4 1 v l'.length (bls l')
  dis : ∀ k, v.ownBlock = some k → vw.ownBlock ≠ some k

theorem Both.write {w w' : World} {B : Nat} {vw vw' v : Value} {l l2 l' : List Bool} (h : Both w B vw v l l') (hW : WInv w' B 0 B vw' l2) (hG : WGo B w w' vw vw') : Both w' B vw' v l2 l' := by
  refine ⟨hW, hG.turned.own h.row ?_, ?_⟩
  · rintro k hk (rfl | h1)
    · have := (h.row.lt k hk).1; omega
    · exact h.dis k hk h1
  · intro k hk h1
    rcases hG.new with e | ⟨g, e, hg⟩
    · rw [e] at h1; exact h.dis k hk h1
    · rw [e] at h1; cases h1
      have := (h.row.lt k hk).2; omega

theorem Both.below {w w' : World} {B : Nat} {vw v : Value} {l l' : List Bool} (h : Both w B vw v l l') (hb : Below w.heap.size w w') : Both w' B vw v l l' :=
  ⟨h.wr.below hb, ownsRow_below h.row hb, h.dis⟩

theorem Both.append {w w' : World} {B : Nat} {vw v v' : Value} {l l' l2 : List Bool} (h : Both w B vw v l l') (ho : w'.ownsRow (B + 1) 4 1 v' l2.length (bls l2)) (hg : w.grownBy w' v.ownBlock)
    (hn : v'.ownBlock = v.ownBlock ∨ ∃ g, v'.ownBlock = some g ∧ w.heap.size ≤ g) : Both w' B vw v' l l2 := by
  have ht : Turned (fun k => v.ownBlock = some k) w w' := (Turned.refl _ _).grown hg (fun k hk _ => hk)
  refine ⟨h.wr.turned ht ?_ ?_, ho, ?_⟩
  · intro e; have := (h.row.lt _ e).1; omega
  · intro k hk e; exact h.dis k e hk
  · intro k hk h1
    rcases hn with e | ⟨g, e, hgs⟩
    · rw [e] at hk; exact h.dis k hk h1
    · rw [e] at hk; cases hk
      have := (h.wr.own.lt k h1).2; omega

theorem Both.alloc {w : World} {B : Nat} {vw v : Value} {l l' : List Bool} (h : Both w B vw v l l') (o : Obj) : Both (w.alloc o) B vw v l l' := h.below ((Below.refl _ _).alloc (Nat.le_refl _) _)

/-- What was there before stays, behind a writer's call. -/
theorem Both.oldW {w0 w w' : World} {vw vw' v : Value} {l l' : List Bool} (h : Both w w0.heap.size vw v l l') (h0 : Below w0.heap.size w0 w) (hG : WGo w0.heap.size w w' vw vw') : Below w0.heap.size w0 w' := by
  refine hG.turned.old h0 h0.size ?_
  rintro k hk (rfl | h1)
  · omega
  · have := (h.wr.own.lt k h1).1; omega

theorem bls_snoc (p : List Bool) (b : Bool) : bls (p ++ [b]) = bls p ++ [.bool b] := by simp only [bls, List.map_append, List.map_cons, List.map_nil]
theorem bls_append (p q : List Bool) : bls (p ++ q) = bls p ++ bls q := by simp only [bls, List.map_append]

set_option maxHeartbeats 3200000 in
theorem bitsWrite_any (a : Option Addr) (n cap : Nat) (ps : List (Nat × Nat)) (w : World) (h : Sl w 2 (.slice a n cap) n (parts ps)) (hn : n = ps.length) (hx : ∀ p ∈ ps, p.1 < 256 ∧ p.2 < 18446744073709551616) (hmax : n ≤ 9223372036854775807) :
    Calls Try.prog 3 #[.slice a n cap] w fun e w' => e = .returned (.bool true) ∧ Below w.heap.size w w' := by
  by_cases hbig : 60 < n
  · have hb' : (60 : Int) < (n : Int) := by omega
    go_enter Try.func3, Try.ntmps3
    go_wp2_with (go_at_call 6; refine (works_any _).mono ?_; rintro e w1 ⟨rfl, hB⟩)
    go_ret
    exact ⟨rfl, hB⟩
  have hb' : ¬ ((60 : Int) < (n : Int)) := by omega
  have hW0 := winv_new w
  have HN := Lib.hid hn; clear hn
  have HX := Lib.hid hx; clear hx
  go_enter Try.func3, Try.ntmps3
  go_wp2
  go_loopw [4, 5] (fun v c wx => ∃ i : Nat, i ≤ n ∧ c = .int .i64 i ∧ ∃ vw, Both wx w.heap.size vw v (allBits (ps.take i)) (allBits (ps.take i)) ∧ Below w.heap.size w wx) (fun _ c _ => n - (intOf c).toNat)
  case atStart => exact ⟨0, Nat.zero_le _, rfl, _, ⟨hW0, World.ownsRow_nil _ _ _ _, fun k hk => by simp [Value.ownBlock] at hk⟩, (Below.refl _ _).alloc (Nat.le_refl _) _⟩
  case round =>
    clear hW0
    obtain ⟨i, hi, rfl, vw, hT, hB⟩ := hrel
    by_cases hlt : i < n
    · have hlp : i < ps.length := by rw [← HN.out]; exact hlt
      have hlen : (allBits (ps.take i)).length ≤ 3900 := by have := allBits_length (ps.take i); simp at this; omega
      obtain ⟨b, o, rfl, c0, c1⟩ := part_cells h i hlp
      obtain ⟨hs1, hx1⟩ := HX.out ps[i] (List.getElem_mem _)
      have hall := allBits_take ps i hlp
      obtain ⟨s, hs⟩ : ∃ s, s = ps[i].1 := ⟨_, rfl⟩
      obtain ⟨x, hx⟩ : ∃ x, x = ps[i].2 := ⟨_, rfl⟩
      have hpb : partBits ps[i] = if s % 66 < 65 then numBits x (s % 66) else onesBits (x % 50) := by rw [partBits, hs, hx]
      rw [hpb] at hall
      rw [← hs] at c0 hs1
      rw [← hx] at c1 hx1
      clear hs hx hpb
      obtain ⟨k, hk⟩ : ∃ k, k = s % 66 := ⟨_, rfl⟩
      rw [← hk] at hall
      have hk' : (s : Int) % 66 = (k : Int) := by omega
      have hk66 : k < 66 := by omega
      clear hk
      have d0 := (hB.cell (p := ⟨b, o + i * 2, none⟩) (World.block_lt_of_cell? w _ c0)).trans c0
      have d1 := (hB.cell (p := ⟨b, o + i * 2 + 1, none⟩) (World.block_lt_of_cell? w _ c1)).trans c1
      have hbw := World.block_lt_of_cell? w _ c1
      simp at hbw
      have hsz := hB.size
      have hwl := hT.wr.lt
      have HA := Lib.hid hall; clear hall
      by_cases hk65 : k < 65
      · have hA := HA.out
        rw [if_pos hk65] at hA
        have HA' := Lib.hid hA; clear hA HA
        go_wp2_with fail
        refine (num_any x k hx1 (by omega) _ _ _ _ _ _ hT.wr (by omega) (by omega)).mono ?_
        rintro e w2 ⟨rfl, v2, hW2, hG2⟩
        have hT2 := hT.write hW2 hG2
        have hB2 := hT.oldW hB hG2
        have d1' := (hB2.cell (p := ⟨b, o + i * 2 + 1, none⟩) hbw).trans c1
        clear hT hG2 hW2 hB d0 d1
        go_wp2_with fail
        refine (refNum_any k x w2 hx1 (by omega)).mono ?_
        rintro e w3 ⟨v3, rfl, ho3, hB3⟩
        have hT3 := hT2.below hB3
        have hBB := hB2.trans (hB3.mono hB2.size)
        clear hT2 hB2 hB3 d1'
        have hsz3 := hBB.size
        have hs3 : Sl w3 1 v3 k (bls (numBits x k)) := Sl.of_own ho3
        go_wp2_with (at_builtin; refine wpList_app Ebool rfl (.tmp 36) (.tmp 43) rfl (w.heap.size + 1) rfl hT3.row rfl hs3 (oneCell_bls _) (by unfold maxLen; omega) (by omega) (by have := hT3.wr.lt; omega) ?_)
        intro v4 w4 ho4 hg4 hn4
        have hT4 := hT3.append (l2 := allBits (ps.take i) ++ numBits x k) (v' := v4) (by rw [List.length_append, numBits_length, bls_append]; exact ho4) hg4 hn4
        have hB4 := hBB.grown hg4 hsz3 (fun q hq => by have := (hT3.row.lt q hq).1; omega)
        clear hT3 ho4 hg4 hn4 hs3 ho3 hBB
        go_wp2
        go_roundw
        case rel => exact ⟨i + 1, by omega, by go_num, v2, by rw [HA'.out]; exact hT4, hB4⟩
        case measure => simp [intOf]; omega
      · obtain rfl : k = 65 := by omega
        have hA := HA.out
        rw [if_neg (by omega)] at hA
        have HA' := Lib.hid hA; clear hA HA
        obtain ⟨m, hm⟩ : ∃ m, m = x % 50 := ⟨_, rfl⟩
        have hm' : (x : Int) % 50 = (m : Int) := by omega
        have hm50 : m < 50 := by omega
        rw [← hm] at HA'
        clear hm
        go_wp2_with fail
        refine (ones_any m (by omega) _ _ _ _ _ _ hT.wr (by omega) (by omega)).mono ?_
        rintro e w2 ⟨rfl, v2, hW2, hG2⟩
        have hT2 := hT.write hW2 hG2
        have hB2 := hT.oldW hB hG2
        clear hT hG2 hW2 hB d0 d1
        go_wp2
        go_loopw [4, 8] (fun v c wx => ∃ j : Nat, j ≤ m ∧ c = .int .i64 j ∧ Both wx w.heap.size v2 v (allBits (ps.take i) ++ onesBits m) (allBits (ps.take i) ++ List.replicate j true) ∧ Below w.heap.size w wx) (fun _ c _ => m - (intOf c).toNat)
        case atStart => exact ⟨0, Nat.zero_le _, rfl, by simpa using hT2, hB2⟩
        case round =>
          clear hT2 hB2
          obtain ⟨j, hj, rfl, hT, hB⟩ := hrel
          have hsz2 := hB.size
          have hwl2 := hT.wr.lt
          have hl2 : (allBits (ps.take i) ++ List.replicate j true).length ≤ 3950 := by simp; omega
          by_cases hjm : j < m
          · go_wp2_with (at_builtin; refine wpList_app Ebool rfl (.tmp 59) (.tmp 60) rfl (w.heap.size + 1) rfl (hT.alloc _).row rfl (Sl.one _ _ _) (by intro u hu; simp at hu; subst hu; rfl) (by unfold maxLen; omega) (by omega) (by simp; omega) ?_)
            intro v4 w4 ho4 hg4 hn4
            have hT4 := (hT.alloc (.cells #[.bool true] 4)).append (l2 := allBits (ps.take i) ++ List.replicate (j + 1) true) (v' := v4) (by rw [show (allBits (ps.take i) ++ List.replicate (j + 1) true).length = (allBits (ps.take i)).length + j + 1 from (by simp; omega), List.replicate_succ', ← List.append_assoc, bls_snoc]; exact ho4) hg4 (by simpa using hn4)
            have hB4 := (hB.alloc hB.size (.cells #[.bool true] 4)).grown hg4 (by simp; omega) (fun q hq => by have := (hT.row.lt q hq).1; omega)
            clear hT ho4 hg4 hn4 hB
            go_wp2
            go_roundw
            case rel => exact ⟨j + 1, by omega, by go_num, hT4, hB4⟩
            case measure => simp [intOf]; omega
          · obtain rfl : j = m := by omega
            go_wp2_with (at_builtin; refine wpList_app Ebool rfl (.tmp 62) (.tmp 63) rfl (w.heap.size + 1) rfl (hT.alloc _).row rfl (Sl.one _ _ _) (by intro u hu; simp at hu; subst hu; rfl) (by unfold maxLen; omega) (by omega) (by simp; omega) ?_)
            intro v4 w4 ho4 hg4 hn4
            have hT4 := (hT.alloc (.cells #[.bool false] 4)).append (l2 := allBits (ps.take i) ++ onesBits j) (v' := v4) (by rw [show (allBits (ps.take i) ++ onesBits j).length = (allBits (ps.take i)).length + j + 1 from (by simp [onesBits]; omega), onesBits, ← List.append_assoc, bls_snoc]; exact ho4) hg4 (by simpa using hn4)
            have hB4 := (hB.alloc hB.size (.cells #[.bool false] 4)).grown hg4 (by simp; omega) (fun q hq => by have := (hT.row.lt q hq).1; omega)
            clear hT ho4 hg4 hn4 hB
            go_wp2
            go_roundw
            case rel => exact ⟨i + 1, by omega, by go_num, v2, by rw [HA'.out]; exact hT4, hB4⟩
            case measure => simp [intOf]; omega
    · obtain rfl : i = n := by omega
      have hlen := allBits_length ps
      have ht : ps.take i = ps := List.take_of_length_le (by rw [← HN.out]; exact Nat.le_refl _)
      rw [ht] at hT
      clear ht
      obtain ⟨l, hl⟩ : ∃ l, l = allBits ps := ⟨_, rfl⟩
      rw [← hl] at hT hlen
      have hl39 : l.length ≤ 3900 := by have := HN.out; omega
      clear hl hlen
      obtain ⟨ra, rc, rfl, hrc⟩ := ownsRow_slice hT.row
      have hlb : ((l.length : Int) == (l.length : Int)) = true := by simp
      go_wp2_with (go_at_call 10; refine (len_any _ _ _ _ _ _ hT.wr).mono ?_; rintro e w2 ⟨rfl, rfl⟩)
      refine (bytes_any _ _ _ _ _ _ hT.wr (by omega)).mono ?_
      rintro e w3 ⟨v3, rfl, ho3, hB3⟩
      have hT3 := hT.below hB3
      have hBB := hB.trans (hB3.mono hB.size)
      clear hT hB hB3
      go_wp2_with fail
      refine (refBytes_any _ l _ (Sl.of_own hT3.row) (by omega)).mono ?_
      rintro e w4 ⟨v4, rfl, ho4, hB4⟩
      have ho34 := ownsRow_below ho3 hB4
      have hBB4 := hBB.trans (hB4.mono hBB.size)
      clear hT3 hBB hB4 ho3
      go_wp2_with fail
      refine (same_any _ _ _ _ _ (Sl.of_own ho34) (Sl.of_own ho4) rfl).mono ?_
      rintro e w5 ⟨rfl, rfl⟩
      go_wp2_with fail
      refine (works_any _).mono ?_
      rintro e w6 ⟨rfl, hB6⟩
      have hfin := hBB4.trans (hB6.mono hBB4.size)
      go_wp2_with fail
      go_ret
      exact ⟨rfl, hfin⟩
end Go.Proofs.Ytjbapbenlaccfaa
