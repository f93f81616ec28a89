/-
  BitsBack's walk.
-/
import Derived.Test.YtjbapbenlaccfaaLaw01a
import Derived.Deep.RegionHeld3
import Derived.Deep.RegionWith
namespace Go.Proofs.Ytjbapbenlaccfaa
open Go.RowKit Go.Th

/-! ### Bits of packed rows -/
theorem bit_of_fold : ∀ (b0 b1 b2 b3 b4 b5 b6 b7 : Bool) (k : Fin 8),
    ((List.range 8).foldl (fun n k => 2 * n + ([b0, b1, b2, b3, b4, b5, b6, b7].getD k false).toNat) 0 / 2 ^ (7 - k.1) % 2 == 1) = [b0, b1, b2, b3, b4, b5, b6, b7].getD k.1 false := by decide +kernel

theorem byteAt_bit (l : List Bool) (i k : Nat) (hk : k < 8) : (byteAt l i / 2 ^ (7 - k) % 2 == 1) = l.getD (8 * i + k) false := by
  have h := bit_of_fold (l.getD (8 * i) false) (l.getD (8 * i + 1) false) (l.getD (8 * i + 2) false) (l.getD (8 * i + 3) false) (l.getD (8 * i + 4) false) (l.getD (8 * i + 5) false) (l.getD (8 * i + 6) false) (l.getD (8 * i + 7) false) ⟨k, hk⟩
  have e : ∀ k, k < 8 → [l.getD (8 * i) false, l.getD (8 * i + 1) false, l.getD (8 * i + 2) false, l.getD (8 * i + 3) false, l.getD (8 * i + 4) false, l.getD (8 * i + 5) false, l.getD (8 * i + 6) false, l.getD (8 * i + 7) false].getD k false = l.getD (8 * i + k) false := by
    intro k hk
    match k, hk with
    | 0, _ => rfl
    | 1, _ => rfl
    | 2, _ => rfl
    | 3, _ => rfl
    | 4, _ => rfl
    | 5, _ => rfl
    | 6, _ => rfl
    | 7, _ => rfl
  rw [e k hk] at h
  rw [← h, byteAt]
  congr 3

theorem bitAt_pack (l : List Bool) (j : Nat) (hj : j < l.length) : bitAt (pack l) j = l.getD j false := by
  have h : (pack l).getD (j / 8) 0 = byteAt l (j / 8) := by
    simp only [pack, List.getD, List.getElem?_map]
    rw [List.getElem?_range (by omega)]
    rfl
  rw [bitAt, h, byteAt_bit l (j / 8) (j % 8) (by omega), Nat.div_add_mod]

theorem valAt_valL (bs : List Nat) (at_ k : Nat) : valAt bs at_ k = valL ((List.range k).map fun j => bitAt bs (at_ + j)) := by
  induction k with
  | zero => rfl
  | succ k ih => rw [List.range_succ, List.map_append, List.map_singleton, valL_snoc, valAt, ih]

/-- The bits of a packed row from one on are the row's. -/
theorem pack_bits (l m r : List Bool) (j : Nat) (hj : j < m.length) : bitAt (pack (l ++ m ++ r)) (l.length + j) = m.getD j false := by
  rw [bitAt_pack _ _ (by simp; omega), List.append_assoc, List.getD, List.getElem?_append_right (by omega), List.getElem?_append_left (by omega)]
  simp [List.getD]

theorem valAt_pack (l m r : List Bool) : valAt (pack (l ++ m ++ r)) l.length m.length = valL m := by
  rw [valAt_valL]
  congr 1
  apply List.ext_getElem?
  intro j
  by_cases hj : j < m.length
  · rw [List.getElem?_map, List.getElem?_range hj]
    simp only [Option.map_some]
    rw [pack_bits l m r j hj, List.getD, List.getElem?_eq_getElem hj]
    rfl
  · rw [List.getElem?_eq_none (by simp; omega), List.getElem?_eq_none (by omega)]

theorem allBits_split (ps : List (Nat × Nat)) (i : Nat) (h : i < ps.length) : allBits ps = allBits (ps.take i) ++ partBits ps[i] ++ allBits (ps.drop (i + 1)) := by
  conv => lhs; rw [← List.take_append_drop (i + 1) ps]
  rw [← allBits_take ps i h]
  simp only [allBits, List.flatMap_append]

theorem pack_lt (l : List Bool) : ∀ x ∈ pack l, x < 256 := by
  intro x hx
  obtain ⟨i, _, rfl⟩ := List.mem_map.1 hx
  exact byteAt_lt l i

theorem pack_close (l : List Bool) : closes (pack l) l.length false = true := by
  have h1 : 8 * (pack l).length - l.length < 8 := by rw [pack_length]; omega
  have h2 : valAt (pack l) l.length (8 * (pack l).length - l.length) = 0 := by
    rw [valAt_valL]
    have e : (List.range (8 * (pack l).length - l.length)).map (fun j => bitAt (pack l) (l.length + j)) = List.replicate (8 * (pack l).length - l.length) false := by
      apply List.ext_getElem?
      intro j
      by_cases hj : j < 8 * (pack l).length - l.length
      · rw [List.getElem?_map, List.getElem?_range hj, List.getElem?_replicate, if_pos hj]
        simp only [Option.map_some]
        have hl : (l.length + j) / 8 < (pack l).length := by omega
        have h : (pack l).getD ((l.length + j) / 8) 0 = byteAt l ((l.length + j) / 8) := by
          simp only [pack, List.getD, List.getElem?_map]
          rw [List.getElem?_range (by simpa [pack] using hl)]
          rfl
        rw [bitAt, h, byteAt_bit l _ _ (by omega), List.getD, List.getElem?_eq_none (by omega)]
        rfl
      · rw [List.getElem?_eq_none (by simp; omega), List.getElem?_eq_none (by simp; omega)]
    rw [e]
    generalize 8 * (pack l).length - l.length = n
    induction n with
    | zero => rfl
    | succ n ih => rw [List.replicate_succ', valL_snoc, ih]; rfl
  simp [closes, h1, h2]

/-- What the second loop's round finds: a number. -/
theorem part_num (ps : List (Nat × Nat)) (i : Nat) (h : i < ps.length) (hk : ps[i].1 % 66 < 65) :
    valAt (pack (allBits ps)) (allBits (ps.take i)).length (ps[i].1 % 66) = valL (numBits ps[i].2 (ps[i].1 % 66)) ∧ (allBits (ps.take i)).length + ps[i].1 % 66 ≤ 8 * (pack (allBits ps)).length := by
  have e := allBits_split ps i h
  have hp : partBits ps[i] = numBits ps[i].2 (ps[i].1 % 66) := by rw [partBits, if_pos hk]
  rw [hp] at e
  rw [e]
  constructor
  · have := valAt_pack (allBits (ps.take i)) (numBits ps[i].2 (ps[i].1 % 66)) (allBits (ps.drop (i + 1)))
    rwa [numBits_length] at this
  · rw [pack_length]
    simp only [List.length_append, numBits_length]
    omega

/-- .. or ones. -/
theorem part_ones (ps : List (Nat × Nat)) (i : Nat) (h : i < ps.length) (hk : ¬ ps[i].1 % 66 < 65) :
    (allBits (ps.take i)).length + ps[i].2 % 50 < 8 * (pack (allBits ps)).length ∧ (∀ j, j < ps[i].2 % 50 → bitAt (pack (allBits ps)) ((allBits (ps.take i)).length + j) = true) ∧ bitAt (pack (allBits ps)) ((allBits (ps.take i)).length + ps[i].2 % 50) = false := by
  have e := allBits_split ps i h
  have hp : partBits ps[i] = onesBits (ps[i].2 % 50) := by rw [partBits, if_neg hk]
  rw [hp] at e
  generalize ps[i].2 % 50 = m at *
  rw [e]
  have hl : (onesBits m).length = m + 1 := by simp [onesBits]
  refine ⟨?_, ?_, ?_⟩
  · rw [pack_length]
    simp only [List.length_append, hl]
    omega
  · intro j hj
    rw [pack_bits _ _ _ j (by omega), onesBits, List.getD, List.getElem?_append_left (by simpa using hj), List.getElem?_replicate, if_pos hj]
    rfl
  · rw [pack_bits _ _ _ m (by omega), onesBits, List.getD, List.getElem?_append_right (by simp)]
    simp

theorem part_len (ps : List (Nat × Nat)) (i : Nat) (h : i < ps.length) : (allBits (ps.take (i + 1))).length = (allBits (ps.take i)).length + if ps[i].1 % 66 < 65 then ps[i].1 % 66 else ps[i].2 % 50 + 1 := by
  rw [allBits_take ps i h, List.length_append, partBits]
  split
  · rw [numBits_length]
  · simp [onesBits]

set_option maxHeartbeats 3200000 in
theorem bitsBack_any (a : Option Addr) (n cap : Nat) (ps : List (Nat × Nat)) (w : World) (h : Sl w 2 (.slice a n cap) n (parts ps)) (hn : n = ps.length) (hx : ∀ p ∈ ps, p.1 < 256 ∧ p.2 < 18446744073709551616) (hmax : n ≤ 9223372036854775807) :
    Calls Try.prog 4 #[.slice a n cap] w fun e w' => e = .returned (.bool true) ∧ Below w.heap.size w w' := by
  by_cases hbig : 60 < n
  · have hb' : (60 : Int) < (n : Int) := by omega
    go_enter Try.func4, Try.ntmps4
    go_wp2_with (go_at_call 6; refine (works_any _).mono ?_; rintro e w1 ⟨rfl, hB⟩)
    go_ret
    exact ⟨rfl, hB⟩
  have hb' : ¬ ((60 : Int) < (n : Int)) := by omega
  have hW0 := winv_new w
  have HN := Lib.hid hn; clear hn
  have HX := Lib.hid hx; clear hx
  go_enter Try.func4, Try.ntmps4
  go_wp2
  go_loopw [4] (fun c wx => ∃ i : Nat, i ≤ n ∧ c = .int .i64 i ∧ ∃ vw, WInv wx w.heap.size 0 w.heap.size vw (allBits (ps.take i)) ∧ Below w.heap.size w wx) (fun c _ => n - (intOf c).toNat)
  case atStart => exact ⟨0, Nat.zero_le _, rfl, _, hW0, (Below.refl _ _).alloc (Nat.le_refl _) _⟩
  case round =>
    clear hW0
    obtain ⟨i, hi, rfl, vw, hT, hB⟩ := hrel
    by_cases hlt : i < n
    · have hlp : i < ps.length := by rw [← HN.out]; exact hlt
      have hlen : (allBits (ps.take i)).length ≤ 3900 := by have := allBits_length (ps.take i); simp at this; omega
      obtain ⟨b, o, rfl, c0, c1⟩ := part_cells h i hlp
      obtain ⟨hs1, hx1⟩ := HX.out ps[i] (List.getElem_mem _)
      have hall := allBits_take ps i hlp
      obtain ⟨s, hs⟩ : ∃ s, s = ps[i].1 := ⟨_, rfl⟩
      obtain ⟨x, hx⟩ : ∃ x, x = ps[i].2 := ⟨_, rfl⟩
      have hpb : partBits ps[i] = if s % 66 < 65 then numBits x (s % 66) else onesBits (x % 50) := by rw [partBits, hs, hx]
      rw [hpb] at hall
      rw [← hs] at c0 hs1
      rw [← hx] at c1 hx1
      clear hs hx hpb
      obtain ⟨k, hk⟩ : ∃ k, k = s % 66 := ⟨_, rfl⟩
      rw [← hk] at hall
      have hk' : (s : Int) % 66 = (k : Int) := by omega
      have hk66 : k < 66 := by omega
      clear hk
      have d0 := (hB.cell (p := ⟨b, o + i * 2, none⟩) (World.block_lt_of_cell? w _ c0)).trans c0
      have d1 := (hB.cell (p := ⟨b, o + i * 2 + 1, none⟩) (World.block_lt_of_cell? w _ c1)).trans c1
      have hsz := hB.size
      have HA := Lib.hid hall; clear hall
      have oldW : ∀ w2 v2, WGo w.heap.size wr w2 vw v2 → Below w.heap.size w w2 := fun w2 v2 hG => hG.turned.old hB hB.size (by
        rintro q hq (rfl | h1)
        · omega
        · have := (hT.own.lt q h1).1; omega)
      have OLD := Lib.hid oldW; clear oldW
      by_cases hk65 : k < 65
      · have hA := HA.out
        rw [if_pos hk65] at hA
        have HA' := Lib.hid hA; clear hA HA
        go_wp2_with fail
        refine (num_any x k hx1 (by omega) _ _ _ _ _ _ hT (by omega) (by omega)).mono ?_
        rintro e w2 ⟨rfl, v2, hW2, hG2⟩
        have hB2 := OLD.out _ _ hG2
        clear hT hG2 hB d0 d1 OLD
        go_wp2
        go_roundw
        case rel => exact ⟨i + 1, by omega, by go_num, v2, by rw [HA'.out]; exact hW2, hB2⟩
        case measure => simp [intOf]; omega
      · obtain rfl : k = 65 := by omega
        have hA := HA.out
        rw [if_neg (by omega)] at hA
        have HA' := Lib.hid hA; clear hA HA
        obtain ⟨m, hm⟩ : ∃ m, m = x % 50 := ⟨_, rfl⟩
        have hm' : (x : Int) % 50 = (m : Int) := by omega
        have hm50 : m < 50 := by omega
        rw [← hm] at HA'
        clear hm
        go_wp2_with fail
        refine (ones_any m (by omega) _ _ _ _ _ _ hT (by omega) (by omega)).mono ?_
        rintro e w2 ⟨rfl, v2, hW2, hG2⟩
        have hB2 := OLD.out _ _ hG2
        clear hT hG2 hB d0 d1 OLD
        go_wp2
        go_roundw
        case rel => exact ⟨i + 1, by omega, by go_num, v2, by rw [HA'.out]; exact hW2, hB2⟩
        case measure => simp [intOf]; omega
    · obtain rfl : i = n := by omega
      have hlen := allBits_length ps
      rw [List.take_of_length_le (by rw [← HN.out]; exact Nat.le_refl _)] at hT
      have hl39 : (allBits ps).length ≤ 3900 := by have := HN.out; omega
      clear hlen
      go_wp2_with fail
      refine (bytes_any _ _ _ _ _ _ hT (by omega)).mono ?_
      rintro e w3 ⟨v3, rfl, ho3, hB3⟩
      have hT3 := hT.below hB3
      have hB3' := hB.trans (hB3.mono hB.size)
      have hv3 : ∀ k, vw.ownBlock = some k → k < wr.heap.size := fun k hk => (hT.own.lt k hk).2
      have hpl : (pack (allBits ps)).length ≤ 1000 := by rw [pack_length]; omega
      have hwl := hT.lt
      clear hT
      go_wp2_with fail
      refine (read_any _ (pack (allBits ps)) _ (Sl.of_own ho3) (by omega) (pack_lt _)).mono ?_
      rintro e w4 ⟨rb, vr, rfl, hrb, hR4, hB4⟩
      have hW4 := hT3.below hB4
      have hBB := hB3'.trans (hB4.mono hB3'.size)
      have hs3 := hB3.size
      have hs3' := hB3'.size
      clear hT3 hB3 hB3' ho3 hB4 hB
      go_wp2
      go_loopw [7] (fun c wx => ∃ i' : Nat, i' ≤ i ∧ c = .int .i64 i' ∧ RInv wx rb 0 w3.heap.size vr (pack (allBits ps)) (allBits (ps.take i')).length false ∧ WInv wx w.heap.size 0 w.heap.size vw (allBits ps) ∧ Below w.heap.size w wx) (fun c _ => i - (intOf c).toNat)
      case atStart => exact ⟨0, Nat.zero_le _, rfl, hR4, hW4, hBB⟩
      case round =>
        clear hR4 hW4 hBB
        obtain ⟨j, hj, rfl, hR, hW, hB⟩ := hrel
        by_cases hji : j < i
        · have hlp : j < ps.length := by rw [← HN.out]; exact hji
          obtain ⟨b, o, rfl, c0, c1⟩ := part_cells h j hlp
          obtain ⟨hs1, hx1⟩ := HX.out ps[j] (List.getElem_mem _)
          have hnum := part_num ps j hlp
          have hones := part_ones ps j hlp
          have hpl := part_len ps j hlp
          obtain ⟨s, hs⟩ : ∃ s, s = ps[j].1 := ⟨_, rfl⟩
          obtain ⟨x, hx⟩ : ∃ x, x = ps[j].2 := ⟨_, rfl⟩
          rw [← hs] at c0 hs1 hnum hones hpl
          rw [← hx] at c1 hx1 hnum hones hpl
          clear hs hx
          obtain ⟨k, hk⟩ : ∃ k, k = s % 66 := ⟨_, rfl⟩
          rw [← hk] at hnum hones hpl
          have hk' : (s : Int) % 66 = (k : Int) := by omega
          have hk66 : k < 66 := by omega
          clear hk
          have d0 := (hB.cell (p := ⟨b, o + j * 2, none⟩) (World.block_lt_of_cell? w _ c0)).trans c0
          have d1 := (hB.cell (p := ⟨b, o + j * 2 + 1, none⟩) (World.block_lt_of_cell? w _ c1)).trans c1
          have hbw := World.block_lt_of_cell? w _ c1
          simp at hbw
          have hsz := hB.size
          clear c0
          have HNU := Lib.hid hnum; clear hnum
          have HON := Lib.hid hones; clear hones
          have HPL := Lib.hid hpl; clear hpl
          by_cases hk65 : k < 65
          · obtain ⟨hval, hfit⟩ := HNU.out hk65
            have hp := HPL.out
            rw [if_pos hk65] at hp
            have HP := Lib.hid hp; clear hp
            obtain ⟨y, hy⟩ : ∃ y, y = valL (numBits x k) := ⟨_, rfl⟩
            have C1 := rnum_yes rb 0 _ vr (pack (allBits ps)) _ false k wr.drew hR.drew hfit
            rw [hval, ← hy] at C1
            have g2 : decide ((k : Int) < 65) = true := by simp; omega
            have g3 : ((k : Int) == 65) = false := by simp; omega
            clear hval
            have HY := Lib.hid hy; clear hy
            have hbr : b ≠ rb := by omega
            go_wp2_with fail
            rw [hk']
            -- REGION A
            refine wp_region_held_drew (S := (fun w' : World => w'.cell? ⟨b, o + j * 2 + 1, none⟩ = some (.int .u64 x))) (by kernel_rfl) (d1) (fun hHeld => ?_)
            refine wpAnyH_take (i := 0) (v := ?v1) rfl (by kernel_rfl) (by kernel_rfl) (by kernel_rfl) (fun _ _ _ h => h) (Or.inl ⟨by rfl, ?hy1⟩) hHeld ?rest1
            case hy1 => (intro w' hSw; (try dsimp only at hSw); go_simp; (try with_reducible rfl))
            try simp only [Act.put, List.setIfInBounds_toArray, List.set_cons_zero, List.set_cons_succ, List.getElem_toArray, List.getElem_cons_zero, List.getElem_cons_succ]
            refine wpAnyH_take (i := 1) (v := ?v2) rfl (by kernel_rfl) (by kernel_rfl) (by kernel_rfl) (fun _ _ _ h => h) (Or.inl ⟨by rfl, ?hy2⟩) hHeld ?rest2
            case hy2 => (intro w' hSw; (try dsimp only at hSw); go_simp; (try with_reducible rfl))
            try simp only [Act.put, List.setIfInBounds_toArray, List.set_cons_zero, List.set_cons_succ, List.getElem_toArray, List.getElem_cons_zero, List.getElem_cons_succ]
            refine wpAnyH_take (i := 2) (v := ?v3) rfl (by kernel_rfl) (by kernel_rfl) (by kernel_rfl) (fun _ _ _ h => h) (Or.inl ⟨by rfl, ?hy3⟩) hHeld ?rest3
            case hy3 => (intro w' hSw; (try dsimp only at hSw); go_simp; (try with_reducible rfl))
            try simp only [Act.put, List.setIfInBounds_toArray, List.set_cons_zero, List.set_cons_succ, List.getElem_toArray, List.getElem_cons_zero, List.getElem_cons_succ]
            refine wpAnyH_take (i := 3) (v := ?v4) rfl (by kernel_rfl) (by kernel_rfl) (by kernel_rfl) (fun _ _ _ h => h) (Or.inl ⟨by rfl, ?hy4⟩) hHeld ?rest4
            case hy4 => (intro w' hSw; (try dsimp only at hSw); go_simp; (try with_reducible rfl))
            try simp only [Act.put, List.setIfInBounds_toArray, List.set_cons_zero, List.set_cons_succ, List.getElem_toArray, List.getElem_cons_zero, List.getElem_cons_succ]
            refine wpAnyH_take (i := 4) (v := ?v5) rfl (by kernel_rfl) (by kernel_rfl) (by kernel_rfl) (fun _ _ _ h => h) (Or.inl ⟨by rfl, ?hy5⟩) hHeld ?rest5
            case hy5 => (intro w' hSw; (try dsimp only at hSw); go_simp; (try with_reducible rfl))
            try simp only [Act.put, List.setIfInBounds_toArray, List.set_cons_zero, List.set_cons_succ, List.getElem_toArray, List.getElem_cons_zero, List.getElem_cons_succ]
            refine wpAnyH_take (i := 6) (v := ?v6) rfl (by kernel_rfl) (by kernel_rfl) (by kernel_rfl) (fun _ _ _ h => h) (Or.inl ⟨by rfl, ?hy6⟩) hHeld ?rest6
            case hy6 => (intro w' hSw; (try dsimp only at hSw); go_simp; (try with_reducible rfl))
            try simp only [Act.put, List.setIfInBounds_toArray, List.set_cons_zero, List.set_cons_succ, List.getElem_toArray, List.getElem_cons_zero, List.getElem_cons_succ]
            refine wpAnyH_take (i := 7) (v := ?v7) rfl (by kernel_rfl) (by kernel_rfl) (by kernel_rfl) (fun _ _ _ h => h) (Or.inl ⟨by rfl, ?hy7⟩) hHeld ?rest7
            case hy7 => (intro w' hSw; (try dsimp only at hSw); go_simp; (try with_reducible rfl))
            try simp only [Act.put, List.setIfInBounds_toArray, List.set_cons_zero, List.set_cons_succ, List.getElem_toArray, List.getElem_cons_zero, List.getElem_cons_succ]
            refine wpAnyH_take (i := 8) (v := ?v8) rfl (by kernel_rfl) (by kernel_rfl) (by kernel_rfl) (fun _ _ _ h => h) (Or.inl ⟨by rfl, ?hy8⟩) hHeld ?rest8
            case hy8 => (intro w' hSw; (try dsimp only at hSw); go_simp; (try with_reducible rfl))
            try simp only [Act.put, List.setIfInBounds_toArray, List.set_cons_zero, List.set_cons_succ, List.getElem_toArray, List.getElem_cons_zero, List.getElem_cons_succ]
            refine wpAnyH_take (i := 9) (v := ?v9) rfl (by kernel_rfl) (by kernel_rfl) (by kernel_rfl) (fun _ _ _ h => h) (Or.inl ⟨by rfl, ?hy9⟩) hHeld ?rest9
            case hy9 => (intro w' hSw; (try dsimp only at hSw); go_simp; (try with_reducible rfl))
            try simp only [Act.put, List.setIfInBounds_toArray, List.set_cons_zero, List.set_cons_succ, List.getElem_toArray, List.getElem_cons_zero, List.getElem_cons_succ]
            refine wpAnyH_take (i := 10) (v := ?v10) rfl (by kernel_rfl) (by kernel_rfl) (by kernel_rfl) (fun _ _ _ h => h) (Or.inl ⟨by rfl, ?hy10⟩) hHeld ?rest10
            case hy10 => (intro w' hSw; (try dsimp only at hSw); go_simp; (try with_reducible rfl))
            try simp only [Act.put, List.setIfInBounds_toArray, List.set_cons_zero, List.set_cons_succ, List.getElem_toArray, List.getElem_cons_zero, List.getElem_cons_succ]
            refine wpAnyH_take (i := 11) (v := ?v11) rfl (by kernel_rfl) (by kernel_rfl) (by kernel_rfl) (fun _ _ _ h => h) (Or.inl ⟨by rfl, ?hy11⟩) hHeld ?rest11
            case hy11 => (intro w' hSw; (try dsimp only at hSw); go_simp; (try with_reducible rfl))
            try simp only [Act.put, List.setIfInBounds_toArray, List.set_cons_zero, List.set_cons_succ, List.getElem_toArray, List.getElem_cons_zero, List.getElem_cons_succ]
            refine wpAnyH_ready (rs := [5]) (by kernel_rfl) (by simp) ?_
            refine AllReadyH.cons rfl (fun K hK => ?_) AllReadyH.nil
            go_simp
            refine C1.mono ?_
            rintro e w5 ⟨rfl, hR5, hT5⟩
            have d2 := (hT5.cell (p := ⟨b, o + j * 2 + 1, none⟩) (by show b < _; simp; omega) hbr).trans d1
            try go_wp2_with fail
            refine hK.out _ _ (d2) (fun hHeld => ?_)
            clear hK K
            try simp only [Act.put, List.setIfInBounds_toArray, List.set_cons_zero, List.set_cons_succ, List.getElem_toArray, List.getElem_cons_zero, List.getElem_cons_succ]
            refine wpAnyH_ready (rs := [12]) (by kernel_rfl) (by simp) ?_
            refine AllReadyH.cons rfl (fun K hK => ?_) AllReadyH.nil
            go_simp
            refine (refNum_any k x _ hx1 (by omega)).mono ?_
            rintro e w6 ⟨v6, rfl, ho6, hB6⟩
            have d3 := (hB6.cell (p := ⟨b, o + j * 2 + 1, none⟩) (World.block_lt_of_cell? _ _ d2)).trans d2
            have C3 := refValue_any v6 (numBits x k) w6 (by rw [numBits_length]; exact Sl.of_own ho6) (by rw [numBits_length]; omega)
            rw [← HY.out] at C3
            try go_wp2_with fail
            refine hK.out _ _ (d3) (fun hHeld => ?_)
            clear hK K
            try simp only [Act.put, List.setIfInBounds_toArray, List.set_cons_zero, List.set_cons_succ, List.getElem_toArray, List.getElem_cons_zero, List.getElem_cons_succ]
            refine wpAnyH_ready (rs := [13]) (by kernel_rfl) (by simp) ?_
            refine AllReadyH.cons rfl (fun K hK => ?_) AllReadyH.nil
            go_simp
            refine C3.mono ?_
            rintro e w7 ⟨rfl, rfl⟩
            try go_wp2_with fail
            refine hK.out _ _ (d3) (fun hHeld => ?_)
            clear hK K
            try simp only [Act.put, List.setIfInBounds_toArray, List.set_cons_zero, List.set_cons_succ, List.getElem_toArray, List.getElem_cons_zero, List.getElem_cons_succ]
            refine wpAnyH_take (i := 14) (v := ?v15) rfl (by kernel_rfl) (by kernel_rfl) (by kernel_rfl) (fun _ _ _ h => h) (Or.inl ⟨by rfl, ?hy15⟩) hHeld ?rest15
            case hy15 => (intro w' hSw; (try dsimp only at hSw); go_simp; (try with_reducible rfl))
            try simp only [Act.put, List.setIfInBounds_toArray, List.set_cons_zero, List.set_cons_succ, List.getElem_toArray, List.getElem_cons_zero, List.getElem_cons_succ]
            refine wpAnyH_take (i := 15) (v := ?v16) rfl (by kernel_rfl) (by kernel_rfl) (by kernel_rfl) (fun _ _ _ h => h) (Or.inl ⟨by rfl, ?hy16⟩) hHeld ?rest16
            case hy16 => (intro w' hSw; (try dsimp only at hSw); go_simp; (try with_reducible rfl))
            try simp only [Act.put, List.setIfInBounds_toArray, List.set_cons_zero, List.set_cons_succ, List.getElem_toArray, List.getElem_cons_zero, List.getElem_cons_succ]
            refine wpAnyH_take (i := 16) (v := ?v17) rfl (by kernel_rfl) (by kernel_rfl) (by kernel_rfl) (fun _ _ _ h => h) (Or.inl ⟨by rfl, ?hy17⟩) hHeld ?rest17
            case hy17 => (intro w' hSw; (try dsimp only at hSw); go_simp; (try with_reducible rfl))
            try simp only [Act.put, List.setIfInBounds_toArray, List.set_cons_zero, List.set_cons_succ, List.getElem_toArray, List.getElem_cons_zero, List.getElem_cons_succ]
            refine wpAnyH_take (i := 17) (v := ?v18) rfl (by kernel_rfl) (by kernel_rfl) (by kernel_rfl) (fun _ _ _ h => h) (Or.inl ⟨by rfl, ?hy18⟩) hHeld ?rest18
            case hy18 => (intro w' hSw; (try dsimp only at hSw); go_simp; (try with_reducible rfl))
            try simp only [Act.put, List.setIfInBounds_toArray, List.set_cons_zero, List.set_cons_succ, List.getElem_toArray, List.getElem_cons_zero, List.getElem_cons_succ]
            refine wpAnyH_take (i := 18) (v := ?v19) rfl (by kernel_rfl) (by kernel_rfl) (by kernel_rfl) (fun _ _ _ h => h) (Or.inl ⟨by rfl, ?hy19⟩) hHeld ?rest19
            case hy19 => (intro w' hSw; (try dsimp only at hSw); go_simp; (try with_reducible rfl))
            try simp only [Act.put, List.setIfInBounds_toArray, List.set_cons_zero, List.set_cons_succ, List.getElem_toArray, List.getElem_cons_zero, List.getElem_cons_succ]
            refine wpAnyH_take (i := 19) (v := ?v20) rfl (by kernel_rfl) (by kernel_rfl) (by kernel_rfl) (fun _ _ _ h => h) (Or.inl ⟨by rfl, ?hy20⟩) hHeld ?rest20
            case hy20 => (intro w' hSw; (try dsimp only at hSw); go_simp; (try with_reducible rfl))
            try simp only [Act.put, List.setIfInBounds_toArray, List.set_cons_zero, List.set_cons_succ, List.getElem_toArray, List.getElem_cons_zero, List.getElem_cons_succ]
            refine wpAnyH_take (i := 20) (v := undef) rfl (by kernel_rfl) (by kernel_rfl) (by kernel_rfl) (fun _ _ _ h => h) (Or.inr ⟨by rfl, rfl⟩) hHeld ?_
            try simp only [Act.put, List.setIfInBounds_toArray, List.set_cons_zero, List.set_cons_succ, List.getElem_toArray, List.getElem_cons_zero, List.getElem_cons_succ]
            refine wpAnyH_take (i := 21) (v := undef) rfl (by kernel_rfl) (by kernel_rfl) (by kernel_rfl) (fun _ _ _ h => h) (Or.inr ⟨by rfl, rfl⟩) hHeld ?_
            try simp only [Act.put, List.setIfInBounds_toArray, List.set_cons_zero, List.set_cons_succ, List.getElem_toArray, List.getElem_cons_zero, List.getElem_cons_succ]
            refine wpAnyH_take (i := 22) (v := undef) rfl (by kernel_rfl) (by kernel_rfl) (by kernel_rfl) (fun _ _ _ h => h) (Or.inr ⟨by rfl, rfl⟩) hHeld ?_
            try simp only [Act.put, List.setIfInBounds_toArray, List.set_cons_zero, List.set_cons_succ, List.getElem_toArray, List.getElem_cons_zero, List.getElem_cons_succ]
            refine wpAnyH_take (i := 23) (v := undef) rfl (by kernel_rfl) (by kernel_rfl) (by kernel_rfl) (fun _ _ _ h => h) (Or.inr ⟨by rfl, rfl⟩) hHeld ?_
            try simp only [Act.put, List.setIfInBounds_toArray, List.set_cons_zero, List.set_cons_succ, List.getElem_toArray, List.getElem_cons_zero, List.getElem_cons_succ]
            refine wpAnyH_take (i := 24) (v := undef) rfl (by kernel_rfl) (by kernel_rfl) (by kernel_rfl) (fun _ _ _ h => h) (Or.inr ⟨by rfl, rfl⟩) hHeld ?_
            try simp only [Act.put, List.setIfInBounds_toArray, List.set_cons_zero, List.set_cons_succ, List.getElem_toArray, List.getElem_cons_zero, List.getElem_cons_succ]
            refine wpAnyH_take (i := 25) (v := undef) rfl (by kernel_rfl) (by kernel_rfl) (by kernel_rfl) (fun _ _ _ h => h) (Or.inr ⟨by rfl, rfl⟩) hHeld ?_
            try simp only [Act.put, List.setIfInBounds_toArray, List.set_cons_zero, List.set_cons_succ, List.getElem_toArray, List.getElem_cons_zero, List.getElem_cons_succ]
            refine wpAnyH_take (i := 26) (v := undef) rfl (by kernel_rfl) (by kernel_rfl) (by kernel_rfl) (fun _ _ _ h => h) (Or.inr ⟨by rfl, rfl⟩) hHeld ?_
            try simp only [Act.put, List.setIfInBounds_toArray, List.set_cons_zero, List.set_cons_succ, List.getElem_toArray, List.getElem_cons_zero, List.getElem_cons_succ]
            refine wpAnyH_take (i := 27) (v := undef) rfl (by kernel_rfl) (by kernel_rfl) (by kernel_rfl) (fun _ _ _ h => h) (Or.inr ⟨by rfl, rfl⟩) hHeld ?_
            try simp only [Act.put, List.setIfInBounds_toArray, List.set_cons_zero, List.set_cons_succ, List.getElem_toArray, List.getElem_cons_zero, List.getElem_cons_succ]
            refine wpAnyH_take (i := 28) (v := undef) rfl (by kernel_rfl) (by kernel_rfl) (by kernel_rfl) (fun _ _ _ h => h) (Or.inr ⟨by rfl, rfl⟩) hHeld ?_
            try simp only [Act.put, List.setIfInBounds_toArray, List.set_cons_zero, List.set_cons_succ, List.getElem_toArray, List.getElem_cons_zero, List.getElem_cons_succ]
            refine wpAnyH_take (i := 29) (v := undef) rfl (by kernel_rfl) (by kernel_rfl) (by kernel_rfl) (fun _ _ _ h => h) (Or.inr ⟨by rfl, rfl⟩) hHeld ?_
            try simp only [Act.put, List.setIfInBounds_toArray, List.set_cons_zero, List.set_cons_succ, List.getElem_toArray, List.getElem_cons_zero, List.getElem_cons_succ]
            refine wpAnyH_take (i := 30) (v := ?v31) rfl (by kernel_rfl) (by kernel_rfl) (by kernel_rfl) (fun _ _ _ h => h) (Or.inl ⟨by rfl, ?hy31⟩) hHeld ?rest31
            case hy31 => (intro w' hSw; (try dsimp only at hSw); go_simp; (try with_reducible rfl))
            try simp only [Act.put, List.setIfInBounds_toArray, List.set_cons_zero, List.set_cons_succ, List.getElem_toArray, List.getElem_cons_zero, List.getElem_cons_succ]
            refine wpAnyH_take (i := 31) (v := ?v32) rfl (by kernel_rfl) (by kernel_rfl) (by kernel_rfl) (fun _ _ _ h => h) (Or.inl ⟨by rfl, ?hy32⟩) hHeld ?rest32
            case hy32 => (intro w' hSw; (try dsimp only at hSw); go_simp; (try with_reducible rfl))
            try simp only [Act.put, List.setIfInBounds_toArray, List.set_cons_zero, List.set_cons_succ, List.getElem_toArray, List.getElem_cons_zero, List.getElem_cons_succ]
            refine wpAnyH_done (by kernel_rfl) ?_ _
            -- END A
            have hB7 : Below w.heap.size w w6 := (hT5.old (Below.trans hB (Below.drew (Below.refl _ _))) hsz (by intro q hq; show ¬ q = rb; omega)).trans (hB6.mono (by have := hT5.size; simp at this; omega))
            have hW7 := ((hW.drewN 1).turned hT5 (by show ¬ _ = rb; omega) (by intro q hq; have := hv3 q hq; show ¬ q = rb; omega)).below hB6
            have hR7 := hR5.below hB6
            clear hT5 hB6 hR5 d1 d2 d3 C1 C3 ho6 hB hW hR
            go_wp2
            go_roundw
            case rel => exact ⟨j + 1, by omega, by go_num, by rw [HP.out]; exact hR7, hW7, hB7⟩
            case measure => simp [intOf]; omega
          · obtain rfl : k = 65 := by omega
            have hp := HPL.out
            rw [if_neg (by omega)] at hp
            have HP := Lib.hid hp; clear hp
            obtain ⟨hfit, ho1, ho2⟩ := HON.out (by omega)
            obtain ⟨m, hm⟩ : ∃ m, m = x % 50 := ⟨_, rfl⟩
            have hm' : (x : Int) % 50 = (m : Int) := by omega
            have hm50 : m < 50 := by omega
            rw [← hm] at hfit ho1 ho2 HP
            clear hm
            have C1 := rones_yes rb 0 _ vr (pack (allBits ps)) _ false m 49 wr.drew hR.drew hfit ho1 ho2 (by omega)
            have hbr : b ≠ rb := by omega
            clear ho1 ho2
            have htm : IntKind.i64.wrap ((x : Int).tmod 50) = (m : Int) := by rw [Int.tmod_eq_emod_of_nonneg (by omega), hm', IntKind.wrap_i64]; omega
            go_wp2_with fail
            rw [hk']
            -- REGION B
            refine wp_region_held_drew (S := (fun w' : World => w'.cell? ⟨b, o + j * 2 + 1, none⟩ = some (.int .u64 x))) (by kernel_rfl) (d1) (fun hHeld => ?_)
            refine wpAnyH_take (i := 0) (v := ?v33) rfl (by kernel_rfl) (by kernel_rfl) (by kernel_rfl) (fun _ _ _ h => h) (Or.inl ⟨by rfl, ?hy33⟩) hHeld ?rest33
            case hy33 => (intro w' hSw; (try dsimp only at hSw); go_simp; (try with_reducible rfl))
            try simp only [Act.put, List.setIfInBounds_toArray, List.set_cons_zero, List.set_cons_succ, List.getElem_toArray, List.getElem_cons_zero, List.getElem_cons_succ]
            refine wpAnyH_take (i := 1) (v := ?v34) rfl (by kernel_rfl) (by kernel_rfl) (by kernel_rfl) (fun _ _ _ h => h) (Or.inl ⟨by rfl, ?hy34⟩) hHeld ?rest34
            case hy34 => (intro w' hSw; (try dsimp only at hSw); go_simp; (try with_reducible rfl))
            try simp only [Act.put, List.setIfInBounds_toArray, List.set_cons_zero, List.set_cons_succ, List.getElem_toArray, List.getElem_cons_zero, List.getElem_cons_succ]
            refine wpAnyH_take (i := 2) (v := ?v35) rfl (by kernel_rfl) (by kernel_rfl) (by kernel_rfl) (fun _ _ _ h => h) (Or.inl ⟨by rfl, ?hy35⟩) hHeld ?rest35
            case hy35 => (intro w' hSw; (try dsimp only at hSw); go_simp; (try with_reducible rfl))
            try simp only [Act.put, List.setIfInBounds_toArray, List.set_cons_zero, List.set_cons_succ, List.getElem_toArray, List.getElem_cons_zero, List.getElem_cons_succ]
            refine wpAnyH_take (i := 3) (v := undef) rfl (by kernel_rfl) (by kernel_rfl) (by kernel_rfl) (fun _ _ _ h => h) (Or.inr ⟨by rfl, rfl⟩) hHeld ?_
            try simp only [Act.put, List.setIfInBounds_toArray, List.set_cons_zero, List.set_cons_succ, List.getElem_toArray, List.getElem_cons_zero, List.getElem_cons_succ]
            refine wpAnyH_take (i := 4) (v := undef) rfl (by kernel_rfl) (by kernel_rfl) (by kernel_rfl) (fun _ _ _ h => h) (Or.inr ⟨by rfl, rfl⟩) hHeld ?_
            try simp only [Act.put, List.setIfInBounds_toArray, List.set_cons_zero, List.set_cons_succ, List.getElem_toArray, List.getElem_cons_zero, List.getElem_cons_succ]
            refine wpAnyH_take (i := 5) (v := undef) rfl (by kernel_rfl) (by kernel_rfl) (by kernel_rfl) (fun _ _ _ h => h) (Or.inr ⟨by rfl, rfl⟩) hHeld ?_
            try simp only [Act.put, List.setIfInBounds_toArray, List.set_cons_zero, List.set_cons_succ, List.getElem_toArray, List.getElem_cons_zero, List.getElem_cons_succ]
            refine wpAnyH_take (i := 6) (v := undef) rfl (by kernel_rfl) (by kernel_rfl) (by kernel_rfl) (fun _ _ _ h => h) (Or.inr ⟨by rfl, rfl⟩) hHeld ?_
            try simp only [Act.put, List.setIfInBounds_toArray, List.set_cons_zero, List.set_cons_succ, List.getElem_toArray, List.getElem_cons_zero, List.getElem_cons_succ]
            refine wpAnyH_take (i := 7) (v := undef) rfl (by kernel_rfl) (by kernel_rfl) (by kernel_rfl) (fun _ _ _ h => h) (Or.inr ⟨by rfl, rfl⟩) hHeld ?_
            try simp only [Act.put, List.setIfInBounds_toArray, List.set_cons_zero, List.set_cons_succ, List.getElem_toArray, List.getElem_cons_zero, List.getElem_cons_succ]
            refine wpAnyH_take (i := 8) (v := undef) rfl (by kernel_rfl) (by kernel_rfl) (by kernel_rfl) (fun _ _ _ h => h) (Or.inr ⟨by rfl, rfl⟩) hHeld ?_
            try simp only [Act.put, List.setIfInBounds_toArray, List.set_cons_zero, List.set_cons_succ, List.getElem_toArray, List.getElem_cons_zero, List.getElem_cons_succ]
            refine wpAnyH_take (i := 9) (v := undef) rfl (by kernel_rfl) (by kernel_rfl) (by kernel_rfl) (fun _ _ _ h => h) (Or.inr ⟨by rfl, rfl⟩) hHeld ?_
            try simp only [Act.put, List.setIfInBounds_toArray, List.set_cons_zero, List.set_cons_succ, List.getElem_toArray, List.getElem_cons_zero, List.getElem_cons_succ]
            refine wpAnyH_take (i := 10) (v := undef) rfl (by kernel_rfl) (by kernel_rfl) (by kernel_rfl) (fun _ _ _ h => h) (Or.inr ⟨by rfl, rfl⟩) hHeld ?_
            try simp only [Act.put, List.setIfInBounds_toArray, List.set_cons_zero, List.set_cons_succ, List.getElem_toArray, List.getElem_cons_zero, List.getElem_cons_succ]
            refine wpAnyH_take (i := 11) (v := undef) rfl (by kernel_rfl) (by kernel_rfl) (by kernel_rfl) (fun _ _ _ h => h) (Or.inr ⟨by rfl, rfl⟩) hHeld ?_
            try simp only [Act.put, List.setIfInBounds_toArray, List.set_cons_zero, List.set_cons_succ, List.getElem_toArray, List.getElem_cons_zero, List.getElem_cons_succ]
            refine wpAnyH_take (i := 12) (v := undef) rfl (by kernel_rfl) (by kernel_rfl) (by kernel_rfl) (fun _ _ _ h => h) (Or.inr ⟨by rfl, rfl⟩) hHeld ?_
            try simp only [Act.put, List.setIfInBounds_toArray, List.set_cons_zero, List.set_cons_succ, List.getElem_toArray, List.getElem_cons_zero, List.getElem_cons_succ]
            refine wpAnyH_take (i := 13) (v := undef) rfl (by kernel_rfl) (by kernel_rfl) (by kernel_rfl) (fun _ _ _ h => h) (Or.inr ⟨by rfl, rfl⟩) hHeld ?_
            try simp only [Act.put, List.setIfInBounds_toArray, List.set_cons_zero, List.set_cons_succ, List.getElem_toArray, List.getElem_cons_zero, List.getElem_cons_succ]
            refine wpAnyH_take (i := 14) (v := undef) rfl (by kernel_rfl) (by kernel_rfl) (by kernel_rfl) (fun _ _ _ h => h) (Or.inr ⟨by rfl, rfl⟩) hHeld ?_
            try simp only [Act.put, List.setIfInBounds_toArray, List.set_cons_zero, List.set_cons_succ, List.getElem_toArray, List.getElem_cons_zero, List.getElem_cons_succ]
            refine wpAnyH_take (i := 15) (v := ?v48) rfl (by kernel_rfl) (by kernel_rfl) (by kernel_rfl) (fun _ _ _ h => h) (Or.inl ⟨by rfl, ?hy48⟩) hHeld ?rest48
            case hy48 => (intro w' hSw; (try dsimp only at hSw); go_simp; (try with_reducible rfl))
            try simp only [Act.put, List.setIfInBounds_toArray, List.set_cons_zero, List.set_cons_succ, List.getElem_toArray, List.getElem_cons_zero, List.getElem_cons_succ]
            refine wpAnyH_take (i := 16) (v := ?v49) rfl (by kernel_rfl) (by kernel_rfl) (by kernel_rfl) (fun _ _ _ h => h) (Or.inl ⟨by rfl, ?hy49⟩) hHeld ?rest49
            case hy49 => (intro w' hSw; (try dsimp only at hSw); go_simp; (try with_reducible rfl))
            try simp only [Act.put, List.setIfInBounds_toArray, List.set_cons_zero, List.set_cons_succ, List.getElem_toArray, List.getElem_cons_zero, List.getElem_cons_succ]
            refine wpAnyH_take (i := 17) (v := ?v50) rfl (by kernel_rfl) (by kernel_rfl) (by kernel_rfl) (fun _ _ _ h => h) (Or.inl ⟨by rfl, ?hy50⟩) hHeld ?rest50
            case hy50 => (intro w' hSw; (try dsimp only at hSw); go_simp; (try with_reducible rfl))
            try simp only [Act.put, List.setIfInBounds_toArray, List.set_cons_zero, List.set_cons_succ, List.getElem_toArray, List.getElem_cons_zero, List.getElem_cons_succ]
            refine wpAnyH_take (i := 18) (v := ?v51) rfl (by kernel_rfl) (by kernel_rfl) (by kernel_rfl) (fun _ _ _ h => h) (Or.inl ⟨by rfl, ?hy51⟩) hHeld ?rest51
            case hy51 => (intro w' hSw; (try dsimp only at hSw); go_simp; (try with_reducible rfl))
            try simp only [Act.put, List.setIfInBounds_toArray, List.set_cons_zero, List.set_cons_succ, List.getElem_toArray, List.getElem_cons_zero, List.getElem_cons_succ]
            refine wpAnyH_take (i := 19) (v := ?v52) rfl (by kernel_rfl) (by kernel_rfl) (by kernel_rfl) (fun _ _ _ h => h) (Or.inl ⟨by rfl, ?hy52⟩) hHeld ?rest52
            case hy52 => (intro w' hSw; (try dsimp only at hSw); go_simp; (try with_reducible rfl))
            try simp only [Act.put, List.setIfInBounds_toArray, List.set_cons_zero, List.set_cons_succ, List.getElem_toArray, List.getElem_cons_zero, List.getElem_cons_succ]
            refine wpAnyH_take (i := 20) (v := ?v53) rfl (by kernel_rfl) (by kernel_rfl) (by kernel_rfl) (fun _ _ _ h => h) (Or.inl ⟨by rfl, ?hy53⟩) hHeld ?rest53
            case hy53 => (intro w' hSw; (try dsimp only at hSw); go_simp; (try with_reducible rfl))
            try simp only [Act.put, List.setIfInBounds_toArray, List.set_cons_zero, List.set_cons_succ, List.getElem_toArray, List.getElem_cons_zero, List.getElem_cons_succ]
            refine wpAnyH_take (i := 22) (v := ?v54) rfl (by kernel_rfl) (by kernel_rfl) (by kernel_rfl) (fun _ _ _ h => h) (Or.inl ⟨by rfl, ?hy54⟩) hHeld ?rest54
            case hy54 => (intro w' hSw; (try dsimp only at hSw); go_simp; (try with_reducible rfl))
            try simp only [Act.put, List.setIfInBounds_toArray, List.set_cons_zero, List.set_cons_succ, List.getElem_toArray, List.getElem_cons_zero, List.getElem_cons_succ]
            refine wpAnyH_take (i := 23) (v := ?v55) rfl (by kernel_rfl) (by kernel_rfl) (by kernel_rfl) (fun _ _ _ h => h) (Or.inl ⟨by rfl, ?hy55⟩) hHeld ?rest55
            case hy55 => (intro w' hSw; (try dsimp only at hSw); go_simp; (try with_reducible rfl))
            try simp only [Act.put, List.setIfInBounds_toArray, List.set_cons_zero, List.set_cons_succ, List.getElem_toArray, List.getElem_cons_zero, List.getElem_cons_succ]
            refine wpAnyH_take (i := 24) (v := ?v56) rfl (by kernel_rfl) (by kernel_rfl) (by kernel_rfl) (fun _ _ _ h => h) (Or.inl ⟨by rfl, ?hy56⟩) hHeld ?rest56
            case hy56 => (intro w' hSw; (try dsimp only at hSw); go_simp; (try with_reducible rfl))
            try simp only [Act.put, List.setIfInBounds_toArray, List.set_cons_zero, List.set_cons_succ, List.getElem_toArray, List.getElem_cons_zero, List.getElem_cons_succ]
            refine wpAnyH_take (i := 25) (v := ?v57) rfl (by kernel_rfl) (by kernel_rfl) (by kernel_rfl) (fun _ _ _ h => h) (Or.inl ⟨by rfl, ?hy57⟩) hHeld ?rest57
            case hy57 => (intro w' hSw; (try dsimp only at hSw); go_simp; (try with_reducible rfl))
            try simp only [Act.put, List.setIfInBounds_toArray, List.set_cons_zero, List.set_cons_succ, List.getElem_toArray, List.getElem_cons_zero, List.getElem_cons_succ]
            refine wpAnyH_take (i := 26) (v := ?v58) rfl (by kernel_rfl) (by kernel_rfl) (by kernel_rfl) (fun _ _ _ h => h) (Or.inl ⟨by rfl, ?hy58⟩) hHeld ?rest58
            case hy58 => (intro w' hSw; (try dsimp only at hSw); go_simp; (try with_reducible rfl))
            try simp only [Act.put, List.setIfInBounds_toArray, List.set_cons_zero, List.set_cons_succ, List.getElem_toArray, List.getElem_cons_zero, List.getElem_cons_succ]
            refine wpAnyH_take (i := 27) (v := ?v59) rfl (by kernel_rfl) (by kernel_rfl) (by kernel_rfl) (fun _ _ _ h => h) (Or.inl ⟨by rfl, ?hy59⟩) hHeld ?rest59
            case hy59 => (intro w' hSw; (try dsimp only at hSw); go_simp; (try with_reducible rfl))
            try simp only [Act.put, List.setIfInBounds_toArray, List.set_cons_zero, List.set_cons_succ, List.getElem_toArray, List.getElem_cons_zero, List.getElem_cons_succ]
            refine wpAnyH_take (i := 28) (v := ?v60) rfl (by kernel_rfl) (by kernel_rfl) (by kernel_rfl) (fun _ _ _ h => h) (Or.inl ⟨by rfl, ?hy60⟩) hHeld ?rest60
            case hy60 => (intro w' hSw; (try dsimp only at hSw); go_simp; (try with_reducible rfl))
            try simp only [Act.put, List.setIfInBounds_toArray, List.set_cons_zero, List.set_cons_succ, List.getElem_toArray, List.getElem_cons_zero, List.getElem_cons_succ]
            refine wpAnyH_ready (rs := [21]) (by kernel_rfl) (by simp) ?_
            refine AllReadyH.cons rfl (fun K hK => ?_) AllReadyH.nil
            go_simp
            refine C1.mono ?_
            rintro e w5 ⟨rfl, hR5, hT5⟩
            have d2 := (hT5.cell (p := ⟨b, o + j * 2 + 1, none⟩) (by show b < _; simp; omega) hbr).trans d1
            try go_wp2_with fail
            refine hK.out _ _ (d2) (fun hHeld => ?_)
            clear hK K
            try simp only [Act.put, List.setIfInBounds_toArray, List.set_cons_zero, List.set_cons_succ, List.getElem_toArray, List.getElem_cons_zero, List.getElem_cons_succ]
            refine wpAnyH_take (i := 29) (v := ?v62) rfl (by kernel_rfl) (by kernel_rfl) (by kernel_rfl) (fun _ _ _ h => h) (Or.inl ⟨by rfl, ?hy62⟩) hHeld ?rest62
            case hy62 => (intro w' hSw; (try dsimp only at hSw); go_simp; (try with_reducible rfl))
            try simp only [Act.put, List.setIfInBounds_toArray, List.set_cons_zero, List.set_cons_succ, List.getElem_toArray, List.getElem_cons_zero, List.getElem_cons_succ]
            refine wpAnyH_take (i := 30) (v := ?v63) rfl (by kernel_rfl) (by kernel_rfl) (by kernel_rfl) (fun _ _ _ h => h) (Or.inl ⟨by rfl, ?hy63⟩) hHeld ?rest63
            case hy63 => (intro w' hSw; (try dsimp only at hSw); go_simp; (try with_reducible rfl))
            try simp only [Act.put, List.setIfInBounds_toArray, List.set_cons_zero, List.set_cons_succ, List.getElem_toArray, List.getElem_cons_zero, List.getElem_cons_succ]
            refine wpAnyH_take (i := 31) (v := ?v64) rfl (by kernel_rfl) (by kernel_rfl) (by kernel_rfl) (fun _ _ _ h => h) (Or.inl ⟨by rfl, ?hy64⟩) hHeld ?rest64
            case hy64 => (intro w' hSw; (try dsimp only at hSw); go_simp; (try with_reducible rfl))
            try simp only [Act.put, List.setIfInBounds_toArray, List.set_cons_zero, List.set_cons_succ, List.getElem_toArray, List.getElem_cons_zero, List.getElem_cons_succ]
            refine wpAnyH_done (by kernel_rfl) ?_ _
            -- END B
            have hB7 : Below w.heap.size w w5 := hT5.old (Below.trans hB (Below.drew (Below.refl _ _))) hsz (by intro q hq; show ¬ q = rb; omega)
            have hW7 := (hW.drewN 1).turned hT5 (by show ¬ _ = rb; omega) (by intro q hq; have := hv3 q hq; show ¬ q = rb; omega)
            clear hT5 d1 d2 C1 hB hW hR
            go_wp2
            exact ⟨⟨j + 1, by omega, by go_num, by rw [HP.out]; exact hR5, hW7, hB7⟩, by simp [intOf]; omega⟩
        · obtain rfl : j = i := by omega
          rw [List.take_of_length_le (by rw [← HN.out]; exact Nat.le_refl _)] at hR
          have hcl := pack_close (allBits ps)
          have C3 := close_any rb 0 _ vr (pack (allBits ps)) _ false wr hR
          rw [hcl] at C3
          have he : (((allBits ps).length : Int) == ((allBits ps).length : Int)) = true := by simp
          clear hcl
          go_wp2_with fail
          refine (at_any rb 0 _ _ _ _ _ _ hR).mono ?_
          rintro e w5 ⟨rfl, rfl⟩
          go_wp2_with fail
          refine (len_any _ _ _ _ _ _ hW).mono ?_
          rintro e w6 ⟨rfl, rfl⟩
          go_wp2_with fail
          refine (right_any rb 0 _ _ _ _ _ _ hR).mono ?_
          rintro e w7 ⟨rfl, rfl⟩
          go_wp2_with fail
          refine C3.mono ?_
          rintro e w8 ⟨rfl, _, hT8⟩
          have hB8 : Below w.heap.size w w8 := hT8.old hB hB.size (by intro q hq; show ¬ q = rb; omega)
          clear hT8 C3 hB hR hW
          go_wp2_with fail
          refine (works_any _).mono ?_
          rintro e w9 ⟨rfl, hB9⟩
          have hfin := hB8.trans (hB9.mono hB8.size)
          go_wp2_with fail
          go_ret
          exact ⟨rfl, hfin⟩
end Go.Proofs.Ytjbapbenlaccfaa
