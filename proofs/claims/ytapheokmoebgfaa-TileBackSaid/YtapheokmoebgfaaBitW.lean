/-
  The writer of bits: what it holds, and what each of its methods does.
-/
import Derived.Test.YtapheokmoebgfaaRows
import Derived.Test.YtapheokmoebgfaaBytes
import Derived.Test.YtapheokmoebgfaaClone
import Derived.Test.YtapheokmoebgfaaBitsSpec
import Derived.Deep.QuietTactic
import Derived.BigQuiet
import Derived.Lib.Hide
import Derived.WalkSpells
set_option linter.unusedVariables false
set_option linter.unusedSimpArgs false
namespace Go.Proofs.Ytapheokmoebgfaa
open Go.RowKit Go.Th

structure WInv (w : World) (pb po base : Nat) (v : Value) (l : List Bool) : Prop where
  c0 : w.cell? ⟨pb, po, none⟩ = some v
  c1 : w.cell? ⟨pb, po + 1, none⟩ = some (.int .i64 (l.length : Nat))
  f0 : w.frozen? ⟨pb, po, none⟩ = false
  f1 : w.frozen? ⟨pb, po + 1, none⟩ = false
  own : w.ownsRow base 5 1 v ((l.length + 7) / 8) (u8s (pack l))
  ne : v.ownBlock ≠ some pb

theorem WInv.drew {w : World} {pb po base : Nat} {v : Value} {l : List Bool} (h : WInv w pb po base v l) : WInv w.drew pb po base v l :=
  ⟨h.c0, h.c1, h.f0, h.f1, h.own, h.ne⟩

theorem WInv.lt {w : World} {pb po base : Nat} {v : Value} {l : List Bool} (h : WInv w pb po base v l) : pb < w.heap.size := by
  have := World.block_lt_of_cell? w _ h.c0
  simpa using this

/-- What a call on the writer may have turned: itself, the row of its bytes, and new blocks. -/
structure WGo (pb : Nat) (w w' : World) (v v' : Value) : Prop where
  turned : Turned (fun k => k = pb ∨ v.ownBlock = some k) w w'
  new : v'.ownBlock = v.ownBlock ∨ ∃ g, v'.ownBlock = some g ∧ w.heap.size ≤ g

theorem WGo.refl (pb : Nat) (w : World) (v : Value) : WGo pb w w v v := ⟨Turned.refl _ _, .inl rfl⟩
theorem WGo.trans {pb : Nat} {w w' w'' : World} {v v' v'' : Value} (h : WGo pb w w' v v') (k : WGo pb w' w'' v' v'') : WGo pb w w'' v v'' := by
  refine ⟨h.turned.trans k.turned ?_, ?_⟩
  · rintro j hj (rfl | h1)
    · exact .inl rfl
    · rcases h.new with e | ⟨g, e, hg⟩
      · exact .inr (e ▸ h1)
      · rw [e] at h1; cases h1; omega
  · rcases k.new with e | ⟨g, e, hg⟩
    · rw [e]; exact h.new
    · exact .inr ⟨g, e, Nat.le_trans h.turned.size hg⟩

theorem winv_count {w : World} {pb po base : Nat} {u1 v : Value} {m : Int} {L : List Bool}
    (c0 : w.cell? ⟨pb, po, none⟩ = some v) (c1 : w.cell? ⟨pb, po + 1, none⟩ = some u1) (f0 : w.frozen? ⟨pb, po, none⟩ = false) (f1 : w.frozen? ⟨pb, po + 1, none⟩ = false)
    {M : Nat} {xs : List Value} (own : w.ownsRow base 5 1 v M xs) (ne : v.ownBlock ≠ some pb) (hM : M = (L.length + 7) / 8) (hxs : xs = u8s (pack L)) (hm : m = (L.length : Nat)) :
    WInv (w.setCell ⟨pb, po + 1, none⟩ (.int .i64 m)) pb po base v L := by
  subst hM hxs hm
  refine ⟨(World.cell?_setCell_other _ _ _ _ (by simp)).trans c0, World.cell?_setCell_same _ _ _ c1, ?_, ?_, ?_, ne⟩
  · rw [World.frozen?_setCell]; exact f0
  · rw [World.frozen?_setCell]; exact f1
  · exact ownsRow_setCell_other own ne _

theorem winv_stored {w : World} {pb po base M : Nat} {u0 u1 v : Value} {xs : List Value} {m : Int} (L : List Bool)
    (c0 : w.cell? ⟨pb, po, none⟩ = some u0) (c1 : w.cell? ⟨pb, po + 1, none⟩ = some u1) (f0 : w.frozen? ⟨pb, po, none⟩ = false) (f1 : w.frozen? ⟨pb, po + 1, none⟩ = false)
    (own : w.ownsRow base 5 1 v M xs) (ne : v.ownBlock ≠ some pb) (hM : M = (L.length + 7) / 8) (hxs : xs = u8s (pack L)) (hm : m = (L.length : Nat)) :
    WInv ((w.setCell ⟨pb, po, none⟩ v).setCell ⟨pb, po + 1, none⟩ (.int .i64 m)) pb po base v L := by
  subst hM hxs hm
  have a0 : (w.setCell ⟨pb, po, none⟩ v).cell? ⟨pb, po, none⟩ = some v := World.cell?_setCell_same _ _ _ c0
  have a1 : (w.setCell ⟨pb, po, none⟩ v).cell? ⟨pb, po + 1, none⟩ = some u1 := (World.cell?_setCell_other _ _ _ _ (by simp)).trans c1
  refine ⟨(World.cell?_setCell_other _ _ _ _ (by simp)).trans a0, World.cell?_setCell_same _ _ _ a1, ?_, ?_, ?_, ne⟩
  · rw [World.frozen?_setCell, World.frozen?_setCell]; exact f0
  · rw [World.frozen?_setCell, World.frozen?_setCell]; exact f1
  · exact ownsRow_setCell_other (ownsRow_setCell_other own ne _) ne _

set_option maxHeartbeats 800000 in
theorem bit_new (x : Bool) (pb po base : Nat) (v : Value) (l : List Bool) (w : World) (h : WInv w pb po base v l) (hl : l.length ≤ 70368744177664) (hb : base ≤ w.heap.size) (hm : l.length % 8 = 0) :
    Calls Try.prog 49 #[.pointer (some ⟨pb, po, none⟩), .bool x] w fun e w' => e = .returned (.tuple #[]) ∧ ∃ v', WInv w' pb po base v' (l ++ [x]) ∧
      WGo pb w w' v v' := by
  obtain ⟨c0, c1, f0, f1, own, ne⟩ := h
  obtain ⟨n, hn⟩ : ∃ n, n = l.length := ⟨_, rfl⟩
  rw [← hn] at c1 own hl hm
  have HN := Lib.hid hn; clear hn
  have hm' : (((n : Int) % 8 == 0)) = true := by simp; omega
  have hpb := World.block_lt_of_cell? w _ c0
  simp at hpb
  go_enter Try.func49, Try.ntmps49
  go_wp2_with (at_builtin; refine wpList_app Eu8 rfl (.tmp 14) (.tmp 15) rfl base rfl (own.alloc _) rfl (Sl.one _ _ _) ?c1 (by unfold maxLen; omega) (by omega) (by simp; omega) ?_)
  case c1 => intro u hu; simp at hu; subst hu; rfl
  intro v1 w1 own1 grow1 fresh1
  obtain ⟨g, cap, rfl, hg1, hg2, hnc, hcm⟩ := ownsRow_val own1 (by omega)
  have hlt : ∀ k, v.ownBlock = some k → base ≤ k ∧ k < w.heap.size := own.lt
  have hk1 : ∀ o, w1.cell? ⟨pb, o, none⟩ = w.cell? ⟨pb, o, none⟩ := fun o =>
    (World.cell?_of_block (a := ⟨pb, o, none⟩) (grow1.block pb (by simp; omega) (fun e => ne e.symm))).trans (World.cell?_alloc_past _ _ _ hpb)
  have hf1 : ∀ o, w1.frozen? ⟨pb, o, none⟩ = w.frozen? ⟨pb, o, none⟩ := fun o =>
    (World.frozen?_of_block (a := ⟨pb, o, none⟩) (grow1.block pb (by simp; omega) (fun e => ne e.symm))).trans (World.frozen?_alloc_past _ _ _ hpb)
  have d0 := (hk1 po).trans c0
  have d1 := (hk1 (po + 1)).trans c1
  have e0 := (hf1 po).trans f0
  have e1 := (hf1 (po + 1)).trans f1
  have ng : g ≠ pb := by
    rcases fresh1 with h | ⟨g', h, h'⟩
    · intro e; subst e; exact ne h.symm
    · simp [Value.ownBlock] at h h'; omega
  have hq : (n + 7) / 8 = n / 8 := by omega
  rw [hq] at own1 hnc ⊢
  have hx : w1.cell? ⟨g, n / 8, none⟩ = some (.int .u8 0) := by
    have := own1.cellAt (n / 8) (by omega)
    rw [this, List.getElem?_append_right (by simp [u8s, pack_length, ← HN.out, hq])]
    simp [u8s, pack_length, ← HN.out, hq]
  have hy : w1.frozen? ⟨g, n / 8, none⟩ = false := own1.frozenAt _
  have tu : Turned (fun k => k = pb ∨ v.ownBlock = some k) w w1 := ((Turned.refl _ _).alloc _).grown grow1 (fun k hk _ => .inr hk)
  have gS : g = pb ∨ v.ownBlock = some g ∨ w.heap.size ≤ g := by
    rcases fresh1 with h | ⟨g', h, h'⟩
    · exact .inr (.inl h.symm)
    · simp [Value.ownBlock] at h h'; omega
  have fin : (Value.slice (some ⟨g, 0, none⟩) (n / 8 + 1) cap).ownBlock = v.ownBlock ∨ ∃ g', (Value.slice (some ⟨g, 0, none⟩) (n / 8 + 1) cap).ownBlock = some g' ∧ w.heap.size ≤ g' := by
    rcases fresh1 with h | ⟨g', h, h'⟩
    · exact .inl h
    · exact .inr ⟨g', h, by omega⟩
  have nS : (Value.slice (some ⟨g, 0, none⟩) (n / 8 + 1) cap).ownBlock ≠ some pb := by simpa [Value.ownBlock] using ng
  have hpk : pack (l ++ [x]) = pack l ++ [byteAt (l ++ [x]) (n / 8)] := by rw [HN.out]; exact pack_snoc_new l x (by rw [← HN.out]; exact hm)
  have hpl : (pack l).length = n / 8 := by rw [pack_length, ← HN.out, hq]
  have h0 : byteAt l (n / 8) = 0 := byteAt_end l _ (by rw [← HN.out]; omega)
  cases x
  · go_wp2
    go_end0
    refine ⟨rfl, _, winv_stored (l ++ [false]) d0 d1 e0 e1 own1 nS (by simp [← HN.out]; omega) ?_ (by simp [← HN.out]), ?_, fin⟩
    · rw [hpk, byteAt_snoc_false, h0]; simp [u8s]
    · exact (tu.setCell (.inl (.inl rfl)) _).setCell (.inl (.inl rfl)) _
  · go_wp2
    go_region
    go_wp2
    go_end0
    refine ⟨rfl, .slice (some ⟨g, 0, none⟩) (n / 8 + 1) cap, ?_, ?_, fin⟩
    · rw [setCell_comm w1 ⟨pb, po, none⟩ ⟨g, n / 8, none⟩ _ _ (by simpa using fun e : pb = g => ng e.symm)]
      have own2 := (own1.stored (n / 8) (.int .u8 (bits BinOp.or IntKind.u8 0 128))).1
      refine (winv_stored (l ++ [true]) ((World.cell?_setCell_other _ ⟨g, n / 8, none⟩ ⟨pb, po, none⟩ _ (by simp)).trans d0) ((World.cell?_setCell_other _ ⟨g, n / 8, none⟩ ⟨pb, po + 1, none⟩ _ (by simp)).trans d1) ((World.frozen?_setCell _ _ _ _).trans e0) ((World.frozen?_setCell _ _ _ _).trans e1) own2 nS (by simp [← HN.out]; omega) ?_ (by simp [← HN.out])).drew
      have hb : byteAt (l ++ [true]) (n / 8) = 128 := by
        have := byteAt_snoc_true l
        rw [← HN.out, h0, hm] at this
        exact this
      rw [hpk, hb]
      rw [List.set_append_right _ _ (by simp [u8s, hpl])]
      simp [u8s, hpl]
      decide
    · exact (((tu.setCell (.inl (.inl rfl)) _).setCell (by rcases gS with h | h | h; exact .inl (.inl h); exact .inl (.inr h); exact .inr h) _).setCell (.inl (.inl rfl)) _).drew

set_option maxHeartbeats 800000 in
theorem bit_old (x : Bool) (pb po base : Nat) (v : Value) (l : List Bool) (w : World) (h : WInv w pb po base v l) (hl : l.length ≤ 70368744177664) (hm : l.length % 8 ≠ 0) :
    Calls Try.prog 49 #[.pointer (some ⟨pb, po, none⟩), .bool x] w fun e w' => e = .returned (.tuple #[]) ∧ ∃ v', WInv w' pb po base v' (l ++ [x]) ∧
      WGo pb w w' v v' := by
  obtain ⟨c0, c1, f0, f1, own, ne⟩ := h
  obtain ⟨n, hn⟩ : ∃ n, n = l.length := ⟨_, rfl⟩
  rw [← hn] at c1 own hl hm
  have HN := Lib.hid hn; clear hn
  have hm' : (((n : Int) % 8 == 0)) = false := by simp; omega
  have hpb := World.block_lt_of_cell? w _ c0
  simp at hpb
  obtain ⟨g, cap, rfl, hg1, hg2, hnc, hcm⟩ := ownsRow_val own (by omega)
  have ng : g ≠ pb := by simpa [Value.ownBlock] using ne
  have hpl : (pack l).length = n / 8 + 1 := by rw [pack_length, ← HN.out]; omega
  have hx : w.cell? ⟨g, n / 8, none⟩ = some (.int .u8 (byteAt l (n / 8) : Nat)) := by
    rw [own.cellAt (n / 8) (by omega)]
    simp only [u8s, List.getElem?_map, pack]
    rw [List.getElem?_range (by rw [← HN.out]; omega)]
    rfl
  have hy : w.frozen? ⟨g, n / 8, none⟩ = false := own.frozenAt _
  have hd : ((n : Int) / 8).toNat = n / 8 := by omega
  have hlt : (n : Int) / 8 < (((n + 7) / 8 : Nat) : Int) := by omega
  have h1 : 0 ≤ (n : Int) / 8 := by omega
  have h2 : (n : Int) % 8 < 8 := by omega
  have h3 : 0 ≤ (n : Int) % 8 := by omega
  go_enter Try.func49, Try.ntmps49
  cases x
  · go_wp2
    go_end0
    refine ⟨rfl, _, winv_count (L := l ++ [false]) c0 c1 f0 f1 own ne (by simp [← HN.out]; omega) ?_ (by simp [← HN.out]), ?_, .inl rfl⟩
    · rw [pack_snoc_old l false (by rw [← HN.out]; exact hm), byteAt_snoc_false, pack_set_same]
    · exact (Turned.refl _ _).setCell (.inl (.inl rfl)) _
  · go_wp2
    go_region
    go_wp2
    go_end0
    refine ⟨rfl, _, (winv_count (L := l ++ [true]) ((World.cell?_setCell_other _ ⟨g, n / 8, none⟩ ⟨pb, po, none⟩ _ (by simp [ng])).trans c0) ((World.cell?_setCell_other _ ⟨g, n / 8, none⟩ ⟨pb, po + 1, none⟩ _ (by simp [ng])).trans c1)
      ((World.frozen?_setCell _ _ _ _).trans f0) ((World.frozen?_setCell _ _ _ _).trans f1) (own.stored (n / 8) _).1 ne (by simp [← HN.out]; omega) ?_ (by simp [← HN.out])).drew, ?_, .inl rfl⟩
    · rw [pack_snoc_old l true (by rw [← HN.out]; exact hm), HN.out, byteAt_snoc_true]
      have hw : bits BinOp.or IntKind.u8 (↑(byteAt l (l.length / 8))) (128 / 2 ^ (l.length % 8)) = ((byteAt l (l.length / 8) ||| 128 >>> (l.length % 8) : Nat) : Int) := by
        rw [Nat.shiftRight_eq_div_pow, ← u8_or_nat _ _ (byteAt_lt _ _) (Nat.lt_of_le_of_lt (Nat.div_le_self _ _) (by omega))]
        simp
      rw [hw]
      simp [u8s]
    · exact (((Turned.refl _ _).setCell (.inl (.inr rfl)) _).setCell (.inl (.inl rfl)) _).drew

theorem bit_any (x : Bool) (pb po base : Nat) (v : Value) (l : List Bool) (w : World) (h : WInv w pb po base v l) (hl : l.length ≤ 70368744177664) (hb : base ≤ w.heap.size) :
    Calls Try.prog 49 #[.pointer (some ⟨pb, po, none⟩), .bool x] w fun e w' => e = .returned (.tuple #[]) ∧ ∃ v', WInv w' pb po base v' (l ++ [x]) ∧ WGo pb w w' v v' := by
  by_cases hm : l.length % 8 = 0
  · exact bit_new x pb po base v l w h hl hb hm
  · exact bit_old x pb po base v l w h hl hm

theorem and_one (x : Nat) (hx : x < 18446744073709551616) (j : Nat) : (bits BinOp.and IntKind.u64 ((x : Int) / 2 ^ j) 1 == 1) = (x / 2 ^ j % 2 == 1) := by
  have h1 : ((x : Int) / 2 ^ j) = ((x / 2 ^ j : Nat) : Int) := by simp
  have h2 : bits BinOp.and IntKind.u64 ((x / 2 ^ j : Nat) : Int) ((1 : Nat) : Int) = ((x / 2 ^ j &&& 1 : Nat) : Int) := u64_and_nat _ _ (Nat.lt_of_le_of_lt (Nat.div_le_self _ _) hx) (by decide)
  rw [h1, show (1 : Int) = ((1 : Nat) : Int) from rfl, h2, nat_mask1, Bool.eq_iff_iff]
  simp only [beq_iff_eq]
  omega

set_option maxHeartbeats 800000 in
theorem num_any (x k : Nat) (hx : x < 18446744073709551616) (hk : k ≤ 64) (pb po base : Nat) (v : Value) (l : List Bool) (w : World) (h : WInv w pb po base v l) (hl : l.length ≤ 35184372088832) (hb : base ≤ w.heap.size) :
    Calls Try.prog 35 #[.pointer (some ⟨pb, po, none⟩), .int .u64 x, .int .i64 k] w fun e w' => e = .returned (.tuple #[]) ∧ ∃ v', WInv w' pb po base v' (l ++ numBits x k) ∧ WGo pb w w' v v' := by
  go_enter Try.func35, Try.ntmps35
  go_wp2
  go_loopw [11] (fun c wr => ∃ i : Nat, i ≤ k ∧ c = .int .i64 i ∧ ∃ v', WInv wr pb po base v' (l ++ (numBits x k).take i) ∧ WGo pb w wr v v') (fun c _ => k - (intOf c).toNat)
  case atStart => exact ⟨0, Nat.zero_le _, rfl, v, by simpa using h, WGo.refl _ _ _⟩
  case round =>
    obtain ⟨i, hi, rfl, v1, hW, hG⟩ := hrel
    have hlen : (l ++ (numBits x k).take i).length = l.length + i := by simp [numBits]; omega
    have hlb : (l ++ (numBits x k).take i).length ≤ 70368744177664 := by omega
    have hb1 : base ≤ wr.heap.size := Nat.le_trans hb hG.turned.size
    by_cases hlt : i < k
    · have hs := (by omega : 0 ≤ (k : Int) - 1 - i)
      have hs2 := (by omega : (k : Int) - 1 - i < 64)
      go_wp2_with (go_at_call 49; refine (bit_any _ pb po base v1 _ _ hW hlb hb1).mono ?_; rintro e w2 ⟨rfl, v2, hW2, hG2⟩)
      go_roundw
      case rel =>
        refine ⟨i + 1, by omega, by go_num, v2, ?_, hG.trans hG2⟩
        rw [numBits_take x k i hlt, ← List.append_assoc, ← and_one x hx]
        exact hW2
      case measure => simp [intOf]; omega
    · obtain rfl : i = k := by omega
      go_wp2
      go_end0
      exact ⟨rfl, v1, by rwa [List.take_of_length_le (by simp [numBits])] at hW, hG⟩

set_option maxHeartbeats 800000 in
theorem ones_any (k : Nat) (hk : k ≤ 64) (pb po base : Nat) (v : Value) (l : List Bool) (w : World) (h : WInv w pb po base v l) (hl : l.length ≤ 35184372088832) (hb : base ≤ w.heap.size) :
    Calls Try.prog 54 #[.pointer (some ⟨pb, po, none⟩), .int .i64 k] w fun e w' => e = .returned (.tuple #[]) ∧ ∃ v', WInv w' pb po base v' (l ++ onesBits k) ∧ WGo pb w w' v v' := by
  go_enter Try.func54, Try.ntmps54
  go_wp2
  go_loopw [8] (fun c wr => ∃ i : Nat, i ≤ k ∧ c = .int .i64 i ∧ ∃ v', WInv wr pb po base v' (l ++ List.replicate i true) ∧ WGo pb w wr v v') (fun c _ => k - (intOf c).toNat)
  case atStart => exact ⟨0, Nat.zero_le _, rfl, v, by simpa using h, WGo.refl _ _ _⟩
  case round =>
    obtain ⟨i, hi, rfl, v1, hW, hG⟩ := hrel
    have hlb : (l ++ List.replicate i true).length ≤ 70368744177664 := by simp; omega
    have hb1 : base ≤ wr.heap.size := Nat.le_trans hb hG.turned.size
    by_cases hlt : i < k
    · go_wp2_with (go_at_call 49; refine (bit_any _ pb po base v1 _ _ hW hlb hb1).mono ?_; rintro e w2 ⟨rfl, v2, hW2, hG2⟩)
      go_roundw
      case rel =>
        refine ⟨i + 1, by omega, by go_num, v2, ?_, hG.trans hG2⟩
        rw [List.replicate_succ', ← List.append_assoc]
        exact hW2
      case measure => simp [intOf]; omega
    · obtain rfl : i = k := by omega
      go_wp2_with (go_at_call 49; refine (bit_any _ pb po base v1 _ _ hW hlb hb1).mono ?_; rintro e w2 ⟨rfl, v2, hW2, hG2⟩)
      go_end0
      exact ⟨rfl, v2, by rw [onesBits, ← List.append_assoc]; exact hW2, hG.trans hG2⟩

theorem bytes_any (pb po base : Nat) (v : Value) (l : List Bool) (w : World) (h : WInv w pb po base v l) (hl : l.length ≤ 70368744177664) :
    Calls Try.prog 23 #[.pointer (some ⟨pb, po, none⟩)] w fun e w' => ∃ v', e = .returned v' ∧ w'.ownsRow w.heap.size 5 1 v' (pack l).length (u8s (pack l)) ∧ Below w.heap.size w w' := by
  have c0 := h.c0
  have hs : Sl w 1 v (pack l).length (u8s (pack l)) := by rw [pack_length]; exact Sl.of_own h.own
  go_enter Try.func23, Try.ntmps23
  go_wp2_with (go_at_call 38; refine (clone_any v (pack l) _ hs (by rw [pack_length]; omega)).mono ?_; rintro e w2 ⟨v2, rfl, ho, hb⟩)
  go_ret
  exact ⟨_, rfl, ho, hb⟩
end Go.Proofs.Ytapheokmoebgfaa
