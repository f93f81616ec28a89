/-
  The best parameter, and a row written: the code's.
-/
import Derived.Test.YtapheokmoebgfaaRiceC
import Derived.Test.YtapheokmoebgfaaBitK
set_option linter.unusedVariables false
set_option linter.unusedSimpArgs false
namespace Go.Proofs.Ytapheokmoebgfaa
open Go Go.RowKit Go.Shelf Go.Th
attribute [local go_sem] Oper.semAt_some

set_option maxRecDepth 20000 in
set_option maxHeartbeats 1600000 in
theorem best_any (a : Option Addr) (n cap : Nat) (xs : List I32) (hn : n = xs.length) (hmax : n ≤ 1000000) (w : World) (hS : Sl w 1 (.slice a n cap) n (i32s (xs.map (·.1)))) :
    Calls Try.prog 34 #[.slice a n cap] w fun e w' => e = .returned (.tuple #[.int .i64 (best (xs.map (·.1)) : Nat), .int .i64 (sizes (xs.map (·.1)) (best (xs.map (·.1))) : Nat)]) ∧ Below w.heap.size w w' := by
  obtain ⟨m, hm⟩ : ∃ m, m = xs.map (·.1) := ⟨_, rfl⟩
  have HM := Lib.hid hm
  have CT := fun k hk wx hx => total_any a n cap k xs hn hmax hk wx hx
  rw [← hm] at hS CT ⊢
  have hml : m.length ≤ 1000000 := by rw [hm, List.length_map]; omega
  have hsz : ∀ k, k ≤ 16 → sizes m k ≤ 38000000 := fun k hk => by have := sizes_le m k hk; omega
  have HZ := Lib.hid hsz
  have HC := Lib.hid CT
  have HS := Lib.hid hS
  clear hm hn hmax hml hsz CT hS
  go_enter Try.func34, Try.ntmps34
  go_wp2_with fail
  refine (HC.out 0 (by omega) _ HS.out).mono ?_
  rintro e w1 ⟨rfl, hB1⟩
  go_wp2_with fail
  go_loopw [4, 5, 6] (fun b f c wr => ∃ j : Nat, j ≤ 16 ∧ c = .int .i64 ((j + 1 : Nat) : Int) ∧ b = .int .i64 (bestTo m j : Nat) ∧ f = .int .i64 (sizes m (bestTo m j) : Nat) ∧ Below w.heap.size w wr) (fun _ _ c _ => 18 - (intOf c).toNat)
  case atStart => exact ⟨0, by omega, rfl, rfl, rfl, hB1⟩
  case round =>
    clear hB1
    obtain ⟨j, hj, rfl, rfl, rfl, hB⟩ := hrel
    have hbl := bestTo_le m j
    by_cases hlt : j < 16
    · have C1 := HC.out (j + 1) (by omega) wr (HS.out.below hB)
      have hs1 := HZ.out (j + 1) (by omega)
      have hs2 := HZ.out (bestTo m j) (by omega)
      by_cases hc : sizes m (j + 1) < sizes m (bestTo m j)
      · have HB := Lib.hid (bestTo_yes m j hc)
        obtain ⟨s, hs⟩ : ∃ s, s = sizes m (j + 1) := ⟨_, rfl⟩
        obtain ⟨t, ht⟩ : ∃ t, t = sizes m (bestTo m j) := ⟨_, rfl⟩
        obtain ⟨b, hb⟩ : ∃ b, b = bestTo m j := ⟨_, rfl⟩
        rw [← hs, ← ht] at hc
        rw [← hs] at C1 hs1
        rw [← ht] at hs2 ⊢
        rw [← hb] at hbl ⊢
        have HH := Lib.hid hs
        clear hs ht hb
        go_wp2_with fail
        refine C1.mono ?_
        rintro e w2 ⟨rfl, hB2⟩
        go_wp2_with fail
        go_roundw
        case rel => exact ⟨j + 1, by omega, by go_num, by rw [HB.out, Int.natCast_add]; rfl, by rw [HB.out, HH.out], hB.trans (hB2.mono hB.size)⟩
        case measure => simp [intOf]; omega
      · have HB := Lib.hid (bestTo_no m j hc)
        obtain ⟨s, hs⟩ : ∃ s, s = sizes m (j + 1) := ⟨_, rfl⟩
        obtain ⟨t, ht⟩ : ∃ t, t = sizes m (bestTo m j) := ⟨_, rfl⟩
        rw [← hs, ← ht] at hc
        rw [← hs] at C1 hs1
        rw [← ht] at hs2 ⊢
        have HH := Lib.hid ht
        clear hs ht
        go_wp2_with fail
        refine C1.mono ?_
        rintro e w2 ⟨rfl, hB2⟩
        go_wp2_with fail
        go_roundw
        case rel => exact ⟨j + 1, by omega, by go_num, by rw [HB.out], by rw [HB.out, HH.out], hB.trans (hB2.mono hB.size)⟩
        case measure => simp [intOf]; omega
    · obtain rfl : j = 16 := by omega
      go_wp2_with fail
      go_ret2
      exact ⟨rfl, hB⟩

/-! ### A writer through a range over a function -/
theorem box_below {w w' : World} {B : Nat} {t : TypeId} {v : Value} (h : Boxed w B t v) (hb : Below w.heap.size w w') : Boxed w' B t v := (hb.block B h.lt).trans h

theorem box_turned {S : Nat → Prop} {w w' : World} {B : Nat} {t : TypeId} {v : Value} (h : Boxed w B t v) (ht : Turned S w w') (hS : ¬ S B) : Boxed w' B t v := (ht.block B h.lt hS).trans h

/-- Between two rounds: the writer, and two boxes. -/
structure RowI (w W : World) (pb po base B0 B1 k : Nat) (v0 : Value) (l : List Bool) : Prop where
  wr : ∃ v, WInv W pb po base v l ∧ WGo pb w W v0 v
  b0 : Boxed W B0 55 (.pointer (some ⟨pb, po, none⟩))
  b1 : Boxed W B1 3 (.int .i64 k)

theorem rowI_from {w : World} {pb po base B0 B1 k : Nat} {v0 : Value} {B : Nat} (hB : w.heap.size ≤ B) (f : List I32 → List Bool) : OwnFrom B (fun pre W => RowI w W pb po base B0 B1 k v0 (f pre)) := by
  intro s X Y row hs hg hr
  have hr' : ∀ r, row = some r → ∃ o : Obj, X.heap[r]? = some o ∧ o.isCells = false := fun r e => (hr r e).2
  obtain ⟨⟨v, hW, hG⟩, h0, h1⟩ := hs
  exact ⟨⟨v, hW.other hg hr', hG.turned.grown hg (fun r e hl => absurd (hr r e).1 (by omega)), hG.new⟩, boxed_own _ _ (fun _ => _) () X Y row h0 hg hr', boxed_own _ _ (fun _ => _) () X Y row h1 hg hr'⟩

set_option maxRecDepth 100000 in
set_option maxHeartbeats 2000000 in
theorem row_any (a : Option Addr) (n cap : Nat) (xs : List I32) (hn : n = xs.length) (hmax : n ≤ 1000) (pb po base : Nat) (v : Value) (l : List Bool) (w : World) (h : WInv w pb po base v l) (hl : l.length ≤ 100000) (hb : base ≤ w.heap.size)
    (hS : Sl w 1 (.slice a n cap) n (i32s (xs.map (·.1)))) (hA : ∀ p, a = some p → 0 < n → p.block < base ∧ p.block ≠ pb) :
    Calls Try.prog 22 #[.pointer (some ⟨pb, po, none⟩), .slice a n cap] w fun e w' => e = .returned (.tuple #[]) ∧ ∃ v', WInv w' pb po base v' (l ++ row (xs.map (·.1))) ∧ WGo pb w w' v v' := by
  refine (callsIn_wide (n := 10)).1 ?_
  refine callsIn_of_wp_marks Try.func22 rfl trivial ?_ rfl
  simp only [Try.ntmps22, List.size_toArray, List.length_cons, List.length_nil, Nat.reduceAdd, Nat.reduceSub, Array.replicate_succ, Array.replicate_zero, List.push_toArray, List.append_toArray, List.nil_append, List.cons_append]
  obtain ⟨m, hm⟩ : ∃ m, m = xs.map (·.1) := ⟨_, rfl⟩
  have hml : m.length ≤ 1000 := by rw [hm, List.length_map]; omega
  rw [← hm] at hS ⊢
  have C1 := fun W hW => best_any a n cap xs hn (by omega) W hW
  rw [← hm] at C1
  have HM := Lib.hid hm; clear hm
  have HN := Lib.hid hn; clear hn
  have b0 := Boxed.new w 55 (.pointer (some ⟨pb, po, none⟩))
  have hbl := best_le m
  obtain ⟨k, hk⟩ : ∃ k, k = best m := ⟨_, rfl⟩
  rw [← hk] at hbl C1
  have HK := Lib.hid hk; clear hk
  obtain ⟨W1, hW1⟩ : ∃ W1, w.alloc (.cells #[.pointer (some ⟨pb, po, none⟩)] 55) = W1 := ⟨_, rfl⟩
  have hB1 : Below w.heap.size w W1 := by rw [← hW1]; exact (Below.refl _ w).alloc (Nat.le_refl _) _
  rw [hW1] at b0
  replace C1 := C1 W1 (hS.below hB1)
  obtain ⟨z, hz⟩ : ∃ z, z = sizes m k := ⟨_, rfl⟩
  rw [← hz] at C1
  clear hz
  have C1 := Lib.hid C1
  gi_wp2
  clear hW1
  refine ⟨trivial, (callsIn_wide.2 C1.out).mono ?_⟩
  rintro e W2 ⟨rfl, hB2⟩
  clear C1
  replace b0 := box_below b0 hB2
  replace hB2 := hB1.trans (hB2.mono hB1.size)
  clear hB1
  have hs2 := b0.lt
  replace b0 := b0.alloc (.cells #[.int .i64 k] 3)
  have b1 := Boxed.new W2 3 (.int .i64 k)
  have c0 := b0.cell
  have c1 := b1.cell
  have hB3 : Below w.heap.size w (W2.alloc (.cells #[.int .i64 k] 3)) := hB2.alloc hB2.size _
  gi_wp2
  obtain ⟨W3, hW3⟩ : ∃ W3, W2.alloc (.cells #[.int .i64 k] 3) = W3 := ⟨_, rfl⟩
  rw [hW3] at b0 b1 c0 c1 hB3 ⊢
  clear hW3 c0 c1
  obtain ⟨B1, hB1⟩ : ∃ B1, B1 = W2.heap.size := ⟨_, rfl⟩
  rw [← hB1] at b1 hs2 ⊢
  clear hB1 hB2
  have hsz3 := hB3.size
  have b1lt := b1.lt
  have hW3 := h.below hB3
  have hpb := h.lt
  have hvb : ∀ j, v.ownBlock = some j → base ≤ j ∧ j < w.heap.size := h.own.lt
  have hS3 := hS.below hB3
  have hG0 : WGo pb w W3 v v := ⟨Turned.below hB3, .inl rfl⟩
  refine ⟨trivial, (callsIn_wide.2 (num_any k 5 (by omega) (by omega) pb po base v l W3 hW3 (by omega) (by omega))).mono ?_⟩
  rintro e W4 ⟨rfl, v4, hW4, hG4⟩
  replace b0 := box_turned b0 hG4.turned (by rintro (e | e); · omega
                                             · have := hvb _ e; omega)
  replace b1 := box_turned b1 hG4.turned (by rintro (e | e); · omega
                                             · have := hvb _ e; omega)
  replace hS3 := hS3.apart hG4.turned (by
    rintro p hp h0 (e | e)
    · exact (hA p hp h0).2 e
    · have := hvb _ e; have := (hA p hp h0).1; omega)
  replace hG4 := hG0.trans hG4
  clear hW3 hG0
  have hsz4 := hG4.turned.size
  have b0lt := b0.lt
  have b1lt' := b1.lt
  gi_wp2
  refine ⟨trivial, (callsIn_wide.2 (folded_any a n cap W4)).mono ?_⟩
  rintro e W5 ⟨rfl, hW5⟩
  have b2 := Boxed.new W4 50 (.slice a n cap)
  have hB5 : Below W4.heap.size W4 W5 := by rw [hW5]; exact (Below.refl _ W4).alloc (Nat.le_refl _) _
  rw [← hW5] at b2
  clear hW5
  replace b0 := box_below b0 hB5
  replace b1 := box_below b1 hB5
  replace hS3 := hS3.below hB5
  replace hW4 := hW4.below hB5
  replace hG4 : WGo pb w W5 v v4 := hG4.trans ⟨Turned.below hB5, .inl rfl⟩
  have hsz5 := hG4.turned.size
  have hln5 : (l ++ numBits k 5).length ≤ 100005 := by rw [List.length_append, numBits_length]; omega
  obtain ⟨B2, hB2⟩ : ∃ B2, B2 = W4.heap.size := ⟨_, rfl⟩
  rw [← hB2] at b2 ⊢
  clear hB2
  gi_wp2
  refine wpIn_rangeFunc_ownF rfl (by omega) (gf := 50) (lb := #[.pointer (some ⟨B2, 0, none⟩)]) rfl trivial (enters_of Try.func50 (by kernel_rfl) rfl)
    (folded_stops B2 a n cap xs HN.out (by omega) (fun j => (∃ p, a = some p ∧ p.block = j) ∧ 0 < n) (fun p hp h0 => ⟨⟨p, hp, rfl⟩, h0⟩) W5 b2.lt b2.cell (by rw [← HM.out]; exact hS3)) (fun h k => h.trans k) (kept_b (by rintro j ⟨⟨p, hp, rfl⟩, h0⟩; have := hA p hp h0; omega)) (Below.refl _ _) (fun _ => rfl)
    (fun pre W => RowI w W pb po base w.heap.size B1 k v ((l ++ numBits k 5) ++ codes (pre.map (·.1)) k))
    (fun _ _ _ => False)
    (rowI_from (by omega) (fun pre => (l ++ numBits k 5) ++ codes (pre.map (·.1)) k))
    (fun _ _ _ _ _ hs _ _ => hs)
    ⟨⟨v4, by simpa [codes_nil] using hW4, hG4⟩, b0, b1⟩
    (fun x => { tmps := #[.pointer (some ⟨pb, po, none⟩), .slice a n cap, .pointer (some ⟨w.heap.size, 0, none⟩), undef, .pointer (some ⟨B1, 0, none⟩), .int .i64 z, .int .u32 (fold x.1 : Nat), .tuple #[.int .i64 k, .int .i64 z], .slice a n cap, .tuple #[.int .i64 k, .int .i64 z], .int .i64 k, .int .i64 z, .pointer (some ⟨pb, po, none⟩), .int .i64 k, .int .u64 k, .tuple #[], .slice a n cap, .func (.func 50) #[] #[.pointer (some ⟨B2, 0, none⟩)], .int .u32 (fold x.1 : Nat), undef, undef, undef, undef], defers := [] }) ?assign ?body ?done ?stop
  case assign =>
    intro l x W K hK
    gi_wp2
    exact hK
  case body =>
    rintro l' pre x W ⟨⟨v6, hW6, hG6⟩, d0, d1⟩ hlen
    have c0 := d0.cell
    have c1 := d1.cell
    have hpre : pre.length < 1000 := by have := HN.out; omega
    have hcl := sizes_le (pre.map (·.1)) k hbl
    rw [List.length_map] at hcl
    have hsz6 := hG6.turned.size
    have hll : ((l ++ numBits k 5) ++ codes (pre.map (·.1)) k).length ≤ 1000000 := by
      rw [List.length_append]; unfold sizes at hcl; omega
    have CP := put_go (fold x.1) k (fold_max x.1 x.2.1 x.2.2) hbl pb po base v6 _ W hW6 hll (by omega)
    have CP := Lib.hid CP
    have hv6 : ∀ j, v6.ownBlock = some j → base ≤ j := fun j e => (hW6.own.lt j e).1
    have hbox : ∀ B, w.heap.size ≤ B → Boxed W B 55 (.pointer (some ⟨pb, po, none⟩)) ∨ Boxed W B 3 (.int .i64 k) → ¬ (B = pb ∨ v6.ownBlock = some B) := by
      rintro B hB hx (e | e)
      · omega
      · rcases hx with hx | hx
        · exact hx.not_row (by decide) hW6.own e.symm
        · exact hx.not_row (by decide) hW6.own e.symm
    clear hcl hll
    gi_wp2
    refine ⟨trivial, (CallsIn.inRound l' (callsIn_wide.2 CP.out)).mono ?_⟩
    rintro e W7 ⟨rfl, v7, hW7, hG7⟩
    gi_wp2
    refine ⟨hG7.turned.others ?_, ?_, ⟨v7, ?_, hG6.trans hG7⟩, box_turned d0 hG7.turned (hbox _ (Nat.le_refl _) (.inl d0)), box_turned d1 hG7.turned (hbox _ (by omega) (.inr d1))⟩
    · rintro j (rfl | e) o ho
      · exact block_cells hW6.c0 o ho
      · exact own_cells hW6.own e o ho
    · rintro j ⟨⟨p, hp, rfl⟩, h0⟩
      obtain ⟨h1, h2⟩ := hA p hp h0
      refine hG7.turned.block _ (by omega) ?_
      rintro (e | e)
      · exact h2 e
      · have := hv6 _ e; omega
    · rw [List.map_append, List.map_singleton, codes_snoc, ← List.append_assoc]
      exact hW7
  case done =>
    rintro D ys W hD rfl ⟨⟨v6, hW6, hG6⟩, _, _⟩ hK
    gi_wp2
    refine ⟨by simp, .inl ⟨_, _, rfl, run_takeDeferred hK, ?_⟩⟩
    have hr : ∀ r, some D = some r → ∃ o : Obj, W.heap[r]? = some o ∧ o.isCells = false := fun r e => by cases e; exact ⟨_, hK, rfl⟩
    have hg := grownBy_putObj' W D (.deferred none)
    refine ⟨_, results_none rfl _ _ _, rfl, v6, ?_, hG6.turned.grown hg (fun r e hl => by cases e; omega), hG6.new⟩
    have hW8 := hW6.other hg hr
    unfold row
    rw [← HK.out, ← List.append_assoc, HM.out]
    exact hW8
  case stop =>
    rintro D c pre W _ _ h _
    exact h.elim
end Go.Proofs.Ytapheokmoebgfaa
