/-
  A row read: the code's.
-/
import Derived.Test.YtapheokmoebgfaaRiceD
import Derived.Test.YtapheokmoebgfaaRiceB
set_option linter.unusedVariables false
set_option linter.unusedSimpArgs false
namespace Go.Proofs.Ytapheokmoebgfaa
open Go Go.RowKit Go.Th

theorem E32 : ElemOf Try.prog 50 21 1 4 := ElemOf.mk' Try.underlying50 (z := .int .i32 0) (by kernel_rfl) rfl (by decide)

theorem RInv.old {w w' : World} {B pb po base : Nat} {v : Value} {bs : List Nat} {at_ : Nat} {bad : Bool} (h : RInv w pb po base v bs at_ bad) (hp : pb < B) (hv : ∀ k, v.ownBlock = some k → k < B) (hb : Below B w w') : RInv w' pb po base v bs at_ bad :=
  h.turned (S := fun k => B ≤ k) ⟨hb.os, hb.tape, hb.output, hb.size, fun k hk hs => hb.block k (by omega)⟩ (by omega) (fun k e => by have := hv k e; omega)
theorem i32s_snoc (xs : List Int) (x : Int) : i32s (xs ++ [x]) = i32s xs ++ [.int .i32 x] := by simp [i32s]
theorem rm_32 {x : Int} (h : Rm x) : In32 x := by have := rm_def h; constructor <;> omega
theorem i32s_length (xs : List Int) : (i32s xs).length = xs.length := by simp [i32s]

set_option maxRecDepth 20000 in
set_option maxHeartbeats 1600000 in
theorem isrow_yes (n : Nat) (hmax : n ≤ 1000) (m : List Int) (pb po base : Nat) (vr : Value) (bs : List Nat) (at_ : Nat) (w : World) (h : RInv w pb po base vr bs at_ false) (H : RowAt bs at_ n m) :
    Calls Try.prog 28 #[.pointer (some ⟨pb, po, none⟩), .int .i64 n] w fun e w' => ∃ v, e = .returned (.tuple #[v, .bool true]) ∧ w'.ownsRow w.heap.size 21 1 v n (i32s m) ∧ RInv w' pb po base vr bs (at_ + (row m).length) false ∧ Turned (fun k => k = pb) w w' := by
  obtain ⟨h5, hv5⟩ := H.num
  have hcs := H.codes
  have hlen := H.len
  have hroom := H.room
  have hbl := best_le m
  have hrl := row_length m
  obtain ⟨k, hk⟩ : ∃ k, k = best m := ⟨_, rfl⟩
  rw [← hk] at hv5 hcs hbl hrl
  have HK := Lib.hid hk; clear hk H
  have HCS := Lib.hid hcs; clear hcs
  have HR := Lib.hid hroom; clear hroom
  have HL := Lib.hid hlen; clear hlen
  have HRL := Lib.hid hrl; clear hrl
  have hpb := h.lt
  have hvb : ∀ j, vr.ownBlock = some j → j < w.heap.size := fun j e => (h.own.lt j e).2
  have HVB := Lib.hid hvb; clear hvb
  have C1 := rnum_yes pb po base vr bs at_ false 5 w h h5
  rw [hv5] at C1
  have C1 := Lib.hid C1
  clear hv5
  go_enter Try.func28, Try.ntmps28
  go_wp2_with fail
  refine C1.out.mono ?_
  rintro e w1 ⟨rfl, hR1, hT1⟩
  clear C1
  go_wp2_with fail
  refine (right_any pb po base vr bs _ false _ hR1).mono ?_
  rintro e w1' ⟨rfl, rfl⟩
  go_wp2_with fail
  go_loopw [7, 23] (fun x c wx => ∃ i : Nat, i ≤ n ∧ c = .int .i64 i ∧ wx.ownsRow w.heap.size 21 1 x i (i32s (m.take i)) ∧ RInv wx pb po base vr bs (at_ + 5 + sizes (m.take i) k) false ∧ Turned (fun k => k = pb) w wx) (fun _ c _ => n - (intOf c).toNat)
  case atStart => exact ⟨0, Nat.zero_le _, rfl, World.ownsRow_nil _ _ _ _, by simpa [sizes_nil] using hR1, hT1⟩
  case round =>
    clear hR1 hT1
    obtain ⟨i, hi, rfl, ho, hR, hT⟩ := hrel
    have hsz := hT.size
    by_cases hlt : i < n
    · have him : i < m.length := by rw [HL.out]; exact hlt
      have hgo := here_next HCS.out i him
      have hts := take_snoc m i him
      have hrm := HR.out m[i] (List.getElem_mem _)
      obtain ⟨y, hy⟩ : ∃ y, y = m[i] := ⟨_, rfl⟩
      rw [← hy] at hgo hts hrm
      clear hy
      have hfr := fold_room y hrm
      have C2 := get_yes (fold y) k hbl hfr pb po base vr bs _ wr hR hgo
      have C3 := unfold_go (fold y) (by omega)
      rw [unfold_fold] at C3
      have hss := sizes_snoc (m.take i) y k
      rw [← hts] at hss
      have HSS := Lib.hid hss; clear hss
      have HTS := Lib.hid hts; clear hts
      obtain ⟨f, hf⟩ : ∃ f, f = fold y := ⟨_, rfl⟩
      rw [← hf] at C2 C3
      have HF := Lib.hid hf; clear hf hfr hgo
      have C2 := Lib.hid C2
      have C3 := Lib.hid C3
      go_wp2_with fail
      refine C2.out.mono ?_
      rintro e w2 ⟨rfl, hR2, hT2⟩
      clear C2
      have ho2 := hT2.own ho (by rintro q hq rfl; have := (ho.lt _ hq).1; omega)
      have hT3 := hT.trans hT2 (fun _ _ h => h)
      have hsz2 := hT3.size
      clear ho hT hR hT2
      go_wp2_with fail
      refine (C3.out _).mono ?_
      rintro e w2' ⟨rfl, rfl⟩
      clear C3
      go_wp2_with (at_builtin; refine wpList_app E32 rfl (.tmp 33) (.tmp 36) rfl w.heap.size rfl (ho2.alloc _) rfl (Sl.one _ _ _) (by intro u hu; simp at hu; subst hu; rfl) (by unfold maxLen; omega) (by omega) (by simp; omega) ?_)
      intro v2 w3 ho3 hg3 _
      have hB3 := app_below ho2 hsz2 hg3
      have hR3 := hR2.old hpb HVB.out hB3
      have hT4 := hT3.belowB (Nat.le_refl _) hB3
      clear ho2 hg3 hR2 hT3
      go_wp2_with fail
      go_roundw
      case rel =>
        refine ⟨i + 1, by omega, by go_num, ?_, ?_, hT4⟩
        · rw [HTS.out, i32s_snoc]; exact ho3
        · rw [HSS.out, ← Nat.add_assoc, ← HF.out]; exact hR3
      case measure => simp [intOf]; omega
    · obtain rfl : i = n := by omega
      rw [List.take_of_length_le (by rw [HL.out]; exact Nat.le_refl _)] at ho hR
      obtain ⟨a, cap, rfl, hc1, hc2⟩ := ownsRow_slice ho
      obtain ⟨xs, hxs⟩ := exists_i32 m (fun x hx => rm_32 (HR.out x hx))
      have C4 := best_any a i cap xs (by rw [← HL.out, ← hxs, List.length_map]) (by omega) wr (by rw [hxs]; exact Sl.of_own ho)
      rw [hxs, ← HK.out] at C4
      have C4 := Lib.hid C4
      clear hxs
      obtain ⟨z, hz⟩ : ∃ z, z = sizes m k := ⟨_, rfl⟩
      rw [← hz] at C4 hR
      have HZ := Lib.hid hz; clear hz
      go_wp2_with fail
      refine C4.out.mono ?_
      rintro e w2 ⟨rfl, hB2⟩
      clear C4
      have ho2 := ownsRow_below ho hB2
      have hR2 := hR.below hB2
      have hT2 := hT.trans (Turned.below (S := fun k => k = pb) hB2) (fun _ _ h => h)
      clear ho hR hT hB2
      go_wp2_with fail
      go_ret2
      refine ⟨_, rfl, ho2, ?_, hT2⟩
      rw [HRL.out, ← HZ.out, ← Nat.add_assoc]
      exact hR2
end Go.Proofs.Ytapheokmoebgfaa
