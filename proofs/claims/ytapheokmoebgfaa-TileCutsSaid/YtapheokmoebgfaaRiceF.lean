/-
  No row read: the code's.
-/
import Derived.Test.YtapheokmoebgfaaRiceE
set_option linter.unusedVariables false
set_option linter.unusedSimpArgs false
namespace Go.Proofs.Ytapheokmoebgfaa
open Go Go.RowKit Go.Th

theorem isrow_cut (n : Nat) (pb po base : Nat) (vr : Value) (bs : List Nat) (at_ : Nat) (w : World) (h : RInv w pb po base vr bs at_ false) (H : 8 * bs.length < at_ + 5) :
    Calls Try.prog 28 #[.pointer (some ⟨pb, po, none⟩), .int .i64 n] w fun e w' => e = .returned (.tuple #[.slice none 0 0, .bool false]) ∧ Turned (fun k => k = pb) w w' := by
  go_enter Try.func28, Try.ntmps28
  go_wp2_with fail
  refine (rnum_no pb po base vr bs at_ false 5 w h H).mono ?_
  rintro e w1 ⟨rfl, hR1, hT1⟩
  go_wp2_with fail
  refine (right_any pb po base _ _ _ true _ hR1).mono ?_
  rintro e w1' ⟨rfl, rfl⟩
  go_wp2_with fail
  go_ret2
  exact ⟨rfl, hT1⟩

set_option maxRecDepth 20000 in
set_option maxHeartbeats 1600000 in
theorem isrow_no (n : Nat) (hmax : n ≤ 1000) (pb po base : Nat) (vr : Value) (bs : List Nat) (at_ : Nat) (w : World) (h : RInv w pb po base vr bs at_ false) (H : ∀ m, ¬ RowAt bs at_ n m) :
    Calls Try.prog 28 #[.pointer (some ⟨pb, po, none⟩), .int .i64 n] w fun e w' => e = .returned (.tuple #[.slice none 0 0, .bool false]) ∧ Turned (fun k => k = pb) w w' := by
  by_cases h5 : at_ + 5 ≤ 8 * bs.length
  case neg => exact isrow_cut n pb po base vr bs at_ w h (by omega)
  have hk5 := valAt_small bs at_ 5 (by omega)
  rw [show (2 : Nat) ^ 5 = 32 by decide] at hk5
  have C1 := rnum_yes pb po base vr bs at_ false 5 w h h5
  obtain ⟨k, hk⟩ : ∃ k, valAt bs at_ 5 = k := ⟨_, rfl⟩
  rw [hk] at C1 hk5
  have HK := Lib.hid hk; clear hk
  have HH := Lib.hid H; clear H
  have hpb := h.lt
  have hvb : ∀ j, vr.ownBlock = some j → j < w.heap.size := fun j e => (h.own.lt j e).2
  have HVB := Lib.hid hvb; clear hvb
  have H5 := Lib.hid h5; clear h5
  have C1 := Lib.hid C1
  go_enter Try.func28, Try.ntmps28
  go_wp2_with fail
  refine C1.out.mono ?_
  rintro e w1 ⟨rfl, hR1, hT1⟩
  clear C1
  go_wp2_with fail
  refine (right_any pb po base vr bs _ false _ hR1).mono ?_
  rintro e w1' ⟨rfl, rfl⟩
  go_wp2_with fail
  go_loopw [7, 23] (fun x c wx => ∃ (i : Nat) (l : List Int), i ≤ n ∧ c = .int .i64 i ∧ l.length = i ∧ Hid (∀ x ∈ l, Rm x) ∧ Hid (Here bs (at_ + 5) (codes l k)) ∧ wx.ownsRow w.heap.size 21 1 x i (i32s l) ∧ RInv wx pb po base vr bs (at_ + 5 + sizes l k) false ∧ Turned (fun k => k = pb) w wx) (fun _ c _ => n - (intOf c).toNat)
  case atStart => exact ⟨0, [], Nat.zero_le _, rfl, rfl, Lib.hid (by simp), Lib.hid (here_nil _ _ H5.out), World.ownsRow_nil _ _ _ _, by simpa [sizes_nil] using hR1, hT1⟩
  case round =>
    clear hR1 hT1
    obtain ⟨i, l, hi, rfl, hl, hrm, hhr, ho, hR, hT⟩ := hrel
    have HL := Lib.hid hl; clear hl
    have hsz := hT.size
    by_cases hlt : i < n
    · by_cases hk16 : k ≤ 16
      · by_cases hc : ∃ f, f < 131072 ∧ Here bs (at_ + 5 + sizes l k) (code f k)
        · obtain ⟨f, hf, hgo⟩ := hc
          have C2 := get_yes f k hk16 hf pb po base vr bs _ wr hR hgo
          have C3 := unfold_go f (by omega)
          have hy := unfold_room f hf
          have hfy := fold_unfold f
          obtain ⟨y, hyy⟩ : ∃ y, y = unfold f := ⟨_, rfl⟩
          rw [← hyy] at hy hfy C3
          clear hyy
          have hss := sizes_snoc l y k
          rw [hfy] at hss
          have hcs : Here bs (at_ + 5) (codes (l ++ [y]) k) := by
            rw [codes_snoc, hfy, here_app]
            exact ⟨hhr.out, hgo⟩
          have hrm' : ∀ x ∈ l ++ [y], Rm x := by
            intro x hx
            rcases List.mem_append.1 hx with hx | hx
            · exact hrm.out x hx
            · simp at hx; subst hx; exact hy
          have HSS := Lib.hid hss
          have HCS := Lib.hid hcs
          have HRM := Lib.hid hrm'
          have C2 := Lib.hid C2
          have C3 := Lib.hid C3
          clear hss hcs hrm' hy hfy hgo hf hrm hhr
          go_wp2_with fail
          refine C2.out.mono ?_
          rintro e w2 ⟨rfl, hR2, hT2⟩
          clear C2
          have ho2 := hT2.own ho (by rintro q hq rfl; have := (ho.lt _ hq).1; omega)
          have hT3 := hT.trans hT2 (fun _ _ h => h)
          have hsz2 := hT3.size
          clear ho hT hR hT2
          go_wp2_with fail
          refine (C3.out _).mono ?_
          rintro e w2' ⟨rfl, rfl⟩
          clear C3
          go_wp2_with (at_builtin; refine wpList_app E32 rfl (.tmp 33) (.tmp 36) rfl w.heap.size rfl (ho2.alloc _) rfl (Sl.one _ _ _) (by intro u hu; simp at hu; subst hu; rfl) (by unfold maxLen; omega) (by omega) (by simp; omega) ?_)
          intro v2 w3 ho3 hg3 _
          have hB3 := app_below ho2 hsz2 hg3
          have hR3 := hR2.old hpb HVB.out hB3
          have hT4 := hT3.belowB (Nat.le_refl _) hB3
          clear ho2 hg3 hR2 hT3
          go_wp2_with fail
          go_roundw
          case rel =>
            refine ⟨i + 1, l ++ [y], by omega, by go_num, by rw [List.length_append, HL.out]; rfl, HRM, HCS, ?_, ?_, hT4⟩
            · rw [i32s_snoc]; exact ho3
            · rw [HSS.out, ← Nat.add_assoc]; exact hR3
          case measure => simp [intOf]; omega
        · have C2 := Lib.hid (get_no k hk16 pb po base vr bs _ wr hR (fun f h1 h2 => hc ⟨f, h1, h2⟩))
          clear hc
          go_wp2_with fail
          refine C2.out.mono ?_
          rintro e w2 ⟨rfl, hT2⟩
          have hT3 := hT.trans hT2 (fun _ _ h => h)
          go_wp2_with fail
          go_ret2
          exact ⟨rfl, hT3⟩
      · have C2 := Lib.hid (get_bad (k : Int) (by omega) (by omega) (some ⟨pb, po, none⟩) wr)
        go_wp2_with fail
        refine C2.out.mono ?_
        rintro e w2 ⟨rfl, rfl⟩
        go_wp2_with fail
        go_ret2
        exact ⟨rfl, hT⟩
    · obtain rfl : i = n := by omega
      obtain ⟨a, cap, rfl, hc1, hc2⟩ := ownsRow_slice ho
      obtain ⟨xs, hxs⟩ := exists_i32 l (fun x hx => rm_32 (hrm.out x hx))
      have C4 := best_any a i cap xs (by rw [← HL.out, ← hxs, List.length_map]) (by omega) wr (by rw [hxs]; exact Sl.of_own ho)
      rw [hxs] at C4
      clear hxs
      have hne : best l ≠ k := fun e => HH.out l (rowAt_of HL.out hrm.out H5.out HK.out hhr.out e)
      obtain ⟨b, hb⟩ : ∃ b, b = best l := ⟨_, rfl⟩
      rw [← hb] at C4 hne
      clear hb
      obtain ⟨z, hz⟩ : ∃ z, z = sizes l b := ⟨_, rfl⟩
      rw [← hz] at C4
      clear hz
      have C4 := Lib.hid C4
      have hbk : ((b : Int) == (k : Int)) = false := by simp; omega
      have hbk' : ((b : Int) != (k : Int)) = true := by simp; omega
      go_wp2_with fail
      refine C4.out.mono ?_
      rintro e w2 ⟨rfl, hB2⟩
      clear C4
      have hT2 := hT.trans (Turned.below (S := fun k => k = pb) hB2) (fun _ _ h => h)
      clear ho hR hT hB2
      go_wp2_with fail
      go_ret2
      exact ⟨rfl, hT2⟩
end Go.Proofs.Ytapheokmoebgfaa
