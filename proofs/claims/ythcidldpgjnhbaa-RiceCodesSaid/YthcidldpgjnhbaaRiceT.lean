/-
  Numbers that have room; what packed rows say.
-/
import Derived.Test.YthcidldpgjnhbaaBitsPack
import Derived.Test.YthcidldpgjnhbaaRiceS
import Derived.Test.YthcidldpgjnhbaaRiceF
set_option linter.unusedVariables false
set_option linter.unusedSimpArgs false
namespace Go.Proofs.Ythcidldpgjnhbaa
open Go Go.RowKit Go.Th

theorem here_pack0 (l : List Bool) : Here (pack l) 0 l := by
  have h := here_pack l [] (pack l) 0 (by rw [List.append_nil]) rfl
  exact h (fun j hj => bitAt_pack l j hj)
theorem rowAt_pack (m : List Int) (n : Nat) (hn : m.length = n) (hr : ∀ x ∈ m, Rm x) : RowAt (pack (row m)) 0 n m := ⟨hn, hr, here_pack0 _⟩

/-- What 'small' makes of a number. -/
def sm (x : Int) : Int := if x < -65536 ∨ 65535 < x then x.tmod 60000 else x
theorem sm_room (x : Int) : Rm (sm x) := by
  unfold sm Rm
  by_cases h : x < -65536 ∨ 65535 < x
  · rw [if_pos h]
    have h1 := Int.tmod_lt_of_pos x (b := 60000) (by omega)
    have h2 : -60000 < x.tmod 60000 := by
      have := Int.lt_tmod_of_pos x (b := 60000) (by omega); omega
    omega
  · rw [if_neg h]; omega
theorem sm_all (m : List Int) : ∀ x ∈ m.map sm, Rm x := by
  intro x hx
  obtain ⟨y, _, rfl⟩ := List.mem_map.1 hx
  exact sm_room y

set_option maxRecDepth 20000 in
set_option maxHeartbeats 1600000 in
theorem small_any (a : Option Addr) (n cap : Nat) (m : List Int) (hn : m.length = n) (hmax : n ≤ 1000) (h32 : ∀ x ∈ m, In32 x) (w : World) (hS : Sl w 1 (.slice a n cap) n (i32s m)) :
    Calls Try.prog 11 #[.slice a n cap] w fun e w' => ∃ v, e = .returned v ∧ w'.ownsRow w.heap.size 21 1 v n (i32s (m.map sm)) ∧ Below w.heap.size w w' := by
  have hmx := hS.max
  have HN := Lib.hid hn; clear hn
  have H32 := Lib.hid h32; clear h32
  have HS := Lib.hid hS; clear hS
  go_enter Try.func11, Try.ntmps11
  go_wp2_with fail
  go_loopw [3, 4] (fun v c wx => ∃ i : Nat, i ≤ n ∧ c = .int .i64 i ∧ wx.ownsRow w.heap.size 21 1 v i (i32s ((m.map sm).take i)) ∧ Below w.heap.size w wx) (fun _ c _ => n - (intOf c).toNat)
  case atStart => exact ⟨0, Nat.zero_le _, rfl, World.ownsRow_nil _ _ _ _, Below.refl _ _⟩
  case round =>
    obtain ⟨i, hi, rfl, ho, hB⟩ := hrel
    have hsz := hB.size
    by_cases hlt : i < n
    · have him : i < m.length := by rw [HN.out]; exact hlt
      obtain ⟨b, o, rfl, hbl, hc⟩ := cell_i32 HS.out i him
      have hc' := (hB.cell (p := ⟨b, o + i, none⟩) hbl).trans hc
      have hts := take_snoc m i him
      obtain ⟨h1, h2⟩ := H32.out m[i] (List.getElem_mem _)
      obtain ⟨y, hy⟩ : ∃ y, y = m[i] := ⟨_, rfl⟩
      rw [← hy] at hc' hts h1 h2
      clear hy hc
      have HTS := Lib.hid hts; clear hts
      have fin : ∀ (w3 : World) (v2 : Value) (z : Int), z = sm y → w3.ownsRow w.heap.size 21 1 v2 (i + 1) (i32s ((m.map sm).take i) ++ [.int .i32 z]) → w3.ownsRow w.heap.size 21 1 v2 (i + 1) (i32s ((m.map sm).take (i + 1))) := by
        rintro w3 v2 z rfl h
        rw [← List.map_take, HTS.out, List.map_append, List.map_singleton, i32s_snoc, List.map_take]
        exact h
      have FIN := Lib.hid fin; clear fin
      by_cases hlow : y < -65536
      · have hz : y.tmod 60000 = sm y := by unfold sm; rw [if_pos (.inl hlow)]
        have HZ := Lib.hid hz; clear hz
        go_wp2_with (at_builtin; refine wpList_app E32 rfl (.tmp 24) (.tmp 26) rfl w.heap.size rfl (ho.alloc _) rfl (Sl.one _ _ _) (by intro u hu; simp at hu; subst hu; rfl) (by unfold maxLen; omega) (by omega) (by simp; omega) ?_)
        intro v2 w3 ho3 hg3 _
        have hB3 := hB.trans (app_below ho hsz hg3)
        replace ho3 := FIN.out w3 v2 _ HZ.out ho3
        clear ho hg3 hB
        go_wp2_with fail
        go_roundw
        case rel => exact ⟨i + 1, by omega, by go_num, ho3, hB3⟩
        case measure => simp [intOf]; omega
      · by_cases hhi : 65535 < y
        · have hz : y % 60000 = sm y := by unfold sm; rw [if_pos (.inr hhi), Int.tmod_eq_emod_of_nonneg (by omega)]
          have HZ := Lib.hid hz; clear hz
          go_wp2_with (at_builtin; refine wpList_app E32 rfl (.tmp 24) (.tmp 26) rfl w.heap.size rfl (ho.alloc _) rfl (Sl.one _ _ _) (by intro u hu; simp at hu; subst hu; rfl) (by unfold maxLen; omega) (by omega) (by simp; omega) ?_)
          intro v2 w3 ho3 hg3 _
          have hB3 := hB.trans (app_below ho hsz hg3)
          replace ho3 := FIN.out w3 v2 _ HZ.out ho3
          clear ho hg3 hB
          go_wp2_with fail
          go_roundw
          case rel => exact ⟨i + 1, by omega, by go_num, ho3, hB3⟩
          case measure => simp [intOf]; omega
        · have hz : y = sm y := by unfold sm; rw [if_neg (by omega)]
          have HZ := Lib.hid hz; clear hz
          go_wp2_with (at_builtin; refine wpList_app E32 rfl (.tmp 24) (.tmp 26) rfl w.heap.size rfl (ho.alloc _) rfl (Sl.one _ _ _) (by intro u hu; simp at hu; subst hu; rfl) (by unfold maxLen; omega) (by omega) (by simp; omega) ?_)
          intro v2 w3 ho3 hg3 _
          have hB3 := hB.trans (app_below ho hsz hg3)
          replace ho3 := FIN.out w3 v2 _ HZ.out ho3
          clear ho hg3 hB
          go_wp2_with fail
          go_roundw
          case rel => exact ⟨i + 1, by omega, by go_num, ho3, hB3⟩
          case measure => simp [intOf]; omega
    · obtain rfl : i = n := by omega
      rw [List.take_of_length_le (by rw [List.length_map, HN.out]; exact Nat.le_refl _)] at ho
      go_wp2_with fail
      go_ret
      exact ⟨_, rfl, ho, hB⟩
end Go.Proofs.Ythcidldpgjnhbaa
