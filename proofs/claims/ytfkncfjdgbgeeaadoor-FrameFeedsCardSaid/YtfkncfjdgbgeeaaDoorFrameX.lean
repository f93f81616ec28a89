/-
  The law's example: one frame, put, read, found among others, and fed in two pieces.
-/
import Derived.Test.YtfkncfjdgbgeeaaDoorFrameP
import Derived.Test.YtfkncfjdgbgeeaaDoorFrameQ
import Derived.Test.YtfkncfjdgbgeeaaDoorFrameI
set_option linter.unusedVariables false
set_option linter.unusedSimpArgs false
namespace Go.Proofs.YtfkncfjdgbgeeaaDoor
open Go Go.RowKit Go.Th Go.Th.Crc

def f0 : Fr := ⟨2, 7, 9, -5, 3, 0⟩
theorem f0_ok : f0.Ok := by constructor <;> (unfold f0; simp)
theorem f0_code : pcode f0 = 0 := by decide
def eb : List Nat := bytesF f0
theorem eb_length : eb.length = 20 := by rw [eb, bytesF_length]; decide
theorem eb_lt : ∀ x ∈ eb, x < 256 := bytesF_lt f0 (by decide)
theorem eb_fst : fst eb = 0 := (back_F f0 f0_ok f0_code).1
theorem eb_frm : frm eb = f0 := (back_F f0 f0_ok f0_code).2.1
theorem eb_sz : sz eb = 20 := by rw [eb, (back_F f0 f0_ok f0_code).2.2]; exact eb_length
theorem fst_form (b : Nat) (r : List Nat) (h : b ≠ 126) : fst (b :: r) = 3 := by
  have : lcode (b :: r) = 3 := by unfold lcode; rw [if_neg (by simp), if_pos (by simpa using h)]
  unfold fst; rw [if_pos (by omega), this]
theorem fst_kind (k : Nat) (r : List Nat) (h : fcnt (k : Int) < 0) : fst (126 :: k :: r) = 13 := by
  have hk : kd (126 :: k :: r) = (k : Int) := rfl
  have : lcode (126 :: k :: r) = 13 := by unfold lcode; rw [if_neg (by simp), if_neg (by simp), if_neg (by simp), hk, if_pos h]
  unfold fst; rw [if_pos (by omega), this]
theorem eb_found : found (1 :: 126 :: 9 :: eb) 0 = [(3, f0)] := by
  have hl : (1 :: 126 :: 9 :: eb).length = 23 := by simp [eb_length]
  rw [found_no _ 0 (by omega) (by show fst (1 :: 126 :: 9 :: eb) ≠ 0; rw [fst_form 1 _ (by decide)]; decide)]
  rw [found_no _ 1 (by omega) (by show fst (126 :: 9 :: eb) ≠ 0; rw [fst_kind 9 _ (by decide)]; decide)]
  rw [found_no _ 2 (by omega) (by show fst (9 :: eb) ≠ 0; rw [fst_form 9 _ (by decide)]; decide)]
  rw [found_yes _ 3 (by omega) (by show fst eb = 0; exact eb_fst)]
  rw [show (1 :: 126 :: 9 :: eb).drop 3 = eb from rfl, eb_frm, eb_sz, found_end _ _ (by omega)]
theorem eb_split : ∃ r, eb = 126 :: 2 :: r := ⟨_, by unfold eb bytesF putB fbody nb f0; rfl⟩
theorem eb_take : fst (eb.take 10) = 5 := by
  obtain ⟨r, hr⟩ := eb_split
  have hl : (eb.take 10).length = 10 := by rw [List.length_take, eb_length]; rfl
  have e : eb.take 10 = 126 :: 2 :: r.take 8 := by rw [hr]; rfl
  have hk : kd (eb.take 10) = 2 := by rw [e]; rfl
  have hz : sz (eb.take 10) = 20 := by unfold sz; rw [hk]; decide
  have : lcode (eb.take 10) = 5 := by
    unfold lcode
    rw [if_neg (by omega), if_neg (by rw [e]; simp), if_neg (by omega), hk, if_neg (by decide), if_pos (by omega)]
  unfold fst; rw [if_pos (by omega), this]
theorem feeds_1 : Feeds ([] ++ 5 :: eb.take 10) [] 1 (eb.take 10) := by
  have h3 := fst_form 5 (eb.take 10) (by decide)
  exact Feeds.pass _ _ 0 _ (by show fst (5 :: eb.take 10) ≠ 0; omega) (by show fst (5 :: eb.take 10) ≠ 5; omega) (Feeds.stop _ eb_take)
theorem feeds_2 : Feeds (eb.take 10 ++ eb.drop 10) [f0] 0 [] := by
  rw [List.take_append_drop]
  have := Feeds.tell eb [] 0 [] eb_fst (by
    rw [eb_sz, List.drop_of_length_le (by rw [eb_length]; exact Nat.le_refl _)]
    exact Feeds.stop [] (by decide))
  rw [eb_frm] at this
  exact this

theorem put_1 (w : World) (C : Cts w) : Calls Tryd.prog 7 #[fvs 2 7 9 (-5) 3 0] w fun e w' => ∃ v, e = .returned (.tuple #[v, .int .i64 0]) ∧ w'.ownsRow w.heap.size 5 1 v 20 (u8s eb) ∧ Below w.heap.size w w' := by
  refine (putF_any f0 f0_ok w C).mono ?_
  rintro e w' ⟨⟨v, rfl, h1, _⟩, hB⟩
  have := h1 f0_code
  rw [show (bytesF f0).length = 20 from eb_length] at this
  exact ⟨v, by rw [f0_code]; rfl, this, hB⟩
theorem put_2 (w : World) (C : Cts w) : Calls Tryd.prog 7 #[fvs 4 0 0 1 0 0] w fun e w' => e = .returned (.tuple #[.slice none 0 0, .int .i64 1]) ∧ Below w.heap.size w w' := by
  refine (putF_any ⟨4, 0, 0, 1, 0, 0⟩ (by constructor <;> simp) w C).mono ?_
  rintro e w' ⟨⟨v, rfl, _, h2⟩, hB⟩
  have hc : pcode ⟨4, 0, 0, 1, 0, 0⟩ = 1 := by decide
  rw [h2 (by rw [hc]; decide), hc]
  exact ⟨rfl, hB⟩
theorem put_3 (w : World) (C : Cts w) : Calls Tryd.prog 7 #[fvs 0 0 0 0 0 0] w fun e w' => e = .returned (.tuple #[.slice none 0 0, .int .i64 13]) ∧ Below w.heap.size w w' := by
  refine (putF_any z0 z0_ok w C).mono ?_
  rintro e w' ⟨⟨v, rfl, _, h2⟩, hB⟩
  have hc : pcode z0 = 13 := by decide
  rw [h2 (by rw [hc]; decide), hc]
  exact ⟨rfl, hB⟩
theorem first_1 (v : Value) (w : World) (C : Cts w) (h : Sl w 1 v 20 (u8s eb)) : Calls Tryd.prog 13 #[v] w fun e w' => e = .returned (.tuple #[fvs 2 7 9 (-5) 3 0, .int .i64 20, .int .i64 0]) ∧ Below w.heap.size w w' := by
  have := first_any v eb (by rw [eb_length]; decide) eb_lt w C (by rw [eb_length]; exact h)
  rw [show fstF eb = f0 by unfold fstF; rw [if_pos eb_fst, eb_frm], show fstN eb = 20 by unfold fstN; rw [if_pos eb_fst, eb_sz], eb_fst] at this
  exact this
theorem push_1 (g : Nat) (hg : g ≠ 0) (v : Value) (w : World) (C : Cts w) (K : Blk w g 46 [.slice none 0 0, .int .i64 0]) (h : Sl w 1 v 11 (u8s (5 :: eb.take 10))) :
    Calls Tryd.prog 18 #[.pointer (some ⟨g, 0, none⟩), v] w fun e w' => ∃ v wv', e = .returned v ∧ w'.ownsRow w.heap.size 25 6 v 0 [] ∧ Blk w' g 46 [wv', .int .i64 1] ∧ w'.ownsRow w.heap.size 5 1 wv' 10 (u8s (eb.take 10)) ∧ Turned (fun j => j = g) w w' := by
  have hl : (5 :: eb.take 10).length = 11 := by rw [List.length_cons, List.length_take, eb_length]; rfl
  have ht : (eb.take 10).length = 10 := by rw [List.length_take, eb_length]; rfl
  have hb : ∀ x ∈ 5 :: eb.take 10, x < 256 := by
    intro x hx
    rcases List.mem_cons.1 hx with rfl | hx
    · decide
    · exact eb_lt x (List.mem_of_mem_take hx)
  refine (push_any g (.slice none 0 0) v [] (5 :: eb.take 10) 0 (by decide) (by rw [hl]; decide) (by simp) hb w C hg K (Sl.nil _ _) (by rw [hl]; exact h)).mono ?_
  rintro e w' ⟨v', l, k, r, wv', rfl, hF, h1, h2, h3, h4⟩
  obtain ⟨rfl, rfl, rfl⟩ := hF.one feeds_1
  rw [ht] at h3
  exact ⟨v', wv', rfl, h1, h2, h3, h4⟩
theorem push_2 (g : Nat) (hg : g ≠ 0) (wv v : Value) (w : World) (C : Cts w) (K : Blk w g 46 [wv, .int .i64 1]) (hw : Sl w 1 wv 10 (u8s (eb.take 10))) (h : Sl w 1 v 10 (u8s (eb.drop 10))) :
    Calls Tryd.prog 18 #[.pointer (some ⟨g, 0, none⟩), v] w fun e w' => ∃ v wv', e = .returned v ∧ w'.ownsRow w.heap.size 25 6 v 1 (fcs 2 7 9 (-5) 3 0) ∧ Blk w' g 46 [wv', .int .i64 1] ∧ w'.ownsRow w.heap.size 5 1 wv' 0 [] ∧ Turned (fun j => j = g) w w' := by
  have hl : (eb.drop 10).length = 10 := by rw [List.length_drop, eb_length]
  have ht : (eb.take 10).length = 10 := by rw [List.length_take, eb_length]; rfl
  refine (push_any g wv v (eb.take 10) (eb.drop 10) 1 (by decide) (by rw [hl, ht]; decide) (fun x hx => eb_lt x (List.mem_of_mem_take hx)) (fun x hx => eb_lt x (List.mem_of_mem_drop hx)) w C hg K (by rw [ht]; exact hw) (by rw [hl]; exact h)).mono ?_
  rintro e w' ⟨v', l, k, r, wv', rfl, hF, h1, h2, h3, h4⟩
  obtain ⟨rfl, rfl, rfl⟩ := hF.one feeds_2
  exact ⟨v', wv', rfl, h1, h2, h3, h4⟩
end Go.Proofs.YtfkncfjdgbgeeaaDoor
