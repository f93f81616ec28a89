/-
  Tiles at hand: which ones, behind a use: plain; a tile read, a tile used: the code's.
-/
import Derived.Test.YtiflbbpliioblaaCacheB
import Derived.Test.YtiflbbpliioblaaCacheSpec
import Derived.Test.YtiflbbpliioblaaChartF
set_option linter.unusedVariables false
set_option linter.unusedSimpArgs false
namespace Go.Proofs.Ytiflbbpliioblaa
open Go Go.RowKit Go.Th Go.Th.Crc

/-! ### Plain -/
theorem front_take (T : List (Nat × Value)) (i c : Nat) (hi : i < c) (hc : c ≤ T.length) : (toFront T i).take c = (pl T i, pz T i) :: (T.take i ++ (T.drop (i + 1)).take (c - (i + 1))) := by
  obtain ⟨k, rfl⟩ : ∃ k, c = k + 1 := ⟨c - 1, by omega⟩
  unfold toFront
  rw [List.take_succ_cons, List.take_append, List.length_take, Nat.min_eq_left (by omega), List.take_take, Nat.min_eq_right (by omega : i ≤ k), show k + 1 - (i + 1) = k - i by omega]
theorem pl_take (T : List (Nat × Value)) (i c : Nat) (hi : i < c) (hc : c ≤ T.length) : ((T.take c).map Prod.fst)[i]? = some (pl T i) := by
  rw [List.getElem?_map, List.getElem?_take, if_pos hi, pl_mem T i (by omega)]; rfl
theorem filter_at : ∀ (L : List Nat) (i n : Nat), L.Nodup → L[i]? = some n → L.filter (fun m => !(m == n)) = L.take i ++ L.drop (i + 1)
  | [], i, n, _, h => by simp at h
  | a :: r, 0, n, hn, h => by
    have e : a = n := by simpa using h
    subst e
    rw [List.filter_cons_of_neg (by simp), filter_none r a (List.nodup_cons.1 hn).1]
    rfl
  | a :: r, i + 1, n, hn, h => by
    have h' : r[i]? = some n := by simpa using h
    have hne : a ≠ n := by
      rintro rfl
      exact (List.nodup_cons.1 hn).1 (List.mem_of_getElem? h')
    rw [List.filter_cons_of_pos (by simpa using hne), filter_at r i n (List.nodup_cons.1 hn).2 h', List.take_succ_cons, List.drop_succ_cons, List.cons_append]

/-- How many heights the n-th tile has. -/
def szT (W H n : Nat) : Nat := side W (n % cnt W) * side H (n / cnt W)
/-- Of these tiles the first c ones are at hand: those of L, in that order. -/
structure Hand (w : World) (base : Nat) (F : List Int) (W H : Nat) (T : List (Nat × Value)) (c : Nat) (L : List Nat) : Prop where
  names : L = (T.take c).map Prod.fst
  own : ∀ p ∈ T.take c, p.1 < nT W H ∧ w.ownsRow base 34 1 p.2 (szT W H p.1) (i16s (tileAt F W H p.1))
section
variable {w w' : World} {base : Nat} {F : List Int} {W H : Nat} {T : List (Nat × Value)} {c : Nat} {L : List Nat}
theorem Hand.length (h : Hand w base F W H T c L) (hc : c ≤ T.length) : L.length = c := by rw [h.names, List.length_map, List.length_take]; omega
theorem Hand.at (h : Hand w base F W H T c L) (hc : c ≤ T.length) (i : Nat) (hi : i < c) : L[i]? = some (pl T i) := by rw [h.names]; exact pl_take T i c hi hc
theorem Hand.mem (h : Hand w base F W H T c L) (hc : c ≤ T.length) (n : Nat) (hn : n ∈ L) : ∃ i, i < c ∧ pl T i = n := by
  obtain ⟨i, hi⟩ := List.getElem?_of_mem hn
  have hl : i < L.length := (List.getElem?_eq_some_iff.1 hi).1
  have := h.length hc
  refine ⟨i, by omega, ?_⟩
  rw [h.at hc i (by omega)] at hi
  simpa using hi
theorem Hand.row (h : Hand w base F W H T c L) (hc : c ≤ T.length) (i : Nat) (hi : i < c) : pl T i < nT W H ∧ w.ownsRow base 34 1 (pz T i) (szT W H (pl T i)) (i16s (tileAt F W H (pl T i))) :=
  h.own (pl T i, pz T i) (by
    have e : (T.take c)[i]? = some (pl T i, pz T i) := by rw [List.getElem?_take, if_pos hi]; exact pl_mem T i (by omega)
    exact List.mem_of_getElem? e)
theorem Hand.turned {S : Nat → Prop} (h : Hand w base F W H T c L) (ht : Turned S w w') (hs : ∀ p ∈ T.take c, ∀ k, p.2.ownBlock = some k → ¬ S k) : Hand w' base F W H T c L :=
  ⟨h.names, fun p hp => ⟨(h.own p hp).1, ht.own (h.own p hp).2 (hs p hp)⟩⟩
/-- Behind a use of one that is at hand. -/
theorem Hand.met (h : Hand w base F W H T c L) (hc : c ≤ T.length) (hn : L.Nodup) (i n room : Nat) (hi : i < c) (hp : pl T i = n) (hr : c ≤ room) : Hand w base F W H (toFront T i) c (useL room L n) := by
  have hl := h.length hc
  have hat := h.at hc i hi
  rw [hp] at hat
  have hf := filter_at L i n hn hat
  have hlen := filter_out L n hn (List.mem_of_getElem? hat)
  refine ⟨?_, ?_⟩
  · rw [front_take T i c hi hc, List.map_cons, List.map_append]
    unfold useL
    rw [List.take_of_length_le (by rw [List.length_cons]; omega), hf, h.names, ← hp]
    congr 1
    congr 1
    · rw [← List.map_take, List.take_take, Nat.min_eq_left (by omega)]
    · rw [← List.map_drop, List.drop_take]
  · intro p hp'
    rw [front_take T i c hi hc] at hp'
    refine h.own p ?_
    rcases List.mem_cons.1 hp' with rfl | hp'
    · have e : (T.take c)[i]? = some (pl T i, pz T i) := by rw [List.getElem?_take, if_pos hi]; exact pl_mem T i (by omega)
      exact List.mem_of_getElem? e
    · rcases List.mem_append.1 hp' with hp' | hp'
      · have e : T.take i = (T.take c).take i := by rw [List.take_take, Nat.min_eq_left (by omega)]
        rw [e] at hp'
        exact List.mem_of_mem_take hp'
      · have e : (T.drop (i + 1)).take (c - (i + 1)) = (T.take c).drop (i + 1) := by rw [List.drop_take]
        rw [e] at hp'
        exact List.mem_of_mem_drop hp'
/-- Behind a use of one that is not at hand. -/
theorem Hand.miss (h : Hand w base F W H T c L) (hc : c ≤ T.length) (k n room : Nat) (z : Value) (hk : k < room) (hkc : c < room ∧ k = c ∨ c = room ∧ k + 1 = c) (hr : room ≤ T.length) (hn : n ∉ L) (hnT : n < nT W H)
    (ho : w.ownsRow base 34 1 z (szT W H n) (i16s (tileAt F W H n))) : Hand w base F W H (toFront (T.set k (n, z)) k) (k + 1) (useL room L n) := by
  have hl := h.length hc
  have hkT : k < T.length := by omega
  have e1 : pl (T.set k (n, z)) k = n := by simp [pl, List.getD, List.getElem?_set_self hkT]
  have e2 : pz (T.set k (n, z)) k = z := by simp [pz, List.getD, List.getElem?_set_self hkT]
  have e3 : (T.set k (n, z)).take k = T.take k := List.take_set_of_le (Nat.le_refl _)
  have e4 := front_take (T.set k (n, z)) k (k + 1) (by omega) (by rw [List.length_set]; omega)
  rw [e1, e2, e3, Nat.sub_self, List.take_zero, List.append_nil] at e4
  have e5 : T.take k = (T.take c).take k := by rw [List.take_take, Nat.min_eq_left (by omega)]
  refine ⟨?_, ?_⟩
  · rw [e4, List.map_cons]
    unfold useL
    rw [filter_none L n hn]
    obtain ⟨r, rfl⟩ : ∃ r, room = r + 1 := ⟨room - 1, by omega⟩
    rw [List.take_succ_cons, e5, List.map_take, ← h.names]
    congr 1
    rcases hkc with ⟨h1, rfl⟩ | ⟨h1, h2⟩
    · rw [List.take_of_length_le (by omega), List.take_of_length_le (by omega)]
    · rw [show r = k by omega]
  · intro p hp
    rw [e4] at hp
    rcases List.mem_cons.1 hp with rfl | hp
    · exact ⟨hnT, ho⟩
    · rw [e5] at hp
      exact h.own p (List.mem_of_mem_take hp)
end
end Go.Proofs.Ytiflbbpliioblaa
