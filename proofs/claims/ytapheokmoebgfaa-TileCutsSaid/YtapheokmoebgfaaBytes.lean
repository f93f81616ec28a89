/-
  Bytes as slices, over the program: cloned, held against each other, as texts.
-/
import Derived.Test.YtapheokmoebgfaaRows
import Derived.Test.YtapheokmoebgfaaBase
import Derived.WideShapes
set_option linter.unusedVariables false
set_option linter.unusedSimpArgs false
namespace Go.Proofs.Ytapheokmoebgfaa
open Go.RowKit Go.Th

theorem Eu8 : ElemOf Try.prog 24 5 1 1 := ElemOf.mk' Try.underlying24 (z := .int .u8 0) (by kernel_rfl) rfl (by decide)

def u8s (l : List Nat) : List Value := l.map (fun x : Nat => .int .u8 (x : Int))

theorem oneCell_u8s (l : List Nat) : ∀ u ∈ u8s l, u.oneCell' = true := by
  intro u hu
  obtain ⟨x, _, rfl⟩ := List.mem_map.1 hu
  rfl

theorem Sl.bytes {w : World} (cs : List Nat) (t : TypeId) (n : Nat) (hn : n = cs.length) (hm : n ≤ maxLen) : Sl (w.alloc (.cells (u8s cs).toArray t)) 1 (.slice (some ⟨w.heap.size, 0, none⟩) n n) n (u8s cs) := by
  subst hn
  refine ⟨_, _, rfl, by simp [u8s], Nat.le_refl _, hm, fun h => (by cases h), ?_⟩
  intro j u hu
  refine ⟨_, _, rfl, ?_⟩
  rw [World.cell?_alloc_at _ _ _ _ rfl]
  simpa using hu

/-- A literal text as bytes. -/
theorem Sl.lit {w : World} (cs : List Nat) (t : TypeId) (fr : Nat × Nat) (n : Nat) (hn : n = cs.length) (hm : n ≤ maxLen) : Sl (w.alloc (.cells (u8s cs).toArray t fr)) 1 (.slice (some ⟨w.heap.size, 0, none⟩) n n) n (u8s cs) := by
  subst hn
  refine ⟨_, _, rfl, by simp [u8s], Nat.le_refl _, hm, fun h => (by cases h), ?_⟩
  intro j u hu
  refine ⟨_, _, rfl, ?_⟩
  have : (w.alloc (.cells (u8s cs).toArray t fr)).heap[w.heap.size]? = some (.cells (u8s cs).toArray t fr) := by
    show (w.heap.push _)[w.heap.size]? = _
    simp
  unfold World.cell?
  rw [this]
  simp [hu]

/-- Bytes as a text. -/
def strOf (bs : List Nat) : ByteArray := ⟨(bs.map UInt8.ofNat).toArray⟩

theorem fold_push (bs : List Nat) : ∀ s : ByteArray, (bs.map (fun x : Nat => (x : Int))).foldl (fun r n => r.push (UInt8.ofNat n.toNat)) s = ⟨s.data ++ (bs.map UInt8.ofNat).toArray⟩ := by
  induction bs with
  | nil => intro s; simp
  | cons b r ih =>
    intro s
    simp only [List.map_cons, List.foldl_cons]
    rw [ih]
    simp [ByteArray.push]

theorem run_str {w : World} {a : Option Addr} {n cap : Nat} {bs : List Nat} (h : Sl w 1 (.slice a n cap) n (u8s bs)) :
    (convert 24 9 (.slice a n cap)).run Try.prog w = .ok (.string (strOf bs)) w := by
  obtain ⟨a', cap', he, h1, h2, h3, h4, h5⟩ := h
  cases he
  rw [run_convert_bytes_string w 24 9 5 a n cap Try.underlying24 Try.underlying5 Try.underlying9]
  cases a with
  | none =>
    obtain ⟨rfl, rfl⟩ := h4 rfl
    have : bs = [] := List.eq_nil_of_length_eq_zero (by simpa [u8s] using h1)
    subst this
    rfl
  | some ad =>
    have hn : n = (bs.map (fun x : Nat => (x : Int))).length := by simpa [u8s] using h1.symm
    have hm : (bs.map (fun x : Nat => (x : Int))).map (Value.int .u8) = u8s bs := by simp [u8s, Function.comp_def]
    have hl : (loadCells ad n).run Try.prog w = .ok ((bs.map (fun x : Nat => (x : Int))).map (Value.int .u8)).toArray w := by
      rw [hm, show n = (u8s bs).length by simpa using h1.symm]
      refine run_loadCells_list w ad (u8s bs) fun j v hv => ?_
      obtain ⟨b, o, hA, hc⟩ := h5 j v hv
      cases hA
      rw [add_none]; exact hc
    rw [run_bytesToString w ad n cap _ hl, fold_push]
    simp [strOf]

theorem strOf_inj (a b : List Nat) (ha : ∀ x ∈ a, x < 256) (hb : ∀ x ∈ b, x < 256) (h : strOf a = strOf b) : a = b := by
  have h1 : a.map UInt8.ofNat = b.map UInt8.ofNat := by
    have := congrArg (fun s : ByteArray => s.data.toList) h
    simpa [strOf] using this
  have h2 : ∀ l : List Nat, (∀ x ∈ l, x < 256) → (l.map UInt8.ofNat).map UInt8.toNat = l := by
    intro l hl
    rw [List.map_map]
    conv => rhs; rw [← List.map_id l]
    refine List.map_congr_left fun x hx => ?_
    have := hl x hx
    simp [Nat.mod_eq_of_lt this]
  rw [← h2 a ha, ← h2 b hb, h1]

theorem strOf_ne (a b : List Nat) (ha : ∀ x ∈ a, x < 256) (hb : ∀ x ∈ b, x < 256) (h : a ≠ b) : ((strOf a).toList == (strOf b).toList) = false := by
  rw [ByteArray.toList_eq, ByteArray.toList_eq, Bool.eq_false_iff]
  intro e
  exact h (strOf_inj a b ha hb (Go.WideShapes.bytes_inj (eq_of_beq e)))

theorem oneCell_u8 (x : Int) : ∀ u ∈ [Value.int .u8 x], u.oneCell' = true := by
  intro u hu
  simp at hu
  subst hu
  rfl
end Go.Proofs.Ytapheokmoebgfaa
