/-
  A cache's memory: its cells; where a tile stands, where another may stand: the code's.
-/
import Derived.Test.YtiflbbpliioblaaPackTile
set_option linter.unusedVariables false
set_option linter.unusedSimpArgs false
namespace Go.Proofs.Ytiflbbpliioblaa
open Go Go.RowKit Go.Th

/-- The cells of tiles: each its place, and its heights. -/
def tcs : List (Nat × Value) → List Value
  | [] => []
  | p :: r => .int .i64 (p.1 : Int) :: p.2 :: tcs r
theorem tcs_length : ∀ T : List (Nat × Value), (tcs T).length = 2 * T.length
  | [] => rfl
  | p :: r => by rw [tcs, List.length_cons, List.length_cons, List.length_cons, tcs_length r]; omega
theorem tcs_append : ∀ A B : List (Nat × Value), tcs (A ++ B) = tcs A ++ tcs B
  | [], _ => rfl
  | p :: r, B => by rw [List.cons_append, tcs, tcs, tcs_append r B, List.cons_append, List.cons_append]
theorem tcs_take : ∀ (T : List (Nat × Value)) (k : Nat), (tcs T).take (2 * k) = tcs (T.take k)
  | [], k => by simp [tcs]
  | p :: r, 0 => by simp [tcs]
  | p :: r, k + 1 => by rw [show 2 * (k + 1) = 2 * k + 1 + 1 by omega, tcs, List.take_succ_cons, List.take_succ_cons, List.take_succ_cons, tcs, tcs_take r k]
theorem tcs_drop : ∀ (T : List (Nat × Value)) (k : Nat), (tcs T).drop (2 * k) = tcs (T.drop k)
  | [], k => by simp [tcs]
  | p :: r, 0 => by simp [tcs]
  | p :: r, k + 1 => by rw [show 2 * (k + 1) = 2 * k + 1 + 1 by omega, tcs, List.drop_succ_cons, List.drop_succ_cons, List.drop_succ_cons, tcs_drop r k]
def pl (T : List (Nat × Value)) (i : Nat) : Nat := (T.getD i (0, .slice none 0 0)).1
def pz (T : List (Nat × Value)) (i : Nat) : Value := (T.getD i (0, .slice none 0 0)).2
theorem tcs_fst : ∀ (T : List (Nat × Value)) (i : Nat), i < T.length → (tcs T)[2 * i]? = some (.int .i64 (pl T i : Nat))
  | [], i, h => by simp at h
  | p :: r, 0, _ => by simp [tcs, pl]
  | p :: r, i + 1, h => by
    have := tcs_fst r i (by simpa using h)
    rw [show 2 * (i + 1) = 2 * i + 1 + 1 by omega, tcs, List.getElem?_cons_succ, List.getElem?_cons_succ, this]
    rfl
theorem tcs_snd : ∀ (T : List (Nat × Value)) (i : Nat), i < T.length → (tcs T)[2 * i + 1]? = some (pz T i)
  | [], i, h => by simp at h
  | p :: r, 0, _ => by simp [tcs, pz]
  | p :: r, i + 1, h => by
    have := tcs_snd r i (by simpa using h)
    rw [show 2 * (i + 1) + 1 = 2 * i + 1 + 1 + 1 by omega, tcs, List.getElem?_cons_succ, List.getElem?_cons_succ, this]
    rfl
theorem tcs_set : ∀ (T : List (Nat × Value)) (i : Nat) (p : Nat × Value), ((tcs T).set (2 * i) (.int .i64 (p.1 : Nat))).set (2 * i + 1) p.2 = tcs (T.set i p)
  | [], i, p => by simp [tcs]
  | q :: r, 0, p => by simp [tcs]
  | q :: r, i + 1, p => by
    have := tcs_set r i p
    rw [show 2 * (i + 1) = 2 * i + 1 + 1 by omega, tcs, List.set_cons_succ, List.set_cons_succ, List.set_cons_succ, List.set_cons_succ, this]
    rfl
theorem pl_mem (T : List (Nat × Value)) (i : Nat) (h : i < T.length) : T[i]? = some (pl T i, pz T i) := by
  rw [List.getElem?_eq_getElem h]
  simp [pl, pz, List.getD, List.getElem?_eq_getElem h]

theorem mid_set64 (h L E : List Value) (j k : Nat) (x : Value) (hh : h.length = 10) (hL : L.length = 64) (hk : k < 64) (hj : j = 10 + k) : (h ++ (L ++ E)).set j x = h ++ (L.set k x ++ E) := by
  subst hj
  rw [List.set_append_right _ _ (by omega), List.set_append_left _ _ (by omega), hh, Nat.add_sub_cancel_left]
/-- A cache's cells: bytes, directory and room; the tiles; how many are at hand, how often one was, and was not. -/
def cc (h : List Value) (T : List (Nat × Value)) (c m s : Nat) : List Value := h ++ (tcs T ++ [.int .i64 (c : Int), .int .i64 (m : Int), .int .i64 (s : Int)])
structure CK (w : World) (g : Nat) (h : List Value) (T : List (Nat × Value)) (c m s : Nat) : Prop where
  blk : Blk w g 67 (cc h T c m s)
  hl : h.length = 10
  tl : T.length = 32
  one : ∀ p ∈ T, ∃ a n cap, p.2 = .slice a n cap
section
variable {w w' : World} {g : Nat} {h : List Value} {T : List (Nat × Value)} {c m s : Nat}
theorem CK.len (K : CK w g h T c m s) : (cc h T c m s).length = 77 := by
  unfold cc
  rw [List.length_append, List.length_append, tcs_length, K.hl, K.tl]; rfl
theorem CK.lt (K : CK w g h T c m s) : g < w.heap.size := K.blk.lt
theorem CK.head (K : CK w g h T c m s) {i : Nat} {u : Value} (hi : h[i]? = some u) : w.cell? ⟨g, i, none⟩ = some u := by
  refine K.blk.cell ?_
  have : i < h.length := (List.getElem?_eq_some_iff.1 hi).1
  unfold cc
  rw [List.getElem?_append_left this, hi]
theorem CK.end (K : CK w g h T c m s) (i : Nat) : (cc h T c m s)[74 + i]? = [Value.int .i64 (c : Int), .int .i64 (m : Int), .int .i64 (s : Int)][i]? := by
  unfold cc
  rw [List.getElem?_append_right (by rw [K.hl]; omega), List.getElem?_append_right (by rw [K.hl, tcs_length, K.tl]; omega), K.hl, tcs_length, K.tl]
  congr 1
  omega
theorem CK.cnt (K : CK w g h T c m s) : w.cell? ⟨g, 74, none⟩ = some (.int .i64 (c : Int)) := K.blk.cell (by rw [show 74 = 74 + 0 from rfl, K.end]; rfl)
theorem CK.met (K : CK w g h T c m s) : w.cell? ⟨g, 75, none⟩ = some (.int .i64 (m : Int)) := K.blk.cell (by rw [show 75 = 74 + 1 from rfl, K.end]; rfl)
theorem CK.mis (K : CK w g h T c m s) : w.cell? ⟨g, 76, none⟩ = some (.int .i64 (s : Int)) := K.blk.cell (by rw [show 76 = 74 + 2 from rfl, K.end]; rfl)
theorem CK.mid (K : CK w g h T c m s) (k : Nat) (hk : k < 64) : (cc h T c m s)[10 + k]? = (tcs T)[k]? := by
  unfold cc
  rw [List.getElem?_append_right (by rw [K.hl]; omega), K.hl, Nat.add_sub_cancel_left, List.getElem?_append_left (by rw [tcs_length, K.tl]; exact hk)]
theorem CK.place (K : CK w g h T c m s) (i : Nat) (hi : i < 32) : w.cell? ⟨g, 10 + i * 2, none⟩ = some (.int .i64 (pl T i : Nat)) :=
  K.blk.cell (by rw [K.mid _ (by omega), Nat.mul_comm, tcs_fst T i (by rw [K.tl]; exact hi)])
theorem CK.z (K : CK w g h T c m s) (i : Nat) (hi : i < 32) : w.cell? ⟨g, 10 + i * 2 + 1, none⟩ = some (pz T i) :=
  K.blk.cell (by rw [Nat.add_assoc, K.mid _ (by omega), Nat.mul_comm, tcs_snd T i (by rw [K.tl]; exact hi)])
theorem CK.free (K : CK w g h T c m s) (i : Nat) : w.frozen? ⟨g, i, none⟩ = false := K.blk.free i
theorem CK.turned {S : Nat → Prop} (K : CK w g h T c m s) (ht : Turned S w w') (hs : ¬ S g) : CK w' g h T c m s := ⟨K.blk.turned ht hs, K.hl, K.tl, K.one⟩
theorem CK.below (K : CK w g h T c m s) (hb : Below w.heap.size w w') : CK w' g h T c m s := ⟨K.blk.below hb K.lt, K.hl, K.tl, K.one⟩
theorem CK.drew (K : CK w g h T c m s) : CK w.drew g h T c m s := ⟨K.blk.drew, K.hl, K.tl, K.one⟩
theorem CK.drewN (K : CK w g h T c m s) (n : Nat) : CK (w.drewN n) g h T c m s := ⟨K.blk.drewN n, K.hl, K.tl, K.one⟩
theorem CK.setEnd (K : CK w g h T c m s) (i : Nat) (u : Value) : (cc h T c m s).set (74 + i) u = h ++ (tcs T ++ [Value.int .i64 (c : Int), .int .i64 (m : Int), .int .i64 (s : Int)].set i u) := by
  unfold cc
  rw [List.set_append_right _ _ (by rw [K.hl]; omega), List.set_append_right _ _ (by rw [K.hl, tcs_length, K.tl]; omega), K.hl, tcs_length, K.tl]
  congr 3
  omega
theorem CK.setC (K : CK w g h T c m s) (c' : Nat) : CK (w.setCell ⟨g, 74, none⟩ (.int .i64 (c' : Int))) g h T c' m s :=
  ⟨by have := K.blk.set 74 (.int .i64 (c' : Int)) (by rw [K.len]; omega); rw [show 74 = 74 + 0 from rfl, K.setEnd] at this; exact this, K.hl, K.tl, K.one⟩
theorem CK.setM (K : CK w g h T c m s) (m' : Nat) : CK (w.setCell ⟨g, 75, none⟩ (.int .i64 (m' : Int))) g h T c m' s :=
  ⟨by have := K.blk.set 75 (.int .i64 (m' : Int)) (by rw [K.len]; omega); rw [show 75 = 74 + 1 from rfl, K.setEnd] at this; exact this, K.hl, K.tl, K.one⟩
theorem CK.setS (K : CK w g h T c m s) (s' : Nat) : CK (w.setCell ⟨g, 76, none⟩ (.int .i64 (s' : Int))) g h T c m s' :=
  ⟨by have := K.blk.set 76 (.int .i64 (s' : Int)) (by rw [K.len]; omega); rw [show 76 = 74 + 2 from rfl, K.setEnd] at this; exact this, K.hl, K.tl, K.one⟩
theorem CK.setT (K : CK w g h T c m s) (i : Nat) (hi : i < 32) (p : Nat) (z : Value) (hz : ∃ a n cap, z = .slice a n cap) : CK ((w.setCell ⟨g, 10 + i * 2, none⟩ (.int .i64 (p : Int))).setCell ⟨g, 10 + i * 2 + 1, none⟩ z) g h (T.set i (p, z)) c m s := by
  have h1 := K.blk.set (10 + i * 2) (.int .i64 (p : Int)) (by rw [K.len]; omega)
  have h2 := h1.set (10 + i * 2 + 1) z (by rw [List.length_set, K.len]; omega)
  refine ⟨?_, K.hl, by rw [List.length_set, K.tl], fun q hq => by
    rcases List.mem_or_eq_of_mem_set hq with h | rfl
    · exact K.one q h
    · exact hz⟩
  have e : ((cc h T c m s).set (10 + i * 2) (.int .i64 (p : Int))).set (10 + i * 2 + 1) z = cc h (T.set i (p, z)) c m s := by
    unfold cc
    rw [mid_set64 _ _ _ _ (2 * i) _ K.hl (by rw [tcs_length, K.tl]) (by omega) (by omega), mid_set64 _ _ _ _ (2 * i + 1) _ K.hl (by rw [List.length_set, tcs_length, K.tl]) (by omega) (by omega), tcs_set T i (p, z)]
  rw [e] at h2
  exact h2
end

set_option maxRecDepth 20000 in
theorem find_any (g : Nat) (h : List Value) (T : List (Nat × Value)) (c m s n : Nat) (hc : c ≤ 32) (w : World) (K : CK w g h T c m s) :
    Calls Try.prog 38 #[.pointer (some ⟨g, 0, none⟩), .int .i64 n] w fun e w' => w' = w ∧
      ((∃ i, i < c ∧ pl T i = n ∧ (∀ j, j < i → pl T j ≠ n) ∧ e = .returned (.tuple #[.int .i64 i, .bool true])) ∨ ((∀ j, j < c → pl T j ≠ n) ∧ e = .returned (.tuple #[.int .i64 0, .bool false]))) := by
  have c74 := K.cnt
  go_enter Try.func38, Try.ntmps38
  go_wp2_with fail
  go_loopw [11] (fun v wx => ∃ i : Nat, i ≤ c ∧ v = .int .i64 i ∧ wx = w ∧ ∀ j, j < i → pl T j ≠ n) (fun v _ => c - (intOf v).toNat)
  case atStart => exact ⟨0, Nat.zero_le _, rfl, rfl, fun j hj => by omega⟩
  case round =>
    obtain ⟨i, hi, rfl, rfl, hno⟩ := hrel
    have HNO := Lib.hid hno
    clear hno
    by_cases hlt : i < c
    · have hp := K.place i (by omega)
      have hi32 : i < 32 := by omega
      obtain ⟨p, hpe⟩ : ∃ p, p = pl T i := ⟨_, rfl⟩
      rw [← hpe] at hp
      by_cases hpn : p = n
      · subst hpn
        have HPE := Lib.hid hpe
        clear hpe
        go_wp2_with fail
        go_ret2
        exact ⟨by trivial, .inl ⟨i, hlt, HPE.out.symm, HNO.out, rfl⟩⟩
      · have hpn' : ¬ ((p : Int) = (n : Int)) := by omega
        have HPE := Lib.hid hpe
        clear hpe
        go_wp2_with fail
        go_roundw
        case rel => exact ⟨i + 1, by omega, by go_num, by trivial, fun j hj => by
          by_cases e : j = i
          · subst e; rw [← HPE.out]; exact hpn
          · exact HNO.out j (by omega)⟩
        case measure => simp [intOf]; omega
    · obtain rfl : i = c := by omega
      go_wp2_with fail
      go_ret2
      exact ⟨by trivial, .inr ⟨HNO.out, rfl⟩⟩
end Go.Proofs.Ytiflbbpliioblaa
