/-
  A row of parts gone through from its end: the library's iterator, whatever the rounds write behind it.
-/
import Derived.RangeFuncFrom
import Derived.RangeFuncNested
import Derived.RangeFuncBox
import Derived.RangeFuncBound
import Derived.RangeFuncCalls
import Derived.RangeFuncLeaves
import Derived.Shelf.Abstract
import Derived.Shelf.RegionOpen
import Derived.WalkKit
import Derived.OwnWalkIn
import Derived.TacticsInMore
import Derived.LoopNIn
import Derived.LoopIn
import Derived.Test.YtghioakpigdagaaDoorNatD
import Derived.Test.YtghioakpigdagaaDoorRangeAt
import Derived.Test.YtghioakpigdagaaDoorPackBits
set_option linter.unusedVariables false
set_option linter.unusedSimpArgs false
namespace Go.Proofs.YtghioakpigdagaaDoor
open Go Go.RowKit Go.Shelf Go.Th Go.Th.Dig
attribute [local go_sem] Oper.semAt_some

/-- A row's parts with their places, the last one first. -/
def backs (l : List Nat) : List (Array Value) := (List.range l.length).map fun k => #[.int .i64 ((l.length - 1 - k : Nat) : Int), .int .u32 ((l.getD (l.length - 1 - k) 0 : Nat) : Int)]
theorem backs_length (l : List Nat) : (backs l).length = l.length := by simp [backs]
theorem backs_at (l : List Nat) (k : Nat) (h : k < l.length) : (backs l)[k]? = some #[.int .i64 ((l.length - 1 - k : Nat) : Int), .int .u32 ((l.getD (l.length - 1 - k) 0 : Nat) : Int)] := by simp [backs, h]
theorem backs_two (l : List Nat) (x : Array Value) (h : x ∈ backs l) : x.size = 2 := by
  obtain ⟨k, _, rfl⟩ := List.mem_map.1 h
  rfl
/-- What a round leaves as it is: the row's address, and the places that come behind it. -/
def BackC (Bx : Nat) (a : Option Addr) (n k : Nat) (p : Addr) : Prop := p = ⟨Bx, 0, none⟩ ∨ ∃ b o j, a = some ⟨b, o, none⟩ ∧ j + k + 1 < n ∧ p = ⟨b, o + j, none⟩

set_option maxRecDepth 100000 in
set_option maxHeartbeats 4000000 in
theorem backward_in (l Bx : Nat) (a : Option Addr) (n cap : Nat) (L : List Nat) (hL : L.length = n) (hn : n ≤ 100000) (J Jx : Nat → World → Prop) (W : World)
    (hY : ∀ k x W1, (backs L)[k]? = some x → J k W1 → YieldAt Fence.wide 8 Tryd.prog l x W1 fun e W2 => (e = .returned (.bool true) ∧ J (k + 1) W2 ∧ CellsKept (BackC Bx a n k) W1 W2 ∧ W1.heap.size ≤ W2.heap.size) ∨ (e = .returned (.bool false) ∧ Jx k W2))
    (hb : W.cell? ⟨Bx, 0, none⟩ = some (.slice a n cap)) (hS : Sl W 1 (.slice a n cap) n (u32s L)) (h0 : J 0 W) :
    CallsIn Fence.wide 9 Tryd.prog 53 #[.func (.yield l) #[] #[], .pointer (some ⟨Bx, 0, none⟩)] W fun e W' => (∃ v, e = .returned v) ∧ (J n W' ∨ ∃ k, k < n ∧ Jx k W') := by
  refine callsIn_of_wp Tryd.func53 rfl trivial ?_ rfl
  simp only [Tryd.ntmps53, List.size_toArray, List.length_cons, List.length_nil, Nat.reduceAdd, Nat.reduceSub, Array.replicate_succ, Array.replicate_zero, List.push_toArray, List.append_toArray, List.nil_append, List.cons_append]
  have HY := Lib.hid hY
  have HS := Lib.hid hS
  have HL := Lib.hid hL
  have HBX := Lib.hid hb
  have H0 : Hid (J (n - n) W) := Lib.hid (by rw [Nat.sub_self]; exact h0)
  clear hY hS hL h0
  gi_wp2
  gi_loopw [3] (fun i wr => ∃ j : Nat, j ≤ n ∧ i = .int .i64 ((j : Int) - 1) ∧ Hid (J (n - j) wr) ∧ Hid (CellsKept (fun p => p = ⟨Bx, 0, none⟩ ∨ ∃ b o i, a = some ⟨b, o, none⟩ ∧ i < j ∧ p = ⟨b, o + i, none⟩) W wr))
    (fun i _ => (intOf i + 1).toNat)
  case atStart => exact ⟨n, Nat.le_refl _, rfl, H0, Lib.hid (CellsKept.refl _ _)⟩
  case round =>
    clear hb H0
    obtain ⟨j, hj, rfl, HJ, HK⟩ := hrel
    by_cases hlt : 0 < j
    · obtain ⟨m, rfl⟩ : ∃ m, j = m + 1 := ⟨j - 1, by omega⟩
      obtain ⟨b, o, rfl, _, hc⟩ := cell_u32 HS.out m (by rw [HL.out]; omega)
      have hcx := (HK.out ⟨b, o + m, none⟩ (.inr ⟨b, o, m, rfl, by omega, rfl⟩)).trans hc
      have hbx := (HK.out ⟨Bx, 0, none⟩ (.inl rfl)).trans HBX.out
      obtain ⟨fn, tmps, assign, body, hy, hR⟩ := HY.out (n - (m + 1)) _ wr (backs_at L _ (by rw [HL.out]; omega)) HJ.out
      rw [show L.length - 1 - (n - (m + 1)) = m by rw [HL.out]; omega] at hy
      obtain ⟨u, hu⟩ : ∃ u, u = L.getD m 0 := ⟨_, rfl⟩
      rw [← hu] at hcx hy
      clear hu hc
      rw [show (((m + 1 : Nat) : Int) - 1) = (m : Int) by omega]
      gi_wp2
      refine hR.mono ?_
      rintro e W3 (⟨rfl, hJ3, hk3, hs3⟩ | ⟨rfl, hJx3⟩)
      · rw [show n - (m + 1) + 1 = n - m by omega] at hJ3
        have HJ3 := Lib.hid hJ3
        have HK3 : Hid (CellsKept (fun p => p = ⟨Bx, 0, none⟩ ∨ ∃ b' o' i, (some ⟨b, o, none⟩ : Option Addr) = some ⟨b', o', none⟩ ∧ i < m ∧ p = ⟨b', o' + i, none⟩) W W3) := Lib.hid (by
          intro p hp
          refine (hk3 p ?_).trans (HK.out p ?_)
          · rcases hp with h | ⟨b', o', i, h1, h2, h3⟩
            · exact .inl h
            · exact .inr ⟨b', o', i, h1, by omega, h3⟩
          · rcases hp with h | ⟨b', o', i, h1, h2, h3⟩
            · exact .inl h
            · exact .inr ⟨b', o', i, h1, by omega, h3⟩)
        clear hJ3 hk3 hs3 hcx hbx hy
        gi_wp2
        go_roundw
        case rel => exact ⟨m, by omega, by first | rfl | go_num, HJ3, HK3⟩
        case measure => simp [intOf] <;> omega
      · gi_wp2
        refine bodyPost_ret (results_none rfl _ _ _) rfl ?_
        exact ⟨⟨_, rfl⟩, .inr ⟨n - (m + 1), by omega, hJx3⟩⟩
    · obtain rfl : j = 0 := by omega
      have HJ2 : Hid (J n wr) := HJ
      clear HJ
      gi_wp2
      go_end0
      exact ⟨⟨_, rfl⟩, .inl HJ2.out⟩

theorem backward_at (Bx : Nat) (a : Option Addr) (n cap : Nat) (L : List Nat) (hn : n ≤ 100000) (w : World) (hb : w.cell? ⟨Bx, 0, none⟩ = some (.slice a n cap)) (hS : Sl w 1 (.slice a n cap) n (u32s L)) :
    SeqAt Fence.wide 9 Tryd.prog 53 #[.pointer (some ⟨Bx, 0, none⟩)] (backs L) (BackC Bx a n) w := by
  intro l J Jx W hW hJ hY h0
  have hL := u32_len hS
  have hlt := World.block_lt_of_cell? w _ hb
  rw [backs_length, hL]
  exact backward_in l Bx a n cap L hL hn J Jx W hY ((hW.cell (p := ⟨Bx, 0, none⟩) hlt).trans hb) (hS.below hW) h0

theorem backward_any (a : Option Addr) (n cap : Nat) (w : World) :
    Calls Tryd.prog 40 #[.slice a n cap] w fun e w' => e = .returned (.func (.func 53) #[] #[.pointer (some ⟨w.heap.size, 0, none⟩)]) ∧ w' = w.alloc (.cells #[.slice a n cap] 22) := by
  have hmf : ∀ (B : Nat) (wx : World), (Instr.makeFunc (.func 53) #[] #[.pointer (some ⟨B, 0, none⟩)]).run Tryd.prog wx = .ok (.func (.func 53) #[] #[.pointer (some ⟨B, 0, none⟩)]) wx := fun _ _ => rfl
  go_enter Tryd.func40, Tryd.ntmps40
  go_wp2_with fail
  go_ret
  exact ⟨rfl, rfl⟩
theorem backC_lt {Bx : Nat} {a : Option Addr} {n : Nat} {B : Nat} (h1 : Bx < B) (h2 : ∀ q, a = some q → 0 < n → q.block < B) : ∀ k p, BackC Bx a n k p → p.block < B := by
  rintro k p (rfl | ⟨b, o, j, rfl, hj, rfl⟩)
  · exact h1
  · exact h2 ⟨b, o, none⟩ rfl (by omega)
end Go.Proofs.YtghioakpigdagaaDoor
