/-
  A number by its parts of 32 bits, as digits of 256: the reference's Of.
-/
import Derived.Test.YtghioakpigdagaaDoorNatC
set_option linter.unusedVariables false
set_option linter.unusedSimpArgs false
namespace Go.Th.Dig
/-- Parts, as digits: so many parts, and so many digits of the next one. -/
structure Of16 (l : List Nat) (i k x : Nat) (pre : List Nat) : Prop where
  len : pre.length = 4 * i + k
  dig : ∀ d ∈ pre, d < 256
  top : x < 256 ^ (4 - k)
  sum : val 256 pre + 256 ^ (4 * i + k) * x = val 4294967296 (l.take (i + 1))
theorem big_pow (i : Nat) : 256 ^ (4 * i) = 4294967296 ^ i := by rw [Nat.pow_mul]
theorem take_val {l : List Nat} {i : Nat} (h : i < l.length) (B : Nat) : val B (l.take (i + 1)) = val B (l.take i) + B ^ i * l.getD i 0 := by
  have e : l.take (i + 1) = l.take i ++ [l.getD i 0] := by
    rw [List.take_add_one, List.getElem?_eq_getElem h, List.getD_eq_getElem?_getD, List.getElem?_eq_getElem h]; rfl
  rw [e, val_snoc, List.length_take, Nat.min_eq_left (by omega)]
theorem Of16.start {l : List Nat} {i : Nat} {pre : List Nat} (hi : i < l.length) (h1 : pre.length = 4 * i) (h2 : ∀ d ∈ pre, d < 256) (h3 : val 256 pre = val 4294967296 (l.take i)) (h4 : l.getD i 0 < 4294967296) : Of16 l i 0 (l.getD i 0) pre :=
  ⟨h1, h2, h4, by rw [take_val hi, h3, Nat.add_zero, big_pow]⟩
theorem Of16.step {l : List Nat} {i k x : Nat} {pre : List Nat} (h : Of16 l i k x pre) (hk : k < 4) : Of16 l i (k + 1) (x / 256) (pre ++ [x % 256]) := by
  obtain ⟨h1, h2, h3, h4⟩ := h
  refine ⟨by simp [h1]; omega, ?_, ?_, ?_⟩
  · intro d hd
    rcases List.mem_append.1 hd with hd | hd
    · exact h2 d hd
    · rw [List.mem_singleton.1 hd]; omega
  · rw [show 4 - k = (4 - (k + 1)) + 1 by omega, Nat.pow_succ] at h3
    exact Nat.div_lt_of_lt_mul (by rw [Nat.mul_comm]; exact h3)
  · rw [val_snoc, h1, ← h4]
    have e := Nat.mod_add_div x 256
    rw [show 4 * i + (k + 1) = (4 * i + k) + 1 by omega, Nat.pow_succ, Nat.add_assoc, Nat.mul_assoc, ← Nat.mul_add, e]
theorem Of16.done {l : List Nat} {i x : Nat} {pre : List Nat} (h : Of16 l i 4 x pre) : pre.length = 4 * (i + 1) ∧ (∀ d ∈ pre, d < 256) ∧ val 256 pre = val 4294967296 (l.take (i + 1)) := by
  obtain ⟨h1, h2, h3, h4⟩ := h
  obtain rfl : x = 0 := by simp at h3; exact h3
  exact ⟨h1, h2, by simpa using h4⟩
end Go.Th.Dig
namespace Go.Proofs.YtghioakpigdagaaDoor
open Go Go.RowKit Go.Th Go.Th.Dig

def u32s (l : List Nat) : List Value := l.map (fun x : Nat => .int .u32 (x : Int))
theorem cell_u32 {w : World} {a : Option Addr} {n cap : Nat} {l : List Nat} (hS : Sl w 1 (.slice a n cap) n (u32s l)) (i : Nat) (hi : i < l.length) :
    ∃ b o, a = some ⟨b, o, none⟩ ∧ b < w.heap.size ∧ w.cell? ⟨b, o + i, none⟩ = some (.int .u32 ((l.getD i 0 : Nat) : Int)) := by
  obtain ⟨_, _, e, _, _, _, _, h⟩ := id hS
  cases e
  obtain ⟨b, o, e, hc⟩ := h i (.int .u32 ((l.getD i 0 : Nat) : Int)) (by simp [u32s, List.getElem?_eq_getElem hi])
  refine ⟨b, o, e, ?_, by simpa using hc⟩
  have := World.block_lt_of_cell? w _ hc
  simpa using this
theorem u32_len {w : World} {a : Option Addr} {n cap : Nat} {l : List Nat} (hS : Sl w 1 (.slice a n cap) n (u32s l)) : l.length = n := by
  obtain ⟨_, _, e, h, _⟩ := id hS
  cases e
  simpa [u32s] using h
theorem getD_u32 {l : List Nat} (h : ∀ d ∈ l, d < 4294967296) (i : Nat) : l.getD i 0 < 4294967296 := by
  rw [List.getD_eq_getElem?_getD]
  by_cases hi : i < l.length
  · rw [List.getElem?_eq_getElem hi]; exact h _ (List.getElem_mem _)
  · rw [List.getElem?_eq_none (by omega)]; decide

set_option maxRecDepth 20000 in
set_option maxHeartbeats 1600000 in
theorem refOf16_any (a : Option Addr) (n cap : Nat) (l : List Nat) (w : World) (hS : Sl w 1 (.slice a n cap) n (u32s l)) (hn : n ≤ 10000) (hl : ∀ d ∈ l, d < 4294967296) :
    Calls Tryd.prog 11 #[.slice a n cap] w fun e w' => ∃ v, e = .returned v ∧ Is16 w' v (val 4294967296 l) ∧ Below w.heap.size w w' := by
  have ll := u32_len hS
  have HS := Lib.hid hS
  have HL := Lib.hid (getD_u32 hl)
  obtain ⟨s, hs⟩ : ∃ s, s = val 4294967296 l := ⟨_, rfl⟩
  rw [← hs]
  have HV := Lib.hid hs
  clear hS hl hs
  go_enter Tryd.func11, Tryd.ntmps11
  go_wp2_with fail
  go_loopw [3, 4] (fun v c wr => ∃ (i : Nat) (pre : List Nat), i ≤ n ∧ c = .int .i64 i ∧ Hid (pre.length = 4 * i ∧ (∀ d ∈ pre, d < 256) ∧ val 256 pre = val 4294967296 (l.take i)) ∧ wr.ownsRow w.heap.size 3 1 v (4 * i) (digs pre) ∧ Below w.heap.size w wr) (fun _ c _ => n - (intOf c).toNat)
  case atStart => exact ⟨0, [], Nat.zero_le _, rfl, Lib.hid ⟨rfl, by simp, by simp [val]⟩, World.ownsRow_nil _ _ _ _, Below.refl _ _⟩
  case round =>
    obtain ⟨i, pre, hi, rfl, HI, ho, hB⟩ := hrel
    by_cases hlt : i < n
    · obtain ⟨b, o, rfl, hb, hc⟩ := cell_u32 (HS.out.below hB) i (by omega)
      have hu := HL.out i
      have hst := Of16.start (by omega) HI.out.1 HI.out.2.1 HI.out.2.2 hu
      obtain ⟨x, hx⟩ : ∃ x, x = l.getD i 0 := ⟨_, rfl⟩
      rw [← hx] at hc hu hst
      have HST := Lib.hid hst
      clear hx hst HI
      go_wp2_with fail
      go_loopw [3, 5, 6] (fun v c k wr => ∃ (j y : Nat) (pre : List Nat), j ≤ 4 ∧ y < 4294967296 ∧ k = .int .i64 j ∧ c = .int .u32 y ∧ Hid (Of16 l i j y pre) ∧ wr.ownsRow w.heap.size 3 1 v (4 * i + j) (digs pre) ∧ Below w.heap.size w wr) (fun _ _ k _ => 4 - (intOf k).toNat)
      case atStart => exact ⟨0, x, pre, Nat.zero_le _, hu, rfl, rfl, HST, ho, hB⟩
      case round =>
        clear ho hB hc HST
        obtain ⟨j, y, pre, hj, hy, rfl, rfl, HI, ho, hB⟩ := hrel
        have hsz := hB.size
        by_cases hlj : j < 4
        · have HN := Lib.hid (HI.out.step hlj)
          clear HI
          go_wp2_with (at_builtin; refine wpList_app Edig rfl (.tmp 21) (.tmp 25) rfl w.heap.size rfl (ho.alloc _) rfl (Sl.one _ _ _) (by intro u hu; simp at hu; subst hu; rfl) (by unfold maxLen; omega) (by omega) (by simp; omega) ?_)
          intro v2 w3 ho3 hg3 _
          have hB3 := hB.trans (app_below ho hsz hg3)
          clear ho hg3 hB
          go_wp2_with fail
          go_roundw
          case rel => exact ⟨j + 1, y / 256, _, by omega, by omega, by go_num, by go_num, HN, by rw [digs_snoc]; exact_mod_cast ho3, hB3⟩
          case measure => simp [intOf]; omega
        · obtain rfl : j = 4 := by omega
          have HD := Lib.hid HI.out.done
          clear HI
          go_wp2_with fail
          go_roundw
          case rel => exact ⟨i + 1, pre, by omega, by go_num, HD, ho, hB⟩
          case measure => simp [intOf]; omega
    · obtain rfl : i = n := by omega
      obtain ⟨h1, h2, hv⟩ := HI.out
      rw [List.take_of_length_le (by omega), ← HV.out] at hv
      have S0 := Sl.of_own ho
      obtain ⟨va, vc, rfl, _⟩ := id S0
      have CT := Lib.hid (trim_any va _ vc pre wr S0 h2 (by omega))
      rw [hv] at CT
      clear hv S0 HI HL HS HV h1 h2
      go_wp2_with fail
      refine CT.out.mono ?_
      rintro e w1 ⟨rfl, rfl, S1⟩
      have S2 : Is16 wr (.slice va (dg 256 s).length vc) s := S1
      have HS2 := Lib.hid S2
      clear S1 S2 CT ho
      go_wp2_with fail
      go_ret
      exact ⟨_, rfl, HS2.out, hB⟩
end Go.Proofs.YtghioakpigdagaaDoor
