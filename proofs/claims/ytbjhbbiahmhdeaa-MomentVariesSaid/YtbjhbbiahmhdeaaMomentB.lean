/-
  All places of a grid gone through: the code's.
-/
import Derived.Test.YtbjhbbiahmhdeaaMomentA
set_option linter.unusedVariables false
set_option linter.unusedSimpArgs false
namespace Go.Proofs.Ytbjhbbiahmhdeaa
open Go Go.RowKit Go.Shelf Go.Th Go.Th.Grid Go.Th.Moment
attribute [local go_sem] Oper.semAt_some

/-- A grid that lies there, and its numbers. -/
structure GridAt (W : World) (Bx x y : Nat) (X Y s : Int) (a : Option Addr) (n cap : Nat) (p : List Int) : Prop where
  blk : Blk W Bx 26 (gc x y X Y s (.slice a n cap))
  row : Sl W 1 (.slice a n cap) n (i64s p)
theorem GridAt.keptF {W W' : World} {Bx x y n cap : Nat} {X Y s : Int} {a : Option Addr} {p : List Int} {K : Nat → Prop} (h : GridAt W Bx x y X Y s a n cap p) (hk : KeptF K W W') (h1 : K Bx) (h2 : ∀ q, a = some q → K q.block) : GridAt W' Bx x y X Y s a n cap p :=
  ⟨h.blk.of_block (hk _ h1), sl_keptF h.row hk h2⟩
theorem GridAt.below {W W' : World} {Bx x y n cap : Nat} {X Y s : Int} {a : Option Addr} {p : List Int} (h : GridAt W Bx x y X Y s a n cap p) (hB : Below W.heap.size W W') : GridAt W' Bx x y X Y s a n cap p :=
  ⟨h.blk.below hB h.blk.lt, h.row.below hB⟩

abbrev encPl (x : Nat) {N : Nat} (q : Pl N) : Array Value := #[plv (q.1.1 : Nat) (q.1.1 % x : Nat) (q.1.1 / x : Nat), .int .i64 q.1.2]

set_option maxRecDepth 100000 in
set_option maxHeartbeats 4000000 in
theorem seqM_in (l Bx x y n : Nat) (X Y s : Int) (a : Option Addr) (cap : Nat) (p : List Int) (ys : List (Pl n)) (hys : ys.map (·.1) = en p n) (hp : p.length = n) (hsd : sdG x y = true) (hn : n = x * y)
    (J Jx : List (Pl n) → World → Prop) (K : Nat → Prop) (hKa : ∀ q, a = some q → K q.block) (hKx : K Bx)
    (W : World) (hKl : ∀ k, K k → k < W.heap.size)
    (hJ : AbidesFrom W.heap.size J)
    (hY : ∀ pre q W1, J pre W1 → pre.length < n → YieldAt Fence.wide 8 Try.prog l (encPl x q) W1 fun e W' =>
      (e = .returned (.bool true) ∧ J (pre ++ [q]) W' ∧ KeptF K W1 W') ∨ (e = .returned (.bool false) ∧ Jx (pre ++ [q]) W'))
    (hG : GridAt W Bx x y X Y s a n cap p) (h0 : J [] W) :
    CallsIn Fence.wide 9 Try.prog 60 #[.func (.yield l) #[] #[], .pointer (some ⟨Bx, 0, none⟩)] W fun e W' => (∃ v, e = .returned v) ∧
      ((∃ zs, zs = ys ∧ J zs W') ∨ (∃ pre, pre <+: ys ∧ Jx pre W')) := by
  refine callsIn_of_wp Try.func60 rfl trivial ?_ rfl
  simp only [Try.ntmps60, List.size_toArray, List.length_cons, List.length_nil, Nat.reduceAdd, Nat.reduceSub, Array.replicate_succ, Array.replicate_zero, List.push_toArray, List.append_toArray, List.nil_append, List.cons_append]
  obtain ⟨⟨q1, q2⟩, q3, q4⟩ := sdG_t hsd
  have hle : x * y ≤ 64 * 64 := Nat.mul_le_mul (by omega) (by omega)
  have hn4 : n ≤ 4096 := by omega
  have hyl := pl_length hys
  have hx1 : 1 ≤ x ∧ x ≤ 64 := by omega
  have CS := Lib.hid (shaped_any x y n X Y s a cap hsd hn)
  have CP := Lib.hid (fun i hi => placeAt_any x i y X Y s a n cap hx1 hi)
  have HY := Lib.hid hY
  have HKA := Lib.hid hKa
  have HKL := Lib.hid hKl
  have HJ := Lib.hid hJ
  have HYS := Lib.hid hys
  have HP := Lib.hid hp
  have HYL := Lib.hid hyl
  have c0 := hG.blk.cell (i := 0) rfl
  have c1 := hG.blk.cell (i := 1) rfl
  have c2 := hG.blk.cell (i := 2) rfl
  have c3 := hG.blk.cell (i := 3) rfl
  have c4 := hG.blk.cell (i := 4) rfl
  have c5 := hG.blk.cell (i := 5) rfl
  have HG := Lib.hid hG
  have H0 := Lib.hid h0
  clear hY hKa hKl hJ hys hp hyl hG h0 hn hsd hle q1 q2 q3 q4 hx1
  gi_wp2
  refine ⟨trivial, (callsIn_wide.2 (CS.out _)).mono ?_⟩
  rintro e w1 ⟨rfl, hB1⟩
  clear CS
  have hJ1 := Lib.hid (HJ.out [] W w1 none H0.out (grown_below hB1) (fun r e => by cases e))
  have hK1 := Lib.hid ((KeptF.refl K W).below hB1 HKL.out)
  have hL1 : Hid (∀ k, K k → k < w1.heap.size) := Lib.hid (fun k hk => Nat.lt_of_lt_of_le (HKL.out k hk) hB1.size)
  have hG1 := HG.out.below hB1
  clear c0 c1 c2 c3 c4 c5 hB1 H0
  have c5 := hG1.blk.cell (i := 5) rfl
  have HG1 := Lib.hid hG1
  clear hG1
  gi_wp2
  gi_loopw [11] (fun i wr => ∃ k : Nat, k ≤ n ∧ i = .int .i64 k ∧ Hid (J (ys.take k) wr) ∧ Hid (KeptF K W wr) ∧ Hid (∀ k, K k → k < wr.heap.size))
    (fun i _ => n - (intOf i).toNat)
  case atStart => exact ⟨0, Nat.zero_le _, rfl, hJ1, hK1, hL1⟩
  case round =>
    clear hJ1 hK1 hL1 HG1 c5
    obtain ⟨k, hk, rfl, HJs, HNX, HLT⟩ := hrel
    by_cases hlt : k < n
    · have hG2 := HG.out.keptF HNX.out hKx HKA.out
      obtain ⟨b, o, rfl, _, cu⟩ := cell64 hG2.row k (by rw [HP.out]; exact hlt)
      have hkl : k < ys.length := by rw [HYL.out]; exact hlt
      have hq := pl_at HYS.out hlt hkl
      obtain ⟨u, hu⟩ : ∃ u, u = p.getD k 0 := ⟨_, rfl⟩
      rw [← hu] at cu hq
      have hts : ys.take (k + 1) = ys.take k ++ [ys[k]] := by rw [List.take_add_one, List.getElem?_eq_getElem hkl]; rfl
      obtain ⟨q, hqq⟩ : ∃ q : Pl n, q = ys[k] := ⟨_, rfl⟩
      rw [← hqq] at hq hts
      have HTS := Lib.hid hts
      have HQ := Lib.hid hq
      have c0 := hG2.blk.cell (i := 0) rfl
      have c1 := hG2.blk.cell (i := 1) rfl
      have c2 := hG2.blk.cell (i := 2) rfl
      have c3 := hG2.blk.cell (i := 3) rfl
      have c4 := hG2.blk.cell (i := 4) rfl
      have c5 := hG2.blk.cell (i := 5) rfl
      have CP1 := CP.out k (by omega)
      obtain ⟨km, hkm⟩ : ∃ km, km = k % x := ⟨_, rfl⟩
      obtain ⟨kd, hkd⟩ : ∃ kd, kd = k / x := ⟨_, rfl⟩
      rw [← hkm, ← hkd] at CP1
      have HKM := Lib.hid hkm
      have HKD := Lib.hid hkd
      have CP1 := Lib.hid CP1
      clear hkm hkd hqq hu hts hq hG2 hkl
      gi_wp2
      refine ⟨trivial, (callsIn_wide.2 (CP1.out _)).mono ?_⟩
      rintro e w2 ⟨rfl, hB2⟩
      clear CP1
      have HJ2 := Lib.hid (HJ.out _ wr w2 none HJs.out (grown_below hB2) (fun r e => by cases e))
      have HN2 := Lib.hid (HNX.out.below hB2 HLT.out)
      have HL2 : Hid (∀ k, K k → k < w2.heap.size) := Lib.hid (fun k hk => Nat.lt_of_lt_of_le (HLT.out k hk) hB2.size)
      obtain ⟨fn, tmps, assign, body, hy, hR⟩ := HY.out _ q w2 HJ2.out (by rw [List.length_take, HYL.out]; omega)
      have ey : encPl x q = #[plv (k : Nat) (km : Nat) (kd : Nat), .int .i64 u] := by unfold encPl; rw [HQ.out, HKM.out, HKD.out]
      rw [ey] at hy
      clear c0 c1 c2 c3 c4 c5 cu hB2 HJs HNX HLT ey
      gi_wp2
      refine hR.mono ?_
      rintro e W3 (⟨rfl, hJ3, hk3⟩ | ⟨rfl, hJx3⟩)
      · have hl3 : ∀ k, K k → k < W3.heap.size := fun k hk => by
          have h1 := HL2.out k hk
          have h2 := hk3 k hk
          rw [Array.getElem?_eq_getElem h1] at h2
          exact (Array.getElem?_eq_some_iff.1 h2).1
        have HL3 := Lib.hid hl3
        have hJ3' := Lib.hid hJ3
        have hN3 := Lib.hid (HN2.out.trans hk3)
        clear hJ3 hk3 hl3
        gi_wp2
        go_roundw
        case rel => exact ⟨k + 1, by omega, by go_num, by rw [HTS.out]; exact hJ3', hN3, HL3⟩
        case measure => simp [intOf]; omega
      · gi_wp2
        refine bodyPost_ret (results_none rfl _ _ _) rfl ?_
        exact ⟨⟨_, rfl⟩, .inr ⟨_, by rw [← HTS.out]; exact List.take_prefix _ _, hJx3⟩⟩
    · obtain rfl : k = n := by omega
      gi_wp2
      go_end0
      refine ⟨⟨_, rfl⟩, .inl ⟨_, ?_, HJs.out⟩⟩
      exact List.take_of_length_le (by rw [HYL.out]; exact Nat.le_refl _)

theorem places_stops (Bx x y n : Nat) (X Y s : Int) (a : Option Addr) (cap : Nat) (p : List Int) (ys : List (Pl n)) (hys : ys.map (·.1) = en p n) (hp : p.length = n) (hsd : sdG x y = true) (hn : n = x * y) (K : Nat → Prop) (hKa : ∀ q, a = some q → K q.block) (hKx : K Bx)
    (w : World) (hKl : ∀ k, K k → k < w.heap.size) (hG : GridAt w Bx x y X Y s a n cap p) :
    SeqStopsK Fence.wide 9 Try.prog 60 #[.pointer (some ⟨Bx, 0, none⟩)] (encPl (N := n) x) (KeptF K) (fun zs => zs = ys) (fun pre => pre <+: ys) n w :=
  fun l J Jx W hW hJ _ hY h0 => seqM_in l Bx x y n X Y s a cap p ys hys hp hsd hn J Jx K hKa hKx W (fun k hk => Nat.lt_of_lt_of_le (hKl k hk) hW.size) hJ hY (hG.below hW) h0

theorem places_any (x y X Y s : Int) (a : Option Addr) (n cap : Nat) (w : World) :
    Calls Try.prog 43 #[gv x y X Y s (.slice a n cap)] w fun e w' => e = .returned (.func (.func 60) #[] #[.pointer (some ⟨w.heap.size, 0, none⟩)]) ∧ w' = w.alloc (.cells #[.int .i64 x, .int .i64 y, .int .i64 X, .int .i64 Y, .int .i64 s, .slice a n cap] 26) := by
  have hmf : ∀ (B : Nat) (wx : World), (Instr.makeFunc (.func 60) #[] #[.pointer (some ⟨B, 0, none⟩)]).run Try.prog wx = .ok (.func (.func 60) #[] #[.pointer (some ⟨B, 0, none⟩)]) wx := fun _ _ => rfl
  go_enter Try.func43, Try.ntmps43
  go_wp2_with fail
  go_ret
  exact ⟨rfl, rfl⟩
/-- A grid boxed, and its numbers. -/
theorem GridAt.new (w : World) (x y n : Nat) (X Y s : Int) (a : Option Addr) (cap : Nat) (p : List Int) (hS : Sl w 1 (.slice a n cap) n (i64s p)) : GridAt (w.alloc (.cells #[.int .i64 x, .int .i64 y, .int .i64 X, .int .i64 Y, .int .i64 s, .slice a n cap] 26)) w.heap.size x y X Y s a n cap p :=
  ⟨Blk.new w _ _, hS.below ((Below.refl _ _).alloc (Nat.le_refl _) _)⟩
/-- Where a row lies ahead. -/
theorem sl_lt {w : World} {a : Option Addr} {n cap : Nat} {p : List Int} (hp : p.length = n) (hn : 0 < n) (h : Sl w 1 (.slice a n cap) n (i64s p)) : ∀ q, a = some q → q.block < w.heap.size := by
  rintro q rfl
  obtain ⟨b, o, e, hb, _⟩ := cell64 h 0 (by omega)
  cases e
  exact hb
end Go.Proofs.Ytbjhbbiahmhdeaa
