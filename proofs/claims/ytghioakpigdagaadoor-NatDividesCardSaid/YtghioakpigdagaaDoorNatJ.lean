/-
  A number as a value: made of its parts, its parts, is it nought: the code's.
-/
import Derived.Test.YtghioakpigdagaaDoorNatI
import Derived.Test.YtghioakpigdagaaDoorPackBits
set_option linter.unusedVariables false
set_option linter.unusedSimpArgs false
namespace Go.Th
open Go Go.RowKit
section
variable {P : Program} {w : World} {t e : TypeId} {bytes : Nat} {a : Option Addr} {n cap : Nat} {xs : List Value}
/-- s[:B:B]. -/
theorem Sl.cut_max (E : ElemOf P t e 1 bytes) (h : Sl w 1 (.slice a n cap) n xs) (k : Nat) (hk : k ≤ n) :
    (∀ wx, (Instr.slice t (.slice a n cap) none (some (.int .i64 k)) (some (.int .i64 k))).run P wx = .ok (.slice a k k) wx) ∧ Sl w 1 (.slice a k k) k (xs.take k) := by
  obtain ⟨i, z, hi, hz, hsize, hby, hzs⟩ := E.info
  obtain ⟨hnc, hcm⟩ := h.max
  obtain ⟨a0, c0, he, h1, h2, h3, h4, h5⟩ := h
  cases he
  refine ⟨fun wx => ?_, ?_⟩
  · have hb2 : (k : Int) ≤ cap := by omega
    have hb3 : k ≤ cap := by omega
    have ha : (if k = 0 then a else a.map (·.add 0)) = a := by
      split
      · rfl
      · cases a <;> simp [Addr.add]
    simp [Instr.slice, run_underlying E.und, Instr.sliceBounds, run_sliceBound, hb3, sizeOf, typeInfo, hi]
    simpa using ha
  · refine ⟨_, _, rfl, by simp; omega, Nat.le_refl _, by omega, fun hn => ?_, fun j u hu => ?_⟩
    · have := h4 hn; omega
    · have hj : j < k := by
        have := (List.getElem?_eq_some_iff.1 hu).1
        simp at this; omega
      rw [List.getElem?_take, if_pos hj] at hu
      exact h5 j u hu
/-- s[A:B:B]. -/
theorem Sl.cut_three (E : ElemOf P t e 1 bytes) (h : Sl w 1 (.slice a n cap) n xs) (lo : Nat) (hk : lo ≤ n) :
    ∃ a', (∀ wx, (Instr.slice t (.slice a n cap) (some (.int .i64 lo)) (some (.int .i64 n)) (some (.int .i64 n))).run P wx = .ok (.slice a' (n - lo) (n - lo)) wx) ∧ Sl w 1 (.slice a' (n - lo) (n - lo)) (n - lo) (xs.drop lo) := by
  obtain ⟨i, z, hi, hz, hsize, hby, hzs⟩ := E.info
  obtain ⟨hnc, hcm⟩ := h.max
  obtain ⟨a0, c0, he, h1, h2, h3, h4, h5⟩ := h
  cases he
  refine ⟨if n = lo then a else a.map (·.add lo), fun wx => ?_, ?_⟩
  · have hb1 : (0 : Int) ≤ lo := by omega
    have hb2 : (lo : Int) ≤ n := by omega
    have hb3 : (n : Int) ≤ cap := by omega
    have hb4 : n - lo = 0 ↔ n = lo := by omega
    simp [Instr.slice, run_underlying E.und, Instr.sliceBounds, run_sliceBound, hb2, hnc, hk, sizeOf, typeInfo, hi, hsize]
  · refine ⟨_, _, rfl, by simp; omega, Nat.le_refl _, by unfold maxLen; omega, ?_, ?_⟩
    · intro hn
      by_cases hc : n = lo
      · omega
      · rw [if_neg hc] at hn
        cases a with
        | none => have := h4 rfl; omega
        | some x => simp at hn
    · intro j u hu
      have hj : j < n - lo := by
        have := (List.getElem?_eq_some_iff.1 hu).1
        simp at this; omega
      rw [List.getElem?_drop] at hu
      obtain ⟨b, o, rfl, hc⟩ := h5 (lo + j) u hu
      rw [if_neg (by omega)]
      refine ⟨b, o + lo, by simp [add_none], ?_⟩
      rw [Nat.add_assoc]; exact hc
end
section
variable {P : Program} {w w0 : World} {bs bs' : List (Nat × TypeId × List Value)} {g off : Nat} {t ty : TypeId} {cs cs' : List Value} {v : Value} {ops : Array Oper} {rest : List Oper} {o : Oper} {a : Act} {Q : Exit → Act → World → Prop} {x y : Operand}
theorem turned_row16 (w : World) (g : Nat) (ds : Array Value) : Turned (fun k => k = g) w (w.setRow g ds) := ⟨rfl, rfl, rfl, by simp [World.setRow], fun j hj hs => setRow_other w g j _ hs⟩
/-- A store, its world told. -/
theorem wpL_stT (M : Mem w0 w bs) (hgd : o.guard = none) (ho : o.op = .store ty x y) (hx : a.eval x = .pointer (some ⟨g, off, none⟩)) (hy : a.eval y = v) (hr : Wr P ty off cs v cs') (hu : Upd bs g t cs cs' bs')
    (h : ∀ w', Mem w0 w' bs' → Turned (fun k => k = g) w w' → wpList P ops Q rest (a.put o.dst undef) w') : wpList P ops Q (o :: rest) a w := wpList_plain hgd fun _ hK => by
  unfold Oper.wp execOp
  simp only [ho, hx, hy, Instr.storeAt, Instr.sureAddr, Sem.run_bind, Sem.run_pure, Result.andThen_ok, hr.run w g t (M.has hu.has)]
  exact hK _ _ (h _ (M.row hu) (turned_row16 _ _ _))
theorem wpL_stcT {ds : List Value} {k k' : Nat} (M : Mem w0 w bs) (hgd : o.guard = none) (ho : o.op = .store ty x y) (hx : a.eval x = .pointer (some ⟨g, 0, none⟩)) (hy : a.eval y = .agg ds.toArray) (h : ∀ w', Mem w0 w' bs' → Turned (fun k => k = g) w w' → wpList P ops Q rest (a.put o.dst undef) w')
    [hm : HsI bs g t cs] [hs : SzI P ty k] [hl : LnI cs k] [hd : LnI ds k'] [hc : OcI ds] [hu : UpI bs g t cs ds bs'] (hk : k' = k := by rfl) : wpList P ops Q (o :: rest) a w :=
  wpL_stT M hgd ho hx hy (Wr.whole (by rw [hs.sz, hd.ln, hk]) (by rw [hd.ln, hl.ln, hk]) hc.oc) hu.upd h
theorem wpL_stiT {kd : IntKind} {n : Int} (M : Mem w0 w bs) (hgd : o.guard = none) (ho : o.op = .store ty x y) (hx : a.eval x = .pointer (some ⟨g, off, none⟩)) (hy : a.eval y = .int kd n) (h : ∀ w', Mem w0 w' bs' → Turned (fun k => k = g) w w' → wpList P ops Q rest (a.put o.dst undef) w')
    [hm : HsI bs g t cs] [hs : SzI P ty 1] [he : StI cs off (.int kd n) cs'] [hu : UpI bs g t cs cs' bs'] : wpList P ops Q (o :: rest) a w :=
  wpL_stT M hgd ho hx hy (wr_cell1 hs.sz (List.getElem?_eq_getElem he.lt) rfl (fun w g hc hf => store_int kd n _ w g off hc hf) he.st) hu.upd h
end
end Go.Th
namespace Go.Proofs.YtghioakpigdagaaDoor
open Go Go.RowKit Go.Th Go.Th.Dig

theorem size26 : (Tryd.prog.info? 26).map (·.size) = some 1 := by kernel_rfl
theorem rd_nat (s : Value) : Rd Tryd.prog 26 0 [s] (.agg #[s]) := Rd.agg (ds := [s]) Tryd.underlying26 rfl size26 (fun j u hj => by rw [Nat.zero_add]; exact hj)
instance rNat (s : Value) : RdI Tryd.prog 26 0 [s] (.agg #[s]) := ⟨rd_nat s⟩
instance kNat : SzI Tryd.prog 26 1 := ⟨size26⟩
instance zNat : ZrI Tryd.prog 26 (.agg #[.slice none 0 0]) [.slice none 0 0] := ⟨by kernel_rfl, rfl⟩
instance bU32r : BsI Tryd.prog 22 := ⟨fun h => Rd.one Tryd.underlying22 rfl h⟩
instance bIntN : BsI Tryd.prog 3 := ⟨fun h => Rd.one Tryd.underlying3 rfl h⟩
instance bU64N : BsI Tryd.prog 37 := ⟨fun h => Rd.one Tryd.underlying37 rfl h⟩
instance kIntN : SzI Tryd.prog 3 1 := ⟨by kernel_rfl⟩
instance kU64N : SzI Tryd.prog 37 1 := ⟨by kernel_rfl⟩
instance zIntN : ZrI Tryd.prog 3 (.int .i64 0) [.int .i64 0] := ⟨by kernel_rfl, rfl⟩
instance zU64N : ZrI Tryd.prog 37 (.int .u64 0) [.int .u64 0] := ⟨by kernel_rfl, rfl⟩
theorem Eu32 : ElemOf Tryd.prog 22 38 1 4 := ElemOf.mk' Tryd.underlying22 (z := .int .u32 0) (by kernel_rfl) rfl (by decide)
theorem oneCell_u32s (l : List Nat) : ∀ u ∈ u32s l, u.oneCell' = true := by
  intro u hu
  obtain ⟨x, _, rfl⟩ := List.mem_map.1 hu
  rfl
theorem u32s_length (l : List Nat) : (u32s l).length = l.length := by simp [u32s]
theorem u32s_take (l : List Nat) (k : Nat) : (u32s l).take k = u32s (l.take k) := by simp [u32s, List.map_take]
theorem u32s_drop (l : List Nat) (k : Nat) : (u32s l).drop k = u32s (l.drop k) := by simp [u32s, List.map_drop]

/-- Where no cell of a block is a part, a row of parts does not lie there. -/
def NoPart (cs : List Value) : Prop := ∀ u ∈ cs, ∀ x, u ≠ .int .u32 x
theorem noPart_sl (a : Option Addr) (n cap : Nat) : NoPart [.slice a n cap] := by intro u hu x e; rw [List.mem_singleton] at hu; rw [hu] at e; cases e
theorem sl_other {w : World} {g : Nat} {t : TypeId} {cs : List Value} {a : Option Addr} {n cap : Nat} {l : List Nat} (hS : Sl w 1 (.slice a n cap) n (u32s l)) (K : Blk w g t cs) (hno : NoPart cs) : ∀ (j : Nat) (u : Value), (u32s l)[j]? = some u → ∀ q : Addr, a = some q → q.block ≠ g := by
  rintro j u hu q rfl rfl
  obtain ⟨_, _, e, _, _, _, _, h⟩ := id hS
  cases e
  obtain ⟨b, o, e, hc⟩ := h j u hu
  cases e
  obtain ⟨x, _, rfl⟩ := List.mem_map.1 (List.mem_of_getElem? hu)
  unfold Blk at K
  have h2 : (cs.toArray)[o + j]? = some (.int .u32 (x : Int)) := by simpa [World.cell?, K] using hc
  exact hno _ (List.mem_of_getElem? (by simpa using h2)) _ rfl
theorem sl_kept {w w' : World} {g : Nat} {t : TypeId} {cs : List Value} {v : Value} {n : Nat} {l : List Nat} (hS : Sl w 1 v n (u32s l)) (K : Blk w g t cs) (hno : NoPart cs) (hT : Turned (fun k => k = g) w w') : Sl w' 1 v n (u32s l) := by
  obtain ⟨a, cap, rfl, h1, h2, h3, h4, h5⟩ := id hS
  refine ⟨a, cap, rfl, h1, h2, h3, h4, fun j u hu => ?_⟩
  obtain ⟨b, o, ha, hc⟩ := h5 j u hu
  exact ⟨b, o, ha, (hT.cell (p := ⟨b, o + j, none⟩) (World.block_lt_of_cell? w _ hc) (sl_other hS K hno j u hu ⟨b, o, none⟩ ha)).trans hc⟩

/-- A value reads as a number. -/
def IsN (w : World) (v : Value) (p : Nat) : Prop := ∃ a cap, v = .agg #[.slice a (dg 4294967296 p).length cap] ∧ Sl w 1 (.slice a (dg 4294967296 p).length cap) (dg 4294967296 p).length (u32s (dg 4294967296 p))
theorem IsN.below {w w' : World} {v : Value} {p : Nat} (h : IsN w v p) (hb : Below w.heap.size w w') : IsN w' v p := by
  obtain ⟨a, cap, h1, h2⟩ := h
  exact ⟨a, cap, h1, h2.below hb⟩
theorem IsN.kept {w w' : World} {v : Value} {p g : Nat} {t : TypeId} {cs : List Value} (h : IsN w v p) (K : Blk w g t cs) (hno : NoPart cs) (hT : Turned (fun k => k = g) w w') : IsN w' v p := by
  obtain ⟨a, cap, h1, h2⟩ := h
  exact ⟨a, cap, h1, sl_kept h2 K hno hT⟩
/-- How many parts a number has. -/
abbrev len32 (p : Nat) : Nat := (dg 4294967296 p).length
theorem len32_0 (p : Nat) : len32 p = 0 ↔ p = 0 := by
  constructor
  · intro h
    have := dg_val (B := 4294967296) (by decide) p
    rw [List.eq_nil_of_length_eq_zero h] at this
    exact this.symm
  · rintro rfl; rfl
theorem len32_lt (p : Nat) : p < 4294967296 ^ len32 p := by
  have := val_lt (B := 4294967296) (by decide) (dg_lt (by decide : 0 < 4294967296) p)
  rwa [dg_val (by decide)] at this

/-- Parts without the noughts at the end. -/
theorem cut_any (a : Option Addr) (n cap : Nat) (l : List Nat) (w : World) (hS : Sl w 1 (.slice a n cap) n (u32s l)) (hl : ∀ d ∈ l, d < 4294967296) (hn : n ≤ 1000000) :
    Calls Tryd.prog 35 #[.slice a n cap] w fun e w' => e = .returned (.slice a (len32 (val 4294967296 l)) (len32 (val 4294967296 l))) ∧ w = w' ∧ Sl w 1 (.slice a (len32 (val 4294967296 l)) (len32 (val 4294967296 l))) (len32 (val 4294967296 l)) (u32s (dg 4294967296 (val 4294967296 l))) := by
  have hll := u32_len hS
  have HS := Lib.hid hS
  obtain ⟨D, hD⟩ : ∃ D, D = dg 4294967296 (val 4294967296 l) := ⟨_, rfl⟩
  have HL := Lib.hid (fun k (h1 : Noughts l k) (h2 : k ≤ n) (h : 0 < k → l.getD (k - 1) 0 ≠ 0) => (show l.take k = D by rw [hD]; exact dg_cut (by decide) hl h1 (by omega) h))
  show Calls _ _ _ _ fun e w' => e = .returned (.slice a (dg 4294967296 (val 4294967296 l)).length (dg 4294967296 (val 4294967296 l)).length) ∧ w = w' ∧ Sl w 1 (.slice a (dg 4294967296 (val 4294967296 l)).length (dg 4294967296 (val 4294967296 l)).length) (dg 4294967296 (val 4294967296 l)).length (u32s (dg 4294967296 (val 4294967296 l)))
  rw [← hD]
  clear hl hD
  go_enter Tryd.func35, Tryd.ntmps35
  go_wp2
  go_loop [3] (fun c => ∃ k : Nat, k ≤ n ∧ c = .int .i64 k ∧ Hid (Noughts l k)) (fun c => (intOf c).toNat)
  case atStart => exact ⟨n, Nat.le_refl _, rfl, Lib.hid (fun i hi h => by omega)⟩
  case round =>
    obtain ⟨k, hk, rfl, HZ⟩ := hrel
    have out : (0 < k → l.getD (k - 1) 0 ≠ 0) → l.take k = D := fun h => HL.out k HZ.out hk h
    by_cases h0 : k = 0
    · subst h0
      obtain ⟨C1, C2⟩ := Sl.cut_max (t := 22) Eu32 HS.out 0 (Nat.zero_le _)
      have hd := out (fun h => absurd h (by decide))
      rw [u32s_take, hd] at C2
      have hlen : D.length = 0 := by rw [← hd]; simp
      have HD := Lib.hid hlen
      have HC2 := Lib.hid C2
      have C1' : ∀ wx, (Instr.slice 22 (.slice a n cap) none (some (.int .i64 0)) (some (.int .i64 0))).run Tryd.prog wx = .ok (.slice a 0 0) wx := fun wx => C1 wx
      clear C1 C2 hd hlen out hS
      go_wp2
      go_ret
      exact ⟨by rw [HD.out]; rfl, rfl, by rw [HD.out]; exact HC2.out⟩
    · obtain ⟨m, rfl⟩ : ∃ m, k = m + 1 := ⟨k - 1, by omega⟩
      obtain ⟨b, o, ea, hb, hc⟩ := cell_u32 HS.out m (by omega)
      subst ea
      by_cases hx : l.getD m 0 = 0
      · have HZ2 := Lib.hid (HZ.out.step hx)
        rw [hx] at hc
        clear out hS
        go_wp2
        go_round
        case rel => exact ⟨m, by omega, by first | rfl | skip, HZ2⟩
        case measure => simp [intOf] <;> omega
      · obtain ⟨C1, C2⟩ := Sl.cut_max (t := 22) Eu32 HS.out (m + 1) hk
        have hd := out (fun _ => by simpa using hx)
        rw [u32s_take, hd] at C2
        have hlen : D.length = m + 1 := by rw [← hd, List.length_take]; omega
        have HD := Lib.hid hlen
        have HC2 := Lib.hid C2
        have C1' : ∀ wx, (Instr.slice 22 (.slice (some ⟨b, o, none⟩) n cap) none (some (.int .i64 ((m : Int) + 1))) (some (.int .i64 ((m : Int) + 1)))).run Tryd.prog wx = .ok (.slice (some ⟨b, o, none⟩) (m + 1) (m + 1)) wx := fun wx => C1 wx
        obtain ⟨x, hxx⟩ : ∃ x, x = l.getD m 0 := ⟨_, rfl⟩
        rw [← hxx] at hc hx
        clear C1 C2 hd hlen out hS hxx
        go_wp2
        go_ret
        exact ⟨by rw [HD.out]; rfl, rfl, by rw [HD.out]; exact HC2.out⟩

theorem clone32_any (vx : Value) (n : Nat) (z : List Nat) (hz : z.length = n) (w : World) (h : Sl w 1 vx n (u32s z)) (hl : n ≤ 1000000) :
    Calls Tryd.prog 34 #[vx] w fun e w' => ∃ v, e = .returned v ∧ w'.ownsRow w.heap.size 38 1 v n (u32s z) ∧ Below w.heap.size w w' := by
  subst hz
  have hs := h
  obtain ⟨a, cap, rfl, h1, h2, h3, h4, h5⟩ := h
  cases a with
  | none =>
    obtain ⟨h0, rfl⟩ := h4 rfl
    have hnil : z = [] := List.eq_nil_of_length_eq_zero h0
    subst hnil
    have hq : ∀ wx : World, (binOp .eql 22 (.slice none 0 0) (.slice none 0 0)).run Tryd.prog wx = .ok (.bool true) wx := fun wx => Lib.run_eql_slice_nil wx 22 38 none _ _ 0 0 Tryd.underlying22
    go_enter Tryd.func34, Tryd.ntmps34
    go_wp2
    go_ret
    exact ⟨_, rfl, World.ownsRow_nil _ _ _ _, Below.refl _ _⟩
  | some ad =>
    have hx : Sl (w.alloc (.cells #[] 38)) 1 (.slice (some ad) z.length cap) z.length (u32s z) := hs.below ((Below.refl _ _).alloc (Nat.le_refl _) _)
    have hown := World.ownsRow_made (base := w.heap.size) (e := 38) (size := 1) w #[] 0 (Nat.le_refl _) (Nat.zero_le _) rfl
    have hq : ∀ wx : World, (binOp .eql 22 (.slice (some ad) z.length cap) (.slice none 0 0)).run Tryd.prog wx = .ok (.bool false) wx := fun wx => Lib.run_eql_slice_nil wx 22 38 (some ad) _ _ 0 0 Tryd.underlying22
    go_enter Tryd.func34, Tryd.ntmps34
    go_wp2_with (at_builtin; refine wpList_app Eu32 rfl (.tmp 5) (.tmp 6) rfl w.heap.size rfl hown rfl hx (oneCell_u32s _) (by unfold maxLen; omega) (by omega) (by simp) ?_)
    intro v' w' hown' hgrow _
    go_wp2
    go_ret
    exact ⟨_, rfl, by simpa using hown', ((Below.refl _ _).alloc (Nat.le_refl _) _).grown hgrow (by simp) (fun k hk => by simp [Value.ownBlock] at hk; omega)⟩

theorem zero_any (v : Value) (p : Nat) (w : World) (h : IsN w v p) (hp : len32 p ≤ 1000000) :
    Calls Tryd.prog 20 #[v] w fun e w' => e = .returned (.bool (decide (p = 0))) ∧ Below w.heap.size w w' := by
  obtain ⟨a, cap, rfl, hS⟩ := h
  have e : decide ((dg 4294967296 p).length = 0) = decide (p = 0) := by rw [decide_eq_decide]; exact len32_0 p
  have HE := Lib.hid e
  obtain ⟨n, hn⟩ : ∃ n, n = (dg 4294967296 p).length := ⟨_, rfl⟩
  have HN := Lib.hid hn
  rw [← hn] at e ⊢
  have hB := (Below.refl w.heap.size w).alloc (Nat.le_refl _) (.cells #[.slice a n cap] 26)
  clear hS hp hn e
  go_enter Tryd.func20, Tryd.ntmps20
  go_wp2
  go_ret
  exact ⟨ret_bool (by rw [← HE.out, ← HN.out]; by_cases h : n = 0 <;> simp [h]), hB⟩

theorem parts_any (v : Value) (p : Nat) (w : World) (h : IsN w v p) (hp : len32 p ≤ 1000000) :
    Calls Tryd.prog 19 #[v] w fun e w' => ∃ a cap, e = .returned (.slice a (len32 p) cap) ∧ Sl w' 1 (.slice a (len32 p) cap) (len32 p) (u32s (dg 4294967296 p)) ∧ Below w.heap.size w w' := by
  obtain ⟨a, cap, rfl, hS⟩ := h
  have hB := (Below.refl w.heap.size w).alloc (Nat.le_refl _) (.cells #[.slice a (dg 4294967296 p).length cap] 26)
  have C := clone32_any (.slice a (dg 4294967296 p).length cap) _ _ rfl _ (hS.below hB) hp
  obtain ⟨n, hn⟩ : ∃ n, n = (dg 4294967296 p).length := ⟨_, rfl⟩
  show Calls _ _ _ _ fun e w' => ∃ a cap, e = .returned (.slice a (dg 4294967296 p).length cap) ∧ Sl w' 1 (.slice a (dg 4294967296 p).length cap) (dg 4294967296 p).length (u32s (dg 4294967296 p)) ∧ Below w.heap.size w w'
  rw [← hn] at C hB ⊢
  have C := Lib.hid C
  have HB := Lib.hid hB
  clear hS hp hn hB
  go_enter Tryd.func19, Tryd.ntmps19
  go_wp2_with fail
  refine C.out.mono ?_
  rintro e w1 ⟨v, rfl, ho, hA⟩
  obtain ⟨a1, c1, rfl, _, _⟩ := ownsRow_slice ho
  go_wp2_with fail
  go_ret
  exact ⟨_, _, rfl, Sl.of_own ho, HB.out.trans (hA.mono HB.out.size)⟩

theorem sl_lit2 (w : World) (u v : Value) (t : TypeId) : Sl (w.alloc (.cells #[u, v] t)) 1 (.slice (some ⟨w.heap.size, 0, none⟩) 2 2) 2 [u, v] := by
  refine ⟨_, _, rfl, rfl, Nat.le_refl _, by unfold maxLen; omega, fun h => (by cases h), ?_⟩
  intro j x h
  match j, h with
  | 0, h =>
    simp at h; subst h
    exact ⟨_, _, rfl, by rw [World.cell?_alloc_at _ _ _ _ (by simp)]; rfl⟩
  | 1, h =>
    simp at h; subst h
    exact ⟨_, _, rfl, by rw [World.cell?_alloc_at _ _ _ _ (by simp)]; rfl⟩

set_option maxRecDepth 20000 in
theorem of_any (x : Nat) (hx : x < 18446744073709551616) (w : World) :
    Calls Tryd.prog 24 #[.int .u64 x] w fun e w' => ∃ v, e = .returned v ∧ IsN w' v x ∧ Below w.heap.size w w' := by
  have hv : val 4294967296 [x % 4294967296, x / 4294967296] = x := by simp [val]; omega
  have hd : ∀ d ∈ [x % 4294967296, x / 4294967296], d < 4294967296 := by intro d hd; simp at hd; omega
  have C := fun (wx : World) => cut_any _ 2 2 [x % 4294967296, x / 4294967296] _ (sl_lit2 wx (.int .u32 ((x % 4294967296 : Nat) : Int)) (.int .u32 ((x / 4294967296 : Nat) : Int)) 38) hd (by omega)
  rw [hv] at C
  have HC := Lib.hid C
  have M0 := Mem.start w
  clear C hv hd
  go_enter Tryd.func24, Tryd.ntmps24
  go_wp2_with ((with_reducible refine (?_ : Go.wpList _ _ _ (_ :: _) _ _)); (first | go_skip | (refine wpL_bx M0 rfl rfl rfl rfl ?_; clear M0; intro g1 w1 M1) | (refine wpL_alc M0 rfl rfl ?_; clear M0; intro g1 w1 M1) | (refine wpL_ldc M0 rfl rfl rfl ?_) | (refine wpL_lgc M0 rfl rfl rfl ?_) | (refine wpL_stc M0 rfl rfl rfl rfl ?_; clear M0; intro w' M0) | (refine wpL_sti M0 rfl rfl rfl rfl ?_; clear M0; intro w' M0) | (refine wpL_sth M0 rfl rfl rfl rfl (wr_minus _ _ _) ?_; clear M0; intro w' M0) | (refine wpL_ldc M1 rfl rfl rfl ?_) | (refine wpL_lgc M1 rfl rfl rfl ?_) | (refine wpL_stc M1 rfl rfl rfl rfl ?_; clear M1; intro w' M1) | (refine wpL_sti M1 rfl rfl rfl rfl ?_; clear M1; intro w' M1) | (refine wpL_sth M1 rfl rfl rfl rfl (wr_minus _ _ _) ?_; clear M1; intro w' M1)))
  refine (HC.out _).mono ?_
  rintro e w2 ⟨rfl, rfl, S2⟩
  have M2 := M1.alloc 38 [.int .u32 ((x % 4294967296 : Nat) : Int), .int .u32 ((x / 4294967296 : Nat) : Int)]
  have K2 := M2.has (.tail _ _ _ _ _ (Has.head _ _ _ _))
  go_wp2_with ((with_reducible refine (?_ : Go.wpList _ _ _ (_ :: _) _ _)); (first | go_skip | (refine wpL_ldc M2 rfl rfl rfl ?_) | (refine wpL_lgc M2 rfl rfl rfl ?_) | (refine wpL_stcT M2 rfl rfl rfl rfl ?_; clear M2; intro w' M2 hT) | (refine wpL_stiT M2 rfl rfl rfl rfl ?_; clear M2; intro w' M2 hT)))
  refine bodyPost_ret (res_cell rfl M2 rfl (.tail _ _ _ _ _ (Has.head _ _ _ _)) (rd_nat _)) rfl ?_
  exact ⟨_, rfl, ⟨_, _, rfl, sl_kept S2 K2 (noPart_sl _ _ _) hT⟩, M2.below⟩

set_option maxRecDepth 20000 in
theorem from_any (a : Option Addr) (n cap : Nat) (l : List Nat) (w : World) (hS : Sl w 1 (.slice a n cap) n (u32s l)) (hl : ∀ d ∈ l, d < 4294967296) (hn : n ≤ 1000000) :
    Calls Tryd.prog 10 #[.slice a n cap] w fun e w' => ∃ v, e = .returned v ∧ IsN w' v (val 4294967296 l) ∧ Below w.heap.size w w' := by
  have hll := u32_len hS
  have C1 := Lib.hid (fun wx (hx : Below w.heap.size w wx) => cut_any a n cap l wx (hS.below hx) hl hn)
  obtain ⟨p, hp⟩ : ∃ p, p = val 4294967296 l := ⟨_, rfl⟩
  have hlen : len32 p ≤ 1000000 := by
    have := dg_len_le (B := 4294967296) (by decide) (val_lt (by decide) hl)
    rw [hp]
    show (dg 4294967296 _).length ≤ _
    omega
  rw [← hp] at C1 ⊢
  have C2 := Lib.hid (fun wx vx hs => clone32_any vx (len32 p) (dg 4294967296 p) rfl wx hs hlen)
  have M0 := Mem.start w
  clear hS hl hp hlen hll
  go_enter Tryd.func10, Tryd.ntmps10
  go_wp2_with ((with_reducible refine (?_ : Go.wpList _ _ _ (_ :: _) _ _)); (first | go_skip | (refine wpL_bx M0 rfl rfl rfl rfl ?_; clear M0; intro g1 w1 M1) | (refine wpL_alc M0 rfl rfl ?_; clear M0; intro g1 w1 M1) | (refine wpL_ldc M0 rfl rfl rfl ?_) | (refine wpL_lgc M0 rfl rfl rfl ?_) | (refine wpL_stc M0 rfl rfl rfl rfl ?_; clear M0; intro w' M0) | (refine wpL_sti M0 rfl rfl rfl rfl ?_; clear M0; intro w' M0) | (refine wpL_sth M0 rfl rfl rfl rfl (wr_minus _ _ _) ?_; clear M0; intro w' M0) | (refine wpL_ldc M1 rfl rfl rfl ?_) | (refine wpL_lgc M1 rfl rfl rfl ?_) | (refine wpL_stc M1 rfl rfl rfl rfl ?_; clear M1; intro w' M1) | (refine wpL_sti M1 rfl rfl rfl rfl ?_; clear M1; intro w' M1) | (refine wpL_sth M1 rfl rfl rfl rfl (wr_minus _ _ _) ?_; clear M1; intro w' M1)))
  refine (C1.out _ M1.below).mono ?_
  rintro e w2 ⟨rfl, rfl, S2⟩
  have S2 := Lib.hid S2
  go_wp2_with ((with_reducible refine (?_ : Go.wpList _ _ _ (_ :: _) _ _)); (first | go_skip | (refine wpL_ldc M1 rfl rfl rfl ?_) | (refine wpL_lgc M1 rfl rfl rfl ?_) | (refine wpL_stc M1 rfl rfl rfl rfl ?_; clear M1; intro w' M1) | (refine wpL_sti M1 rfl rfl rfl rfl ?_; clear M1; intro w' M1) | (refine wpL_sth M1 rfl rfl rfl rfl (wr_minus _ _ _) ?_; clear M1; intro w' M1)))
  refine (C2.out _ _ S2.out).mono ?_
  rintro e w2 ⟨v, rfl, ho, hA⟩
  obtain ⟨a1, c1, rfl, _, _⟩ := ownsRow_slice ho
  have S3 := Sl.of_own ho
  replace M1 := M1.call hA
  have K2 := M1.has (Has.head _ _ _ _)
  go_wp2_with ((with_reducible refine (?_ : Go.wpList _ _ _ (_ :: _) _ _)); (first | go_skip | (refine wpL_ldc M1 rfl rfl rfl ?_) | (refine wpL_lgc M1 rfl rfl rfl ?_) | (refine wpL_stcT M1 rfl rfl rfl rfl ?_; clear M1; intro w' M1 hT) | (refine wpL_stiT M1 rfl rfl rfl rfl ?_; clear M1; intro w' M1 hT)))
  refine bodyPost_ret (res_cell rfl M1 rfl (Has.head _ _ _ _) (rd_nat _)) rfl ?_
  exact ⟨_, rfl, ⟨_, _, rfl, sl_kept S3 K2 (noPart_sl _ _ _) hT⟩, M1.below⟩
end Go.Proofs.YtghioakpigdagaaDoor
