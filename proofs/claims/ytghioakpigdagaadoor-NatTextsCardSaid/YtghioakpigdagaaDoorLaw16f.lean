/-
  NatTexts: the walk.
-/
import Derived.Test.YtghioakpigdagaaDoorSmall16
import Derived.Test.YtghioakpigdagaaDoorAppR
set_option linter.unusedVariables false
set_option linter.unusedSimpArgs false
namespace Go.Proofs.YtghioakpigdagaaDoor
open Go Go.RowKit Go.Th Go.Th.Dig

def IsSlv (u : Value) : Prop := ∃ a n c, u = .slice a n c
/-- Numbers' rows, one for each number. -/
structure RowsOf (w : World) (cs : List Value) (ps : List Nat) : Prop where
  len : cs.length = ps.length
  is : ∀ j, j < ps.length → ∃ b c, cs[j]? = some (.slice b (len32 (ps.getD j 0)) c) ∧ Sl w 1 (.slice b (len32 (ps.getD j 0)) c) (len32 (ps.getD j 0)) (u32s (dg 4294967296 (ps.getD j 0)))
theorem RowsOf.below {w w' : World} {cs : List Value} {ps : List Nat} (h : RowsOf w cs ps) (hB : Below w.heap.size w w') : RowsOf w' cs ps :=
  ⟨h.len, fun j hj => let ⟨b, c, h1, h2⟩ := h.is j hj; ⟨b, c, h1, h2.below hB⟩⟩
/-- A row of values of another kind lies elsewhere. -/
theorem sl_apartR {R : Value → Prop} {w w' : World} {v0 : Value} {v : Value} {n : Nat} {xs : List Value} (hS : Sl w 1 v n xs) (hx : ∀ u ∈ xs, ¬ R u) (hR : AllR R w v0) (hT : Turned (fun k => v0.ownBlock = some k) w w') : Sl w' 1 v n xs := by
  obtain ⟨a, cap, rfl, h1, h2, h3, h4, h5⟩ := id hS
  refine ⟨a, cap, rfl, h1, h2, h3, h4, fun j u hu => ?_⟩
  obtain ⟨b, o, ha, hc⟩ := h5 j u hu
  refine ⟨b, o, ha, (hT.cell (p := ⟨b, o + j, none⟩) (World.block_lt_of_cell? w _ hc) (fun e => ?_)).trans hc⟩
  exact hx u (List.mem_of_getElem? hu) (hR b e _ u hc)
theorem not_slv_u32 (l : List Nat) : ∀ u ∈ u32s l, ¬ IsSlv u := by
  intro u hu
  obtain ⟨x, _, rfl⟩ := List.mem_map.1 hu
  rintro ⟨_, _, _, h⟩
  cases h
theorem not_slv_dig (l : List Nat) : ∀ u ∈ digs l, ¬ IsSlv u := by
  intro u hu
  obtain ⟨x, _, rfl⟩ := List.mem_map.1 hu
  rintro ⟨_, _, _, h⟩
  cases h
theorem RowsOf.apart {w w' : World} {v0 : Value} {cs : List Value} {ps : List Nat} (h : RowsOf w cs ps) (hR : AllR IsSlv w v0) (hT : Turned (fun k => v0.ownBlock = some k) w w') : RowsOf w' cs ps :=
  ⟨h.len, fun j hj => let ⟨b, c, h1, h2⟩ := h.is j hj; ⟨b, c, h1, sl_apartR h2 (not_slv_u32 _) hR hT⟩⟩
theorem RowsOf.snoc {w : World} {cs : List Value} {ps : List Nat} {a : Option Addr} {n c p : Nat} (h : RowsOf w cs ps) (hp : IsN w (.agg #[.slice a n c]) p) : RowsOf w (cs ++ [.slice a n c]) (ps ++ [p]) := by
  obtain ⟨a', c', e, hS⟩ := hp.form
  simp at e
  obtain ⟨rfl, rfl, rfl⟩ := e
  refine ⟨by simp [h.len], fun j hj => ?_⟩
  by_cases hl : j < ps.length
  · obtain ⟨b, c, h1, h2⟩ := h.is j hl
    have e : (ps ++ [p]).getD j 0 = ps.getD j 0 := by simp [List.getD_eq_getElem?_getD, List.getElem?_append_left hl]
    rw [e]
    exact ⟨b, c, by rw [List.getElem?_append_left (by rw [h.len]; exact hl)]; exact h1, h2⟩
  · have hj' : j = ps.length := by simp at hj; omega
    subst hj'
    have e : (ps ++ [p]).getD ps.length 0 = p := by simp [List.getD_eq_getElem?_getD]
    rw [e]
    exact ⟨a, c, by rw [← h.len, List.getElem?_append_right (Nat.le_refl _)]; simp, hS⟩
theorem ENat : ElemOf Tryd.prog 53 26 1 24 := ElemOf.mk' Tryd.underlying53 (z := .agg #[.slice none 0 0]) (by kernel_rfl) rfl (by decide)
theorem zNatS : ∀ i z, Tryd.prog.info? 26 = some i → i.zero = some z → ∀ u ∈ z.cells, IsSlv u := by
  intro i z hi hz u hu
  have h := zeroNat16
  rw [hi] at h
  simp only [Option.map_some, Option.some.injEq] at h
  rw [hz] at h
  obtain rfl := Option.some.inj h
  have : u ∈ #[Value.slice none 0 0] := hu
  simp at this
  exact ⟨_, _, _, this⟩
/-- Numbers of 64 bits as an argument. -/
def u64s (l : List Nat) : List Value := l.map (fun x : Nat => .int .u64 (x : Int))
theorem cell_u64 {w : World} {a : Option Addr} {n cap : Nat} {l : List Nat} (hS : Sl w 1 (.slice a n cap) n (u64s l)) (i : Nat) (hi : i < l.length) :
    ∃ b o, a = some ⟨b, o, none⟩ ∧ b < w.heap.size ∧ w.cell? ⟨b, o + i, none⟩ = some (.int .u64 ((l.getD i 0 : Nat) : Int)) := by
  obtain ⟨_, _, e, _, _, _, _, h⟩ := id hS
  cases e
  obtain ⟨b, o, e, hc⟩ := h i (.int .u64 ((l.getD i 0 : Nat) : Int)) (by simp [u64s, List.getElem?_eq_getElem hi])
  refine ⟨b, o, e, ?_, by simpa using hc⟩
  have := World.block_lt_of_cell? w _ hc
  simpa using this
theorem tot_next (l : List Nat) (k : Nat) (h : k < l.length) : tot l k + l.getD k 0 = tot l (k + 1) := by
  unfold tot
  rw [List.take_add_one, List.getElem?_eq_getElem h, List.sum_append]
  simp [List.getD_eq_getElem?_getD, List.getElem?_eq_getElem h]
theorem take_snoc16 (l : List Nat) (k : Nat) (h : k < l.length) : l.take k ++ [l.getD k 0] = l.take (k + 1) := by
  rw [List.take_add_one, List.getElem?_eq_getElem h]
  simp [List.getD_eq_getElem?_getD, List.getElem?_eq_getElem h]
theorem tot_le (l : List Nat) (h : ∀ d ∈ l, d < 18446744073709551616) : ∀ k, k ≤ l.length → tot l k ≤ k * 18446744073709551616
  | 0, _ => by simp [tot]
  | k + 1, hk => by
    rw [← tot_next l k (by omega)]
    have h1 := tot_le l h k (by omega)
    have h2 : l.getD k 0 < 18446744073709551616 := by
      rw [List.getD_eq_getElem?_getD, List.getElem?_eq_getElem (by omega)]
      exact h _ (List.getElem_mem _)
    omega
theorem wrap_lo (x : Nat) : IntKind.u32.wrap (x : Int) = ((x % 4294967296 : Nat) : Int) := by
  simp only [IntKind.wrap, IntKind.signed, IntKind.bits]
  simp
theorem wrap_hi (x : Nat) (hx : x < 18446744073709551616) : IntKind.u32.wrap ((x : Int) / 4294967296) = ((x / 4294967296 : Nat) : Int) := by
  have e : (x : Int) / 4294967296 = ((x / 4294967296 : Nat) : Int) := by simp
  rw [e, wrap_lo]
  congr 1
  omega
theorem is16_nil (w : World) : Is16 w (.slice none 0 0) 0 := ⟨_, _, rfl, rfl, Nat.le_refl _, by unfold maxLen; omega, fun _ => ⟨rfl, rfl⟩, fun j u h => by simp [dg_0, digs] at h⟩
set_option maxRecDepth 20000 in
set_option maxHeartbeats 6400000 in
theorem texts_heavy1 (a : Option Addr) (n ca : Nat) (b : Option Addr) (m cb : Nat) (wk : Works) (w : World) (hn : ¬ n ≤ 20) :
    Calls Tryd.prog 7 #[.slice a n ca, .slice b m cb] w fun e w' => e = .returned (.bool true) ∧ Below w.heap.size w w' := by
  have WK := Lib.hid wk
  clear wk
  have M0 := Mem.start w
  go_enter Tryd.func7, Tryd.ntmps7
  go_wp2_with fail
  refine (light_no _ _ _ hn).mono ?_
  rintro e w2 ⟨rfl, rfl⟩
  go_wp2_with ((with_reducible refine (?_ : Go.wpList _ _ _ (_ :: _) _ _)); (first | go_skip | (refine wpL_ldc M0 rfl rfl rfl ?_) | (refine wpL_lgc M0 rfl rfl rfl ?_) | (refine wpL_stc M0 rfl rfl rfl rfl ?_; clear M0; intro w' M0) | (refine wpL_sti M0 rfl rfl rfl rfl ?_; clear M0; intro w' M0) | (refine wpL_sth M0 rfl rfl rfl rfl (wr_minus _ _ _) ?_; clear M0; intro w' M0)))
  refine (WK.out _).mono ?_
  rintro e w1 ⟨rfl, hA⟩
  replace M0 := M0.call hA
  clear hA
  go_wp2_with ((with_reducible refine (?_ : Go.wpList _ _ _ (_ :: _) _ _)); (first | go_skip | (refine wpL_ldc M0 rfl rfl rfl ?_) | (refine wpL_lgc M0 rfl rfl rfl ?_) | (refine wpL_stc M0 rfl rfl rfl rfl ?_; clear M0; intro w' M0) | (refine wpL_sti M0 rfl rfl rfl rfl ?_; clear M0; intro w' M0) | (refine wpL_sth M0 rfl rfl rfl rfl (wr_minus _ _ _) ?_; clear M0; intro w' M0)))
  go_ret
  exact ⟨rfl, M0.below⟩

set_option maxRecDepth 20000 in
set_option maxHeartbeats 6400000 in
theorem texts_heavy2 (a : Option Addr) (n ca : Nat) (b : Option Addr) (m cb : Nat) (wk : Works) (w : World) (hn : n ≤ 20) (hm : ¬ m ≤ 60) :
    Calls Tryd.prog 7 #[.slice a n ca, .slice b m cb] w fun e w' => e = .returned (.bool true) ∧ Below w.heap.size w w' := by
  have WK := Lib.hid wk
  clear wk
  have hm1 : decide ((60 : Int) < (m : Int)) = true := decide_eq_true (by omega)
  have M0 := Mem.start w
  go_enter Tryd.func7, Tryd.ntmps7
  go_wp2_with fail
  refine (light_yes _ _ _ hn).mono ?_
  rintro e w2 ⟨rfl, rfl⟩
  go_wp2_with ((with_reducible refine (?_ : Go.wpList _ _ _ (_ :: _) _ _)); (first | go_skip | (refine wpL_ldc M0 rfl rfl rfl ?_) | (refine wpL_lgc M0 rfl rfl rfl ?_) | (refine wpL_stc M0 rfl rfl rfl rfl ?_; clear M0; intro w' M0) | (refine wpL_sti M0 rfl rfl rfl rfl ?_; clear M0; intro w' M0) | (refine wpL_sth M0 rfl rfl rfl rfl (wr_minus _ _ _) ?_; clear M0; intro w' M0)))
  refine (WK.out _).mono ?_
  rintro e w1 ⟨rfl, hA⟩
  replace M0 := M0.call hA
  clear hA
  go_wp2_with ((with_reducible refine (?_ : Go.wpList _ _ _ (_ :: _) _ _)); (first | go_skip | (refine wpL_ldc M0 rfl rfl rfl ?_) | (refine wpL_lgc M0 rfl rfl rfl ?_) | (refine wpL_stc M0 rfl rfl rfl rfl ?_; clear M0; intro w' M0) | (refine wpL_sti M0 rfl rfl rfl rfl ?_; clear M0; intro w' M0) | (refine wpL_sth M0 rfl rfl rfl rfl (wr_minus _ _ _) ?_; clear M0; intro w' M0)))
  go_ret
  exact ⟨rfl, M0.below⟩

set_option maxRecDepth 20000 in
set_option maxHeartbeats 6400000 in
theorem texts_big (a : Option Addr) (n ca : Nat) (b : Option Addr) (m cb : Nat) (p : Nat) (l : List Nat) (wk : Works) (w : World) (IA : In16 a n ca w p) (hn : n ≤ 20) (hm : m ≤ 60) (hp : ¬ p < 18446744073709551616) (hlm : l.length = m) (hl : ∀ k, l.getD k 0 < 18446744073709551616) (HTL : Hid (∀ k, k ≤ m → Sm (tot l k))) (sb : Sl w 1 (.slice b m cb) m (u64s l)) :
    Calls Tryd.prog 7 #[.slice a n ca, .slice b m cb] w fun e w' => e = .returned (.bool true) ∧ Below w.heap.size w w' := by
  have CA := Lib.hid IA.from_
  have DA := Lib.hid IA.of_
  have Sp := Lib.hid IA.sm
  obtain ⟨T, hT⟩ : ∃ T, strOf (txt p) = T := ⟨_, rfl⟩
  have ET := Lib.hid hT
  clear IA hT
  have HP0 := Lib.hid hp
  have LM := Lib.hid hlm
  have HLT := Lib.hid hl
  have HL := Lib.hid sb
  clear hp hlm hl sb
  have hm1 : decide ((60 : Int) < (m : Int)) = false := decide_eq_false (by omega)
  have WK := Lib.hid wk
  clear wk
  have M0 := Mem.start w
  go_enter Tryd.func7, Tryd.ntmps7
  go_wp2_with fail
  refine (light_yes _ _ _ hn).mono ?_
  rintro e w2 ⟨rfl, rfl⟩
  go_wp2_with ((with_reducible refine (?_ : Go.wpList _ _ _ (_ :: _) _ _)); (first | go_skip | (refine wpL_ldc M0 rfl rfl rfl ?_) | (refine wpL_lgc M0 rfl rfl rfl ?_) | (refine wpL_stc M0 rfl rfl rfl rfl ?_; clear M0; intro w' M0) | (refine wpL_sti M0 rfl rfl rfl rfl ?_; clear M0; intro w' M0) | (refine wpL_sth M0 rfl rfl rfl rfl (wr_minus _ _ _) ?_; clear M0; intro w' M0)))
  refine (CA.out _ M0.below).mono ?_
  rintro e w1 ⟨tv, rfl, hv, hA⟩
  replace M0 := M0.call hA
  obtain ⟨aHX, nHX, cHX, rfl, hz⟩ := hv.nm
  have HX : Hid (IsN w1 (.agg #[.slice aHX nHX cHX]) (p)) := Lib.hid hz
  clear hz hv
  clear hA
  have M10 := Mem.start w1
  go_upto_region 4 with ((with_reducible refine (?_ : Go.wpList _ _ _ (_ :: _) _ _)); (first | go_skip | (refine wpL_bx M10 rfl rfl rfl rfl ?_; clear M10; intro g11 w11 M11) | (refine wpL_alc M10 rfl rfl ?_; clear M10; intro g11 w11 M11) | (refine wpL_ldc M10 rfl rfl rfl ?_) | (refine wpL_lgc M10 rfl rfl rfl ?_) | (refine wpL_stc M10 rfl rfl rfl rfl ?_; clear M10; intro w' M10) | (refine wpL_sti M10 rfl rfl rfl rfl ?_; clear M10; intro w' M10) | (refine wpL_sth M10 rfl rfl rfl rfl (wr_minus _ _ _) ?_; clear M10; intro w' M10) | (refine wpL_ldc M11 rfl rfl rfl ?_) | (refine wpL_lgc M11 rfl rfl rfl ?_) | (refine wpL_stc M11 rfl rfl rfl rfl ?_; clear M11; intro w' M11) | (refine wpL_sti M11 rfl rfl rfl rfl ?_; clear M11; intro w' M11) | (refine wpL_sth M11 rfl rfl rfl rfl (wr_minus _ _ _) ?_; clear M11; intro w' M11)))
  obtain ⟨w1, rfl⟩ : ∃ w1, w1 = w' := ⟨_, rfl⟩
  have hA := M11.below
  replace HX := Lib.hid (HX.out.below hA)
  replace M0 : Mem w w1 [(g11, 26, [.slice aHX nHX cHX])] := Mem.join M0 M11
  clear hA M11
  go_wp2_with ((with_reducible refine (?_ : Go.wpList _ _ _ (_ :: _) _ _)); (first | go_skip | (refine wpL_ldc M0 rfl rfl rfl ?_) | (refine wpL_lgc M0 rfl rfl rfl ?_) | (refine wpL_stc M0 rfl rfl rfl rfl ?_; clear M0; intro w' M0) | (refine wpL_sti M0 rfl rfl rfl rfl ?_; clear M0; intro w' M0) | (refine wpL_sth M0 rfl rfl rfl rfl (wr_minus _ _ _) ?_; clear M0; intro w' M0)))
  refine (DA.out _ M0.below).mono ?_
  rintro e w1 ⟨tv, rfl, hv, hA⟩
  replace M0 := M0.call hA
  replace HX := Lib.hid (HX.out.below hA)
  obtain ⟨aHP, nHP, cHP, rfl, lHP, hz⟩ := hv.nm
  have HP : Hid (Is16 w1 (.slice aHP nHP cHP) (p)) := Lib.hid hz
  have LHP := Lib.hid lHP
  clear lHP hz hv
  clear hA
  go_wp2_with ((with_reducible refine (?_ : Go.wpList _ _ _ (_ :: _) _ _)); (first | go_skip | (refine wpL_ldc M0 rfl rfl rfl ?_) | (refine wpL_lgc M0 rfl rfl rfl ?_) | (refine wpL_stc M0 rfl rfl rfl rfl ?_; clear M0; intro w' M0) | (refine wpL_sti M0 rfl rfl rfl rfl ?_; clear M0; intro w' M0) | (refine wpL_sth M0 rfl rfl rfl rfl (wr_minus _ _ _) ?_; clear M0; intro w' M0)))
  refine (uint16 _ p 0 false _ HX.out Sp.out (if_neg HP0.out) (decide_eq_false HP0.out)).mono ?_
  rintro e w1 ⟨rfl, hA⟩
  replace M0 := M0.call hA
  replace HX := Lib.hid (HX.out.below hA)
  replace HP := Lib.hid (HP.out.below hA)
  clear hA
  have hf : decide ((nHP : Int) ≤ 8) = false := decide_eq_false (by have h1 := len16_8 LHP.out; have h2 := HP0.out; omega)
  go_wp2_with ((with_reducible refine (?_ : Go.wpList _ _ _ (_ :: _) _ _)); (first | go_skip | (refine wpL_ldc M0 rfl rfl rfl ?_) | (refine wpL_lgc M0 rfl rfl rfl ?_) | (refine wpL_stc M0 rfl rfl rfl rfl ?_; clear M0; intro w' M0) | (refine wpL_sti M0 rfl rfl rfl rfl ?_; clear M0; intro w' M0) | (refine wpL_sth M0 rfl rfl rfl rfl (wr_minus _ _ _) ?_; clear M0; intro w' M0)))
  refine (text16 _ p T _ HX.out Sp.out ET.out).mono ?_
  rintro e w1 ⟨rfl, hA⟩
  replace M0 := M0.call hA
  replace HX := Lib.hid (HX.out.below hA)
  replace HP := Lib.hid (HP.out.below hA)
  clear hA
  go_wp2_with ((with_reducible refine (?_ : Go.wpList _ _ _ (_ :: _) _ _)); (first | go_skip | (refine wpL_ldc M0 rfl rfl rfl ?_) | (refine wpL_lgc M0 rfl rfl rfl ?_) | (refine wpL_stc M0 rfl rfl rfl rfl ?_; clear M0; intro w' M0) | (refine wpL_sti M0 rfl rfl rfl rfl ?_; clear M0; intro w' M0) | (refine wpL_sth M0 rfl rfl rfl rfl (wr_minus _ _ _) ?_; clear M0; intro w' M0)))
  refine (rtext16 _ p T _ HP.out Sp.out ET.out).mono ?_
  rintro e w1 ⟨rfl, hA⟩
  replace M0 := M0.call hA
  replace HX := Lib.hid (HX.out.below hA)
  replace HP := Lib.hid (HP.out.below hA)
  clear hA
  go_upto_region 12 with ((with_reducible refine (?_ : Go.wpList _ _ _ (_ :: _) _ _)); (first | go_skip | (refine wpL_ldc M0 rfl rfl rfl ?_) | (refine wpL_lgc M0 rfl rfl rfl ?_) | (refine wpL_stc M0 rfl rfl rfl rfl ?_; clear M0; intro w' M0) | (refine wpL_sti M0 rfl rfl rfl rfl ?_; clear M0; intro w' M0) | (refine wpL_sth M0 rfl rfl rfl rfl (wr_minus _ _ _) ?_; clear M0; intro w' M0)))
  clear hf hm1
  have hB0 := M0.below
  clear M0 HX HP
  go_loopw [10, 11, 12] (fun va vs i wr => ∃ (k : Nat) (cs : List Value) (va0 vs0 : Value), k ≤ m ∧ i = .int .i64 k ∧ va0 = va ∧ vs0 = vs ∧ Hid (Is16 wr vs0 (tot l k)) ∧ wr.ownsRow w.heap.size 26 1 va0 k cs ∧ Hid (AllR IsSlv wr va0) ∧ Hid (RowsOf wr cs (l.take k)) ∧ Below w.heap.size w wr) (fun _ _ i _ => m - (intOf i).toNat)
  case atStart => exact ⟨0, [], _, _, Nat.zero_le _, rfl, rfl, rfl, Lib.hid (is16_nil _), World.ownsRow_nil _ _ _ _, Lib.hid (AllR.nil _ _), Lib.hid ⟨rfl, fun j hj => absurd hj (by simp)⟩, hB0⟩
  case round =>
    clear hB0
    obtain ⟨k, cs, va, vs, hk, rfl, rfl, rfl, HS, ho, HR, HC, hB⟩ := hrel
    by_cases hlt : k < m
    · have hsz := hB.size
      obtain ⟨b0, o0, rfl, hb0, hc0⟩ := cell_u64 HL.out k (by rw [LM.out]; exact hlt)
      obtain ⟨b1, o1, he, hb, hc⟩ := cell_u64 (HL.out.below hB) k (by rw [LM.out]; exact hlt)
      cases he
      have ht1 := tot_next l k (by rw [LM.out]; exact hlt)
      have ht2 := take_snoc16 l k (by rw [LM.out]; exact hlt)
      have hx : l.getD k 0 < 18446744073709551616 := HLT.out k
      have htl := HTL.out k hk
      have htl2 := HTL.out (k + 1) hlt
      obtain ⟨x, hxe⟩ : ∃ x, x = l.getD k 0 := ⟨_, rfl⟩
      rw [← hxe] at hc hc0 ht1 ht2 hx
      have E1 := Lib.hid ht1
      have E2 := Lib.hid ht2
      have Sx : Hid (Sm x) := Lib.hid (sm_of (k := 2) (by simpa using hx) (by decide))
      have St := Lib.hid htl
      have CO := Lib.hid (of_any x hx)
      have CS1 := fun wx => small16 x hx wx
      have hw1 : IntKind.u32.wrap (x : Int) = ((x % 4294967296 : Nat) : Int) := wrap_lo x
      have hw2 : IntKind.u32.wrap ((x : Int) / 4294967296) = ((x / 4294967296 : Nat) : Int) := wrap_hi x hx
      obtain ⟨lo, hlo⟩ : ∃ lo, lo = x % 4294967296 := ⟨_, rfl⟩
      obtain ⟨hh, hhi⟩ : ∃ hh, hh = x / 4294967296 := ⟨_, rfl⟩
      rw [← hlo, ← hhi] at CS1
      rw [← hlo] at hw1
      rw [← hhi] at hw2
      have CS := Lib.hid CS1
      have HW1 := Lib.hid hw1
      have HW2 := Lib.hid hw2
      clear CS1 hlo hhi hw1 hw2
      have hi0 : (0 : Int) ≤ k := by omega
      have hi1 : (k : Int) < m := by omega
      clear ht1 ht2 htl htl2 hxe hx
      go_wp2_with fail
      refine (CO.out _).mono ?_
      rintro e w1 ⟨tv, rfl, hv, hA⟩
      obtain ⟨aN, nN, cN, rfl, hN⟩ := hv.nm
      have HN := Lib.hid hN
      replace HS := Lib.hid (HS.out.below hA)
      replace HC := Lib.hid (HC.out.below hA)
      replace HR := Lib.hid (HR.out.below ho hA)
      replace ho := ownsRow_below ho hA
      replace hB := hB.trans (hA.mono hsz)
      replace hsz := hB.size
      have hA1 := (Below.refl w1.heap.size w1).alloc (Nat.le_refl _) (.cells #[.slice aN nN cN] 26)
      have HR1 := Lib.hid (HR.out.below ho hA1)
      clear hv hN hA hb hc CO
      go_wp2_with (at_builtin; refine wpList_appR ENat rfl (.tmp 60) (.tmp 66) rfl w.heap.size rfl (ho.alloc _) rfl (Sl.one _ _ _) rfl (by unfold maxLen; omega) (by omega) (by simp; omega) IsSlv HR1.out ⟨_, _, _, rfl⟩ zNatS ?_)
      intro v2 w3 ho3 hg3 hR3
      have hT : Turned (fun j => va.ownBlock = some j) (w1.alloc (.cells #[.slice aN nN cN] 26)) w3 := (Turned.refl _ _).grown hg3 (fun _ e _ => e)
      have hC3 := ((HC.out.below hA1).snoc (HN.out.below hA1)).apart HR1.out hT
      rw [E2.out] at hC3
      have HC3 := Lib.hid hC3
      have hS3 : Is16 w3 vs (tot l k) := sl_apartR (HS.out.below hA1) (not_slv_dig _) HR1.out hT
      have HS3 := Lib.hid hS3
      have HR3 := Lib.hid hR3
      have HO3 := Lib.hid ho3
      have hB3 := hB.trans (app_below ho hsz hg3)
      have hc3 := ((Turned.below (S := fun _ => False) hB3).cell (p := ⟨b0, o0 + k, none⟩) hb0 id).trans hc0
      have hb3 : b0 < w3.heap.size := Nat.lt_of_lt_of_le hb0 hB3.size
      have HB3 := Lib.hid hB3
      clear hT hC3 hS3 hR3 ho3 hB3 hg3 ho hB hsz hA1 HR1 HR HC HS HN E2
      go_wp2_with fail
      have hw1 := HW1.out
      have hw2 := HW2.out
      refine wp_region_held_drew (S := (fun w' : World => w'.cell? ⟨b0, o0 + k, none⟩ = some (.int .u64 x))) (by kernel_rfl) (hc3) (fun hHeld => ?_)
      refine tkT 0 ?v1 ?hy1 hHeld ?rest1
      case hy1 => (intro w' hSw; (try dsimp only at hSw); go_simp; (try with_reducible rfl))
      try simp only [Act.put, puts]
      refine tkT 1 ?v2 ?hy2 hHeld ?rest2
      case hy2 => (intro w' hSw; (try dsimp only at hSw); go_simp; (try with_reducible rfl))
      try simp only [Act.put, puts]
      refine tkT 2 ?v3 ?hy3 hHeld ?rest3
      case hy3 => (intro w' hSw; (try dsimp only at hSw); go_simp; (try with_reducible rfl))
      try simp only [Act.put, puts]
      refine tkT 3 ?v4 ?hy4 hHeld ?rest4
      case hy4 => (intro w' hSw; (try dsimp only at hSw); go_simp; (try with_reducible rfl))
      try simp only [Act.put, puts]
      refine tkT 4 ?v5 ?hy5 hHeld ?rest5
      case hy5 => (intro w' hSw; (try dsimp only at hSw); go_simp; (try with_reducible rfl))
      try simp only [Act.put, puts]
      refine tkT 5 ?v6 ?hy6 hHeld ?rest6
      case hy6 => (intro w' hSw; (try dsimp only at hSw); go_simp; (try with_reducible rfl))
      try simp only [Act.put, puts]
      refine tkT 6 ?v7 ?hy7 hHeld ?rest7
      case hy7 => (intro w' hSw; (try dsimp only at hSw); go_simp; (try with_reducible rfl))
      try simp only [Act.put, puts]
      refine tkT 7 ?v8 ?hy8 hHeld ?rest8
      case hy8 => (intro w' hSw; (try dsimp only at hSw); go_simp; (try with_reducible rfl))
      try simp only [Act.put, puts]
      refine tkT 8 ?v9 ?hy9 hHeld ?rest9
      case hy9 => (intro w' hSw; (try dsimp only at hSw); go_simp; (try with_reducible rfl))
      try simp only [Act.put, puts]
      refine tkT 9 ?v10 ?hy10 hHeld ?rest10
      case hy10 => (intro w' hSw; (try dsimp only at hSw); go_simp; (try with_reducible rfl))
      try simp only [Act.put, puts]
      refine tkT 10 ?v11 ?hy11 hHeld ?rest11
      case hy11 => (intro w' hSw; (try dsimp only at hSw); go_simp; (try with_reducible rfl))
      try simp only [Act.put, puts]
      refine tkT 11 ?v12 ?hy12 hHeld ?rest12
      case hy12 => (intro w' hSw; (try dsimp only at hSw); go_simp; (try with_reducible rfl))
      try simp only [Act.put, puts]
      refine wpAnyH_ready (rs := [12]) (by kernel_rfl) (by simp) ?_
      refine AllReadyH.cons rfl (fun K hK => ?_) AllReadyH.nil
      go_simp
      have hA4 := (Below.refl w3.drew.heap.size w3.drew).alloc (Nat.le_refl _) (.cells #[.int .u32 (lo : Int), .int .u32 (hh : Int)] 38)
      try go_wp2_with fail
      refine hK.out _ _ (((Turned.below (S := fun _ => False) hA4).cell (p := ⟨b0, o0 + k, none⟩) hb3 id).trans hc3) (fun hHeld => ?_)
      clear hK K
      try simp only [Act.put, puts]
      refine wpAnyH_ready (rs := [13]) (by kernel_rfl) (by simp) ?_
      refine AllReadyH.cons rfl (fun K hK => ?_) AllReadyH.nil
      go_simp
      refine (CS.out w3.drew).mono ?_
      rintro e w5 ⟨tv, rfl, hv5, hA5⟩
      have hb5 : b0 < w5.heap.size := Nat.lt_of_lt_of_le hb3 hA5.size
      have hc5 := ((Turned.below (S := fun _ => False) hA5).cell (p := ⟨b0, o0 + k, none⟩) hb3 id).trans hc3
      obtain ⟨aD, nD, cD, rfl, lD, hD⟩ := hv5.nm
      have hA35 : Below w3.heap.size w3 w5 := ((Below.refl w3.heap.size w3).drew).trans hA5
      have HD := Lib.hid hD
      clear hv5 lD hD
      try go_wp2_with fail
      refine hK.out _ _ (((Turned.below (S := fun _ => False) hA5).cell (p := ⟨b0, o0 + k, none⟩) hb3 id).trans hc3) (fun hHeld => ?_)
      clear hK K
      try simp only [Act.put, puts]
      refine wpAnyH_ready (rs := [14]) (by kernel_rfl) (by simp) ?_
      refine AllReadyH.cons rfl (fun K hK => ?_) AllReadyH.nil
      go_simp
      refine (radd16 _ _ (tot l k) x (tot l (k + 1)) _ (HS3.out.below hA35) HD.out St.out Sx.out E1.out).mono ?_
      rintro e w6 ⟨tv, rfl, hv6, hA6⟩
      obtain ⟨aF, nF, cF, rfl, lF, hF⟩ := hv6.nm
      have HF := Lib.hid hF
      clear hv6 lF hF
      try go_wp2_with fail
      refine hK.out _ _ (((Turned.below (S := fun _ => False) hA6).cell (p := ⟨b0, o0 + k, none⟩) hb5 id).trans hc5) (fun hHeld => ?_)
      clear hK K
      try simp only [Act.put, puts]
      refine tkT 15 ?v16 ?hy16 hHeld ?rest16
      case hy16 => (intro w' hSw; (try dsimp only at hSw); go_simp; (try with_reducible rfl))
      try simp only [Act.put, puts]
      refine wpAnyH_done (by kernel_rfl) ?_ _
      have hA36 : Below w3.heap.size w3 w6 := hA35.trans (hA6.mono hA35.size)
      have HO6 := Lib.hid (ownsRow_below HO3.out hA36)
      have HR6 := Lib.hid (HR3.out.below HO3.out hA36)
      have HC6 := Lib.hid (HC3.out.below hA36)
      have HB6 := Lib.hid (HB3.out.trans (hA36.mono HB3.out.size))
      clear hw1 hw2 HW1 HW2 hA36 hA35 hA6 hA5 hA4 hc5 hb5 hc3 hb3 HO3 HR3 HC3 HB3 HS3 HD hc0 hb0 CS
      go_wp2_with fail
      go_roundw
      case rel => exact ⟨k + 1, _, _, _, by omega, by go_num, rfl, rfl, HF, HO6.out, HR6, HC6, HB6.out⟩
      case measure => simp [intOf]; omega
    · obtain rfl : k = m := by omega
      have htk : l.take k = l := List.take_of_length_le (by rw [LM.out]; exact Nat.le_refl _)
      have hC := HC.out
      rw [htk] at hC
      have S0 := Sl.of_own ho
      have St := Lib.hid (HTL.out k (Nat.le_refl _))
      have CU := Lib.hid (fun a c (h : Sl wr 1 (.slice a k c) k cs) => sum_any a k c cs l wr ⟨h, LM.out, fun j hj => hC.is j (by rw [LM.out]; exact hj)⟩ (by omega) (fun j => len_le (k := 2) (by have := HLT.out j; simpa using this) (by decide)))
      obtain ⟨va0, vc, rfl, _⟩ := id S0
      have HV := Lib.hid (CU.out _ _ S0)
      obtain ⟨aS, nS, cS, rfl, lS, hS⟩ := HS.out.nm
      have HS2 := Lib.hid hS
      have HB2 := Lib.hid hB
      clear CU S0 hC htk ho HR HC HS hS lS hB
      go_wp2_with fail
      refine HV.out.mono ?_
      rintro e w1 ⟨tv, rfl, hv, hA⟩
      obtain ⟨aN, nN, cN, rfl, hN⟩ := hv.nm
      have HN := Lib.hid hN
      have HS3 := Lib.hid (HS2.out.below hA)
      have HB3 := Lib.hid (HB2.out.trans (hA.mono HB2.out.size))
      clear hv hN hA HS2 HB2 HV
      go_wp2_with fail
      refine (is_yes _ _ (tot l k) _ HN.out HS3.out St.out).mono ?_
      rintro e w2 ⟨rfl, hA⟩
      have HB4 := Lib.hid (HB3.out.trans (hA.mono HB3.out.size))
      clear hA HB3 HN HS3
      go_wp2_with fail
      refine (WK.out _).mono ?_
      rintro e w4 ⟨rfl, hA⟩
      have HB5 := Lib.hid (HB4.out.trans (hA.mono HB4.out.size))
      clear hA HB4
      go_wp2_with fail
      go_ret
      exact ⟨rfl, HB5.out⟩

set_option maxRecDepth 20000 in
set_option maxHeartbeats 6400000 in
theorem texts_small (a : Option Addr) (n ca : Nat) (b : Option Addr) (m cb : Nat) (p : Nat) (l : List Nat) (wk : Works) (w : World) (IA : In16 a n ca w p) (hn : n ≤ 20) (hm : m ≤ 60) (hp : p < 18446744073709551616) (hlm : l.length = m) (hl : ∀ k, l.getD k 0 < 18446744073709551616) (HTL : Hid (∀ k, k ≤ m → Sm (tot l k))) (sb : Sl w 1 (.slice b m cb) m (u64s l)) :
    Calls Tryd.prog 7 #[.slice a n ca, .slice b m cb] w fun e w' => e = .returned (.bool true) ∧ Below w.heap.size w w' := by
  have CA := Lib.hid IA.from_
  have DA := Lib.hid IA.of_
  have Sp := Lib.hid IA.sm
  obtain ⟨T, hT⟩ : ∃ T, strOf (txt p) = T := ⟨_, rfl⟩
  have ET := Lib.hid hT
  clear IA hT
  have HP0 := Lib.hid hp
  have LM := Lib.hid hlm
  have HLT := Lib.hid hl
  have HL := Lib.hid sb
  clear hp hlm hl sb
  have hm1 : decide ((60 : Int) < (m : Int)) = false := decide_eq_false (by omega)
  have WK := Lib.hid wk
  clear wk
  have M0 := Mem.start w
  go_enter Tryd.func7, Tryd.ntmps7
  go_wp2_with fail
  refine (light_yes _ _ _ hn).mono ?_
  rintro e w2 ⟨rfl, rfl⟩
  go_wp2_with ((with_reducible refine (?_ : Go.wpList _ _ _ (_ :: _) _ _)); (first | go_skip | (refine wpL_ldc M0 rfl rfl rfl ?_) | (refine wpL_lgc M0 rfl rfl rfl ?_) | (refine wpL_stc M0 rfl rfl rfl rfl ?_; clear M0; intro w' M0) | (refine wpL_sti M0 rfl rfl rfl rfl ?_; clear M0; intro w' M0) | (refine wpL_sth M0 rfl rfl rfl rfl (wr_minus _ _ _) ?_; clear M0; intro w' M0)))
  refine (CA.out _ M0.below).mono ?_
  rintro e w1 ⟨tv, rfl, hv, hA⟩
  replace M0 := M0.call hA
  obtain ⟨aHX, nHX, cHX, rfl, hz⟩ := hv.nm
  have HX : Hid (IsN w1 (.agg #[.slice aHX nHX cHX]) (p)) := Lib.hid hz
  clear hz hv
  clear hA
  have M10 := Mem.start w1
  go_upto_region 4 with ((with_reducible refine (?_ : Go.wpList _ _ _ (_ :: _) _ _)); (first | go_skip | (refine wpL_bx M10 rfl rfl rfl rfl ?_; clear M10; intro g11 w11 M11) | (refine wpL_alc M10 rfl rfl ?_; clear M10; intro g11 w11 M11) | (refine wpL_ldc M10 rfl rfl rfl ?_) | (refine wpL_lgc M10 rfl rfl rfl ?_) | (refine wpL_stc M10 rfl rfl rfl rfl ?_; clear M10; intro w' M10) | (refine wpL_sti M10 rfl rfl rfl rfl ?_; clear M10; intro w' M10) | (refine wpL_sth M10 rfl rfl rfl rfl (wr_minus _ _ _) ?_; clear M10; intro w' M10) | (refine wpL_ldc M11 rfl rfl rfl ?_) | (refine wpL_lgc M11 rfl rfl rfl ?_) | (refine wpL_stc M11 rfl rfl rfl rfl ?_; clear M11; intro w' M11) | (refine wpL_sti M11 rfl rfl rfl rfl ?_; clear M11; intro w' M11) | (refine wpL_sth M11 rfl rfl rfl rfl (wr_minus _ _ _) ?_; clear M11; intro w' M11)))
  obtain ⟨w1, rfl⟩ : ∃ w1, w1 = w' := ⟨_, rfl⟩
  have hA := M11.below
  replace HX := Lib.hid (HX.out.below hA)
  replace M0 : Mem w w1 [(g11, 26, [.slice aHX nHX cHX])] := Mem.join M0 M11
  clear hA M11
  go_wp2_with ((with_reducible refine (?_ : Go.wpList _ _ _ (_ :: _) _ _)); (first | go_skip | (refine wpL_ldc M0 rfl rfl rfl ?_) | (refine wpL_lgc M0 rfl rfl rfl ?_) | (refine wpL_stc M0 rfl rfl rfl rfl ?_; clear M0; intro w' M0) | (refine wpL_sti M0 rfl rfl rfl rfl ?_; clear M0; intro w' M0) | (refine wpL_sth M0 rfl rfl rfl rfl (wr_minus _ _ _) ?_; clear M0; intro w' M0)))
  refine (DA.out _ M0.below).mono ?_
  rintro e w1 ⟨tv, rfl, hv, hA⟩
  replace M0 := M0.call hA
  replace HX := Lib.hid (HX.out.below hA)
  obtain ⟨aHP, nHP, cHP, rfl, lHP, hz⟩ := hv.nm
  have HP : Hid (Is16 w1 (.slice aHP nHP cHP) (p)) := Lib.hid hz
  have LHP := Lib.hid lHP
  clear lHP hz hv
  clear hA
  go_wp2_with ((with_reducible refine (?_ : Go.wpList _ _ _ (_ :: _) _ _)); (first | go_skip | (refine wpL_ldc M0 rfl rfl rfl ?_) | (refine wpL_lgc M0 rfl rfl rfl ?_) | (refine wpL_stc M0 rfl rfl rfl rfl ?_; clear M0; intro w' M0) | (refine wpL_sti M0 rfl rfl rfl rfl ?_; clear M0; intro w' M0) | (refine wpL_sth M0 rfl rfl rfl rfl (wr_minus _ _ _) ?_; clear M0; intro w' M0)))
  refine (uint16 _ p p true _ HX.out Sp.out (if_pos HP0.out) (decide_eq_true HP0.out)).mono ?_
  rintro e w1 ⟨rfl, hA⟩
  replace M0 := M0.call hA
  replace HX := Lib.hid (HX.out.below hA)
  replace HP := Lib.hid (HP.out.below hA)
  clear hA
  have hf : decide ((nHP : Int) ≤ 8) = true := decide_eq_true (by have h1 := len16_8 LHP.out; have h2 := HP0.out; omega)
  go_wp2_with ((with_reducible refine (?_ : Go.wpList _ _ _ (_ :: _) _ _)); (first | go_skip | (refine wpL_ldc M0 rfl rfl rfl ?_) | (refine wpL_lgc M0 rfl rfl rfl ?_) | (refine wpL_stc M0 rfl rfl rfl rfl ?_; clear M0; intro w' M0) | (refine wpL_sti M0 rfl rfl rfl rfl ?_; clear M0; intro w' M0) | (refine wpL_sth M0 rfl rfl rfl rfl (wr_minus _ _ _) ?_; clear M0; intro w' M0)))
  refine (text16 _ p T _ HX.out Sp.out ET.out).mono ?_
  rintro e w1 ⟨rfl, hA⟩
  replace M0 := M0.call hA
  replace HX := Lib.hid (HX.out.below hA)
  replace HP := Lib.hid (HP.out.below hA)
  clear hA
  go_wp2_with ((with_reducible refine (?_ : Go.wpList _ _ _ (_ :: _) _ _)); (first | go_skip | (refine wpL_ldc M0 rfl rfl rfl ?_) | (refine wpL_lgc M0 rfl rfl rfl ?_) | (refine wpL_stc M0 rfl rfl rfl rfl ?_; clear M0; intro w' M0) | (refine wpL_sti M0 rfl rfl rfl rfl ?_; clear M0; intro w' M0) | (refine wpL_sth M0 rfl rfl rfl rfl (wr_minus _ _ _) ?_; clear M0; intro w' M0)))
  refine (rtext16 _ p T _ HP.out Sp.out ET.out).mono ?_
  rintro e w1 ⟨rfl, hA⟩
  replace M0 := M0.call hA
  replace HX := Lib.hid (HX.out.below hA)
  replace HP := Lib.hid (HP.out.below hA)
  clear hA
  go_wp2_with ((with_reducible refine (?_ : Go.wpList _ _ _ (_ :: _) _ _)); (first | go_skip | (refine wpL_ldc M0 rfl rfl rfl ?_) | (refine wpL_lgc M0 rfl rfl rfl ?_) | (refine wpL_stc M0 rfl rfl rfl rfl ?_; clear M0; intro w' M0) | (refine wpL_sti M0 rfl rfl rfl rfl ?_; clear M0; intro w' M0) | (refine wpL_sth M0 rfl rfl rfl rfl (wr_minus _ _ _) ?_; clear M0; intro w' M0)))
  refine (of_any p HP0.out _).mono ?_
  rintro e w1 ⟨tv, rfl, hv, hA⟩
  replace M0 := M0.call hA
  replace HX := Lib.hid (HX.out.below hA)
  replace HP := Lib.hid (HP.out.below hA)
  obtain ⟨aHN, nHN, cHN, rfl, hz⟩ := hv.nm
  have HN : Hid (IsN w1 (.agg #[.slice aHN nHN cHN]) (p)) := Lib.hid hz
  clear hz hv
  clear hA
  go_wp2_with ((with_reducible refine (?_ : Go.wpList _ _ _ (_ :: _) _ _)); (first | go_skip | (refine wpL_ldc M0 rfl rfl rfl ?_) | (refine wpL_lgc M0 rfl rfl rfl ?_) | (refine wpL_stc M0 rfl rfl rfl rfl ?_; clear M0; intro w' M0) | (refine wpL_sti M0 rfl rfl rfl rfl ?_; clear M0; intro w' M0) | (refine wpL_sth M0 rfl rfl rfl rfl (wr_minus _ _ _) ?_; clear M0; intro w' M0)))
  refine (is_yes _ _ p _ HN.out HP.out Sp.out).mono ?_
  rintro e w1 ⟨rfl, hA⟩
  replace M0 := M0.call hA
  replace HX := Lib.hid (HX.out.below hA)
  replace HP := Lib.hid (HP.out.below hA)
  replace HN := Lib.hid (HN.out.below hA)
  clear hA
  clear HN
  go_upto_region 12 with ((with_reducible refine (?_ : Go.wpList _ _ _ (_ :: _) _ _)); (first | go_skip | (refine wpL_ldc M0 rfl rfl rfl ?_) | (refine wpL_lgc M0 rfl rfl rfl ?_) | (refine wpL_stc M0 rfl rfl rfl rfl ?_; clear M0; intro w' M0) | (refine wpL_sti M0 rfl rfl rfl rfl ?_; clear M0; intro w' M0) | (refine wpL_sth M0 rfl rfl rfl rfl (wr_minus _ _ _) ?_; clear M0; intro w' M0)))
  clear hf hm1
  have hB0 := M0.below
  clear M0 HX HP
  go_loopw [10, 11, 12] (fun va vs i wr => ∃ (k : Nat) (cs : List Value) (va0 vs0 : Value), k ≤ m ∧ i = .int .i64 k ∧ va0 = va ∧ vs0 = vs ∧ Hid (Is16 wr vs0 (tot l k)) ∧ wr.ownsRow w.heap.size 26 1 va0 k cs ∧ Hid (AllR IsSlv wr va0) ∧ Hid (RowsOf wr cs (l.take k)) ∧ Below w.heap.size w wr) (fun _ _ i _ => m - (intOf i).toNat)
  case atStart => exact ⟨0, [], _, _, Nat.zero_le _, rfl, rfl, rfl, Lib.hid (is16_nil _), World.ownsRow_nil _ _ _ _, Lib.hid (AllR.nil _ _), Lib.hid ⟨rfl, fun j hj => absurd hj (by simp)⟩, hB0⟩
  case round =>
    clear hB0
    obtain ⟨k, cs, va, vs, hk, rfl, rfl, rfl, HS, ho, HR, HC, hB⟩ := hrel
    by_cases hlt : k < m
    · have hsz := hB.size
      obtain ⟨b0, o0, rfl, hb0, hc0⟩ := cell_u64 HL.out k (by rw [LM.out]; exact hlt)
      obtain ⟨b1, o1, he, hb, hc⟩ := cell_u64 (HL.out.below hB) k (by rw [LM.out]; exact hlt)
      cases he
      have ht1 := tot_next l k (by rw [LM.out]; exact hlt)
      have ht2 := take_snoc16 l k (by rw [LM.out]; exact hlt)
      have hx : l.getD k 0 < 18446744073709551616 := HLT.out k
      have htl := HTL.out k hk
      have htl2 := HTL.out (k + 1) hlt
      obtain ⟨x, hxe⟩ : ∃ x, x = l.getD k 0 := ⟨_, rfl⟩
      rw [← hxe] at hc hc0 ht1 ht2 hx
      have E1 := Lib.hid ht1
      have E2 := Lib.hid ht2
      have Sx : Hid (Sm x) := Lib.hid (sm_of (k := 2) (by simpa using hx) (by decide))
      have St := Lib.hid htl
      have CO := Lib.hid (of_any x hx)
      have CS1 := fun wx => small16 x hx wx
      have hw1 : IntKind.u32.wrap (x : Int) = ((x % 4294967296 : Nat) : Int) := wrap_lo x
      have hw2 : IntKind.u32.wrap ((x : Int) / 4294967296) = ((x / 4294967296 : Nat) : Int) := wrap_hi x hx
      obtain ⟨lo, hlo⟩ : ∃ lo, lo = x % 4294967296 := ⟨_, rfl⟩
      obtain ⟨hh, hhi⟩ : ∃ hh, hh = x / 4294967296 := ⟨_, rfl⟩
      rw [← hlo, ← hhi] at CS1
      rw [← hlo] at hw1
      rw [← hhi] at hw2
      have CS := Lib.hid CS1
      have HW1 := Lib.hid hw1
      have HW2 := Lib.hid hw2
      clear CS1 hlo hhi hw1 hw2
      have hi0 : (0 : Int) ≤ k := by omega
      have hi1 : (k : Int) < m := by omega
      clear ht1 ht2 htl htl2 hxe hx
      go_wp2_with fail
      refine (CO.out _).mono ?_
      rintro e w1 ⟨tv, rfl, hv, hA⟩
      obtain ⟨aN, nN, cN, rfl, hN⟩ := hv.nm
      have HN := Lib.hid hN
      replace HS := Lib.hid (HS.out.below hA)
      replace HC := Lib.hid (HC.out.below hA)
      replace HR := Lib.hid (HR.out.below ho hA)
      replace ho := ownsRow_below ho hA
      replace hB := hB.trans (hA.mono hsz)
      replace hsz := hB.size
      have hA1 := (Below.refl w1.heap.size w1).alloc (Nat.le_refl _) (.cells #[.slice aN nN cN] 26)
      have HR1 := Lib.hid (HR.out.below ho hA1)
      clear hv hN hA hb hc CO
      go_wp2_with (at_builtin; refine wpList_appR ENat rfl (.tmp 60) (.tmp 66) rfl w.heap.size rfl (ho.alloc _) rfl (Sl.one _ _ _) rfl (by unfold maxLen; omega) (by omega) (by simp; omega) IsSlv HR1.out ⟨_, _, _, rfl⟩ zNatS ?_)
      intro v2 w3 ho3 hg3 hR3
      have hT : Turned (fun j => va.ownBlock = some j) (w1.alloc (.cells #[.slice aN nN cN] 26)) w3 := (Turned.refl _ _).grown hg3 (fun _ e _ => e)
      have hC3 := ((HC.out.below hA1).snoc (HN.out.below hA1)).apart HR1.out hT
      rw [E2.out] at hC3
      have HC3 := Lib.hid hC3
      have hS3 : Is16 w3 vs (tot l k) := sl_apartR (HS.out.below hA1) (not_slv_dig _) HR1.out hT
      have HS3 := Lib.hid hS3
      have HR3 := Lib.hid hR3
      have HO3 := Lib.hid ho3
      have hB3 := hB.trans (app_below ho hsz hg3)
      have hc3 := ((Turned.below (S := fun _ => False) hB3).cell (p := ⟨b0, o0 + k, none⟩) hb0 id).trans hc0
      have hb3 : b0 < w3.heap.size := Nat.lt_of_lt_of_le hb0 hB3.size
      have HB3 := Lib.hid hB3
      clear hT hC3 hS3 hR3 ho3 hB3 hg3 ho hB hsz hA1 HR1 HR HC HS HN E2
      go_wp2_with fail
      have hw1 := HW1.out
      have hw2 := HW2.out
      refine wp_region_held_drew (S := (fun w' : World => w'.cell? ⟨b0, o0 + k, none⟩ = some (.int .u64 x))) (by kernel_rfl) (hc3) (fun hHeld => ?_)
      refine tkT 0 ?v17 ?hy17 hHeld ?rest17
      case hy17 => (intro w' hSw; (try dsimp only at hSw); go_simp; (try with_reducible rfl))
      try simp only [Act.put, puts]
      refine tkT 1 ?v18 ?hy18 hHeld ?rest18
      case hy18 => (intro w' hSw; (try dsimp only at hSw); go_simp; (try with_reducible rfl))
      try simp only [Act.put, puts]
      refine tkT 2 ?v19 ?hy19 hHeld ?rest19
      case hy19 => (intro w' hSw; (try dsimp only at hSw); go_simp; (try with_reducible rfl))
      try simp only [Act.put, puts]
      refine tkT 3 ?v20 ?hy20 hHeld ?rest20
      case hy20 => (intro w' hSw; (try dsimp only at hSw); go_simp; (try with_reducible rfl))
      try simp only [Act.put, puts]
      refine tkT 4 ?v21 ?hy21 hHeld ?rest21
      case hy21 => (intro w' hSw; (try dsimp only at hSw); go_simp; (try with_reducible rfl))
      try simp only [Act.put, puts]
      refine tkT 5 ?v22 ?hy22 hHeld ?rest22
      case hy22 => (intro w' hSw; (try dsimp only at hSw); go_simp; (try with_reducible rfl))
      try simp only [Act.put, puts]
      refine tkT 6 ?v23 ?hy23 hHeld ?rest23
      case hy23 => (intro w' hSw; (try dsimp only at hSw); go_simp; (try with_reducible rfl))
      try simp only [Act.put, puts]
      refine tkT 7 ?v24 ?hy24 hHeld ?rest24
      case hy24 => (intro w' hSw; (try dsimp only at hSw); go_simp; (try with_reducible rfl))
      try simp only [Act.put, puts]
      refine tkT 8 ?v25 ?hy25 hHeld ?rest25
      case hy25 => (intro w' hSw; (try dsimp only at hSw); go_simp; (try with_reducible rfl))
      try simp only [Act.put, puts]
      refine tkT 9 ?v26 ?hy26 hHeld ?rest26
      case hy26 => (intro w' hSw; (try dsimp only at hSw); go_simp; (try with_reducible rfl))
      try simp only [Act.put, puts]
      refine tkT 10 ?v27 ?hy27 hHeld ?rest27
      case hy27 => (intro w' hSw; (try dsimp only at hSw); go_simp; (try with_reducible rfl))
      try simp only [Act.put, puts]
      refine tkT 11 ?v28 ?hy28 hHeld ?rest28
      case hy28 => (intro w' hSw; (try dsimp only at hSw); go_simp; (try with_reducible rfl))
      try simp only [Act.put, puts]
      refine wpAnyH_ready (rs := [12]) (by kernel_rfl) (by simp) ?_
      refine AllReadyH.cons rfl (fun K hK => ?_) AllReadyH.nil
      go_simp
      have hA4 := (Below.refl w3.drew.heap.size w3.drew).alloc (Nat.le_refl _) (.cells #[.int .u32 (lo : Int), .int .u32 (hh : Int)] 38)
      try go_wp2_with fail
      refine hK.out _ _ (((Turned.below (S := fun _ => False) hA4).cell (p := ⟨b0, o0 + k, none⟩) hb3 id).trans hc3) (fun hHeld => ?_)
      clear hK K
      try simp only [Act.put, puts]
      refine wpAnyH_ready (rs := [13]) (by kernel_rfl) (by simp) ?_
      refine AllReadyH.cons rfl (fun K hK => ?_) AllReadyH.nil
      go_simp
      refine (CS.out w3.drew).mono ?_
      rintro e w5 ⟨tv, rfl, hv5, hA5⟩
      have hb5 : b0 < w5.heap.size := Nat.lt_of_lt_of_le hb3 hA5.size
      have hc5 := ((Turned.below (S := fun _ => False) hA5).cell (p := ⟨b0, o0 + k, none⟩) hb3 id).trans hc3
      obtain ⟨aD, nD, cD, rfl, lD, hD⟩ := hv5.nm
      have hA35 : Below w3.heap.size w3 w5 := ((Below.refl w3.heap.size w3).drew).trans hA5
      have HD := Lib.hid hD
      clear hv5 lD hD
      try go_wp2_with fail
      refine hK.out _ _ (((Turned.below (S := fun _ => False) hA5).cell (p := ⟨b0, o0 + k, none⟩) hb3 id).trans hc3) (fun hHeld => ?_)
      clear hK K
      try simp only [Act.put, puts]
      refine wpAnyH_ready (rs := [14]) (by kernel_rfl) (by simp) ?_
      refine AllReadyH.cons rfl (fun K hK => ?_) AllReadyH.nil
      go_simp
      refine (radd16 _ _ (tot l k) x (tot l (k + 1)) _ (HS3.out.below hA35) HD.out St.out Sx.out E1.out).mono ?_
      rintro e w6 ⟨tv, rfl, hv6, hA6⟩
      obtain ⟨aF, nF, cF, rfl, lF, hF⟩ := hv6.nm
      have HF := Lib.hid hF
      clear hv6 lF hF
      try go_wp2_with fail
      refine hK.out _ _ (((Turned.below (S := fun _ => False) hA6).cell (p := ⟨b0, o0 + k, none⟩) hb5 id).trans hc5) (fun hHeld => ?_)
      clear hK K
      try simp only [Act.put, puts]
      refine tkT 15 ?v32 ?hy32 hHeld ?rest32
      case hy32 => (intro w' hSw; (try dsimp only at hSw); go_simp; (try with_reducible rfl))
      try simp only [Act.put, puts]
      refine wpAnyH_done (by kernel_rfl) ?_ _
      have hA36 : Below w3.heap.size w3 w6 := hA35.trans (hA6.mono hA35.size)
      have HO6 := Lib.hid (ownsRow_below HO3.out hA36)
      have HR6 := Lib.hid (HR3.out.below HO3.out hA36)
      have HC6 := Lib.hid (HC3.out.below hA36)
      have HB6 := Lib.hid (HB3.out.trans (hA36.mono HB3.out.size))
      clear hw1 hw2 HW1 HW2 hA36 hA35 hA6 hA5 hA4 hc5 hb5 hc3 hb3 HO3 HR3 HC3 HB3 HS3 HD hc0 hb0 CS
      go_wp2_with fail
      go_roundw
      case rel => exact ⟨k + 1, _, _, _, by omega, by go_num, rfl, rfl, HF, HO6.out, HR6, HC6, HB6.out⟩
      case measure => simp [intOf]; omega
    · obtain rfl : k = m := by omega
      have htk : l.take k = l := List.take_of_length_le (by rw [LM.out]; exact Nat.le_refl _)
      have hC := HC.out
      rw [htk] at hC
      have S0 := Sl.of_own ho
      have St := Lib.hid (HTL.out k (Nat.le_refl _))
      have CU := Lib.hid (fun a c (h : Sl wr 1 (.slice a k c) k cs) => sum_any a k c cs l wr ⟨h, LM.out, fun j hj => hC.is j (by rw [LM.out]; exact hj)⟩ (by omega) (fun j => len_le (k := 2) (by have := HLT.out j; simpa using this) (by decide)))
      obtain ⟨va0, vc, rfl, _⟩ := id S0
      have HV := Lib.hid (CU.out _ _ S0)
      obtain ⟨aS, nS, cS, rfl, lS, hS⟩ := HS.out.nm
      have HS2 := Lib.hid hS
      have HB2 := Lib.hid hB
      clear CU S0 hC htk ho HR HC HS hS lS hB
      go_wp2_with fail
      refine HV.out.mono ?_
      rintro e w1 ⟨tv, rfl, hv, hA⟩
      obtain ⟨aN, nN, cN, rfl, hN⟩ := hv.nm
      have HN := Lib.hid hN
      have HS3 := Lib.hid (HS2.out.below hA)
      have HB3 := Lib.hid (HB2.out.trans (hA.mono HB2.out.size))
      clear hv hN hA HS2 HB2 HV
      go_wp2_with fail
      refine (is_yes _ _ (tot l k) _ HN.out HS3.out St.out).mono ?_
      rintro e w2 ⟨rfl, hA⟩
      have HB4 := Lib.hid (HB3.out.trans (hA.mono HB3.out.size))
      clear hA HB3 HN HS3
      go_wp2_with fail
      refine (WK.out _).mono ?_
      rintro e w4 ⟨rfl, hA⟩
      have HB5 := Lib.hid (HB4.out.trans (hA.mono HB4.out.size))
      clear hA HB4
      go_wp2_with fail
      go_ret
      exact ⟨rfl, HB5.out⟩

theorem texts_any (wk : Works) (a : Option Addr) (n ca : Nat) (b : Option Addr) (m cb : Nat) (zs ys : List Int) (w : World) (sa : Sl w 1 (.slice a n ca) n (zs.map (.int .u32))) (sb : Sl w 1 (.slice b m cb) m (ys.map (.int .u64))) (ha : ∀ z ∈ zs, 0 ≤ z ∧ z < 4294967296) (hb : ∀ z ∈ ys, 0 ≤ z ∧ z < 18446744073709551616) :
    AnsV 7 #[.slice a n ca, .slice b m cb] w (.bool true) := by
  by_cases hn : n ≤ 20
  · by_cases hm : m ≤ 60
    · obtain ⟨p, IA⟩ := in16 sa ha hn
      have e : ys.map (Value.int .u64) = u64s (ys.map Int.toNat) := by
        unfold u64s
        rw [List.map_map]
        refine List.map_congr_left fun z h => ?_
        have := hb z h
        simp only [Function.comp_def]
        rw [Int.toNat_of_nonneg this.1]
      have hd : ∀ d ∈ ys.map Int.toNat, d < 18446744073709551616 := by
        intro d h
        obtain ⟨z, h1, rfl⟩ := List.mem_map.1 h
        have := hb z h1
        omega
      rw [e] at sb
      obtain ⟨_, _, e1, hl, _⟩ := id sb
      cases e1
      have hlm : (ys.map Int.toNat).length = m := by simpa [u64s] using hl
      have hg : ∀ k, (ys.map Int.toNat).getD k 0 < 18446744073709551616 := by
        intro k
        rw [List.getD_eq_getElem?_getD]
        cases h : (ys.map Int.toNat)[k]? with
        | none => simp
        | some d => exact hd d (List.mem_of_getElem? h)
      have ht : Hid (∀ k, k ≤ m → Sm (tot (ys.map Int.toNat) k)) := Lib.hid (fun k hk => sm_of (k := 3) (by
        have := tot_le _ hd k (by omega)
        have h2 : (4294967296 : Nat) ^ 3 = 79228162514264337593543950336 := by decide
        rw [h2]
        omega) (by decide))
      by_cases hp : p < 18446744073709551616
      · exact texts_small a n ca b m cb p _ wk w IA hn hm hp hlm hg ht sb
      · exact texts_big a n ca b m cb p _ wk w IA hn hm hp hlm hg ht sb
    · exact texts_heavy2 a n ca b m cb wk w hn hm
  · exact texts_heavy1 a n ca b m cb wk w hn
end Go.Proofs.YtghioakpigdagaaDoor
