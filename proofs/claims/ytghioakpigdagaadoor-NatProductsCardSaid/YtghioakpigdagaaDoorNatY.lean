/-
  A number divided by a power of two: the code's.
-/
import Derived.Test.YtghioakpigdagaaDoorNatX
set_option linter.unusedVariables false
set_option linter.unusedSimpArgs false
namespace Go.Th
open Go Go.RowKit
section
variable {P : Program} {w : World} {t e : TypeId} {bytes : Nat}
theorem over_nil {l : List Value} (k : Nat) : over l k [] = l := by
  unfold over splice
  rw [List.length_nil, Nat.add_zero, List.nil_append, List.take_append_drop]
/-- copy into a block that is known whole, of however many. -/
theorem wp_copy16 (E : ElemOf P t e 1 bytes) {o : Oper} {b : Act} {K : Act → World → Prop} {Q : Exit → Act → World → Prop} (d s : Operand)
    (ho : o.op = .call { callee := .builtin .copy, args := #[d, s], argTypes := #[t, t] }) {g off m dcap sl scap : Nat} {sa : Option Addr} {cs ys : List Value}
    (hd : b.eval d = .slice (some ⟨g, off, none⟩) m dcap) (hs : b.eval s = .slice sa sl scap)
    (HK : Blk w g e cs) (hS : Sl w 1 (.slice sa sl scap) sl ys) (hsm : sl ≤ m) (hfit : off + sl ≤ cs.length) (h1 : ∀ u ∈ ys, u.oneCell' = true)
    (h : ∀ w', Blk w' g e (over cs off ys) → Turned (fun j => j = g) w w' → K (b.put o.dst (goInt sl)) w') : o.wp P b w K Q := by
  obtain ⟨i, z, hi, hz, hsize, hby, hzs⟩ := E.info
  obtain ⟨a0, c0, he, h2, h3, h4, h5, h6⟩ := hS
  cases he
  rw [Nat.mul_one] at h2
  cases sa with
  | none =>
    obtain ⟨rfl, rfl⟩ := h5 rfl
    obtain rfl : ys = [] := List.eq_nil_of_length_eq_zero h2
    have hr := run_copy_nil (P := P) w t t o.type e ⟨g, off, none⟩ m dcap E.und (by rw [hi]; rfl)
    have hK := h w (by rw [over_nil]; exact HK) (Turned.refl _ _)
    unfold Oper.wp
    simp [execOp, ho, resolve, invoke, builtin, hd, hs, hr, Result.andThen]
    exact hK
  | some ad =>
    have hr := run_copy_row P w t t o.type e g off m dcap ad sl scap cs.toArray e ys E.und (by rw [hi]; simp [hsize]) HK (by rw [h2]; exact (Nat.min_eq_left hsm).symm) (by
        intro j v hv
        obtain ⟨b', o', e', hc⟩ := h6 j v hv
        cases e'
        rw [add_none]; exact hc) (by simp; omega) h1
    rw [h2] at hr
    have hK := h _ (HK.row (over cs off ys)) ⟨rfl, rfl, rfl, by simp [World.setRow], fun j hj hs => setRow_other w g j _ hs⟩
    have e2 : over cs off ys = cs.take off ++ ys ++ cs.drop (off + sl) := by unfold over splice; rw [h2, List.append_assoc]
    rw [e2] at hK
    unfold Oper.wp
    simp only [execOp, ho, resolve, invoke, builtin, hd, hs, Sem.run_bind, Sem.run_pure, Result.andThen_ok, List.map_toArray, List.map_cons, List.map_nil, hr]
    exact hK
theorem wpL_copy16 (E : ElemOf P t e 1 bytes) {ops : Array Oper} {rest : List Oper} {o : Oper} {b : Act} {Q : Exit → Act → World → Prop} (hgd : o.guard = none) (d s : Operand)
    (ho : o.op = .call { callee := .builtin .copy, args := #[d, s], argTypes := #[t, t] }) {g off m dcap sl scap : Nat} {sa : Option Addr} {cs ys : List Value}
    (hd : b.eval d = .slice (some ⟨g, off, none⟩) m dcap) (hs : b.eval s = .slice sa sl scap)
    (HK : Blk w g e cs) (hS : Sl w 1 (.slice sa sl scap) sl ys) (hsm : sl ≤ m) (hfit : off + sl ≤ cs.length) (h1 : ∀ u ∈ ys, u.oneCell' = true)
    (h : ∀ w', Blk w' g e (over cs off ys) → Turned (fun j => j = g) w w' → wpList P ops Q rest (b.put o.dst (goInt sl)) w') : wpList P ops Q (o :: rest) b w :=
  wpList_plain hgd fun _ hK => wp_copy16 E d s ho hd hs HK hS hsm hfit h1 fun w' k1 k2 => hK _ _ (h w' k1 k2)
end
end Go.Th
namespace Go.Th.Dig
/-- What is left of a number's parts, moved down. -/
theorem shr_val {A : List Nat} {p s wh : Nat} (hv : val 4294967296 A = p) (hd : ∀ d ∈ A, d < 4294967296) (hw : wh = min (s / 32) A.length) : val 4294967296 (A.drop wh) / 2 ^ (s % 32) = p / 2 ^ s := by
  have e : 2 ^ s = 4294967296 ^ (s / 32) * 2 ^ (s % 32) := by rw [big_two, ← Nat.pow_add, Nat.div_add_mod]
  by_cases h : s / 32 ≤ A.length
  · have hw2 : wh = s / 32 := by rw [hw, Nat.min_eq_left h]
    have hj := val_join (B := 4294967296) A h
    have hlow := val_lt (B := 4294967296) (by decide) (l := A.take (s / 32)) (fun d hd' => hd d (List.mem_of_mem_take hd'))
    rw [List.length_take, Nat.min_eq_left h] at hlow
    rw [hv] at hj
    rw [hw2, e, ← Nat.div_div_eq_div_mul, hj, Nat.add_mul_div_left _ _ (Nat.pow_pos (by decide)), Nat.div_eq_of_lt hlow, Nat.zero_add]
  · have hw2 : wh = A.length := by rw [hw, Nat.min_eq_right (by omega)]
    have hlow := val_lt (B := 4294967296) (by decide) hd
    rw [hv, big_two] at hlow
    have : p < 2 ^ s := Nat.lt_of_lt_of_le hlow (Nat.pow_le_pow_right (by decide) (by omega))
    rw [hw2, List.drop_of_length_le (Nat.le_refl _), Nat.div_eq_of_lt this]
    exact Nat.zero_div _
end Go.Th.Dig
namespace Go.Proofs.YtghioakpigdagaaDoor
open Go Go.RowKit Go.Th Go.Th.Dig

set_option maxRecDepth 20000 in
theorem shr_self (v : Value) (p : Nat) (k : Int) (w : World) (hp : IsN w v p) (h1 : len32 p ≤ 1000) (hk : k < 1) :
    Calls Tryd.prog 29 #[v, .int .i64 k] w fun e w' => ∃ t, e = .returned t ∧ IsN w' t p ∧ Below w.heap.size w w' := by
  obtain ⟨a, ca, rfl, hS⟩ := hp.form
  obtain ⟨n, hn⟩ : ∃ n, n = len32 p := ⟨_, rfl⟩
  have HIS : Hid (∀ wx, Sl wx 1 (.slice a n ca) n (u32s (dg 4294967296 p)) → IsN wx (.agg #[.slice a n ca]) p) := Lib.hid (fun wx hx => ⟨a, ca, by rw [hn], by rw [hn] at hx; exact hx⟩)
  rw [← hn] at hS ⊢
  have HS := Lib.hid hS
  have M0 := Mem.start w
  clear hp hS hn h1
  go_enter Tryd.func29, Tryd.ntmps29
  go_upto_region 2 with (((with_reducible refine (?_ : Go.wpList _ _ _ (_ :: _) _ _)); (first | go_skip | (refine wpL_bx M0 rfl rfl rfl rfl ?_; clear M0; intro g1 w1 M1) | (refine wpL_alc M0 rfl rfl ?_; clear M0; intro g1 w1 M1) | (refine wpL_ldc M0 rfl rfl rfl ?_) | (refine wpL_lgc M0 rfl rfl rfl ?_) | (refine wpL_stc M0 rfl rfl rfl rfl ?_; clear M0; intro w' M0) | (refine wpL_sti M0 rfl rfl rfl rfl ?_; clear M0; intro w' M0) | (refine wpL_sth M0 rfl rfl rfl rfl (wr_minus _ _ _) ?_; clear M0; intro w' M0) | (refine wpL_bx M1 rfl rfl rfl rfl ?_; clear M1; intro g2 w2 M2) | (refine wpL_alc M1 rfl rfl ?_; clear M1; intro g2 w2 M2) | (refine wpL_ldc M1 rfl rfl rfl ?_) | (refine wpL_lgc M1 rfl rfl rfl ?_) | (refine wpL_stc M1 rfl rfl rfl rfl ?_; clear M1; intro w' M1) | (refine wpL_sti M1 rfl rfl rfl rfl ?_; clear M1; intro w' M1) | (refine wpL_sth M1 rfl rfl rfl rfl (wr_minus _ _ _) ?_; clear M1; intro w' M1) | (refine wpL_ldc M2 rfl rfl rfl ?_) | (refine wpL_lgc M2 rfl rfl rfl ?_) | (refine wpL_stc M2 rfl rfl rfl rfl ?_; clear M2; intro w' M2) | (refine wpL_sti M2 rfl rfl rfl rfl ?_; clear M2; intro w' M2) | (refine wpL_sth M2 rfl rfl rfl rfl (wr_minus _ _ _) ?_; clear M2; intro w' M2))))
  have K2 := M2.has (Has.head _ _ _ _)
  have hS2 := Lib.hid (HS.out.below M2.below)
  go_wp2_with ((with_reducible refine (?_ : Go.wpList _ _ _ (_ :: _) _ _)); (first | go_skip | (refine wpL_ldc M2 rfl rfl rfl ?_) | (refine wpL_lgc M2 rfl rfl rfl ?_) | (refine wpL_stcT M2 rfl rfl rfl rfl ?_; clear M2; intro w' M2 hT) | (refine wpL_stiT M2 rfl rfl rfl rfl ?_; clear M2; intro w' M2 hT)))
  refine bodyPost_ret (res_cell rfl M2 rfl (Has.head _ _ _ _) (rd_nat _)) rfl ?_
  exact ⟨_, rfl, HIS.out _ (sl_kept hS2.out K2 (noPart_sl _ _ _) hT), M2.below⟩

set_option maxRecDepth 20000 in
set_option maxHeartbeats 3200000 in
theorem shr_go (v : Value) (p s : Nat) (w : World) (hp : IsN w v p) (h1 : len32 p ≤ 1000) (hs : 1 ≤ s) (hs2 : s ≤ 100000) :
    Calls Tryd.prog 29 #[v, .int .i64 s] w fun e w' => ∃ t, e = .returned t ∧ IsN w' t (p / 2 ^ s) ∧ Below w.heap.size w w' := by
  obtain ⟨a, ca, rfl, hS⟩ := hp.form
  have hdA := dg_lt (B := 4294967296) (by decide) p
  have hvA := dg_val (B := 4294967296) (by decide) p
  obtain ⟨A, hA⟩ : ∃ A, A = dg 4294967296 p := ⟨_, rfl⟩
  obtain ⟨n, hn⟩ : ∃ n, n = len32 p := ⟨_, rfl⟩
  have hAl : A.length = n := by rw [hA, hn]
  rw [← hA] at hS hdA hvA
  rw [← hn] at hS h1 ⊢
  obtain ⟨q, hq⟩ : ∃ q, q = s / 32 := ⟨_, rfl⟩
  obtain ⟨r, hr⟩ : ∃ r, r = s % 32 := ⟨_, rfl⟩
  obtain ⟨x, hx⟩ : ∃ x, x = min q n := ⟨_, rfl⟩
  have hsv := shr_val (s := s) (wh := x) hvA hdA (by rw [hx, hq, hAl])
  rw [← hr] at hsv
  have hr32 : r < 32 := by omega
  have hxn : x ≤ n := by omega
  have hk1 : ¬ (s : Int) < 1 := by omega
  have e1 : (s : Int) / 32 = (q : Int) := by omega
  have e2 : (s : Int) % 32 = (r : Int) := by omega
  have e3 : min (q : Int) (n : Int) = (x : Int) := by omega
  obtain ⟨a', hcut, hK⟩ := Sl.cut_three (t := 22) Eu32 hS x hxn
  rw [u32s_drop] at hK
  obtain ⟨y, hy⟩ : ∃ y, y = n - x := ⟨_, rfl⟩
  rw [← hy] at hcut hK
  have hDl : (A.drop x).length = y := by rw [List.length_drop]; omega
  have hDd : ∀ d ∈ A.drop x, d < 4294967296 := fun d hd => hdA d (List.mem_of_mem_drop hd)
  obtain ⟨D, hD⟩ : ∃ D, D = A.drop x := ⟨_, rfl⟩
  rw [← hD] at hK hDl hDd hsv
  have MK := fun wx => run_mkU32 y (by omega) wx
  have HK := Lib.hid hK
  have HDL := Lib.hid hDl
  have HDD := Lib.hid hDd
  have HSV := Lib.hid hsv
  have hyb : y ≤ 1000 := by omega
  have hqb : q ≤ 4000 := by omega
  have M0 := Mem.start w
  clear hp hS hdA hvA hA hn hAl hq hr hx hsv hK hDl hDd hD hy
  go_enter Tryd.func29, Tryd.ntmps29
  go_upto_region 5 with (((with_reducible refine (?_ : Go.wpList _ _ _ (_ :: _) _ _)); (first | go_skip | (refine wpL_bx M0 rfl rfl rfl rfl ?_; clear M0; intro g1 w1 M1) | (refine wpL_alc M0 rfl rfl ?_; clear M0; intro g1 w1 M1) | (refine wpL_ldc M0 rfl rfl rfl ?_) | (refine wpL_lgc M0 rfl rfl rfl ?_) | (refine wpL_stc M0 rfl rfl rfl rfl ?_; clear M0; intro w' M0) | (refine wpL_sti M0 rfl rfl rfl rfl ?_; clear M0; intro w' M0) | (refine wpL_sth M0 rfl rfl rfl rfl (wr_minus _ _ _) ?_; clear M0; intro w' M0) | (refine wpL_bx M1 rfl rfl rfl rfl ?_; clear M1; intro g2 w2 M2) | (refine wpL_alc M1 rfl rfl ?_; clear M1; intro g2 w2 M2) | (refine wpL_ldc M1 rfl rfl rfl ?_) | (refine wpL_lgc M1 rfl rfl rfl ?_) | (refine wpL_stc M1 rfl rfl rfl rfl ?_; clear M1; intro w' M1) | (refine wpL_sti M1 rfl rfl rfl rfl ?_; clear M1; intro w' M1) | (refine wpL_sth M1 rfl rfl rfl rfl (wr_minus _ _ _) ?_; clear M1; intro w' M1) | (refine wpL_ldc M2 rfl rfl rfl ?_) | (refine wpL_lgc M2 rfl rfl rfl ?_) | (refine wpL_stc M2 rfl rfl rfl rfl ?_; clear M2; intro w' M2) | (refine wpL_sti M2 rfl rfl rfl rfl ?_; clear M2; intro w' M2) | (refine wpL_sth M2 rfl rfl rfl rfl (wr_minus _ _ _) ?_; clear M2; intro w' M2))))
  have MK1 := MK w2
  have M4 := M2.alloc 38 (u32s (List.replicate y 0))
  obtain ⟨w4, hw4⟩ : ∃ w4, w2.alloc (.cells (u32s (List.replicate y 0)).toArray 38) = w4 := ⟨_, rfl⟩
  obtain ⟨G, hG⟩ : ∃ G, G = w2.heap.size := ⟨_, rfl⟩
  rw [hw4, ← hG] at MK1 M4
  have HM4 := Lib.hid M4
  clear hw4 hG M4 M2 MK
  go_upto_region 6 with fail
  clear MK1
  have hK4 := HM4.out.has (Has.head _ _ _ _)
  have hD4 := HK.out.below HM4.out.below
  have hfit : 0 + y ≤ (u32s (List.replicate y 0)).length := by rw [u32s_length, List.length_replicate]; omega
  go_wp2_with ((with_reducible refine (?_ : Go.wpList _ _ _ (_ :: _) _ _)); (first | go_skip | (refine wpL_copy16 Eu32 rfl (.tmp 30) (.tmp 31) rfl rfl rfl hK4 hD4 (Nat.le_refl _) hfit (oneCell_u32s _) ?_; intro w5 hK5 hT5)))
  rw [over_all (by rw [u32s_length, u32s_length, List.length_replicate, HDL.out])] at hK5
  have M5 := HM4.out.turn (Upd.head _ _ _ _ _) hK5 hT5
  rw [← over_all (l := u32s D) (m := u32s D) rfl] at hK5
  have C := Lib.hid (sink_go G 0 y y r D (u32s D) w5 hK5 (by rw [u32s_length, HDL.out]; omega) HDL.out HDD.out (by omega) (Nat.le_refl _) (by unfold maxLen; omega) hr32)
  rw [HSV.out] at C
  clear hK4 hD4 hK5 hT5 HM4 hfit
  go_wp2_with fail
  refine C.out.mono ?_
  rintro e w6 ⟨O, rfl, hK6, k1, k2, k3, hT6⟩
  have S6 := win_sl hK6 (by rw [u32s_length, HDL.out]; omega) k1 (Nat.le_refl _) (by unfold maxLen; omega)
  have M6 := M5.turn (Upd.head _ _ _ _ _) hK6 hT6
  have CC := Lib.hid (cut_any _ y y O w6 S6 k2 (by omega))
  rw [k3] at CC
  clear C M5 hK6 hT6 k1 k2 k3 S6
  go_wp2_with fail
  refine CC.out.mono ?_
  rintro e w7 ⟨rfl, rfl, S7⟩
  have K2 := M6.has (.tail _ _ _ _ _ (Has.head _ _ _ _))
  have S7 := Lib.hid S7
  go_wp2_with ((with_reducible refine (?_ : Go.wpList _ _ _ (_ :: _) _ _)); (first | go_skip | (refine wpL_ldc M6 rfl rfl rfl ?_) | (refine wpL_lgc M6 rfl rfl rfl ?_) | (refine wpL_stcT M6 rfl rfl rfl rfl ?_; clear M6; intro w' M6 hT) | (refine wpL_stiT M6 rfl rfl rfl rfl ?_; clear M6; intro w' M6 hT)))
  refine bodyPost_ret (res_cell rfl M6 rfl (.tail _ _ _ _ _ (Has.head _ _ _ _)) (rd_nat _)) rfl ?_
  exact ⟨_, rfl, ⟨_, _, rfl, sl_kept S7.out K2 (noPart_sl _ _ _) hT⟩, M6.below⟩

theorem shr_any16 (v : Value) (p s : Nat) (w : World) (hp : IsN w v p) (h1 : len32 p ≤ 1000) (hs2 : s ≤ 100000) :
    Calls Tryd.prog 29 #[v, .int .i64 s] w fun e w' => ∃ t, e = .returned t ∧ IsN w' t (p / 2 ^ s) ∧ Below w.heap.size w w' := by
  by_cases h0 : s = 0
  · subst h0
    rw [Nat.pow_zero, Nat.div_one]
    exact shr_self v p _ w hp h1 (by decide)
  · exact shr_go v p s w hp h1 (by omega) hs2
end Go.Proofs.YtghioakpigdagaaDoor
