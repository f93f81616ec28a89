/-
  Frames as bytes: plain.
-/
import Derived.Test.YtfkncfjdgbgeeaaDoorPackCrc
set_option linter.unusedVariables false
set_option linter.unusedSimpArgs false
namespace Go.Proofs.YtfkncfjdgbgeeaaDoor
open Go.RowKit Go.Th Go.Th.Crc

/-- A frame. -/
structure Fr where
  k : Int
  s : Nat
  t : Nat
  a : Int
  b : Int
  c : Int

structure Fr.Ok (f : Fr) : Prop where
  k1 : -9223372036854775808 ≤ f.k
  k2 : f.k ≤ 9223372036854775807
  s : f.s < 65536
  t : f.t < 4294967296
  a : -2147483648 ≤ f.a ∧ f.a ≤ 2147483647
  b : -2147483648 ≤ f.b ∧ f.b ≤ 2147483647
  c : -2147483648 ≤ f.c ∧ f.c ≤ 2147483647

/-- How many numbers a kind has. -/
def fcnt (k : Int) : Int := if k = 1 ∨ k = 6 then 3 else if k = 2 ∨ k = 3 ∨ k = 7 then 2 else if k = 4 then 0 else if k = 5 then 1 else -1

theorem fcnt_range (k : Int) : -1 ≤ fcnt k ∧ fcnt k ≤ 3 := by unfold fcnt; repeat' split <;> omega
theorem fcnt_pos {k : Int} (h : 0 ≤ fcnt k) : 1 ≤ k ∧ k ≤ 7 := by unfold fcnt at h; repeat' split at h <;> omega

/-- A number of 32 bits with a sign, and without. -/
def un (x : Int) : Nat := (x % 4294967296).toNat
def sg (n : Nat) : Int := IntKind.i32.wrap (n : Int)
theorem un_lt (x : Int) : un x < 4294967296 := by unfold un; omega
theorem sg_eq (n : Nat) (h : n < 4294967296) : sg n = if n < 2147483648 then (n : Int) else (n : Int) - 4294967296 := by
  unfold sg
  simp [IntKind.wrap, IntKind.bits, IntKind.signed]
  split <;> split <;> omega
theorem sg_range (n : Nat) (h : n < 4294967296) : -2147483648 ≤ sg n ∧ sg n ≤ 2147483647 := by rw [sg_eq n h]; split <;> omega
theorem sg_un (x : Int) (h : -2147483648 ≤ x ∧ x ≤ 2147483647) : sg (un x) = x := by
  rw [sg_eq _ (un_lt x)]; unfold un; split <;> omega
theorem un_sg (n : Nat) (h : n < 4294967296) : un (sg n) = n := by
  rw [sg_eq n h]; unfold un; split <;> omega

def abc (f : Fr) : List Int := [f.a, f.b, f.c]
def ftl (xs : List Int) : List Nat := xs.flatMap (fun x => lowB (un x) 4)
def nb (f : Fr) : List Nat := [126, f.k.toNat] ++ lowB f.s 2 ++ lowB f.t 4
def fncnt (k : Int) : Nat := (fcnt k).toNat
/-- What stands ahead of the sum. -/
def fbody (f : Fr) : List Nat := nb f ++ ftl ((abc f).take (fncnt f.k))
def bytesF (f : Fr) : List Nat := putB (fbody f)
/-- Why a frame can't be bytes. -/
def pcode (f : Fr) : Nat := if fcnt f.k < 0 then 13 else if ((abc f).drop (fncnt f.k)).all (· == 0) then 0 else 1

theorem ftl_length (xs : List Int) : (ftl xs).length = 4 * xs.length := by
  induction xs with
  | nil => rfl
  | cons x r ih => unfold ftl at ih ⊢; rw [List.flatMap_cons, List.length_append, ih, lowB_length, List.length_cons]; omega
theorem ftl_snoc (xs : List Int) (x : Int) : ftl (xs ++ [x]) = ftl xs ++ lowB (un x) 4 := by simp [ftl]
theorem nb_length (f : Fr) : (nb f).length = 8 := by simp [nb, lowB_length]
theorem fncnt_le (k : Int) : fncnt k ≤ 3 := by have := fcnt_range k; unfold fncnt; omega
theorem body_length (f : Fr) : (fbody f).length = 8 + 4 * fncnt f.k := by
  have := fncnt_le f.k
  rw [fbody, List.length_append, nb_length, ftl_length, List.length_take]
  simp [abc]; omega
theorem bytesF_length (f : Fr) : (bytesF f).length = 12 + 4 * fncnt f.k := by rw [bytesF, putB_length, body_length]; omega
theorem ftl_lt (xs : List Int) : ∀ x ∈ ftl xs, x < 256 := by
  intro x hx
  obtain ⟨y, _, hy⟩ := List.mem_flatMap.1 hx
  exact lowB_lt _ _ x hy
theorem nb_lt (f : Fr) (h : 0 ≤ fcnt f.k) : ∀ x ∈ nb f, x < 256 := by
  have := fcnt_pos h
  intro x hx
  unfold nb at hx
  rcases List.mem_append.1 hx with hx | hx
  · rcases List.mem_append.1 hx with hx | hx
    · simp at hx; omega
    · exact lowB_lt _ _ x hx
  · exact lowB_lt _ _ x hx
theorem body_lt (f : Fr) (h : 0 ≤ fcnt f.k) : ∀ x ∈ fbody f, x < 256 := by
  intro x hx
  rcases List.mem_append.1 hx with hx | hx
  · exact nb_lt f h x hx
  · exact ftl_lt _ x hx
theorem bytesF_lt (f : Fr) (h : 0 ≤ fcnt f.k) : ∀ x ∈ bytesF f, x < 256 := putB_lt _ (body_lt f h)

/-! ### What bytes begin with -/
def rdF (bs : List Nat) (i k : Nat) : Nat := leVal ((bs.drop i).take k)
theorem rdF_lt (bs : List Nat) (i k : Nat) (hb : ∀ x ∈ bs, x < 256) : rdF bs i k < 256 ^ k := by
  have h := leVal_lt ((bs.drop i).take k) (fun x hx => hb x (List.mem_of_mem_drop (List.mem_of_mem_take hx)))
  refine Nat.lt_of_lt_of_le h (Nat.pow_le_pow_right (by decide) ?_)
  rw [List.length_take]; exact Nat.min_le_left _ _
theorem rdF_mid (a m r : List Nat) (i k : Nat) (hi : i = a.length) (hk : k = m.length) : rdF (a ++ m ++ r) i k = leVal m := by
  subst hi hk
  unfold rdF
  rw [List.append_assoc, List.drop_append_of_le_length (Nat.le_refl _), List.drop_length, List.nil_append, List.take_append_of_le_length (Nat.le_refl _), List.take_length]
theorem rdF_more (x y : List Nat) (i k : Nat) (h : i + k ≤ x.length) : rdF (x ++ y) i k = rdF x i k := by
  unfold rdF
  rw [List.drop_append_of_le_length (by omega), List.take_append_of_le_length (by simp; omega)]
theorem rdF_back (bs : List Nat) (i k : Nat) (hb : ∀ x ∈ bs, x < 256) (h : i + k ≤ bs.length) : lowB (rdF bs i k) k = (bs.drop i).take k := by
  have := lowB_leVal ((bs.drop i).take k) (fun x hx => hb x (List.mem_of_mem_drop (List.mem_of_mem_take hx)))
  rwa [show ((bs.drop i).take k).length = k by simp; omega] at this
theorem rdF_take (bs : List Nat) (m i k : Nat) (h : i + k ≤ m) : rdF (bs.take m) i k = rdF bs i k := by
  unfold rdF
  rw [List.drop_take, List.take_take, Nat.min_eq_left (by omega)]

def kd (bs : List Nat) : Int := (bs.getD 1 0 : Nat)
def sz (bs : List Nat) : Nat := 12 + 4 * fncnt (kd bs)
/-- Whether a frame's bytes are all there, whatever its sum. -/
def lcode (bs : List Nat) : Nat := if bs.length = 0 then 5 else if bs.getD 0 0 ≠ 126 then 3 else if bs.length ≤ 1 then 5 else if fcnt (kd bs) < 0 then 13 else if bs.length < sz bs then 5 else 0
def fst (bs : List Nat) : Nat := if lcode bs ≠ 0 then lcode bs else if okB (bs.take (sz bs)) then 0 else 4
def nth (bs : List Nat) (i : Nat) : Int := if i < fncnt (kd bs) then sg (rdF bs (8 + 4 * i) 4) else 0
def frm (bs : List Nat) : Fr := ⟨kd bs, rdF bs 2 2, rdF bs 4 4, nth bs 0, nth bs 1, nth bs 2⟩
def z0 : Fr := ⟨0, 0, 0, 0, 0, 0⟩
def fstF (bs : List Nat) : Fr := if fst bs = 0 then frm bs else z0
def fstN (bs : List Nat) : Nat := if fst bs = 0 then sz bs else 0

theorem sz_le (bs : List Nat) : 12 ≤ sz bs ∧ sz bs ≤ 24 := by have := fncnt_le (kd bs); unfold sz; omega
theorem lcode_ok {bs : List Nat} (h : lcode bs = 0) : sz bs ≤ bs.length ∧ bs.getD 0 0 = 126 ∧ 0 ≤ fcnt (kd bs) := by
  unfold lcode at h
  repeat' split at h
  all_goals first | omega | skip
  all_goals (rename_i h1 h2 h3 h4 h5; exact ⟨by omega, by omega, by omega⟩)
theorem fst_ok {bs : List Nat} (h : fst bs = 0) : lcode bs = 0 ∧ okB (bs.take (sz bs)) = true := by
  unfold fst at h
  split at h
  · omega
  · split at h
    · exact ⟨by omega, by assumption⟩
    · omega
theorem getD_appN (x y : List Nat) (i : Nat) (h : i < x.length) : (x ++ y).getD i 0 = x.getD i 0 := by
  rw [List.getD_eq_getElem?_getD, List.getD_eq_getElem?_getD, List.getElem?_append_left h]
theorem fst_lt (bs : List Nat) : fst bs < 14 := by
  unfold fst lcode
  repeat' split
  all_goals omega
theorem lcode_lt (bs : List Nat) : lcode bs < 14 := by
  unfold lcode
  repeat' split
  all_goals omega

theorem frm_ok (bs : List Nat) (hb : ∀ x ∈ bs, x < 256) : (frm bs).Ok := by
  have h1 : ∀ i, -2147483648 ≤ nth bs i ∧ nth bs i ≤ 2147483647 := by
    intro i
    unfold nth
    split
    · exact sg_range _ (Nat.lt_of_lt_of_le (rdF_lt bs _ 4 hb) (by decide))
    · omega
  have h2 : bs.getD 1 0 < 256 := by
    rw [List.getD_eq_getElem?_getD]
    cases h : bs[1]? with
    | none => simp
    | some x => exact hb x (List.mem_of_getElem? h)
  exact ⟨by show _ ≤ kd bs; unfold kd; omega, by show kd bs ≤ _; unfold kd; omega, Nat.lt_of_lt_of_le (rdF_lt bs _ 2 hb) (by decide), Nat.lt_of_lt_of_le (rdF_lt bs _ 4 hb) (by decide), h1 0, h1 1, h1 2⟩
theorem z0_ok : z0.Ok := by constructor <;> (unfold z0; simp)
theorem fstF_ok (bs : List Nat) (hb : ∀ x ∈ bs, x < 256) : (fstF bs).Ok := by unfold fstF; split; exact frm_ok bs hb; exact z0_ok
theorem kd_lt (bs : List Nat) (hb : ∀ x ∈ bs, x < 256) : 0 ≤ kd bs ∧ kd bs < 256 := by
  have h2 : bs.getD 1 0 < 256 := by
    rw [List.getD_eq_getElem?_getD]
    cases h : bs[1]? with
    | none => simp
    | some x => exact hb x (List.mem_of_getElem? h)
  unfold kd; omega

theorem pcode_fcnt {f : Fr} (h : pcode f = 0) : 0 ≤ fcnt f.k ∧ ∀ x ∈ (abc f).drop (fncnt f.k), x = 0 := by
  unfold pcode at h
  split at h
  · omega
  · split at h
    · rename_i h1 h2
      refine ⟨by omega, fun x hx => ?_⟩
      simpa using List.all_eq_true.1 h2 x hx
    · omega

/-- There and back. -/
theorem back_F (f : Fr) (ho : f.Ok) (h : pcode f = 0) : fst (bytesF f) = 0 ∧ frm (bytesF f) = f ∧ sz (bytesF f) = (bytesF f).length := by
  obtain ⟨hc, hz⟩ := pcode_fcnt h
  have hk := fcnt_pos hc
  have hn := fncnt_le f.k
  have e1 : ∀ i, (bytesF f).getD i 0 = if i < 8 then (nb f).getD i 0 else (bytesF f).getD i 0 := by
    intro i
    split
    · rename_i hi
      rw [bytesF, putB, fbody, List.append_assoc, getD_appN _ _ _ (by rw [nb_length]; exact hi)]
    · rfl
  have hkd : kd (bytesF f) = f.k := by
    unfold kd
    rw [e1 1, if_pos (by decide)]
    show ((f.k.toNat : Nat) : Int) = f.k
    omega
  have hsz : sz (bytesF f) = (bytesF f).length := by rw [sz, hkd, bytesF_length]
  have hl : lcode (bytesF f) = 0 := by
    unfold lcode
    rw [hkd, if_neg (by rw [bytesF_length]; omega), if_neg (by rw [e1 0, if_pos (by decide)]; simp [nb]), if_neg (by rw [bytesF_length]; omega), if_neg (by omega), if_neg (by omega)]
  have hf : fst (bytesF f) = 0 := by
    unfold fst
    rw [if_neg (by omega), hsz, List.take_length, if_pos (show okB (bytesF f) = true from okB_putB _)]
  refine ⟨hf, ?_, hsz⟩
  have r1 : rdF (bytesF f) 2 2 = f.s := by
    have : bytesF f = [126, f.k.toNat] ++ lowB f.s 2 ++ (lowB f.t 4 ++ ftl ((abc f).take (fncnt f.k)) ++ tail4 (sumB (fbody f))) := by simp [bytesF, putB, fbody, nb, List.append_assoc]
    rw [this, rdF_mid _ _ _ 2 2 rfl (by rw [lowB_length]), leVal_lowB, Nat.mod_eq_of_lt (by simpa using ho.s)]
  have r2 : rdF (bytesF f) 4 4 = f.t := by
    have : bytesF f = ([126, f.k.toNat] ++ lowB f.s 2) ++ lowB f.t 4 ++ (ftl ((abc f).take (fncnt f.k)) ++ tail4 (sumB (fbody f))) := by simp [bytesF, putB, fbody, nb, List.append_assoc]
    rw [this, rdF_mid _ _ _ 4 4 (by simp [lowB_length]) (by rw [lowB_length]), leVal_lowB, Nat.mod_eq_of_lt (by simpa using ho.t)]
  have r3 : ∀ i x, i < fncnt f.k → (abc f)[i]? = some x → (-2147483648 ≤ x ∧ x ≤ 2147483647) → sg (rdF (bytesF f) (8 + 4 * i) 4) = x := by
    intro i x hi hx hr
    have hlen : (abc f).length = 3 := rfl
    have hsplit : (abc f).take (fncnt f.k) = (abc f).take i ++ [x] ++ ((abc f).take (fncnt f.k)).drop (i + 1) := by
      have h1 : ((abc f).take (fncnt f.k))[i]? = some x := by rw [List.getElem?_take, if_pos hi]; exact hx
      obtain ⟨hi2, hx2⟩ := List.getElem?_eq_some_iff.1 h1
      conv => lhs; rw [← List.take_append_drop i ((abc f).take (fncnt f.k)), List.drop_eq_getElem_cons hi2, hx2, List.take_take, Nat.min_eq_left (by omega)]
      rw [List.append_assoc]; rfl
    have : bytesF f = (nb f ++ ftl ((abc f).take i)) ++ lowB (un x) 4 ++ (ftl (((abc f).take (fncnt f.k)).drop (i + 1)) ++ tail4 (sumB (fbody f))) := by
      rw [bytesF, putB]
      conv => lhs; arg 1; rw [fbody, hsplit]
      simp [ftl, List.append_assoc]
    rw [this, rdF_mid _ _ _ (8 + 4 * i) 4 (by rw [List.length_append, nb_length, ftl_length, List.length_take, hlen]; omega) (by rw [lowB_length]), leVal_lowB, Nat.mod_eq_of_lt (by simpa using un_lt x), sg_un x hr]
  have r4 : ∀ i x, (abc f)[i]? = some x → (-2147483648 ≤ x ∧ x ≤ 2147483647) → nth (bytesF f) i = x := by
    intro i x hx hr
    unfold nth
    rw [hkd]
    split
    · exact r3 i x (by assumption) hx hr
    · rename_i hi
      refine (hz x (List.mem_of_getElem? (i := i - fncnt f.k) ?_)).symm
      rw [List.getElem?_drop, ← hx]
      congr 1; omega
  unfold frm
  rw [hkd, r1, r2, r4 0 f.a rfl ho.a, r4 1 f.b rfl ho.b, r4 2 f.c rfl ho.c]

theorem nth_more (x y : List Nat) (hk : kd (x ++ y) = kd x) (h : sz x ≤ x.length) (i : Nat) : nth (x ++ y) i = nth x i := by
  unfold nth
  rw [hk]
  split
  · rw [rdF_more x y _ 4 (by unfold sz at h; omega)]
  · rfl
/-- What begins so begins so, whatever comes behind. -/
theorem fst_more (x y : List Nat) (h : fst x ≠ 5) : fst (x ++ y) = fst x ∧ (fst x = 0 → frm (x ++ y) = frm x ∧ sz (x ++ y) = sz x) := by
  have hl5 : lcode x ≠ 5 := by
    intro e; apply h; unfold fst; rw [if_pos (by omega)]; exact e
  have h0 : x.length ≠ 0 := fun e => hl5 (by unfold lcode; rw [if_pos e])
  have g0 : (x ++ y).getD 0 0 = x.getD 0 0 := getD_appN _ _ _ (by omega)
  by_cases c1 : x.getD 0 0 ≠ 126
  · have e1 : lcode x = 3 := by unfold lcode; rw [if_neg h0, if_pos c1]
    have e2 : lcode (x ++ y) = 3 := by unfold lcode; rw [if_neg (by rw [List.length_append]; omega), if_pos (by rw [g0]; exact c1)]
    have e3 : fst x = 3 := by unfold fst; rw [if_pos (by omega), e1]
    have e4 : fst (x ++ y) = 3 := by unfold fst; rw [if_pos (by omega), e2]
    exact ⟨by rw [e3, e4], fun e => by omega⟩
  have h1 : ¬ x.length ≤ 1 := fun e => hl5 (by unfold lcode; rw [if_neg h0, if_neg c1, if_pos e])
  have hk : kd (x ++ y) = kd x := by unfold kd; rw [getD_appN _ _ _ (by omega)]
  by_cases c2 : fcnt (kd x) < 0
  · have e1 : lcode x = 13 := by unfold lcode; rw [if_neg h0, if_neg c1, if_neg h1, if_pos c2]
    have e2 : lcode (x ++ y) = 13 := by unfold lcode; rw [if_neg (by rw [List.length_append]; omega), if_neg (by rw [g0]; exact c1), if_neg (by rw [List.length_append]; omega), if_pos (by rw [hk]; exact c2)]
    have e3 : fst x = 13 := by unfold fst; rw [if_pos (by omega), e1]
    have e4 : fst (x ++ y) = 13 := by unfold fst; rw [if_pos (by omega), e2]
    exact ⟨by rw [e3, e4], fun e => by omega⟩
  have h2 : ¬ x.length < sz x := fun e => hl5 (by unfold lcode; rw [if_neg h0, if_neg c1, if_neg h1, if_neg c2, if_pos e])
  have hs : sz (x ++ y) = sz x := by unfold sz; rw [hk]
  have e1 : lcode x = 0 := by unfold lcode; rw [if_neg h0, if_neg c1, if_neg h1, if_neg c2, if_neg h2]
  have e2 : lcode (x ++ y) = 0 := by unfold lcode; rw [if_neg (by rw [List.length_append]; omega), if_neg (by rw [g0]; exact c1), if_neg (by rw [List.length_append]; omega), if_neg (by rw [hk]; exact c2), if_neg (by rw [hs, List.length_append]; omega)]
  refine ⟨?_, fun _ => ⟨?_, hs⟩⟩
  · unfold fst
    rw [e1, e2, hs, List.take_append_of_le_length (by omega)]
  · have hz := sz_le x
    unfold frm
    rw [hk, rdF_more x y 2 2 (by omega), rdF_more x y 4 4 (by omega), nth_more x y hk (by omega), nth_more x y hk (by omega), nth_more x y hk (by omega)]

/-- The frame that bytes begin with has just these bytes. -/
theorem front_F (bs : List Nat) (hb : ∀ x ∈ bs, x < 256) (h : fst bs = 0) : pcode (frm bs) = 0 ∧ bytesF (frm bs) = bs.take (sz bs) ∧ sz bs ≤ bs.length := by
  obtain ⟨hl, hok⟩ := fst_ok h
  obtain ⟨hsz, hm, hc⟩ := lcode_ok hl
  have hz := sz_le bs
  have hn := fncnt_le (kd bs)
  have hp : pcode (frm bs) = 0 := by
    have hall : ((abc (frm bs)).drop (fncnt (kd bs))).all (· == 0) = true := by
      rw [List.all_eq_true]
      intro x hx
      obtain ⟨j, hj, rfl⟩ := List.getElem_of_mem hx
      have hl3 : (abc (frm bs)).length = 3 := rfl
      rw [List.length_drop, hl3] at hj
      rw [List.getElem_drop]
      have : ∀ i (hi : i < 3), fncnt (kd bs) ≤ i → (abc (frm bs))[i]'(by rw [hl3]; exact hi) = 0 := by
        intro i hi hni
        match i, hi with
        | 0, _ => show nth bs 0 = 0; unfold nth; rw [if_neg (by omega)]
        | 1, _ => show nth bs 1 = 0; unfold nth; rw [if_neg (by omega)]
        | 2, _ => show nth bs 2 = 0; unfold nth; rw [if_neg (by omega)]
      rw [this _ (by omega) (by omega)]; rfl
    unfold pcode
    rw [show (frm bs).k = kd bs from rfl, if_neg (by omega), if_pos hall]
  refine ⟨hp, ?_, hsz⟩
  have q1 : (frm bs).k.toNat = bs.getD 1 0 := by show (kd bs).toNat = _; unfold kd; omega
  have q2 : [126, (frm bs).k.toNat] = bs.take 2 := by
    rw [q1, ← hm]
    match bs, (show 2 ≤ bs.length by omega) with
    | x :: y :: r, _ => rfl
  have q3 : lowB (frm bs).s 2 = (bs.drop 2).take 2 := rdF_back bs 2 2 hb (by omega)
  have q4 : lowB (frm bs).t 4 = (bs.drop 4).take 4 := rdF_back bs 4 4 hb (by omega)
  have q5 : nb (frm bs) = bs.take 8 := by
    rw [nb, q2, q3, q4, show (8 : Nat) = 2 + 2 + 4 from rfl, List.take_add, List.take_add]
  have q6 : ∀ j, j ≤ fncnt (kd bs) → ftl ((abc (frm bs)).take j) = (bs.drop 8).take (4 * j) := by
    intro j
    induction j with
    | zero => intro _; simp [ftl]
    | succ j ih =>
      intro hj
      have hx : ∃ x, (abc (frm bs))[j]? = some x ∧ x = nth bs j := by
        match j, (show j < 3 by omega) with
        | 0, _ => exact ⟨_, rfl, rfl⟩
        | 1, _ => exact ⟨_, rfl, rfl⟩
        | 2, _ => exact ⟨_, rfl, rfl⟩
      obtain ⟨x, hx1, hx2⟩ := hx
      rw [List.take_add_one, hx1]
      show ftl (_ ++ [x]) = _
      rw [ftl_snoc, ih (by omega), hx2, nth, if_pos (by omega), un_sg _ (Nat.lt_of_lt_of_le (rdF_lt bs _ 4 hb) (by decide)), rdF_back bs _ 4 hb (by unfold sz at hsz; omega), show 4 * (j + 1) = 4 * j + 4 by omega, List.take_add, List.drop_drop]
  have q7 : fbody (frm bs) = bs.take (sz bs - 4) := by
    rw [fbody, q5, show fncnt (frm bs).k = fncnt (kd bs) from rfl, q6 _ (Nat.le_refl _), show sz bs - 4 = 8 + 4 * fncnt (kd bs) by unfold sz; omega, List.take_add]
  have hlen : (bs.take (sz bs)).length = sz bs := by rw [List.length_take]; omega
  rw [okB_put, hlen, List.take_take, Nat.min_eq_left (by omega)] at hok
  simp only [Bool.and_eq_true, beq_iff_eq] at hok
  rw [bytesF, q7]
  exact hok.2

/-! ### All frames that stand in bytes -/
def scan : List Nat → Nat → Nat → List (Nat × Fr)
  | [], _, _ => []
  | _ :: r, k + 1, i => scan r k (i + 1)
  | b :: r, 0, i => if fst (b :: r) = 0 then (i, frm (b :: r)) :: scan r (sz (b :: r) - 1) (i + 1) else scan r 0 (i + 1)
theorem scan_drop : ∀ (bs : List Nat) (k i : Nat), scan bs k i = scan (bs.drop k) 0 (i + k)
  | [], k, i => by simp [scan]
  | b :: r, 0, i => by simp
  | b :: r, k + 1, i => by
    show scan r k (i + 1) = _
    rw [scan_drop r k (i + 1), List.drop_succ_cons]
    congr 1; omega
/-- The frames from a place on. -/
def found (bs : List Nat) (i : Nat) : List (Nat × Fr) := scan (bs.drop i) 0 i
theorem found_end (bs : List Nat) (i : Nat) (h : bs.length ≤ i) : found bs i = [] := by rw [found, List.drop_of_length_le h]; rfl
theorem found_yes (bs : List Nat) (i : Nat) (h : i < bs.length) (h0 : fst (bs.drop i) = 0) : found bs i = (i, frm (bs.drop i)) :: found bs (i + sz (bs.drop i)) := by
  have hz := sz_le (bs.drop i)
  unfold found
  obtain ⟨b, r, hbr⟩ : ∃ b r, bs.drop i = b :: r := ⟨_, _, List.drop_eq_getElem_cons h⟩
  have e : bs.drop (i + sz (b :: r)) = r.drop (sz (b :: r) - 1) := by
    rw [hbr] at hz
    rw [← List.drop_drop, hbr]
    obtain ⟨m, hm⟩ : ∃ m, sz (b :: r) = m + 1 := ⟨sz (b :: r) - 1, by omega⟩
    rw [hm]; rfl
  rw [hbr] at h0 hz ⊢
  rw [scan, if_pos h0, scan_drop r, e]
  congr 2; omega
theorem found_no (bs : List Nat) (i : Nat) (h : i < bs.length) (h0 : fst (bs.drop i) ≠ 0) : found bs i = found bs (i + 1) := by
  unfold found
  rw [List.drop_eq_getElem_cons h] at h0 ⊢
  rw [scan, if_neg h0]
theorem found_le (bs : List Nat) : ∀ i, (found bs i).length ≤ bs.length - i := by
  have : ∀ (l : List Nat) (k i : Nat), (scan l k i).length ≤ l.length := by
    intro l
    induction l with
    | nil => intro k i; simp [scan]
    | cons b r ih =>
      intro k i
      match k with
      | k + 1 => rw [scan]; have := ih k (i + 1); simp; omega
      | 0 =>
        rw [scan]
        split
        · have := ih (sz (b :: r) - 1) (i + 1); simp; omega
        · have := ih 0 (i + 1); simp; omega
  intro i
  have := this (bs.drop i) 0 i
  rw [List.length_drop] at this
  exact this

/-! ### Bytes that come in pieces -/
inductive Feeds : List Nat → List Fr → Nat → List Nat → Prop where
  | stop (bs) (h : fst bs = 5) : Feeds bs [] 0 bs
  | tell (bs l n r) (h : fst bs = 0) (f : Feeds (bs.drop (sz bs)) l n r) : Feeds bs (frm bs :: l) n r
  | pass (bs l n r) (h : fst bs ≠ 0) (h5 : fst bs ≠ 5) (f : Feeds (bs.drop 1) l n r) : Feeds bs l (n + 1) r

theorem Feeds.one {bs l n r l' n' r'} (h : Feeds bs l n r) (h' : Feeds bs l' n' r') : l = l' ∧ n = n' ∧ r = r' := by
  induction h generalizing l' n' r' with
  | stop bs h =>
    cases h' with
    | stop _ h1 => exact ⟨rfl, rfl, rfl⟩
    | tell _ l2 n2 r2 h1 f2 => omega
    | pass _ l2 n2 r2 h1 h2 f2 => omega
  | tell bs l n r h f ih =>
    cases h' with
    | stop _ h1 => omega
    | tell _ l2 n2 r2 h1 f2 => obtain ⟨rfl, rfl, rfl⟩ := ih f2; exact ⟨rfl, rfl, rfl⟩
    | pass _ l2 n2 r2 h1 h2 f2 => omega
  | pass bs l n r h h5 f ih =>
    cases h' with
    | stop _ h1 => omega
    | tell _ l2 n2 r2 h1 f2 => omega
    | pass _ l2 n2 r2 h1 h2 f2 => obtain ⟨rfl, rfl, rfl⟩ := ih f2; exact ⟨rfl, rfl, rfl⟩
theorem fst_pos {bs : List Nat} (h : fst bs ≠ 5) : 1 ≤ bs.length := by
  rcases Nat.eq_zero_or_pos bs.length with h0 | h0
  · exfalso; apply h; unfold fst lcode; simp [h0]
  · exact h0
theorem Feeds.join {a b l n r l' n' r'} (h : Feeds a l n r) (h' : Feeds (r ++ b) l' n' r') : Feeds (a ++ b) (l ++ l') (n + n') r' := by
  induction h with
  | stop bs h => simpa using h'
  | tell bs l n r h f ih =>
    obtain ⟨e1, e2⟩ := fst_more bs b (by omega)
    obtain ⟨e3, e4⟩ := e2 h
    have hl := (lcode_ok (fst_ok h).1).1
    have := Feeds.tell (bs ++ b) (l ++ l') (n + n') r' (by rw [e1, h]) (by
      rw [e4, List.drop_append_of_le_length hl]; exact ih h')
    rw [e3] at this
    exact this
  | pass bs l n r h h5 f ih =>
    obtain ⟨e1, e2⟩ := fst_more bs b h5
    have hl := fst_pos h5
    have := Feeds.pass (bs ++ b) (l ++ l') (n + n') r' (by rw [e1]; exact h) (by rw [e1]; exact h5) (by
      rw [List.drop_append_of_le_length hl]; exact ih h')
    rw [show n + 1 + n' = n + n' + 1 by omega]
    exact this
/-- How long what waits is, and how many frames are told. -/
theorem Feeds.len {bs l n r} (h : Feeds bs l n r) : r.length + n + l.length ≤ bs.length ∧ r <:+ bs := by
  induction h with
  | stop bs h => simp
  | tell bs l n r h f ih =>
    have hl := (lcode_ok (fst_ok h).1).1
    have hz := sz_le bs
    refine ⟨?_, ih.2.trans (List.drop_suffix _ _)⟩
    have := ih.1
    rw [List.length_drop] at this
    simp; omega
  | pass bs l n r h h5 f ih =>
    have hl := fst_pos h5
    refine ⟨?_, ih.2.trans (List.drop_suffix _ _)⟩
    have := ih.1
    rw [List.length_drop] at this
    omega
/-- So far: whatever the rest tells is told behind. -/
def Far (bs : List Nat) (l : List Fr) (n : Nat) (r : List Nat) : Prop := ∀ l' n' r', Feeds r l' n' r' → Feeds bs (l ++ l') (n + n') r'
theorem Far.start (bs : List Nat) : Far bs [] 0 bs := fun l' n' r' h => by simpa using h
theorem Far.tell {bs l n r} (h : Far bs l n r) (h0 : fst r = 0) : Far bs (l ++ [frm r]) n (r.drop (sz r)) := fun l' n' r' f => by
  have := h _ _ _ (Feeds.tell r l' n' r' h0 f)
  simpa using this
theorem Far.pass {bs l n r} (h : Far bs l n r) (h0 : fst r ≠ 0) (h5 : fst r ≠ 5) : Far bs l (n + 1) (r.drop 1) := fun l' n' r' f => by
  have := h _ _ _ (Feeds.pass r l' n' r' h0 h5 f)
  rw [show n + 1 + n' = n + (n' + 1) by omega]
  exact this
theorem Far.stop {bs l n r} (h : Far bs l n r) (h5 : fst r = 5) : Feeds bs l n r := by simpa using h _ _ _ (Feeds.stop r h5)
end Go.Proofs.YtfkncfjdgbgeeaaDoor
