/-
  The reference's functions on bits.
-/
import Derived.Test.YtjbapbenlaccfaaWriter
namespace Go.Proofs.Ytjbapbenlaccfaa
open Go.RowKit Go.Th

theorem Ebool : ElemOf Try.prog 27 4 1 1 := ElemOf.mk' Try.underlying27 (z := .bool false) (by kernel_rfl) rfl (by decide)

def bls (l : List Bool) : List Value := l.map Value.bool

theorem oneCell_bls (l : List Bool) : ∀ u ∈ bls l, u.oneCell' = true := by
  intro u hu
  obtain ⟨x, _, rfl⟩ := List.mem_map.1 hu
  rfl

theorem refNum_any (k : Nat) : ∀ (x : Nat) (w : World), x < 18446744073709551616 → k ≤ 64 →
    Calls Try.prog 8 #[.int .u64 x, .int .i64 k] w fun e w' => ∃ v, e = .returned v ∧ w'.ownsRow w.heap.size 4 1 v k (bls (numBits x k)) ∧ Below w.heap.size w w' := by
  induction k with
  | zero =>
    intro x w hx _
    have h0 : decide ((((0 : Nat) : Int)) ≤ 0) = true := by decide
    go_enter Try.func8, Try.ntmps8
    go_wp2_with fail
    go_ret
    exact ⟨_, rfl, World.ownsRow_nil _ _ _ _, Below.refl _ _⟩
  | succ k ih =>
    intro x w hx hk
    have h0 : ¬ (((k + 1 : Nat) : Int) ≤ 0) := by omega
    have IH := Lib.hid ih; clear ih
    go_enter Try.func8, Try.ntmps8
    go_wp2_with fail
    have e2 : ((x : Int) / 2) = ((x / 2 : Nat) : Int) := by simp
    rw [e2]
    clear e2
    refine (IH.out (x / 2) w (by omega) (by omega)).mono ?_
    rintro e w1 ⟨v1, rfl, ho, hB⟩
    have hsz := hB.size
    go_wp2_with (at_builtin; refine wpList_app Ebool rfl (.tmp 11) (.tmp 15) rfl w.heap.size rfl (ho.alloc _) rfl (Sl.one _ _ _) (by intro u hu; simp at hu; subst hu; rfl) (by unfold maxLen; omega) (by omega) (by simp; omega) ?_)
    intro v2 w2 ho2 hg2 _
    go_wp2
    go_ret
    refine ⟨_, rfl, ?_, (hB.alloc hB.size _).grown hg2 (by simp; omega) (fun j hj => (ho.lt j hj).1)⟩
    rw [numBits_succ x k]
    have e3 : ((x : Int) % 2 == 1) = (x % 2 == 1) := by rw [Bool.eq_iff_iff]; simp only [beq_iff_eq]; omega
    rw [e3] at ho2
    have e4 : bls (numBits (x / 2) k ++ [x % 2 == 1]) = bls (numBits (x / 2) k) ++ [.bool (x % 2 == 1)] := by simp only [bls, List.map_append, List.map_cons, List.map_nil]
    rw [e4]
    exact ho2

/-- The number of a row of bits, modulo 2^64. -/
def valL (l : List Bool) : Nat := l.foldl (fun x b => (2 * x + b.toNat) % 18446744073709551616) 0

theorem valL_snoc (l : List Bool) (b : Bool) : valL (l ++ [b]) = (2 * valL l + b.toNat) % 18446744073709551616 := by simp [valL]
theorem valL_lt (l : List Bool) : valL l < 18446744073709551616 := by
  rcases List.eq_nil_or_concat l with rfl | ⟨l', b, rfl⟩
  · simp [valL]
  · rw [List.concat_eq_append, valL_snoc]; omega

theorem wrap_two' (x : Nat) : IntKind.u64.wrap (2 * (x : Int)) = ((2 * x % 18446744073709551616 : Nat) : Int) := by
  simp [IntKind.wrap, IntKind.bits, IntKind.signed]
theorem wrap_two1 (x : Nat) : IntKind.u64.wrap (IntKind.u64.wrap (2 * (x : Int)) + 1) = (((2 * x + 1) % 18446744073709551616 : Nat) : Int) := by
  simp [IntKind.wrap, IntKind.bits, IntKind.signed]

theorem take_snoc_bool (l : List Bool) (k : Nat) (h : k < l.length) : l.take (k + 1) = l.take k ++ [l[k]] := by
  rw [List.take_add_one, List.getElem?_eq_getElem h]; rfl

theorem refValue_any (vx : Value) (l : List Bool) (w : World) (h : Sl w 1 vx l.length (bls l)) (hl : l.length ≤ 140737488355328) :
    Calls Try.prog 16 #[vx] w fun e w' => e = .returned (.int .u64 (valL l : Nat)) ∧ w = w' := by
  obtain ⟨a, cap, rfl, h1, h2, h3, h4, h5⟩ := h
  go_enter Try.func16, Try.ntmps16
  go_wp2
  go_loop [3, 4] (fun x c => ∃ i : Nat, i ≤ l.length ∧ c = .int .i64 i ∧ x = .int .u64 (valL (l.take i) : Nat)) (fun _ c => l.length - (intOf c).toNat)
  case atStart => exact ⟨0, Nat.zero_le _, rfl, rfl⟩
  case round =>
    obtain ⟨i, hi, rfl, rfl⟩ := hrel
    have hv := valL_lt (l.take i)
    by_cases hlt : i < l.length
    · obtain ⟨b, o, rfl, hc⟩ := h5 i (.bool l[i]) (by simp [bls, hlt])
      have hsn : valL (l.take (i + 1)) = (2 * valL (l.take i) + l[i].toNat) % 18446744073709551616 := by rw [take_snoc_bool l i hlt, valL_snoc]
      obtain ⟨x, hx⟩ : ∃ x, x = valL (l.take i) := ⟨_, rfl⟩
      rw [← hx] at hv hsn ⊢
      have HS := Lib.hid hsn; clear hsn
      clear hx h5
      cases hb : l[i]
      · rw [hb] at hc HS
        go_wp2
        go_round
        case rel => exact ⟨i + 1, by omega, by go_num, by rw [HS.out, wrap_two']; simp⟩
        case measure => simp [intOf]; omega
      · rw [hb] at hc HS
        go_wp2
        go_round
        case rel => exact ⟨i + 1, by omega, by go_num, by rw [HS.out, wrap_two1]; simp⟩
        case measure => simp [intOf]; omega
    · obtain rfl : i = l.length := by omega
      go_wp2
      go_ret
      exact ⟨ret_int (by simp), rfl⟩


/-- How many ones come ahead of the first nought. -/
def onesL : List Bool → Option Nat
  | [] => none
  | b :: r => if b then (onesL r).map (· + 1) else some 0

theorem onesL_some (l : List Bool) (i : Nat) (hi : i < l.length) (hall : ∀ j (h : j < l.length), j < i → l[j] = true) (hz : l[i] = false) : onesL l = some i := by
  induction l generalizing i with
  | nil => simp at hi
  | cons b r ih =>
    cases i with
    | zero => simp at hz; simp [onesL, hz]
    | succ i =>
      have hb : b = true := hall 0 (by simp) (by omega)
      have := ih i (by simpa using hi) (fun j h hj => by have := hall (j + 1) (by simp; omega) (by omega); simpa using this) (by simpa using hz)
      simp [onesL, hb, this]

theorem onesL_none (l : List Bool) (hall : ∀ j (h : j < l.length), l[j] = true) : onesL l = none := by
  induction l with
  | nil => rfl
  | cons b r ih =>
    have hb : b = true := hall 0 (by simp)
    have := ih (fun j h => by have := hall (j + 1) (by simp; omega); simpa using this)
    simp [onesL, hb, this]

def onesInt (l : List Bool) : Int := match onesL l with | some n => (n : Int) | none => -1

theorem refOnes_any (vx : Value) (l : List Bool) (w : World) (h : Sl w 1 vx l.length (bls l)) (hl : l.length ≤ 140737488355328) :
    Calls Try.prog 23 #[vx] w fun e w' => e = .returned (.int .i64 (onesInt l)) ∧ w = w' := by
  obtain ⟨a, cap, rfl, h1, h2, h3, h4, h5⟩ := h
  go_enter Try.func23, Try.ntmps23
  go_wp2
  go_loop [3] (fun c => ∃ i : Nat, i ≤ l.length ∧ c = .int .i64 i ∧ Hid (∀ j (h : j < l.length), j < i → l[j] = true)) (fun c => l.length - (intOf c).toNat)
  case atStart => exact ⟨0, Nat.zero_le _, rfl, fun j h hj => absurd hj (Nat.not_lt_zero _)⟩
  case round =>
    obtain ⟨i, hi, rfl, hall⟩ := hrel
    by_cases hlt : i < l.length
    · obtain ⟨b, o, rfl, hc⟩ := h5 i (.bool l[i]) (by simp [bls, hlt])
      clear h5
      cases hb : l[i]
      · have HE : Hid (onesInt l = i) := by show onesInt l = i; simp [onesInt, onesL_some l i hlt (fun j h hj => hall.out j h hj) hb]
        rw [hb] at hc
        go_wp2
        go_ret
        exact ⟨ret_int HE.out.symm, rfl⟩
      · rw [hb] at hc
        go_wp2
        go_round
        case rel =>
          refine ⟨i + 1, by omega, by go_num, fun j h hj => ?_⟩
          by_cases he : j = i
          · subst he; exact hb
          · exact hall.out j h (by omega)
        case measure => simp [intOf]; omega
    · obtain rfl : i = l.length := by omega
      have HE : Hid (onesInt l = -1) := by show onesInt l = -1; simp [onesInt, onesL_none l (fun j h => hall.out j h h)]
      go_wp2
      go_ret
      exact ⟨ret_int HE.out.symm, rfl⟩

/-- The bits of bytes, the highest of each first. -/
def rowOf (bs : List Nat) : List Bool := bs.flatMap fun b => (List.range 8).map fun k => b / 2 ^ (7 - k) % 2 == 1

theorem byte_bit : ∀ (b : Fin 256) (k : Fin 8), decide (128 ≤ b.1 * 2 ^ k.1 % 256) = (b.1 / 2 ^ (7 - k.1) % 2 == 1) := by decide +kernel

theorem rowOf_length (bs : List Nat) : (rowOf bs).length = 8 * bs.length := by
  induction bs with
  | nil => rfl
  | cons b r ih => simp only [rowOf, List.flatMap_cons, List.length_append] at ih ⊢; rw [ih]; simp; omega

set_option maxHeartbeats 1600000 in
theorem refRow_any (vx : Value) (bs : List Nat) (w : World) (h : Sl w 1 vx bs.length (u8s bs)) (hl : bs.length ≤ 1000000) (hbyte : ∀ x ∈ bs, x < 256) :
    Calls Try.prog 21 #[vx] w fun e w' => ∃ v, e = .returned v ∧ w'.ownsRow w.heap.size 4 1 v (rowOf bs).length (bls (rowOf bs)) ∧ Below w.heap.size w w' := by
  obtain ⟨a, cap, rfl, h1, h2, h3, h4, h5⟩ := h
  have H5 := Lib.hid h5; clear h5
  have HBY := Lib.hid hbyte; clear hbyte
  go_enter Try.func21, Try.ntmps21
  go_wp2
  go_loopw [3, 4] (fun x c wx => ∃ i : Nat, i ≤ bs.length ∧ c = .int .i64 i ∧ wx.ownsRow w.heap.size 4 1 x (rowOf (bs.take i)).length (bls (rowOf (bs.take i))) ∧ Below w.heap.size w wx) (fun _ c _ => bs.length - (intOf c).toNat)
  case atStart => exact ⟨0, Nat.zero_le _, rfl, World.ownsRow_nil _ _ _ _, Below.refl _ _⟩
  case round =>
    obtain ⟨i, hi, rfl, ho, hB⟩ := hrel
    by_cases hlt : i < bs.length
    · obtain ⟨b, o, rfl, hc⟩ := H5.out i (.int .u8 (bs[i] : Nat)) (by simp [u8s, hlt])
      have hc' := (hB.cell (p := ⟨b, o + i, none⟩) (World.block_lt_of_cell? w _ hc)).trans hc
      clear hc
      have hx := HBY.out bs[i] (List.getElem_mem _)
      obtain ⟨y, hy⟩ : ∃ y, y = bs[i] := ⟨_, rfl⟩
      rw [← hy] at hc' hx
      have hrs : rowOf (bs.take (i + 1)) = rowOf (bs.take i) ++ ((List.range 8).map fun k => y / 2 ^ (7 - k) % 2 == 1) := by
        rw [List.take_add_one, List.getElem?_eq_getElem hlt, hy]
        simp only [rowOf, Option.toList, List.flatMap_append, List.flatMap_cons, List.flatMap_nil, List.append_nil]
      have hlen : (rowOf (bs.take i)).length = 8 * i := by rw [rowOf_length]; simp; omega
      have HR := Lib.hid hrs; clear hrs
      have HL := Lib.hid hlen; clear hlen
      clear hy
      obtain ⟨wo, rfl⟩ : ∃ wo : World, wo = wr := ⟨_, rfl⟩
      go_wp2
      have hL := HL.out
      go_loopw [3, 5, 6] (fun x n c wx => ∃ j : Nat, j ≤ 8 ∧ c = .int .i64 j ∧ n = .int .u8 (y * 2 ^ j % 256 : Nat) ∧
        wx.ownsRow w.heap.size 4 1 x (8 * i + j) (bls (rowOf (bs.take i) ++ ((List.range j).map fun k => y / 2 ^ (7 - k) % 2 == 1))) ∧ Below w.heap.size w wx) (fun _ _ c _ => 8 - (intOf c).toNat)
      case atStart => exact ⟨0, Nat.zero_le _, rfl, by simp; omega, by rw [hL] at ho; simpa using ho, hB⟩
      case round =>
        clear ho hB hc'
        obtain ⟨j, hj, rfl, rfl, ho, hB⟩ := hrel
        have hsz := hB.size
        obtain ⟨n, hn⟩ : ∃ n, n = y * 2 ^ j % 256 := ⟨_, rfl⟩
        have hn2 : n < 256 := by omega
        rw [← hn]
        by_cases hj8 : j < 8
        · have hbit := byte_bit ⟨y, hx⟩ ⟨j, hj8⟩
          simp only [← hn] at hbit
          have hnn : 2 * n % 256 = y * 2 ^ (j + 1) % 256 := by rw [hn, Nat.pow_succ, ← Nat.mul_assoc]; omega
          have HB := Lib.hid hbit; clear hbit
          have HN := Lib.hid hnn; clear hnn hn
          go_wp2_with (at_builtin; refine wpList_app Ebool rfl (.tmp 21) (.tmp 24) rfl w.heap.size rfl (ho.alloc _) rfl (Sl.one _ _ _) (by intro u hu; simp at hu; subst hu; rfl) (by unfold maxLen; omega) (by omega) (by simp; omega) ?_)
          intro v2 w2 ho2 hg2 _
          have hB2 := (hB.alloc hB.size (.cells #[.bool (decide ((128 : Int) ≤ n))] 4)).grown hg2 (by simp; omega) (fun q hq => (ho.lt q hq).1)
          clear ho hB hg2
          go_wp2
          go_roundw
          case rel =>
            refine ⟨j + 1, by omega, by go_num, ?_, ?_, hB2⟩
            · congr 1; rw [← HN.out]; omega
            · rw [List.range_succ, List.map_append, List.map_singleton, ← List.append_assoc, ← HB.out]
              have e3 : decide ((128 : Int) ≤ (n : Int)) = decide (128 ≤ n) := by rw [Bool.eq_iff_iff]; simp; omega
              have e4 : ∀ (p : List Bool) (b : Bool), bls (p ++ [b]) = bls p ++ [.bool b] := fun p b => by simp only [bls, List.map_append, List.map_cons, List.map_nil]
              rw [e4, ← e3]
              exact ho2
          case measure => simp [intOf]; omega
        · obtain rfl : j = 8 := by omega
          go_wp2
          go_roundw
          case rel =>
            refine ⟨i + 1, by omega, by go_num, ?_, hB⟩
            rw [HR.out]
            rw [List.length_append, hL]
            simpa using ho
          case measure => simp [intOf]; omega
    · obtain rfl : i = bs.length := by omega
      go_wp2
      go_ret
      exact ⟨_, rfl, by simpa using ho, hB⟩

/-- Bytes as a text. -/
def strOf (bs : List Nat) : ByteArray := ⟨(bs.map UInt8.ofNat).toArray⟩

theorem fold_push (bs : List Nat) : ∀ s : ByteArray, (bs.map (fun x : Nat => (x : Int))).foldl (fun r n => r.push (UInt8.ofNat n.toNat)) s = ⟨s.data ++ (bs.map UInt8.ofNat).toArray⟩ := by
  induction bs with
  | nil => intro s; simp
  | cons b r ih =>
    intro s
    simp only [List.map_cons, List.foldl_cons]
    rw [ih]
    simp [ByteArray.push]

theorem run_str {w : World} {a : Option Addr} {n cap : Nat} {bs : List Nat} (h : Sl w 1 (.slice a n cap) n (u8s bs)) :
    (convert 24 9 (.slice a n cap)).run Try.prog w = .ok (.string (strOf bs)) w := by
  obtain ⟨a', cap', he, h1, h2, h3, h4, h5⟩ := h
  cases he
  rw [run_convert_bytes_string w 24 9 5 a n cap Try.underlying24 Try.underlying5 Try.underlying9]
  cases a with
  | none =>
    obtain ⟨rfl, rfl⟩ := h4 rfl
    have : bs = [] := List.eq_nil_of_length_eq_zero (by simpa [u8s] using h1)
    subst this
    rfl
  | some ad =>
    have hn : n = (bs.map (fun x : Nat => (x : Int))).length := by simpa [u8s] using h1.symm
    have hm : (bs.map (fun x : Nat => (x : Int))).map (Value.int .u8) = u8s bs := by simp [u8s, Function.comp_def]
    have hl : (loadCells ad n).run Try.prog w = .ok ((bs.map (fun x : Nat => (x : Int))).map (Value.int .u8)).toArray w := by
      rw [hm, show n = (u8s bs).length by simpa using h1.symm]
      refine run_loadCells_list w ad (u8s bs) fun j v hv => ?_
      obtain ⟨b, o, hA, hc⟩ := h5 j v hv
      cases hA
      rw [add_none]; exact hc
    rw [run_bytesToString w ad n cap _ hl, fold_push]
    simp [strOf]

theorem strOf_inj (a b : List Nat) (ha : ∀ x ∈ a, x < 256) (hb : ∀ x ∈ b, x < 256) (h : strOf a = strOf b) : a = b := by
  have h1 : a.map UInt8.ofNat = b.map UInt8.ofNat := by
    have := congrArg (fun s : ByteArray => s.data.toList) h
    simpa [strOf] using this
  have h2 : ∀ l : List Nat, (∀ x ∈ l, x < 256) → (l.map UInt8.ofNat).map UInt8.toNat = l := by
    intro l hl
    rw [List.map_map]
    conv => rhs; rw [← List.map_id l]
    refine List.map_congr_left fun x hx => ?_
    have := hl x hx
    simp [UInt8.toNat_ofNat, Nat.mod_eq_of_lt this]
  rw [← h2 a ha, ← h2 b hb, h1]

theorem same_any (va vb : Value) (a b : List Nat) (w : World) (ha : Sl w 1 va a.length (u8s a)) (hb : Sl w 1 vb b.length (u8s b)) (h : a = b) :
    Calls Try.prog 11 #[va, vb] w fun e w' => e = .returned (.bool true) ∧ w = w' := by
  subst h
  obtain ⟨p, c, rfl, _⟩ := id ha
  obtain ⟨p', c', rfl, _⟩ := id hb
  have e1 := run_str ha
  have e2 := run_str hb
  go_enter Try.func11, Try.ntmps11
  go_wp2
  go_ret
  exact ⟨rfl, rfl⟩

def partByte (l : List Bool) (i j : Nat) : Nat := (List.range j).foldl (fun n k => 2 * n + (l.getD (8 * i + k) false).toNat) 0

set_option maxHeartbeats 1600000 in
theorem refBytes_any (vx : Value) (l : List Bool) (w : World) (h : Sl w 1 vx l.length (bls l)) (hl : l.length ≤ 1000000) :
    Calls Try.prog 13 #[vx] w fun e w' => ∃ v, e = .returned v ∧ w'.ownsRow w.heap.size 5 1 v (pack l).length (u8s (pack l)) ∧ Below w.heap.size w w' := by
  obtain ⟨a, cap, rfl, h1, h2, h3, h4, h5⟩ := h
  have H5 := Lib.hid h5; clear h5
  go_enter Try.func13, Try.ntmps13
  go_wp2
  go_loopw [3, 4] (fun x c wx => ∃ i : Nat, i ≤ (l.length + 7) / 8 ∧ c = .int .i64 (8 * i : Nat) ∧ wx.ownsRow w.heap.size 5 1 x i (u8s ((List.range i).map (byteAt l))) ∧ Below w.heap.size w wx) (fun _ c _ => l.length + 8 - (intOf c).toNat)
  case atStart => exact ⟨0, Nat.zero_le _, rfl, World.ownsRow_nil _ _ _ _, Below.refl _ _⟩
  case round =>
    obtain ⟨i, hi, rfl, ho, hB⟩ := hrel
    by_cases hlt : 8 * i < l.length
    · obtain ⟨wo, rfl⟩ : ∃ wo : World, wo = wr := ⟨_, rfl⟩
      have hlt' : ((8 * i : Nat) : Int) < (l.length : Int) := by omega
      go_wp2
      go_loop [5, 6] (fun n c => ∃ j : Nat, j ≤ 8 ∧ c = .int .i64 j ∧ n = .int .i64 (partByte l i j : Nat)) (fun _ c => 8 - (intOf c).toNat)
      case atStart => exact ⟨0, Nat.zero_le _, rfl, rfl⟩
      case round =>
        obtain ⟨j, hj, rfl, rfl⟩ := hrel
        obtain ⟨n, hn⟩ : ∃ n, n = partByte l i j := ⟨_, rfl⟩
        have hnb : n < 2 ^ j := by rw [hn]; exact fold_lt _ j
        have hp : 2 ^ j ≤ 256 := Nat.pow_le_pow_right (n := 2) (by decide) hj
        have hn2 : n < 256 := by omega
        rw [← hn]
        clear hp hnb
        by_cases hj8 : j < 8
        · have hsn : partByte l i (j + 1) = 2 * n + (l.getD (8 * i + j) false).toNat := by
            rw [partByte, List.range_succ, List.foldl_append, hn]; rfl
          have HS := Lib.hid hsn; clear hsn hn
          by_cases hin : 8 * i + j < l.length
          · obtain ⟨b, o, rfl, hc⟩ := H5.out (8 * i + j) (.bool (l.getD (8 * i + j) false)) (by simp [bls, hin])
            have hc' := (hB.cell (p := ⟨b, o + (8 * i + j), none⟩) (World.block_lt_of_cell? w _ hc)).trans hc
            clear hc
            have hin' : ((8 * i : Nat) : Int) + (j : Int) < (l.length : Int) := by omega
            cases hb : l.getD (8 * i + j) false
            · rw [hb] at hc' HS
              go_wp2
              go_round
              case rel => exact ⟨j + 1, by omega, by go_num, by rw [HS.out]; go_num⟩
              case measure => simp [intOf]; omega
            · rw [hb] at hc' HS
              go_wp2
              go_round
              case rel => exact ⟨j + 1, by omega, by go_num, by rw [HS.out]; go_num⟩
              case measure => simp [intOf]; omega
          · have hin' : ¬ (((8 * i : Nat) : Int) + (j : Int) < (l.length : Int)) := by omega
            have hd : l.getD (8 * i + j) false = false := by rw [List.getD, List.getElem?_eq_none (by omega)]; rfl
            rw [hd] at HS
            clear hd
            go_wp2
            go_round
            case rel => exact ⟨j + 1, by omega, by go_num, by rw [HS.out]; go_num⟩
            case measure => simp [intOf]; omega
        · obtain rfl : j = 8 := by omega
          have hnn : n = byteAt l i := hn
          have HN := Lib.hid hnn; clear hnn hn
          go_wp2_with (at_builtin; refine wpList_app Eu8 rfl (.tmp 35) (.tmp 38) rfl w.heap.size rfl (ho.alloc _) rfl (Sl.one _ _ _) (by intro u hu; simp at hu; subst hu; rfl) (by unfold maxLen; omega) (by omega) (by have := hB.size; simp; omega) ?_)
          intro v2 w2 ho2 hg2 _
          have hB2 := (hB.alloc hB.size (.cells #[.int .u8 n] 5)).grown hg2 (by have := hB.size; simp; omega) (fun q hq => (ho.lt q hq).1)
          clear ho hB hg2
          go_wp2
          go_roundw
          case rel =>
            refine ⟨i + 1, by omega, by go_num, ?_, hB2⟩
            rw [List.range_succ, List.map_append, List.map_singleton, ← HN.out]
            simpa [u8s] using ho2
          case measure => simp [intOf]; omega
    · have hi' : i = (l.length + 7) / 8 := by omega
      subst hi'
      have hlt' : ¬ (((8 * ((l.length + 7) / 8) : Nat) : Int) < (l.length : Int)) := by omega
      go_wp2
      go_ret
      exact ⟨_, rfl, by simpa [pack, pack_length] using ho, hB⟩

end Go.Proofs.Ytjbapbenlaccfaa
