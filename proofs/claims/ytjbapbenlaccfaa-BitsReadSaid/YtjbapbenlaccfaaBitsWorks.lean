/-
  Put, Get; the law's own example.
-/
import Derived.Test.YtjbapbenlaccfaaReader
import Derived.Test.YtjbapbenlaccfaaRef01
namespace Go.Proofs.Ytjbapbenlaccfaa
open Go.RowKit Go.Th

/-- A number in so many bytes, the lowest first. -/
def putBytes (x n : Nat) : List Nat := (List.range n).map fun i => x / 256 ^ i % 256
theorem putBytes_succ (x n : Nat) : putBytes x (n + 1) = putBytes x n ++ [x / 256 ^ n % 256] := by simp [putBytes, List.range_succ]
theorem putBytes_length (x n : Nat) : (putBytes x n).length = n := by simp [putBytes]

theorem u8s_snoc (p : List Nat) (b : Nat) : u8s (p ++ [b]) = u8s p ++ [.int .u8 b] := by simp [u8s]

set_option maxHeartbeats 1600000 in
theorem put_any (vx : Value) (bs : List Nat) (x n : Nat) (w : World) (h : Sl w 1 vx bs.length (u8s bs)) (hl : bs.length ≤ 70368744177664) (hx : x < 18446744073709551616) (hn : n ≤ 1000000) :
    Calls Try.prog 27 #[vx, .int .u64 x, .int .i64 n] w fun e w' => ∃ v, e = .returned v ∧ w'.ownsRow w.heap.size 5 1 v (bs.length + n) (u8s (bs ++ putBytes x n)) ∧ Below w.heap.size w w' := by
  have hn' : ¬ ((2147483647 : Int) < (n : Int)) := by omega
  obtain ⟨a, cp, rfl, hs⟩ := id h
  go_enter Try.func27, Try.ntmps27
  go_wp2_with (go_at_call 28; refine (clone_any _ bs _ h (by omega)).mono ?_; rintro e w2 ⟨v2, rfl, ho, hB⟩)
  go_loopw [1, 7, 14] (fun y v c wx => ∃ i : Nat, i ≤ n ∧ c = .int .i64 i ∧ y = .int .u64 (x / 256 ^ i : Nat) ∧ wx.ownsRow w.heap.size 5 1 v (bs.length + i) (u8s (bs ++ putBytes x i)) ∧ Below w.heap.size w wx) (fun _ _ c _ => n - (intOf c).toNat)
  case atStart => exact ⟨0, Nat.zero_le _, rfl, by simp, by simpa [putBytes] using ho, hB⟩
  case round =>
    clear ho hB
    obtain ⟨i, hi, rfl, rfl, ho, hB⟩ := hrel
    have hsz := hB.size
    obtain ⟨y, hy⟩ : ∃ y, y = x / 256 ^ i := ⟨_, rfl⟩
    have hy2 : y < 18446744073709551616 := by rw [hy]; exact Nat.lt_of_le_of_lt (Nat.div_le_self _ _) hx
    rw [← hy]
    by_cases hlt : i < n
    · have h1 : putBytes x (i + 1) = putBytes x i ++ [y % 256] := by rw [hy]; exact putBytes_succ x i
      have h2 : y / 256 = x / 256 ^ (i + 1) := by rw [hy, Nat.pow_succ, Nat.div_div_eq_div_mul]
      have H1 := Lib.hid h1; clear h1
      have H2 := Lib.hid h2; clear h2 hy
      go_wp2_with (at_builtin; refine wpList_app Eu8 rfl (.tmp 16) (.tmp 19) rfl w.heap.size rfl (ho.alloc _) rfl (Sl.one _ _ _) (by intro u hu; simp at hu; subst hu; rfl) (by unfold maxLen; omega) (by omega) (by simp; omega) ?_)
      intro v2 w2 ho2 hg2 _
      have hB2 := (hB.alloc hB.size (.cells #[.int .u8 ((y : Int) % 256)] 5)).grown hg2 (by simp; omega) (fun q hq => (ho.lt q hq).1)
      clear ho hB hg2
      go_wp2
      go_roundw
      case rel =>
        refine ⟨i + 1, by omega, by go_num, ?_, ?_, hB2⟩
        · congr 1; rw [← H2.out]; omega
        · rw [H1.out, ← List.append_assoc, u8s_snoc]
          have e : ((y % 256 : Nat) : Int) = (y : Int) % 256 := by simp
          rw [e]
          exact ho2
      case measure => simp [intOf]; omega
    · obtain rfl : i = n := by omega
      go_wp2
      go_ret
      exact ⟨_, rfl, ho, hB⟩

/-- The number of so many bytes, the lowest first. -/
def leVal : List Nat → Nat
  | [] => 0
  | b :: r => b + 256 * leVal r
theorem leVal_snoc (l : List Nat) (b : Nat) : leVal (l ++ [b]) = leVal l + b * 256 ^ l.length := by
  induction l with
  | nil => simp [leVal]
  | cons c r ih => simp only [List.cons_append, leVal, ih, List.length_cons, Nat.pow_succ]; rw [Nat.mul_add, Nat.add_assoc]; congr 2; rw [Nat.mul_comm 256, Nat.mul_assoc]
theorem leVal_lt (l : List Nat) (h : ∀ x ∈ l, x < 256) : leVal l < 256 ^ l.length := by
  induction l with
  | nil => simp [leVal]
  | cons c r ih =>
    have h1 := h c (by simp)
    have h2 := ih (fun x hx => h x (by simp [hx]))
    simp only [leVal, List.length_cons, Nat.pow_succ]
    omega

theorem or_shift (x y i : Nat) (hx : x < 256 ^ i) (hy : y < 256) (hi : i < 8) : bits BinOp.or IntKind.u64 (x : Int) (IntKind.u64.wrap ((y : Int) * 2 ^ (8 * i))) = ((x + y * 256 ^ i : Nat) : Int) := by
  have e : (256 : Nat) ^ i = 2 ^ (8 * i) := by rw [Nat.pow_mul]
  have h1 : y * 2 ^ (8 * i) < 18446744073709551616 := by
    have h2 : (2 : Nat) ^ (8 * i) ≤ 2 ^ 56 := Nat.pow_le_pow_right (by decide) (by omega)
    have h3 : y * 2 ^ (8 * i) ≤ 255 * 2 ^ 56 := Nat.mul_le_mul (by omega) h2
    omega
  have h2 : IntKind.u64.wrap ((y : Int) * 2 ^ (8 * i)) = ((y * 2 ^ (8 * i) : Nat) : Int) := by
    have : ((y : Int) * 2 ^ (8 * i)) = ((y * 2 ^ (8 * i) : Nat) : Int) := by simp
    rw [this]
    generalize y * 2 ^ (8 * i) = t at *
    simp [IntKind.wrap, IntKind.bits, IntKind.signed]
    omega
  have h3 : x < 18446744073709551616 := Nat.lt_of_lt_of_le hx (by rw [e]; exact Nat.le_trans (Nat.pow_le_pow_right (n := 2) (by decide) (show 8 * i ≤ 56 by omega)) (by decide))
  rw [h2, u64_or_nat _ _ h3 h1, Nat.or_comm, nat_join (8 * i) _ _ (by simp) (by rw [← e]; exact hx), e, Nat.add_comm]

theorem get_no (vx : Value) (bs : List Nat) (at_ size : Int) (w : World) (h : Sl w 1 vx bs.length (u8s bs)) (hsz : 0 ≤ size) (hs8 : size ≤ 8) (hat : 0 ≤ at_) (hat2 : at_ ≤ 9223372036854775807) (hl : bs.length ≤ 140737488355328) (hno : (bs.length : Int) - size < at_) :
    Calls Try.prog 26 #[vx, .int .i64 at_, .int .i64 size] w fun e w' => e = .returned (.tuple #[.int .u64 0, .int .i64 2]) ∧ w = w' := by
  obtain ⟨a, cp, rfl, hs⟩ := id h
  have h1 : ¬ (size < 0) := by omega
  have h2 : ¬ (8 < size) := by omega
  have h3 : ¬ (at_ < 0) := by omega
  go_enter Try.func26, Try.ntmps26
  go_wp2
  go_ret2
  exact ⟨rfl, rfl⟩

set_option maxHeartbeats 1600000 in
theorem get_yes (vx : Value) (bs : List Nat) (at_ size : Nat) (w : World) (h : Sl w 1 vx bs.length (u8s bs)) (hs8 : size ≤ 8) (hl : bs.length ≤ 140737488355328) (hbyte : ∀ x ∈ bs, x < 256) (hyes : at_ + size ≤ bs.length) :
    Calls Try.prog 26 #[vx, .int .i64 at_, .int .i64 size] w fun e w' => e = .returned (.tuple #[.int .u64 (leVal ((bs.drop at_).take size) : Nat), .int .i64 0]) ∧ w = w' := by
  obtain ⟨a, cp, rfl, hs1, hs2, hs3, hs4, hs5⟩ := id h
  have h1 : ¬ ((size : Int) < 0) := by omega
  have h2 : ¬ ((8 : Int) < size) := by omega
  have h3 : ¬ ((at_ : Int) < 0) := by omega
  have h4 : ¬ ((bs.length : Int) - size < at_) := by omega
  have HS := Lib.hid hs5; clear hs5
  have HBY := Lib.hid hbyte; clear hbyte
  go_enter Try.func26, Try.ntmps26
  go_wp2
  go_loop [8, 29] (fun x c => ∃ i : Nat, i ≤ size ∧ c = .int .i64 i ∧ x = .int .u64 (leVal ((bs.drop at_).take i) : Nat)) (fun _ c => size - (intOf c).toNat)
  case atStart => exact ⟨0, Nat.zero_le _, rfl, rfl⟩
  case round =>
    obtain ⟨i, hi, rfl, rfl⟩ := hrel
    have hll : ((bs.drop at_).take i).length = i := by simp; omega
    have hv : leVal ((bs.drop at_).take i) < 256 ^ i := by
      have := leVal_lt ((bs.drop at_).take i) (fun x hx => HBY.out x (List.mem_of_mem_drop (List.mem_of_mem_take hx)))
      rwa [hll] at this
    by_cases hlt : i < size
    · obtain ⟨b, o, rfl, hc⟩ := HS.out (at_ + i) (.int .u8 (bs[at_ + i]'(by omega) : Nat)) (by simp only [u8s, List.getElem?_map]; rw [List.getElem?_eq_getElem (by omega)]; rfl)
      have hb := HBY.out (bs[at_ + i]'(by omega)) (List.getElem_mem _)
      have hsn : leVal ((bs.drop at_).take (i + 1)) = leVal ((bs.drop at_).take i) + (bs[at_ + i]'(by omega)) * 256 ^ i := by
        rw [List.take_add_one, List.getElem?_drop, List.getElem?_eq_getElem (by omega)]
        show leVal (_ ++ [_]) = _
        rw [leVal_snoc, hll]
      obtain ⟨x, hx⟩ : ∃ x, x = leVal ((bs.drop at_).take i) := ⟨_, rfl⟩
      obtain ⟨y, hy⟩ : ∃ y, y = (bs[at_ + i]'(by omega)) := ⟨_, rfl⟩
      rw [← hy] at hc hb hsn
      rw [← hx] at hv hsn ⊢
      have HN := Lib.hid hsn; clear hsn hx hy hll
      have hv' := Lib.hid hv; clear hv
      go_wp2
      go_round
      case rel => exact ⟨i + 1, by omega, by go_num, by rw [HN.out, or_shift x y i hv'.out hb (by omega)]⟩
      case measure => simp [intOf]; omega
    · obtain rfl : i = size := by omega
      go_wp2
      go_ret2
      exact ⟨rfl, rfl⟩

theorem winv_new (w : World) : WInv (w.alloc (.cells #[.slice none 0 0, .int .i64 0] 26)) w.heap.size 0 w.heap.size (.slice none 0 0) [] := by
  refine ⟨?_, ?_, World.frozen?_alloc_at _ _ _ _ rfl, World.frozen?_alloc_at _ _ _ _ rfl, World.ownsRow_nil _ _ _ _, by simp [Value.ownBlock]⟩
  · rw [World.cell?_alloc_at _ _ _ _ rfl]; rfl
  · rw [World.cell?_alloc_at _ _ _ _ rfl]; rfl

theorem WInv.below {w w' : World} {pb po base : Nat} {v : Value} {l : List Bool} (h : WInv w pb po base v l) (hb : Below w.heap.size w w') : WInv w' pb po base v l :=
  ⟨(hb.cell (p := ⟨pb, po, none⟩) h.lt).trans h.c0, (hb.cell (p := ⟨pb, po + 1, none⟩) h.lt).trans h.c1, (hb.frozen (p := ⟨pb, po, none⟩) h.lt).trans h.f0, (hb.frozen (p := ⟨pb, po + 1, none⟩) h.lt).trans h.f1, ownsRow_below h.own hb, h.ne⟩

theorem RInv.lt {w : World} {pb po base : Nat} {v : Value} {bs : List Nat} {at_ : Nat} {bad : Bool} (h : RInv w pb po base v bs at_ bad) : pb < w.heap.size := by
  have := World.block_lt_of_cell? w _ h.c0
  simpa using this

theorem RInv.below {w w' : World} {pb po base : Nat} {v : Value} {bs : List Nat} {at_ : Nat} {bad : Bool} (h : RInv w pb po base v bs at_ bad) (hb : Below w.heap.size w w') : RInv w' pb po base v bs at_ bad :=
  ⟨(hb.cell (p := ⟨pb, po, none⟩) h.lt).trans h.c0, (hb.cell (p := ⟨pb, po + 1, none⟩) h.lt).trans h.c1, (hb.cell (p := ⟨pb, po + 2, none⟩) h.lt).trans h.c2,
    (hb.frozen (p := ⟨pb, po, none⟩) h.lt).trans h.f0, (hb.frozen (p := ⟨pb, po + 1, none⟩) h.lt).trans h.f1, (hb.frozen (p := ⟨pb, po + 2, none⟩) h.lt).trans h.f2, ownsRow_below h.own hb, h.ne, h.le, h.small, h.byte⟩

theorem WInv.drewN {w : World} {pb po base : Nat} {v : Value} {l : List Bool} (h : WInv w pb po base v l) (n : Nat) : WInv (w.drewN n) pb po base v l :=
  ⟨by simpa using h.c0, by simpa using h.c1, by simpa using h.f0, by simpa using h.f1, h.own, h.ne⟩

/-- A writer over what a reader may have turned. -/
theorem WInv.turned {w w' : World} {S : Nat → Prop} {pb po base : Nat} {v : Value} {l : List Bool} (h : WInv w pb po base v l) (ht : Turned S w w') (hp : ¬ S pb) (hv : ∀ k, v.ownBlock = some k → ¬ S k) : WInv w' pb po base v l :=
  ⟨(ht.cell (p := ⟨pb, po, none⟩) h.lt hp).trans h.c0, (ht.cell (p := ⟨pb, po + 1, none⟩) h.lt hp).trans h.c1, (ht.frozen (p := ⟨pb, po, none⟩) h.lt hp).trans h.f0, (ht.frozen (p := ⟨pb, po + 1, none⟩) h.lt hp).trans h.f1, ht.own h.own hv, h.ne⟩

theorem Sl.bytes {w : World} (cs : List Nat) (t : TypeId) (n : Nat) (hn : n = cs.length) (hm : n ≤ maxLen) : Sl (w.alloc (.cells (u8s cs).toArray t)) 1 (.slice (some ⟨w.heap.size, 0, none⟩) n n) n (u8s cs) := by
  subst hn
  refine ⟨_, _, rfl, by simp [u8s], Nat.le_refl _, hm, fun h => (by cases h), ?_⟩
  intro j u hu
  refine ⟨_, _, rfl, ?_⟩
  rw [World.cell?_alloc_at _ _ _ _ rfl]
  simpa using hu

set_option maxHeartbeats 3200000 in
theorem works_any (w : World) : Calls Try.prog 6 #[] w fun e w' => e = .returned (.bool true) ∧ Below w.heap.size w w' := by
  have hW0 := winv_new w
  go_enter Try.func6, Try.ntmps6
  go_wp2_with fail
  refine (num_any 5 3 (by decide) (by decide) w.heap.size 0 w.heap.size _ _ _ hW0 (by decide) (by simp)).mono ?_
  rintro e w1 ⟨rfl, v1, hW1, hG1⟩
  go_wp2_with fail
  refine (ones_any 2 (by decide) w.heap.size 0 w.heap.size _ _ _ hW1 (by decide) (by have := hG1.turned.size; simp at this; omega)).mono ?_
  rintro e w2 ⟨rfl, v2, hW2, hG2⟩
  have hG12 := hG1.trans hG2
  clear hG1 hG2
  go_wp2_with fail
  refine (bit_any true w.heap.size 0 w.heap.size _ _ _ hW2 (by decide) (by have := hG12.turned.size; simp at this; omega)).mono ?_
  rintro e w3 ⟨rfl, v3, hW3, hG3⟩
  have hG := hG12.trans hG3
  clear hG12 hG3
  have hB3 : Below w.heap.size w w3 := hG.turned.old (B := w.heap.size) ((Below.refl _ _).alloc (Nat.le_refl _) _) (by simp) (by rintro k hk (rfl | h); omega; simp [Value.ownBlock] at h)
  rw [show ([] ++ numBits 5 3 ++ onesBits 2 ++ [true]) = [true, false, true, true, true, false, true] from by decide] at hW3
  clear hW0 hW1 hW2 hG
  go_wp2_with fail
  refine (bytes_any w.heap.size 0 w.heap.size _ _ _ hW3 (by decide)).mono ?_
  rintro e w4 ⟨vb, rfl, hob, hB4⟩
  rw [show pack [true, false, true, true, true, false, true] = [186] from by decide] at hob
  have hW4 := hW3.below hB4
  have hv3 : ∀ k, v3.ownBlock = some k → k < w3.heap.size := fun k hk => (hW3.own.lt k hk).2
  clear hW3
  obtain ⟨g, cp, rfl, hg1, hg2, hgc, hgm⟩ := ownsRow_val hob (by decide)
  have hob0 : w4.cell? ⟨g, 0, none⟩ = some (.int .u8 186) := by
    rw [hob.cellAt 0 (by decide)]; rfl
  go_wp2_with fail
  refine (read_any _ [186] _ (Sl.of_own hob) (by decide) (by decide)).mono ?_
  rintro e w5 ⟨rb, vr, rfl, hrb, hR5, hB5⟩
  have hW5 := hW4.below hB5
  have hw5 : w4.heap.size ≤ rb := hrb
  have hgr : g ≠ rb := by omega
  have hob5 : w5.cell? ⟨g, 0, none⟩ = some (.int .u8 186) := (hB5.cell (p := ⟨g, 0, none⟩) hg2).trans hob0
  have hB : Below w.heap.size w w5 := (hB3.trans (hB4.mono hB3.size)).trans (hB5.mono (Nat.le_trans hB3.size hB4.size))
  have hs3 := hB3.size
  have hs4 := hB4.size
  have hs5 := hB5.size
  clear hB3 hB4 hB5 hob hob0 hW4
  have C6 := rnum_yes rb 0 _ _ [186] 0 false 3 _ hR5 (by decide)
  rw [show valAt [186] 0 3 = 5 from by decide] at C6
  have HR5 := Lib.hid hR5; clear hR5
  go_wp2_with fail
  refine C6.mono ?_
  rintro e w6 ⟨rfl, hR6, hT6⟩
  go_wp2_with fail
  refine (rones_yes rb 0 _ _ [186] 3 false 2 9 _ hR6 (by decide) (by decide) (by decide) (by decide)).mono ?_
  rintro e w7 ⟨rfl, hR7, hT7⟩
  have C8 := bit_yes rb 0 _ _ [186] 6 false _ hR7 (by decide)
  rw [show bitAt [186] 6 = true from by decide] at C8
  go_wp2_with fail
  refine C8.mono ?_
  rintro e w8 ⟨rfl, hR8, hT8⟩
  go_wp2_with fail
  refine (at_any rb 0 _ _ [186] 7 false _ hR8).mono ?_
  rintro e w8' ⟨rfl, rfl⟩
  have C9 := close_any rb 0 _ _ [186] 7 false _ hR8
  rw [show closes [186] 7 false = true from by decide] at C9
  go_wp2_with fail
  refine C9.mono ?_
  rintro e w9 ⟨rfl, hR9', hT9⟩
  have hR9 : RInv w9 rb 0 _ _ [186] 8 false := hR9' trivial
  have hT : Turned (fun k => k = rb) w5 w9 := ((hT6.trans hT7 (fun _ _ h => h)).trans hT8 (fun _ _ h => h)).trans hT9 (fun _ _ h => h)
  have hW9 := hW5.turned hT (by omega) (by intro k hk; have := hv3 k hk; omega)
  have hob9 : w9.cell? ⟨g, 0, none⟩ = some (.int .u8 186) := (hT.cell (p := ⟨g, 0, none⟩) (by show g < _; omega) hgr).trans hob5
  have hB9 : Below w.heap.size w w9 := hT.old hB (by omega) (by intro k hk; omega)
  clear hT6 hT7 hT8 hT9 hT hR6 hR7 hR8 hR9' C6 C8 C9 HR5 hob5 hW5 hB
  have S10 : Sl (w9.alloc (.cells #[.int .u8 1, .int .u8 2, .int .u8 3] 5)) 1 (.slice (some ⟨w9.heap.size, 0, none⟩) 3 3) 3 (u8s [1, 2, 3]) := Sl.bytes (w := w9) [1, 2, 3] 5 3 rfl (by decide)
  have C10 : Calls Try.prog 26 #[.slice (some ⟨w9.heap.size, 0, none⟩) 3 3, .int .i64 1, .int .i64 2] (w9.alloc (.cells #[.int .u8 1, .int .u8 2, .int .u8 3] 5)) fun e w' => e = .returned (.tuple #[.int .u64 770, .int .i64 0]) ∧ w9.alloc (.cells #[.int .u8 1, .int .u8 2, .int .u8 3] 5) = w' :=
    get_yes _ [1, 2, 3] 1 2 _ S10 (by decide) (by decide) (by decide) (by decide)
  go_wp2_with fail
  refine C10.mono ?_
  rintro e w10 ⟨rfl, rfl⟩
  clear S10 C10
  obtain ⟨w11, hw11⟩ : ∃ x, x = w9.alloc (.cells #[.int .u8 1, .int .u8 2, .int .u8 3] 5) := ⟨_, rfl⟩
  have hB11 : Below w9.heap.size w9 w11 := by rw [hw11]; exact (Below.refl _ _).alloc (Nat.le_refl _) _
  rw [← hw11]
  clear hw11
  have S11 : Sl (w11.alloc (.cells #[.int .u8 1] 5)) 1 (.slice (some ⟨w11.heap.size, 0, none⟩) 1 1) 1 (u8s [1]) := Sl.bytes (w := w11) [1] 5 1 rfl (by decide)
  have C11 : Calls Try.prog 26 #[.slice (some ⟨w11.heap.size, 0, none⟩) 1 1, .int .i64 0, .int .i64 2] (w11.alloc (.cells #[.int .u8 1] 5)) fun e w' => e = .returned (.tuple #[.int .u64 0, .int .i64 2]) ∧ w11.alloc (.cells #[.int .u8 1] 5) = w' :=
    get_no _ [1] 0 2 _ S11 (by decide) (by decide) (by decide) (by decide) (by decide) (by decide)
  go_wp2_with fail
  refine C11.mono ?_
  rintro e w12 ⟨rfl, rfl⟩
  clear S11 C11
  obtain ⟨w12, hw12⟩ : ∃ x, x = w11.alloc (.cells #[.int .u8 1] 5) := ⟨_, rfl⟩
  have hB12 : Below w9.heap.size w9 w12 := by rw [hw12]; exact hB11.alloc hB11.size _
  have hW12 := hW9.below hB12
  have hR12 := hR9.below hB12
  have hob12 : w12.cell? ⟨g, 0, none⟩ = some (.int .u8 186) := (hB12.cell (p := ⟨g, 0, none⟩) (World.block_lt_of_cell? _ _ hob9)).trans hob9
  have hBB := hB9.trans (hB12.mono hB9.size)
  rw [← hw12]
  clear hw12 hW9 hR9 hob9 hB12 hB11
  go_wp2_with (go_at_call 10; refine (len_any _ 0 _ _ _ _ hW12).mono ?_; rintro e w13 ⟨rfl, rfl⟩)
  refine (right_any rb 0 _ _ [186] 8 false _ hR12).mono ?_
  rintro e w13 ⟨rfl, rfl⟩
  have C14 : Calls Try.prog 27 #[.slice none 0 0, .int .u64 770, .int .i64 3] w12 fun e w' => ∃ v, e = .returned v ∧ w'.ownsRow w12.heap.size 5 1 v 3 (u8s [2, 3, 0]) ∧ Below w12.heap.size w12 w' :=
    put_any _ [] 770 3 _ (Sl.nil _ _) (by decide) (by decide) (by decide)
  go_wp2_with fail
  refine C14.mono ?_
  rintro e w14 ⟨v14, rfl, ho14, hB14⟩
  obtain ⟨g14, cp14, rfl, _, _, _, _⟩ := ownsRow_val ho14 (by decide)
  have e14 : ∀ wx, wx = w14 → (convert 24 9 (.slice (some ⟨g14, 0, none⟩) 3 cp14)).run Try.prog wx = .ok (.string ⟨#[2, 3, 0]⟩) wx := by
    rintro wx rfl
    exact run_str (Sl.of_own ho14)
  have hBB14 := hBB.trans (hB14.mono hBB.size)
  clear C14 hB14 hBB ho14 hR12 hW12 hob12
  have e14' := e14 w14 rfl
  clear e14
  go_wp2_with fail
  have S15 : Sl (w14.alloc (.cells #[.int .u8 1, .int .u8 2] 5)) 1 (.slice (some ⟨w14.heap.size, 0, none⟩) 2 2) 2 (u8s [1, 2]) := Sl.bytes (w := w14) [1, 2] 5 2 rfl (by decide)
  refine (read_any _ [1, 2] _ S15 (by decide) (by decide)).mono ?_
  rintro e w15 ⟨r15, v15, rfl, h15, hR15, hB15⟩
  have hBB15 := hBB14.trans (((Below.refl _ _).alloc (Nat.le_refl _) _).trans (hB15.mono (by simp)) |>.mono hBB14.size)
  have C16 : Calls Try.prog 24 #[.pointer (some ⟨r15, 0, none⟩)] w15 fun e w' => e = .returned (.int .i64 16) ∧ ∃ n, w' = w15.drewN n := left_any r15 0 _ _ [1, 2] 0 false _ hR15
  clear S15 hBB14 hB15 hR15 e14'
  go_wp2_with fail
  refine C16.mono ?_
  rintro e w16 ⟨rfl, n16, rfl⟩
  clear C16
  go_wp2_with fail
  go_ret
  exact ⟨rfl, below_dN hBB15 _⟩
end Go.Proofs.Ytjbapbenlaccfaa
