/-
  Shift, Join.
-/
import Derived.Test.YtjedbffikhmbhaaCrcC
import Derived.Laws.EntriesVeiled
namespace Go.Proofs.Ytjedbffikhmbhaa
open Go Go.RowKit Go.Th Go.Th.Crc

/-- What so many noughts make of the 32 bits. -/
def madeC (K i : Nat) : List Value := (List.range 32).map fun j => .int .u32 (if j < i then ((sk K (2 ^ j) : Nat) : Int) else 0)
theorem madeC_at (K i j : Nat) (hj : j < 32) (h : j < i) : (madeC K i)[j]? = some (.int .u32 (sk K (2 ^ j) : Nat)) := by simp [madeC, hj, h]
theorem made_set (K i : Nat) (h : i < 32) : (madeC K i).set i (.int .u32 (sk K (2 ^ i) : Nat)) = madeC K (i + 1) := by
  apply List.ext_getElem?
  intro j
  rw [List.getElem?_set]
  by_cases hj : i = j
  · subst hj
    simp [madeC, h]
  · rw [if_neg hj]
    simp only [madeC, List.getElem?_map]
    by_cases h32 : j < 32
    · rw [List.getElem?_range h32]
      simp only [Option.map_some]
      by_cases hlt : j < i
      · rw [if_pos hlt, if_pos (by omega)]
      · rw [if_neg hlt, if_neg (by omega)]
    · rw [List.getElem?_eq_none (by simp; omega)]; rfl
theorem madeC_len (K i : Nat) : (madeC K i).length = 32 := by simp [madeC]

theorem change_val (A M reg i : Nat) (hA : A < 4294967296) (hM : M < 4294967296) (hr : reg < 4294967296) :
    bits BinOp.xor IntKind.u32 (A : Int) ((M : Int) * bits BinOp.and IntKind.u32 ((reg : Int) / 2 ^ i) 1 % 4294967296) = ((A ^^^ M * (reg / 2 ^ i % 2) : Nat) : Int) := by
  have hq : reg / 2 ^ i < 4294967296 := Nat.lt_of_le_of_lt (Nat.div_le_self _ _) hr
  have e0 : (reg : Int) / 2 ^ i = ((reg / 2 ^ i : Nat) : Int) := by simp
  rw [e0, and1 _ hq]
  generalize reg / 2 ^ i = q
  have h2 : q % 2 = 0 ∨ q % 2 = 1 := by omega
  rcases h2 with h2 | h2 <;> rw [h2]
  · exact xor32 A 0 hA (by decide) _ _ rfl (by simp)
  · rw [Nat.mul_one]
    exact xor32 A M hA hM _ _ rfl (by simp; omega)

set_option maxHeartbeats 1600000 in
theorem change_any (K m reg : Nat) (w : World) (hr : reg < 4294967296) (hb : Blk w m 38 (madeC K 32)) :
    Calls Try.prog 17 #[.int .u32 reg, .pointer (some ⟨m, 0, none⟩)] w fun e w' => e = .returned (.int .u32 (sk K reg : Nat)) ∧ ∃ n, w' = w.drewN n := by
  go_enter Try.func17, Try.ntmps17
  go_wp2
  go_loopw [4, 6] (fun a c wx => ∃ i n : Nat, i ≤ 32 ∧ c = .int .i64 i ∧ a = .int .u32 (sk K (reg % 2 ^ i) : Nat) ∧ wx = w.drewN n) (fun _ c _ => 32 - (intOf c).toNat)
  case atStart => exact ⟨0, 0, by omega, rfl, by simp [sk_zero, Nat.mod_one], rfl⟩
  case round =>
    obtain ⟨i, n, hi, rfl, rfl, rfl⟩ := hrel
    by_cases hlt : i < 32
    · have hc := hb.cell (madeC_at K 32 i hlt hlt)
      have hi0 : (0 : Int) ≤ i := by omega
      have hi1 : (i : Int) < 32 := by omega
      have hs := change_step K reg i
      have h1 : sk K (reg % 2 ^ i) < 4294967296 := sk_lt (Nat.lt_of_le_of_lt (Nat.mod_le _ _) hr) K
      have h2 : sk K (2 ^ i) < 4294967296 := sk_lt (Nat.pow_lt_pow_right (a := 2) (by decide) hlt) K
      obtain ⟨A, hA⟩ : ∃ A, A = sk K (reg % 2 ^ i) := ⟨_, rfl⟩
      obtain ⟨M, hM⟩ : ∃ M, M = sk K (2 ^ i) := ⟨_, rfl⟩
      rw [← hA] at h1 hs ⊢
      rw [← hM] at h2 hs hc
      have HS := Lib.hid hs; clear hs hA hM
      go_wp2
      go_quiet (fail)
      go_wp2
      go_roundw
      case rel => exact ⟨i + 1, _, by omega, by go_num, by rw [← HS.out, change_val A M reg i h1 h2 hr], rfl⟩
      case measure => simp [intOf]; omega
    · obtain rfl : i = 32 := by omega
      go_wp2
      go_ret
      exact ⟨ret_int (by rw [Nat.mod_eq_of_lt (by simpa using hr)]), _, rfl⟩

theorem turned_row (w : World) (m : Nat) (ds : Array Value) : Turned (fun k => k = m) w (w.setRow m ds) :=
  ⟨rfl, rfl, rfl, by simp [World.setRow], fun k _ hn => setRow_other w m k ds hn⟩

/-- The closure that changes a register. -/
def chg (m : Nat) : Value := .func (.func 17) #[] #[.pointer (some ⟨m, 0, none⟩)]

set_option maxHeartbeats 1600000 in
theorem double_any (G m f : Nat) (w : World) (hb : Blk w m 38 (madeC G 32)) (hf : Blk w f 37 [chg m]) (hmf : m ≠ f) :
    Calls Try.prog 18 #[.pointer (some ⟨f, 0, none⟩), .pointer (some ⟨m, 0, none⟩)] w fun e w' => e = .returned (.tuple #[]) ∧ Blk w' m 38 (madeC (G + G) 32) ∧ Turned (fun k => k = m) w w' := by
  have hml := hb.lt
  have hfl := hf.lt
  go_enter Try.func18, Try.ntmps18
  go_wp2
  go_loopw [4] (fun c wx => ∃ i : Nat, i ≤ 32 ∧ c = .int .i64 i ∧ Blk wx w.heap.size 38 (madeC (G + G) i) ∧ Below w.heap.size w wx) (fun c _ => 32 - (intOf c).toNat)
  case atStart => exact ⟨0, by omega, rfl, Blk.new w _ _, (Below.refl _ _).alloc (Nat.le_refl _) _⟩
  case round =>
    obtain ⟨i, hi, rfl, ht, hB⟩ := hrel
    by_cases hlt : i < 32
    · have hm2 := hb.below hB hml
      have c0 := (hf.below hB hfl).cell (i := 0) rfl
      have c1 := hm2.cell (madeC_at G 32 i hlt hlt)
      have hi0 : (0 : Int) ≤ i := by omega
      have hi1 : (i : Int) < 32 := by omega
      have h2 : sk G (2 ^ i) < 4294967296 := sk_lt (Nat.pow_lt_pow_right (a := 2) (by decide) hlt) G
      have hset := ht.set i (.int .u32 (sk (G + G) (2 ^ i) : Nat)) (by simp [madeC]; omega)
      rw [made_set (G + G) i hlt, sk_add] at hset
      have hc := ht.cell (i := i) (u := .int .u32 0) (by simp [madeC, hlt])
      have hfr := ht.free i
      unfold chg at c0
      obtain ⟨M, hM⟩ : ∃ M, M = sk G (2 ^ i) := ⟨_, rfl⟩
      rw [← hM] at h2 hset c1
      have HM := Lib.hid hM; clear hM
      go_wp2
      refine wp_region_held_drew (S := (fun w' : World => w'.cell? ⟨f, 0, none⟩ = some (.func (.func 17) #[] #[.pointer (some ⟨m, 0, none⟩)]) ∧ w'.cell? ⟨m, i, none⟩ = some (.int .u32 (M : Nat)))) (by kernel_rfl) (⟨c0, c1⟩) (fun hHeld => ?_)
      refine wpAnyH_take (i := 0) (v := ?v29) rfl (by kernel_rfl) (by kernel_rfl) (by kernel_rfl) (fun _ _ _ h => h) (Or.inl ⟨by rfl, ?hy29⟩) hHeld ?rest29
      case hy29 => (intro w' hSw; (try dsimp only at hSw); go_simp; (try with_reducible rfl))
      try simp only [Act.put, List.setIfInBounds_toArray, List.set_cons_zero, List.set_cons_succ, List.getElem_toArray, List.getElem_cons_zero, List.getElem_cons_succ]
      refine wpAnyH_take (i := 1) (v := ?v30) rfl (by kernel_rfl) (by kernel_rfl) (by kernel_rfl) (fun _ _ _ h => h) (Or.inl ⟨by rfl, ?hy30⟩) hHeld ?rest30
      case hy30 => (intro w' hSw; (try dsimp only at hSw); go_simp; (try with_reducible rfl))
      try simp only [Act.put, List.setIfInBounds_toArray, List.set_cons_zero, List.set_cons_succ, List.getElem_toArray, List.getElem_cons_zero, List.getElem_cons_succ]
      refine wpAnyH_take (i := 2) (v := ?v31) rfl (by kernel_rfl) (by kernel_rfl) (by kernel_rfl) (fun _ _ _ h => h) (Or.inl ⟨by rfl, ?hy31⟩) hHeld ?rest31
      case hy31 => (intro w' hSw; (try dsimp only at hSw); go_simp; (try with_reducible rfl))
      try simp only [Act.put, List.setIfInBounds_toArray, List.set_cons_zero, List.set_cons_succ, List.getElem_toArray, List.getElem_cons_zero, List.getElem_cons_succ]
      refine wpAnyH_take (i := 3) (v := ?v32) rfl (by kernel_rfl) (by kernel_rfl) (by kernel_rfl) (fun _ _ _ h => h) (Or.inl ⟨by rfl, ?hy32⟩) hHeld ?rest32
      case hy32 => (intro w' hSw; (try dsimp only at hSw); go_simp; (try with_reducible rfl))
      try simp only [Act.put, List.setIfInBounds_toArray, List.set_cons_zero, List.set_cons_succ, List.getElem_toArray, List.getElem_cons_zero, List.getElem_cons_succ]
      refine wpAnyH_take (i := 4) (v := ?v33) rfl (by kernel_rfl) (by kernel_rfl) (by kernel_rfl) (fun _ _ _ h => h) (Or.inl ⟨by rfl, ?hy33⟩) hHeld ?rest33
      case hy33 => (intro w' hSw; (try dsimp only at hSw); go_simp; (try with_reducible rfl))
      try simp only [Act.put, List.setIfInBounds_toArray, List.set_cons_zero, List.set_cons_succ, List.getElem_toArray, List.getElem_cons_zero, List.getElem_cons_succ]
      refine wpAnyH_ready (rs := [5]) (by kernel_rfl) (by simp) ?_
      refine AllReadyH.cons rfl (fun K hK => ?_) AllReadyH.nil
      go_simp
      refine (change_any G m M _ h2 hm2.drew).mono ?_
      rintro e w1 ⟨rfl, n, rfl⟩
      try go_wp2_with fail
      refine hK.out _ _ (⟨c0, c1⟩) (fun hHeld => ?_)
      clear hK K
      try simp only [Act.put, List.setIfInBounds_toArray, List.set_cons_zero, List.set_cons_succ, List.getElem_toArray, List.getElem_cons_zero, List.getElem_cons_succ]
      refine wpAnyH_take (i := 6) (v := ?v35) rfl (by kernel_rfl) (by kernel_rfl) (by kernel_rfl) (fun _ _ _ h => h) (Or.inl ⟨by rfl, ?hy35⟩) hHeld ?rest35
      case hy35 => (intro w' hSw; (try dsimp only at hSw); go_simp; (try with_reducible rfl))
      try simp only [Act.put, List.setIfInBounds_toArray, List.set_cons_zero, List.set_cons_succ, List.getElem_toArray, List.getElem_cons_zero, List.getElem_cons_succ]
      refine wpAnyH_ready (rs := [7]) (by kernel_rfl) (by simp) ?_
      refine AllReadyH.cons rfl (fun K hK => ?_) AllReadyH.nil
      go_simp
      skip
      try go_wp2_with fail
      refine hK.out _ _ (⟨((hf.below hB hfl).other ⟨w.heap.size, i, none⟩ _ (by show w.heap.size ≠ f; omega)).cell rfl, by rw [HM.out]; exact (hm2.other ⟨w.heap.size, i, none⟩ _ (by show w.heap.size ≠ m; omega)).cell (madeC_at G 32 i hlt hlt)⟩) (fun hHeld => ?_)
      clear hK K
      try simp only [Act.put, List.setIfInBounds_toArray, List.set_cons_zero, List.set_cons_succ, List.getElem_toArray, List.getElem_cons_zero, List.getElem_cons_succ]
      refine wpAnyH_done (by kernel_rfl) ?_ _
      clear c0 c1 hc hfr
      go_wp2
      go_roundw
      case rel => exact ⟨i + 1, by omega, by go_num, hset, (below_dN hB _).setCell (Nat.le_refl _) _⟩
      case measure => simp [intOf]; omega
    · obtain rfl : i = 32 := by omega
      have hm2 := hb.below hB hml
      have hsz := hB.size
      go_wp2_with (first
        | refine wpList_load_row rfl 38 (.tmp 2) rfl w.heap.size rfl 38 _ (0, 0) _ ht Try.underlying38 rfl (by kernel_rfl) ?_
        | refine wpList_store_row rfl 38 (.tmp 1) (.tmp 15) rfl m _ rfl rfl 38 _ hm2 (by kernel_rfl) rfl (by simp only [madeC, List.all_toArray, List.all_map, List.all_eq_true]; intro x _; rfl) ?_)
      go_end0
      exact ⟨rfl, hm2.row _, ((Turned.refl _ _).trans (Turned.below hB) (by intro k _ h; exact h)).trans (turned_row wr m _) (by intro k _ h; exact h)⟩

theorem half_odd (a p t : Nat) (h : t % 2 = 1) : a + p + (p + p) * (t / 2) = a + p * t := by
  have e : t = 2 * (t / 2) + 1 := by omega
  conv => rhs; rw [e]
  rw [Nat.mul_add, Nat.add_mul, Nat.mul_one, show p * (2 * (t / 2)) = p * (t / 2) + p * (t / 2) by rw [Nat.two_mul, Nat.mul_add]]
  omega
theorem half_even (a p t : Nat) (h : ¬ t % 2 = 1) : a + (p + p) * (t / 2) = a + p * t := by
  have e : t = 2 * (t / 2) := by omega
  conv => rhs; rw [e]
  rw [Nat.add_mul, show p * (2 * (t / 2)) = p * (t / 2) + p * (t / 2) by rw [Nat.two_mul, Nat.mul_add]]

set_option maxHeartbeats 3200000 in
theorem shift_any (x : Nat) (n : Int) (w : World) (hx : x < 4294967296) (hn : n ≤ 9223372036854775807) :
    Calls Try.prog 11 #[.int .u32 x, .int .i64 n] w fun e w' => e = .returned (.int .u32 (sk (8 * n.toNat) x : Nat)) ∧ Below w.heap.size w w' := by
  go_enter Try.func11, Try.ntmps11
  go_wp2
  go_loopw [9] (fun c wx => ∃ i : Nat, i ≤ 32 ∧ c = .int .i64 i ∧ Blk wx w.heap.size 38 (madeC 8 i) ∧ Below w.heap.size w wx) (fun c _ => 32 - (intOf c).toNat)
  case atStart => exact ⟨0, by omega, rfl, Blk.new w _ _, (Below.refl _ _).alloc (Nat.le_refl _) _⟩
  case round =>
    obtain ⟨i, hi, rfl, hb, hB⟩ := hrel
    by_cases hlt : i < 32
    · have hc := hb.cell (i := i) (u := .int .u32 0) (by simp [madeC, hlt])
      have hf := hb.free i
      have hp : 2 ^ i < 4294967296 := Nat.pow_lt_pow_right (a := 2) (by decide) hlt
      have hset := hb.set i (.int .u32 (sk 8 (2 ^ i) : Nat)) (by simp [madeC]; omega)
      have hp' : (2 : Int) ^ i % 4294967296 = ((2 ^ i : Nat) : Int) := by
        rw [show (2 : Int) ^ i = ((2 ^ i : Nat) : Int) from (Int.natCast_pow 2 i).symm]; generalize 2 ^ i = p at *; omega
      go_wp2_with fail
      refine (step_any (2 ^ i) hp _).mono ?_
      rintro e w1 ⟨rfl, rfl⟩
      rw [made_set 8 i hlt] at hset
      go_wp2
      go_roundw
      case rel => exact ⟨i + 1, by omega, by go_num, hset, hB.setCell (Nat.le_refl _) _⟩
      case measure => simp [intOf]; omega
    · have hb : Blk wr w.heap.size 38 (madeC 8 32) := by rw [show i = 32 by omega] at hb; exact hb
      obtain ⟨wo, rfl⟩ : ∃ wo : World, wo = wr := ⟨_, rfl⟩
      have hsz := hB.size
      have hBlt := hb.lt
      go_wp2
      go_loopw [0, 1] (fun s c wx => ∃ (z : Int) (a p : Nat), c = .int .i64 z ∧ z ≤ 9223372036854775807 ∧ s = .int .u32 (sk (8 * a) x : Nat) ∧ Hid (a + p * z.toNat = n.toNat) ∧ Blk wx w.heap.size 38 (madeC (8 * p) 32) ∧
        Blk wx wo.heap.size 37 [chg w.heap.size] ∧ Below w.heap.size w wx) (fun _ c _ => (intOf c).toNat)
      case atStart => exact ⟨n, 0, 1, rfl, hn, rfl, by show _ = _; omega, hb.alloc _, Blk.new wo _ [chg w.heap.size], hB.alloc hsz _⟩
      case round =>
        obtain ⟨F, hF⟩ : ∃ F, F = wo.heap.size := ⟨_, rfl⟩
        rw [← hF] at hrel hsz hBlt ⊢
        clear hb hB hF
        obtain ⟨z, a, p, rfl, hz, rfl, hap, hm, hf, hB⟩ := hrel
        by_cases hz0 : 0 < z
        · obtain ⟨t, rfl⟩ := Int.eq_ofNat_of_zero_le (Int.le_of_lt hz0)
          have ht0 : 0 < t := by omega
          have c0 := hf.cell (i := 0) rfl
          have hs := sk_lt hx (8 * a)
          have hHA := hap.out
          rw [Int.toNat_natCast] at hHA
          have HA := Lib.hid hHA; clear hHA hap
          unfold chg at c0
          have hml := hm.lt
          have hfl := hf.lt
          by_cases hodd : t % 2 = 1
          · have hd : ((t : Int) % 2 == 1) = true := by rw [beq_iff_eq]; omega
            have hnew : sk (8 * (a + p)) x = sk (8 * p) (sk (8 * a) x) := by rw [Nat.mul_add, sk_add]
            obtain ⟨X, hX⟩ : ∃ X, X = sk (8 * a) x := ⟨_, rfl⟩
            rw [← hX] at hs hnew ⊢
            have HX := Lib.hid hnew; clear hnew hX
            have HO := Lib.hid hodd; clear hodd
            go_wp2_with fail
            refine (change_any (8 * p) w.heap.size X _ hs hm).mono ?_
            rintro e w1 ⟨rfl, n1, rfl⟩
            go_wp2_with fail
            refine (double_any (8 * p) w.heap.size F _ (hm.drewN n1) (hf.drewN n1) (by omega)).mono ?_
            rintro e w2 ⟨rfl, hm2, ht2⟩
            have hf2 := (hf.drewN n1).turned ht2 (by show ¬ F = w.heap.size; omega)
            have hB2 := ht2.old (B := w.heap.size) (below_dN hB n1) hB.size (by intro k hk h; have h : k = w.heap.size := h; omega)
            clear c0 hm hf hB ht2
            go_wp2
            go_roundw
            case rel => exact ⟨((t / 2 : Nat) : Int), a + p, p + p, by go_num, by omega, by rw [HX.out], by show _ = _; have := HA.out; have h1 := HO.out; rw [← this, Int.toNat_natCast]; exact half_odd a p t h1, by rw [Nat.mul_add]; exact hm2, hf2, hB2⟩
            case measure => simp [intOf]; omega
          · have hd : ((t : Int) % 2 == 1) = false := by rw [Bool.eq_false_iff]; intro h; rw [beq_iff_eq] at h; omega
            have HO := Lib.hid hodd; clear hodd
            go_wp2_with fail
            refine (double_any (8 * p) w.heap.size F _ hm hf (by omega)).mono ?_
            rintro e w2 ⟨rfl, hm2, ht2⟩
            have hf2 := hf.turned ht2 (by show ¬ F = w.heap.size; omega)
            have hB2 := ht2.old (B := w.heap.size) hB hB.size (by intro k hk h; have h : k = w.heap.size := h; omega)
            clear c0 hm hf hB ht2
            go_wp2
            go_roundw
            case rel => exact ⟨((t / 2 : Nat) : Int), a, p + p, by go_num, by omega, rfl, by show _ = _; have := HA.out; have h1 := HO.out; rw [← this, Int.toNat_natCast]; exact half_even a p t h1, by rw [Nat.mul_add]; exact hm2, hf2, hB2⟩
            case measure => simp [intOf]; omega
        · have hz' : ¬ (0 < z) := hz0
          have ha : a = n.toNat := by
            have := hap.out
            rw [show z.toNat = 0 by omega, Nat.mul_zero] at this
            exact this
          have HA := Lib.hid ha; clear ha
          go_wp2
          go_ret
          exact ⟨ret_int (by rw [HA.out]), hB⟩
end Go.Proofs.Ytjedbffikhmbhaa
