/-
  A number times a power of two, and more than itself: the code's.
-/
import Derived.Test.YtghioakpigdagaaDoorNatW
set_option linter.unusedVariables false
set_option linter.unusedSimpArgs false
namespace Go.Proofs.YtghioakpigdagaaDoor
open Go Go.RowKit Go.Th Go.Th.Dig

set_option maxRecDepth 20000 in
set_option maxHeartbeats 3200000 in
theorem shl_go (v : Value) (p s : Nat) (w : World) (hp : IsN w v p) (h1 : len32 p ≤ 1000) (hs : 1 ≤ s) (hs2 : s ≤ 100000) (hp0 : p ≠ 0) :
    Calls Tryd.prog 27 #[v, .int .i64 s] w fun e w' => ∃ t, e = .returned t ∧ IsN w' t (p * 2 ^ s) ∧ Below w.heap.size w w' := by
  obtain ⟨a, ca, rfl, hS⟩ := hp.form
  have hln := len_nb hp0
  have hl0 : 0 < len32 p := Nat.pos_of_ne_zero fun e => hp0 ((len32_0 p).1 e)
  have hdA := dg_lt (B := 4294967296) (by decide) p
  have hvA := dg_val (B := 4294967296) (by decide) p
  have HSP : Hid (∀ O : List Nat, (∀ d ∈ O, d < 4294967296) → O.length = (nb p + s % 32 + 31) / 32 → val 4294967296 O = 2 ^ (s % 32) * p → List.replicate (s / 32) 0 ++ O = dg 4294967296 (p * 2 ^ s)) := Lib.hid (fun O a b c => shl_parts hp0 a b c)
  have HRM := Lib.hid (shl_room (p := p) (s := s))
  have CZ := fun wx hx => zero_any (.agg #[.slice a (len32 p) ca]) p wx hx (by omega)
  have CB := fun wx hx => bits_any16 (.agg #[.slice a (len32 p) ca]) p wx hx (by omega)
  rw [decide_eq_false hp0] at CZ
  have hlt := sl_lt32 hS
  obtain ⟨A, hA⟩ : ∃ A, A = dg 4294967296 p := ⟨_, rfl⟩
  obtain ⟨n, hn⟩ : ∃ n, n = len32 p := ⟨_, rfl⟩
  have hAl : A.length = n := by rw [hA, hn]
  have hln : n = (nb p + 31) / 32 := by rw [hn]; exact hln
  rw [← hA] at hS hdA hvA
  rw [← hn] at hS CZ CB hlt hl0 h1 hp ⊢
  have HP := Lib.hid hp
  obtain ⟨b, hb⟩ : ∃ b, b = nb p := ⟨_, rfl⟩
  rw [← hb] at CB HSP HRM hln
  obtain ⟨q, hq⟩ : ∃ q, q = s / 32 := ⟨_, rfl⟩
  obtain ⟨r, hr⟩ : ∃ r, r = s % 32 := ⟨_, rfl⟩
  rw [← hq] at HSP
  rw [← hr] at HSP HRM
  obtain ⟨y, hy⟩ : ∃ y, y = (b + r + 31) / 32 := ⟨_, rfl⟩
  rw [← hy] at HSP HRM
  have hr32 : r < 32 := by omega
  have hqb : q ≤ 4000 := by omega
  have hbl : b ≤ 33000 := by omega
  have hyb : y ≤ 1100 := by omega
  have hny : n ≤ y := by omega
  have e1 : (s : Int) / 32 = (q : Int) := by omega
  have e2 : (s : Int) % 32 = (r : Int) := by omega
  have e3 : ((b : Int) + (r : Int) + 32 - 1) / 32 = (y : Int) := by omega
  have hk1 : ¬ (s : Int) < 1 := by omega
  have HDA := Lib.hid hdA
  have HVA := Lib.hid hvA
  have HAL := Lib.hid hAl
  have HS := Lib.hid hS
  have HLT := Lib.hid hlt
  have CZ := Lib.hid CZ
  have CB := Lib.hid CB
  have M0 := Mem.start w
  clear hp hS hdA hvA hlt hA hn hb hq hr hy hAl hln hp0
  go_enter Tryd.func27, Tryd.ntmps27
  go_wp2_with ((with_reducible refine (?_ : Go.wpList _ _ _ (_ :: _) _ _)); (first | go_skip | (refine wpL_bx M0 rfl rfl rfl rfl ?_; clear M0; intro g1 w1 M1) | (refine wpL_alc M0 rfl rfl ?_; clear M0; intro g1 w1 M1) | (refine wpL_ldc M0 rfl rfl rfl ?_) | (refine wpL_lgc M0 rfl rfl rfl ?_) | (refine wpL_stc M0 rfl rfl rfl rfl ?_; clear M0; intro w' M0) | (refine wpL_sti M0 rfl rfl rfl rfl ?_; clear M0; intro w' M0) | (refine wpL_sth M0 rfl rfl rfl rfl (wr_minus _ _ _) ?_; clear M0; intro w' M0) | (refine wpL_bx M1 rfl rfl rfl rfl ?_; clear M1; intro g2 w2 M2) | (refine wpL_alc M1 rfl rfl ?_; clear M1; intro g2 w2 M2) | (refine wpL_ldc M1 rfl rfl rfl ?_) | (refine wpL_lgc M1 rfl rfl rfl ?_) | (refine wpL_stc M1 rfl rfl rfl rfl ?_; clear M1; intro w' M1) | (refine wpL_sti M1 rfl rfl rfl rfl ?_; clear M1; intro w' M1) | (refine wpL_sth M1 rfl rfl rfl rfl (wr_minus _ _ _) ?_; clear M1; intro w' M1) | (refine wpL_ldc M2 rfl rfl rfl ?_) | (refine wpL_lgc M2 rfl rfl rfl ?_) | (refine wpL_stc M2 rfl rfl rfl rfl ?_; clear M2; intro w' M2) | (refine wpL_sti M2 rfl rfl rfl rfl ?_; clear M2; intro w' M2) | (refine wpL_sth M2 rfl rfl rfl rfl (wr_minus _ _ _) ?_; clear M2; intro w' M2)))
  refine (CZ.out _ (HP.out.below M2.below)).mono ?_
  rintro e w3 ⟨rfl, hA⟩
  replace M2 := M2.call hA
  clear hA CZ
  go_wp2_with ((with_reducible refine (?_ : Go.wpList _ _ _ (_ :: _) _ _)); (first | go_skip | (refine wpL_ldc M2 rfl rfl rfl ?_) | (refine wpL_lgc M2 rfl rfl rfl ?_) | (refine wpL_stc M2 rfl rfl rfl rfl ?_; clear M2; intro w' M2) | (refine wpL_sti M2 rfl rfl rfl rfl ?_; clear M2; intro w' M2) | (refine wpL_sth M2 rfl rfl rfl rfl (wr_minus _ _ _) ?_; clear M2; intro w' M2)))
  refine (CB.out _ (HP.out.below M2.below)).mono ?_
  rintro e w3 ⟨rfl, hA⟩
  replace M2 := M2.call hA
  clear hA CB
  go_upto_region 7 with ((with_reducible refine (?_ : Go.wpList _ _ _ (_ :: _) _ _)); (first | go_skip | (refine wpL_ldc M2 rfl rfl rfl ?_) | (refine wpL_lgc M2 rfl rfl rfl ?_) | (refine wpL_stc M2 rfl rfl rfl rfl ?_; clear M2; intro w' M2) | (refine wpL_sti M2 rfl rfl rfl rfl ?_; clear M2; intro w' M2) | (refine wpL_sth M2 rfl rfl rfl rfl (wr_minus _ _ _) ?_; clear M2; intro w' M2)))
  have MK : (Instr.makeSlice 22 (.int .i64 ((q : Int) + (y : Int))) (.int .i64 ((q : Int) + (y : Int)))).run Tryd.prog w3 = .ok (.slice (some ⟨w3.heap.size, 0, none⟩) (q + y) (q + y)) (w3.alloc (.cells (u32s (List.replicate (q + y) 0)).toArray 38)) := run_mkU32 (q + y) (by omega) w3
  have M4 := M2.alloc 38 (u32s (List.replicate (q + y) 0))
  obtain ⟨w4, hw4⟩ : ∃ w4, w3.alloc (.cells (u32s (List.replicate (q + y) 0)).toArray 38) = w4 := ⟨_, rfl⟩
  obtain ⟨G, hG⟩ : ∃ G, G = w3.heap.size := ⟨_, rfl⟩
  rw [hw4, ← hG] at MK M4
  have hGw : w.heap.size ≤ G := M4.from (Has.head _ _ _ _)
  have hsl : ∀ wx, (Instr.slice 22 (.slice (some ⟨G, 0, none⟩) (q + y) (q + y)) (some (.int .i64 q)) none none).run Tryd.prog wx = .ok (.slice (some ⟨G, q, none⟩) y y) wx := fun wx => by
    have := run_from Eu32 G 0 (q + y) (q + y) q (by omega) (Nat.le_refl _) (by unfold maxLen; omega) wx
    rwa [Nat.zero_add, Nat.add_sub_cancel_left] at this
  have c1 := M4.cell (.tail _ _ _ _ _ (.tail _ _ _ _ _ (Has.head _ _ _ _))) (i := 0) rfl
  have HM4 := Lib.hid M4
  clear hw4 hG M4 M2
  go_wp2_with fail
  have M4 := HM4.out
  clear HM4
  refine wp_region_held_drew (S := (fun w' : World => w'.cell? ⟨g1, 0, none⟩ = some (.slice a n ca))) (by kernel_rfl) (c1) (fun hHeld => ?_)
  refine tkT 0 ?v25 ?hy25 hHeld ?rest25
  case hy25 => (intro w' hSw; (try dsimp only at hSw); go_simp; (try with_reducible rfl))
  try simp only [Act.put, puts]
  refine tkT 1 ?v26 ?hy26 hHeld ?rest26
  case hy26 => (intro w' hSw; (try dsimp only at hSw); go_simp; (try with_reducible rfl))
  try simp only [Act.put, puts]
  refine tkT 2 ?v27 ?hy27 hHeld ?rest27
  case hy27 => (intro w' hSw; (try dsimp only at hSw); go_simp; (try with_reducible rfl))
  try simp only [Act.put, puts]
  refine tkT 3 ?v28 ?hy28 hHeld ?rest28
  case hy28 => (intro w' hSw; (try dsimp only at hSw); go_simp; (try with_reducible rfl))
  try simp only [Act.put, puts]
  refine tkT 4 ?v29 ?hy29 hHeld ?rest29
  case hy29 => (intro w' hSw; (try dsimp only at hSw); go_simp; (try with_reducible rfl))
  try simp only [Act.put, puts]
  refine wpAnyH_ready (rs := [5]) (by kernel_rfl) (by simp) ?_
  refine AllReadyH.cons rfl (fun K hK => ?_) AllReadyH.nil
  rw [if_pos (by rfl)]
  refine wp_copy_blk Eu32 (.tmp 36) (.tmp 38) rfl rfl rfl (M4.drew.has (Has.head _ _ _ _)) (by rw [u32s_length, List.length_replicate]; unfold maxLen; omega) (HS.out.below M4.drew.below) (by omega) hl0 (by rw [u32s_length, List.length_replicate]; omega) (oneCell_u32s _) ?_
  intro w5 hK5 hT5
  have M5 := M4.drew.turn (Upd.head _ _ _ _ _) hK5 hT5
  refine hK.out _ _ (M5.cell (.tail _ _ _ _ _ (.tail _ _ _ _ _ (Has.head _ _ _ _))) (i := 0) rfl) (fun hHeld => ?_)
  clear hK K
  try simp only [Act.put, puts]
  refine wpAnyH_done (by kernel_rfl) ?_ _
  have hWl : (A ++ List.replicate (y - n) 0).length = y := by rw [List.length_append, List.length_replicate, HAL.out]; omega
  have hov : over (u32s (List.replicate (q + y) 0)) q (u32s A) = over (u32s (List.replicate (q + y) 0)) q (u32s (A ++ List.replicate (y - n) 0)) := by
    have e : ∀ k, u32s (List.replicate k 0) = List.replicate k (.int .u32 0) := fun k => by simp [u32s]
    unfold over splice
    rw [u32s_length, u32s_length, hWl, HAL.out, e, List.drop_replicate, List.drop_replicate]
    rw [show u32s (A ++ List.replicate (y - n) 0) = u32s A ++ List.replicate (y - n) (.int .u32 0) by simp [u32s]]
    rw [show q + y - (q + n) = y - n by omega, show q + y - (q + y) = 0 by omega, List.replicate_zero, List.append_nil]
  have hK5 := M5.has (Has.head _ _ _ _)
  rw [hov] at hK5
  obtain ⟨Z, hZ⟩ : ∃ Z, Z = A ++ List.replicate (y - n) 0 := ⟨_, rfl⟩
  rw [← hZ] at hK5 hWl
  have hZv : val 4294967296 Z = p := by rw [hZ, val_app, val_zeros, HVA.out, Nat.mul_zero, Nat.add_zero]
  have C := climb_go G q y y r Z (u32s (List.replicate (q + y) 0)) w5 hK5 (by rw [u32s_length, List.length_replicate]; omega) hWl (fun d hd => by
    rw [hZ] at hd
    rcases List.mem_append.1 hd with hd | hd
    · exact HDA.out d hd
    · rw [(List.mem_replicate.1 hd).2]; decide) (by omega) hr32
  have HVW : Hid (∀ c O, O.length = y → (∀ d ∈ O, d < 4294967296) → Cli 4294967296 (2 ^ r) Z y c O → over (u32s (List.replicate (q + y) 0)) q (u32s O) = u32s (dg 4294967296 (p * 2 ^ s))) := Lib.hid (fun c O k1 k2 k3 => by
    have k4 : Cli 4294967296 (2 ^ r) Z Z.length c O := by rw [hWl]; exact k3
    have := k4.room (by rw [hZv, hWl]; exact HRM.out)
    rw [hZv] at this
    rw [over_drop (by rw [List.length_replicate]; omega) (by rw [List.length_replicate, k1]; omega), List.take_replicate, Nat.min_eq_left (by omega), HSP.out O k2 k1 this])
  have C := Lib.hid C
  clear hov hK5 hT5 hZ hZv hWl
  go_wp2_with fail
  refine C.out.mono ?_
  rintro e w6 ⟨c6, O, rfl, hK6, k1, k2, k3, hT6⟩
  have hf := HVW.out c6 O k1 k2 k3
  have hdl : len32 (p * 2 ^ s) = q + y := by
    have := congrArg List.length hf
    rw [win_len (by rw [u32s_length, List.length_replicate, k1]; omega), u32s_length, u32s_length, List.length_replicate] at this
    exact this.symm
  rw [hf] at hK6
  have M6 := M5.turn (Upd.head _ _ _ _ _) hK6 hT6
  rw [← over_all (l := u32s (dg 4294967296 (p * 2 ^ s))) (m := u32s (dg 4294967296 (p * 2 ^ s))) rfl] at hK6
  have hS6 := win_sl hK6 (by rw [u32s_length]; omega) hdl (Nat.le_refl (q + y)) (by unfold maxLen; omega)
  have HS6 := Lib.hid hS6
  have HDL := Lib.hid hdl
  have K6 := M6.has (.tail _ _ _ _ _ (Has.head _ _ _ _))
  clear M5 hf hdl hK6 hS6 hT6 k1 k2 k3 HVW HSP HRM C
  go_wp2_with ((with_reducible refine (?_ : Go.wpList _ _ _ (_ :: _) _ _)); (first | go_skip | (refine wpL_ldc M6 rfl rfl rfl ?_) | (refine wpL_lgc M6 rfl rfl rfl ?_) | (refine wpL_stcT M6 rfl rfl rfl rfl ?_; clear M6; intro w' M6 hT) | (refine wpL_stiT M6 rfl rfl rfl rfl ?_; clear M6; intro w' M6 hT)))
  refine bodyPost_ret (res_cell rfl M6 rfl (.tail _ _ _ _ _ (Has.head _ _ _ _)) (rd_nat _)) rfl ?_
  exact ⟨_, rfl, ⟨some ⟨G, 0, none⟩, q + y, by rw [← HDL.out], by
    have := sl_kept HS6.out K6 (noPart_sl _ _ _) hT
    rw [← HDL.out] at this
    rw [← HDL.out]
    exact this⟩, M6.below⟩

theorem shl_any16 (v : Value) (p s : Nat) (w : World) (hp : IsN w v p) (h1 : len32 p ≤ 1000) (hs2 : s ≤ 100000) :
    Calls Tryd.prog 27 #[v, .int .i64 s] w fun e w' => ∃ t, e = .returned t ∧ IsN w' t (p * 2 ^ s) ∧ Below w.heap.size w w' := by
  by_cases h0 : s = 0
  · subst h0
    rw [Nat.pow_zero, Nat.mul_one]
    exact shl_self v p _ w hp h1 (.inl (by decide))
  · by_cases hp0 : p = 0
    · have := shl_self v p s w hp h1 (.inr hp0)
      rw [hp0, Nat.zero_mul]
      rwa [hp0] at this
    · exact shl_go v p s w hp h1 (by omega) hs2 hp0
end Go.Proofs.YtghioakpigdagaaDoor
