/-
  A bound times a quotient, and a book's steps: the code's.
-/
import Derived.Test.YtallbegibdlpaaaGreatLedgF
set_option linter.unusedVariables false
set_option linter.unusedSimpArgs false
namespace Go.Proofs.YtallbegibdlpaaaGreat
open Go Go.RowKit Go.Th Go.Th.Wide Go.Th.Up

/-- A book. -/
abbrev bk (B St : Int) : Value := .agg #[.int .i64 B, .int .i64 St]
abbrev bc (B St : Int) : List Value := [.int .i64 B, .int .i64 St]
theorem sizeK : (Tryz.prog.info? 35).map (·.size) = some 2 := by kernel_rfl
theorem zeroK : (Tryz.prog.info? 35).map (·.zero) = some (some (bk 0 0)) := by kernel_rfl
theorem rd_bk (B St : Int) : Rd Tryz.prog 35 0 (bc B St) (bk B St) :=
  Rd.agg (ds := bc B St) Tryz.underlying35 rfl sizeK (fun j u hj => by rw [Nat.zero_add]; exact hj)
theorem wr_bk (B St B' St' : Int) : Wr Tryz.prog 35 0 (bc B St) (bk B' St') (bc B' St') :=
  Wr.whole (ds := bc B' St') sizeK rfl (by intro u hu; simp at hu; rcases hu with rfl | rfl <;> rfl)
instance rB18 (B St : Int) : RdI Tryz.prog 35 0 (bc B St) (bk B St) := ⟨rd_bk B St⟩
instance kB18 : SzI Tryz.prog 35 2 := ⟨sizeK⟩
instance zB18 : ZrI Tryz.prog 35 (bk 0 0) (bc 0 0) := ⟨zeroK, rfl⟩

set_option maxRecDepth 20000 in
set_option maxHeartbeats 3200000 in
/-- A bound times a quotient. -/
theorem scaled_any (b m s z : Nat) (hb : b ≤ 1099511627776) (hm : m ≤ 65536) (hs : s ≤ 1073741824) (hz : z < 9223372036854775808) (w : World) :
    Calls Tryz.prog 19 #[.int .i64 b, .int .i64 m, .int .i64 s, wn z] w fun e w' => e = .returned (.int .i64 (upD (b * m * s) z)) ∧ Below w.heap.size w w' := by
  have C0 := Lib.hid (Sign18 z)
  have M0 := Mem.start w
  by_cases h0 : 0 < z
  · have hv := cmp_pos h0
    obtain ⟨v, hv2⟩ : ∃ v, v = cmpZ (z : Int) 0 := ⟨_, rfl⟩
    rw [← hv2] at C0 hv
    have hv3 : ¬ v ≤ 0 := by omega
    have hbm : b * m ≤ 1099511627776 * 65536 := Nat.mul_le_mul hb hm
    have hbms : b * m * s ≤ 1099511627776 * 65536 * 1073741824 := Nat.mul_le_mul hbm hs
    have C1 := Lib.hid (bound18 (b : Int) (b : Int) (by omega))
    have C2 := Lib.hid (Mul_any ((b * m : Nat) : Int) (s : Int) (by omega) (by omega))
    have C3 := Lib.hid (divided_any (b * m * s) z h0 hz (by omega))
    have e1 : (b : Int) * m = ((b * m : Nat) : Int) := (Int.natCast_mul b m).symm
    rw [← Int.natCast_mul] at C2
    have h1 : ¬ (65536 : Int) < m := by omega
    have h2 : ¬ (1073741824 : Int) < s := by omega
    have h3 : max (m : Int) 0 = m := by omega
    have h4 : max (s : Int) 0 = s := by omega
    obtain ⟨p, hp⟩ : ∃ p, p = b * m := ⟨_, rfl⟩
    obtain ⟨q, hq⟩ : ∃ q, q = b * m * s := ⟨_, rfl⟩
    rw [← hq] at C3 ⊢
    rw [← hp] at e1 hbm hq
    rw [← hp, ← hq] at C2
    have e2 : IntKind.i64.wrap (p : Int) = (p : Int) := by rw [w64]; simp only [wrap64]; omega
    clear hz hv hv2 hbms hp hq hb hm hs
    go_enter Tryz.func19, Tryz.ntmps19
    go_wp2_with ((with_reducible refine (?_ : Go.wpList _ _ _ (_ :: _) _ _)); (first | go_skip | (refine wpL_bx M0 rfl rfl rfl rfl ?_; clear M0; intro g1 w1 M1) | (refine wpL_alc M0 rfl rfl ?_; clear M0; intro g1 w1 M1) | (refine wpL_ldc M0 rfl rfl rfl ?_) | (refine wpL_lgc M0 rfl rfl rfl ?_) | (refine wpL_stc M0 rfl rfl rfl rfl ?_; clear M0; intro w' M0) | (refine wpL_sti M0 rfl rfl rfl rfl ?_; clear M0; intro w' M0) | (refine wpL_sth M0 rfl rfl rfl rfl (wr_minus _ _ _) ?_; clear M0; intro w' M0) | (refine wpL_ldc M1 rfl rfl rfl ?_) | (refine wpL_lgc M1 rfl rfl rfl ?_) | (refine wpL_stc M1 rfl rfl rfl rfl ?_; clear M1; intro w' M1) | (refine wpL_sti M1 rfl rfl rfl rfl ?_; clear M1; intro w' M1) | (refine wpL_sth M1 rfl rfl rfl rfl (wr_minus _ _ _) ?_; clear M1; intro w' M1)))
    refine (C0.out _).mono ?_
    rintro e w2 ⟨rfl, hA⟩
    have M2 := M1.call hA
    clear hA C0 M1
    go_wp2_with fail
    have M3 := M2.drew
    refine wp_region_held_drew (S := (fun w' : World => w'.cell? ⟨g1, 0, none⟩ = some (.int .i64 (hiZ (z : Int))) ∧ w'.cell? ⟨g1, 1, none⟩ = some (.int .u64 (loZ (z : Int))))) (by kernel_rfl) (⟨M3.cell (Has.head _ _ _ _) (i := 0) rfl, M3.cell (Has.head _ _ _ _) (i := 1) rfl⟩) (fun hHeld => ?_)
    refine tkT 0 ?v9 ?hy9 hHeld ?rest9
    case hy9 => (intro w' hSw; (try dsimp only at hSw); go_simp; (try with_reducible rfl))
    try simp only [Act.put, puts]
    refine tkT 2 ?v10 ?hy10 hHeld ?rest10
    case hy10 => (intro w' hSw; (try dsimp only at hSw); go_simp; (try with_reducible rfl))
    try simp only [Act.put, puts]
    refine tkT 3 ?v11 ?hy11 hHeld ?rest11
    case hy11 => (intro w' hSw; (try dsimp only at hSw); go_simp; (try with_reducible rfl))
    try simp only [Act.put, puts]
    refine tkT 5 ?v12 ?hy12 hHeld ?rest12
    case hy12 => (intro w' hSw; (try dsimp only at hSw); go_simp; (try with_reducible rfl))
    try simp only [Act.put, puts]
    refine tkT 6 ?v13 ?hy13 hHeld ?rest13
    case hy13 => (intro w' hSw; (try dsimp only at hSw); go_simp; (try with_reducible rfl))
    try simp only [Act.put, puts]
    refine tkT 8 ?v14 ?hy14 hHeld ?rest14
    case hy14 => (intro w' hSw; (try dsimp only at hSw); go_simp; (try with_reducible rfl))
    try simp only [Act.put, puts]
    refine wpAnyH_ready (rs := [1]) (by kernel_rfl) (by simp) ?_
    refine AllReadyH.cons rfl (fun K hK => ?_) AllReadyH.nil
    go_simp
    refine (C1.out _).mono ?_
    rintro e w5 ⟨rfl, rfl⟩
    have M4 := M3
    try go_wp2_with fail
    refine hK.out _ _ (⟨M4.cell (Has.head _ _ _ _) (i := 0) rfl, M4.cell (Has.head _ _ _ _) (i := 1) rfl⟩) (fun hHeld => ?_)
    clear hK K
    try simp only [Act.put, puts]
    refine tkT 4 ?v16 ?hy16 hHeld ?rest16
    case hy16 => (intro w' hSw; (try dsimp only at hSw); go_simp; (try with_reducible rfl))
    try simp only [Act.put, puts]
    refine wpAnyH_ready (rs := [7]) (by kernel_rfl) (by simp) ?_
    refine AllReadyH.cons rfl (fun K hK => ?_) AllReadyH.nil
    go_simp
    try rw [e2]
    refine (C2.out _).mono ?_
    rintro e w5 ⟨rfl, hA⟩
    have M5 := M4.call hA
    try go_wp2_with fail
    refine hK.out _ _ (⟨M5.cell (Has.head _ _ _ _) (i := 0) rfl, M5.cell (Has.head _ _ _ _) (i := 1) rfl⟩) (fun hHeld => ?_)
    clear hK K
    try simp only [Act.put, puts]
    refine wpAnyH_ready (rs := [9]) (by kernel_rfl) (by simp) ?_
    refine AllReadyH.cons rfl (fun K hK => ?_) AllReadyH.nil
    go_simp
    refine (C3.out _).mono ?_
    rintro e w6 ⟨rfl, hA⟩
    have M6 := M5.call hA
    try go_wp2_with fail
    refine hK.out _ _ (⟨M6.cell (Has.head _ _ _ _) (i := 0) rfl, M6.cell (Has.head _ _ _ _) (i := 1) rfl⟩) (fun hHeld => ?_)
    clear hK K
    try simp only [Act.put, puts]
    refine tkT 10 ?v19 ?hy19 hHeld ?rest19
    case hy19 => (intro w' hSw; (try dsimp only at hSw); go_simp; (try with_reducible rfl))
    try simp only [Act.put, puts]
    refine wpAnyH_done (by kernel_rfl) ?_ _
    clear C1 C2 C3
    go_wp2_with fail
    go_ret
    exact ⟨rfl, M6.below⟩
  · obtain rfl : z = 0 := by omega
    have hv : cmpZ ((0 : Nat) : Int) 0 ≤ 0 := by decide
    obtain ⟨v, hv2⟩ : ∃ v, v = cmpZ ((0 : Nat) : Int) 0 := ⟨_, rfl⟩
    rw [← hv2] at C0 hv
    have hu : upD (b * m * s) 0 = 1099511627776 := by unfold upD; rw [if_pos rfl]
    rw [hu]
    clear hu
    clear hv2
    go_enter Tryz.func19, Tryz.ntmps19
    go_wp2_with ((with_reducible refine (?_ : Go.wpList _ _ _ (_ :: _) _ _)); (first | go_skip | (refine wpL_bx M0 rfl rfl rfl rfl ?_; clear M0; intro g1 w1 M1) | (refine wpL_alc M0 rfl rfl ?_; clear M0; intro g1 w1 M1) | (refine wpL_ldc M0 rfl rfl rfl ?_) | (refine wpL_lgc M0 rfl rfl rfl ?_) | (refine wpL_stc M0 rfl rfl rfl rfl ?_; clear M0; intro w' M0) | (refine wpL_sti M0 rfl rfl rfl rfl ?_; clear M0; intro w' M0) | (refine wpL_sth M0 rfl rfl rfl rfl (wr_minus _ _ _) ?_; clear M0; intro w' M0) | (refine wpL_ldc M1 rfl rfl rfl ?_) | (refine wpL_lgc M1 rfl rfl rfl ?_) | (refine wpL_stc M1 rfl rfl rfl rfl ?_; clear M1; intro w' M1) | (refine wpL_sti M1 rfl rfl rfl rfl ?_; clear M1; intro w' M1) | (refine wpL_sth M1 rfl rfl rfl rfl (wr_minus _ _ _) ?_; clear M1; intro w' M1)))
    refine (C0.out _).mono ?_
    rintro e w2 ⟨rfl, hA⟩
    have M2 := M1.call hA
    clear hA C0 M1
    go_wp2_with fail
    go_ret
    exact ⟨rfl, M2.below⟩

/-- A book is answered. -/
abbrev KAns (f : Nat) (args : Array Value) (B St : Int) (w : World) : Prop := Calls Tryz.prog f args w fun e w' => e = .returned (bk B St) ∧ Below w.heap.size w w'
set_option maxRecDepth 20000 in
set_option maxHeartbeats 3200000 in
theorem next18 (B St b c v : Int) (hSt : 0 ≤ St ∧ St ≤ 4611686018427387904) (hb : 0 ≤ b ∧ b ≤ 1099511627776) (hc : 0 ≤ c) (hv : v = min (b + c) 1099511627776) (w : World) :
    KAns 51 #[bk B St, .int .i64 b, .int .i64 c] v (St + 1) w := by
  have C1 := Lib.hid (together18 b c v hb hc hv)
  have M0 := Mem.start w
  have e1 : IntKind.i64.wrap (St + 1) = St + 1 := by rw [w64]; simp only [wrap64]; omega
  clear hv hb hc
  go_enter Tryz.func51, Tryz.ntmps51
  go_wp2_with ((with_reducible refine (?_ : Go.wpList _ _ _ (_ :: _) _ _)); (first | go_skip | (refine wpL_bx M0 rfl rfl rfl rfl ?_; clear M0; intro g1 w1 M1) | (refine wpL_alc M0 rfl rfl ?_; clear M0; intro g1 w1 M1) | (refine wpL_ldc M0 rfl rfl rfl ?_) | (refine wpL_lgc M0 rfl rfl rfl ?_) | (refine wpL_stc M0 rfl rfl rfl rfl ?_; clear M0; intro w' M0) | (refine wpL_sti M0 rfl rfl rfl rfl ?_; clear M0; intro w' M0) | (refine wpL_sth M0 rfl rfl rfl rfl (wr_minus _ _ _) ?_; clear M0; intro w' M0) | (refine wpL_bx M1 rfl rfl rfl rfl ?_; clear M1; intro g2 w2 M2) | (refine wpL_alc M1 rfl rfl ?_; clear M1; intro g2 w2 M2) | (refine wpL_ldc M1 rfl rfl rfl ?_) | (refine wpL_lgc M1 rfl rfl rfl ?_) | (refine wpL_stc M1 rfl rfl rfl rfl ?_; clear M1; intro w' M1) | (refine wpL_sti M1 rfl rfl rfl rfl ?_; clear M1; intro w' M1) | (refine wpL_sth M1 rfl rfl rfl rfl (wr_minus _ _ _) ?_; clear M1; intro w' M1) | (refine wpL_ldc M2 rfl rfl rfl ?_) | (refine wpL_lgc M2 rfl rfl rfl ?_) | (refine wpL_stc M2 rfl rfl rfl rfl ?_; clear M2; intro w' M2) | (refine wpL_sti M2 rfl rfl rfl rfl ?_; clear M2; intro w' M2) | (refine wpL_sth M2 rfl rfl rfl rfl (wr_minus _ _ _) ?_; clear M2; intro w' M2)))
  have M3 := M2.drew
  refine wp_region_held_drew (S := (fun w' : World => w'.cell? ⟨g1, 1, none⟩ = some (.int .i64 St))) (by kernel_rfl) (M3.cell (.tail _ _ _ _ _ (Has.head _ _ _ _)) (i := 1) rfl) (fun hHeld => ?_)
  refine tkT 0 ?v20 ?hy20 hHeld ?rest20
  case hy20 => (intro w' hSw; (try dsimp only at hSw); go_simp; (try with_reducible rfl))
  try simp only [Act.put, puts]
  refine tkT 1 ?v21 ?hy21 hHeld ?rest21
  case hy21 => (intro w' hSw; (try dsimp only at hSw); go_simp; (try with_reducible rfl))
  try simp only [Act.put, puts]
  refine tkT 3 ?v22 ?hy22 hHeld ?rest22
  case hy22 => (intro w' hSw; (try dsimp only at hSw); go_simp; (try with_reducible rfl))
  try simp only [Act.put, puts]
  refine tkT 4 ?v23 ?hy23 hHeld ?rest23
  case hy23 => (intro w' hSw; (try dsimp only at hSw); go_simp; (try with_reducible rfl))
  try simp only [Act.put, puts]
  refine tkT 5 ?v24 ?hy24 hHeld ?rest24
  case hy24 => (intro w' hSw; (try dsimp only at hSw); go_simp; (try with_reducible rfl))
  try simp only [Act.put, puts]
  refine wpAnyH_ready (rs := [2]) (by kernel_rfl) (by simp) ?_
  refine AllReadyH.cons rfl (fun K hK => ?_) AllReadyH.nil
  go_simp
  refine (C1.out _).mono ?_
  rintro e w5 ⟨rfl, rfl⟩
  have M4 := M3
  try go_wp2_with fail
  refine hK.out _ _ (M4.cell (.tail _ _ _ _ _ (Has.head _ _ _ _)) (i := 1) rfl) (fun hHeld => ?_)
  clear hK K
  try simp only [Act.put, puts]
  refine tkT 6 ?v26 ?hy26 hHeld ?rest26
  case hy26 => (intro w' hSw; (try dsimp only at hSw); go_simp; (try with_reducible rfl))
  try simp only [Act.put, puts]
  refine wpAnyH_ready (rs := [7]) (by kernel_rfl) (by simp) ?_
  refine AllReadyH.cons rfl (fun K hK => ?_) AllReadyH.nil
  rw [if_pos (by rfl)]
  refine wp_st M4 rfl rfl rfl (Has.head _ _ _ _) (wr_bk _ _ _ _) (Upd.head _ _ _ _ _) ?_
  intro w7 M5
  refine hK.out _ _ (M5.cell (.tail _ _ _ _ _ (Has.head _ _ _ _)) (i := 1) rfl) (fun hHeld => ?_)
  clear hK K
  try simp only [Act.put, puts]
  refine wpAnyH_done (by kernel_rfl) ?_ _
  go_wp2_with fail
  refine bodyPost_ret (res_cell rfl M5 rfl (Has.head _ _ _ _) (rd_bk _ _)) rfl ?_
  exact ⟨by first | rfl | rw [e1], M5.below⟩
end Go.Proofs.YtallbegibdlpaaaGreat
