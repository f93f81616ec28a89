/-
  Texts in one: ExactK, ExactL, ExactM, ExactP, ExactQ.
-/
import Derived.Test.YtanblpfpkohghaaDoorPackExactA
import Derived.Test.YtanblpfpkohghaaDoorPackNatB
set_option linter.unusedVariables false
set_option linter.unusedSimpArgs false

/-
  A filter with one place for each four: the reference's.
-/
namespace Go.Proofs.YtanblpfpkohghaaDoor
open Go Go.RowKit Go.Th Go.Th.Dig Go.Th.Ex Go.Th.Grid

def joinAt17 (us : List Nat) (x wq j : Nat) : Nat :=
  us.getD (2 * (j / wq) * x + 2 * (j % wq)) 0 + us.getD (2 * (j / wq) * x + 2 * (j % wq) + 1) 0 + us.getD (2 * (j / wq) * x + x + 2 * (j % wq)) 0 + us.getD (2 * (j / wq) * x + x + 2 * (j % wq) + 1) 0
def joinU (us : List Nat) (x wq hq : Nat) : List Nat := tabN (joinAt17 us x wq) (hq * wq)
theorem joinU_length (us : List Nat) (x wq hq : Nat) : (joinU us x wq hq).length = hq * wq := tabN_length _ _
theorem lt_join {k : Nat} {us : List Nat} (h : Lt k us) (x wq hq : Nat) : Lt (k + 2) (joinU us x wq hq) := Lt.tab fun j _ => by
  unfold joinAt17
  have h1 := h (2 * (j / wq) * x + 2 * (j % wq))
  have hq := h (2 * (j / wq) * x + 2 * (j % wq) + 1)
  have h3 := h (2 * (j / wq) * x + x + 2 * (j % wq))
  have h4 := h (2 * (j / wq) * x + x + 2 * (j % wq) + 1)
  have e : 2 ^ (k + 2) = 2 ^ k * 4 := by rw [Nat.pow_add]
  omega

set_option maxRecDepth 20000 in
set_option maxHeartbeats 6400000 in
theorem rjoin17_any (x y wq hq : Nat) (a : Option Addr) (n cap k0 : Nat) (us : List Nat) (hl : Lt k0 us) (hk0 : k0 ≤ 7000) (hxy : n = x * y) (hxe : x = 2 * wq) (hye : y = 2 * hq) (hx : x ≤ 64) (hy : y ≤ 64) (w : World) (hU : IsU w a n cap us) :
    Calls Tryd.prog 38 #[fv x y (.slice a n cap)] w (ResF wq hq (joinU us x wq hq) w) := by
  have hle : x * y ≤ 64 * 64 := Nat.mul_le_mul hx hy
  have hle2 : hq * wq ≤ 64 * 64 := Nat.mul_le_mul (by omega) (by omega)
  obtain ⟨f, hf⟩ : ∃ f : Nat → Nat, f = joinAt17 us x wq := ⟨_, rfl⟩
  have hpu : joinU us x wq hq = tabN f (hq * wq) := by rw [hf]; rfl
  rw [hpu]
  have hln : ∀ u : Nat, u < 2 ^ (k0 + 2) → (dg 256 u).length ≤ 100000 := fun u h => Nat.le_trans (d16 (m := 1002) h (by omega)) (by omega)
  have hst : ∀ k i, k < hq → i < wq → ∃ (NN kk ii v1 v2 v3 v4 P Q R1 R2 R3 R4 : Nat), Hid (NN = k * wq + i) ∧ NN < hq * wq ∧ Hid (kk = 2 * k) ∧ Hid (ii = 2 * i) ∧ (R1 < n ∧ R2 < n ∧ R3 < n ∧ R4 < n) ∧ Hid (us.getD R1 0 = v1 ∧ us.getD R2 0 = v2 ∧ us.getD R3 0 = v3 ∧ us.getD R4 0 = v4) ∧ Hid (f NN = v1 + v2 + v3 + v4) ∧
      Hid ((kk : Int) * (x : Int) = (P : Int) ∧ (P : Int) + (ii : Int) = (R1 : Int) ∧ (R1 : Int) + 1 = (R2 : Int) ∧ (P : Int) + (x : Int) = (Q : Int) ∧ (Q : Int) + (ii : Int) = (R3 : Int) ∧ (R3 : Int) + 1 = (R4 : Int)) ∧ Hid (kk ≤ 64 ∧ ii ≤ 64 ∧ P ≤ 4096 ∧ Q ≤ 5000 ∧ R1 ≤ 5000 ∧ R2 ≤ 5000 ∧ R3 ≤ 6000 ∧ R4 ≤ 6000) ∧
      Hid ((dg 256 v1).length ≤ 100000 ∧ (dg 256 v2).length ≤ 100000 ∧ (dg 256 (v1 + v2)).length ≤ 100000 ∧ (dg 256 v3).length ≤ 100000 ∧ (dg 256 (v1 + v2 + v3)).length ≤ 100000 ∧ (dg 256 v4).length ≤ 100000) := by
    intro k i hk hi
    have hdr := div_row (cw := wq) (k := k) hi
    have hR1 : 2 * k * x + 2 * i < n := by rw [hxy]; exact at_lt17 (by omega) (by omega)
    have hR2 : 2 * k * x + (2 * i + 1) < n := by rw [hxy]; exact at_lt17 (by omega) (by omega)
    have hR3 : (2 * k + 1) * x + 2 * i < n := by rw [hxy]; exact at_lt17 (by omega) (by omega)
    have hR4 : (2 * k + 1) * x + (2 * i + 1) < n := by rw [hxy]; exact at_lt17 (by omega) (by omega)
    rw [Nat.add_mul, Nat.one_mul] at hR3 hR4
    have hP : 2 * k * x ≤ 64 * 64 := Nat.mul_le_mul (by omega) hx
    have eP : ((2 * k : Nat) : Int) * (x : Int) = ((2 * k * x : Nat) : Int) := by simp
    have h1 := hl (2 * k * x + 2 * i)
    have hq := hl (2 * k * x + 2 * i + 1)
    have h3 := hl (2 * k * x + x + 2 * i)
    have h4 := hl (2 * k * x + x + 2 * i + 1)
    have e4 : 2 ^ (k0 + 2) = 2 ^ k0 * 4 := by rw [Nat.pow_add]
    refine ⟨k * wq + i, 2 * k, 2 * i, us.getD (2 * k * x + 2 * i) 0, us.getD (2 * k * x + 2 * i + 1) 0, us.getD (2 * k * x + x + 2 * i) 0, us.getD (2 * k * x + x + 2 * i + 1) 0, 2 * k * x, 2 * k * x + x, 2 * k * x + 2 * i, 2 * k * x + 2 * i + 1, 2 * k * x + x + 2 * i, 2 * k * x + x + 2 * i + 1, Lib.hid rfl, row_le hk hi, Lib.hid rfl, Lib.hid rfl, ⟨hR1, by omega, by omega, by omega⟩, Lib.hid ⟨rfl, rfl, rfl, rfl⟩, Lib.hid ?_, Lib.hid ⟨eP, by omega, by omega, by omega, by omega, by omega⟩, Lib.hid ⟨by omega, by omega, by omega, by omega, by omega, by omega, by omega, by omega⟩, Lib.hid ⟨hln _ (by omega), hln _ (by omega), hln _ (by omega), hln _ (by omega), hln _ (by omega), hln _ (by omega)⟩⟩
    rw [hf]; unfold joinAt17; rw [hdr.1, hdr.2]
  have HST := Lib.hid hst
  have HT := Lib.hid (fun i => tabN_next f i)
  have HTL := Lib.hid (tabN_length f (hq * wq))
  have HU := Lib.hid hU
  have hmx := hU.max
  have e1 : (x : Int) / 2 = (wq : Int) := by omega
  have e2 : (y : Int) / 2 = (hq : Int) := by omega
  have e1t : (x : Int).tdiv 2 = (wq : Int) := by rw [Int.tdiv_eq_ediv_of_nonneg (Int.natCast_nonneg x)]; omega
  have e2t : (y : Int).tdiv 2 = (hq : Int) := by rw [Int.tdiv_eq_ediv_of_nonneg (Int.natCast_nonneg y)]; omega
  have b1 : wq ≤ 64 := by omega
  have b2 : hq ≤ 64 := by omega
  have HXE := Lib.hid hxe
  have HYE := Lib.hid hye
  have M0 := Mem.start w
  clear hst hpu hf hU hxy hle hxe hye hl hln
  go_enter Tryd.func38, Tryd.ntmps38
  go_upto_region 2 with (((with_reducible refine (?_ : Go.wpList _ _ _ (_ :: _) _ _)); (first | go_skip | (refine wpL_bx M0 rfl rfl rfl rfl ?_; clear M0; intro g1 w1 M1) | (refine wpL_alc M0 rfl rfl ?_; clear M0; intro g1 w1 M1) | (refine wpL_ldc M0 rfl rfl rfl ?_) | (refine wpL_lgc M0 rfl rfl rfl ?_) | (refine wpL_stc M0 rfl rfl rfl rfl ?_; clear M0; intro w' M0) | (refine wpL_sti M0 rfl rfl rfl rfl ?_; clear M0; intro w' M0) | (refine wpL_sth M0 rfl rfl rfl rfl (wr_minus _ _ _) ?_; clear M0; intro w' M0) | (refine wpL_bx M1 rfl rfl rfl rfl ?_; clear M1; intro g2 w2 M2) | (refine wpL_alc M1 rfl rfl ?_; clear M1; intro g2 w2 M2) | (refine wpL_ldc M1 rfl rfl rfl ?_) | (refine wpL_lgc M1 rfl rfl rfl ?_) | (refine wpL_stc M1 rfl rfl rfl rfl ?_; clear M1; intro w' M1) | (refine wpL_sti M1 rfl rfl rfl rfl ?_; clear M1; intro w' M1) | (refine wpL_sth M1 rfl rfl rfl rfl (wr_minus _ _ _) ?_; clear M1; intro w' M1) | (refine wpL_bx M2 rfl rfl rfl rfl ?_; clear M2; intro g3 w3 M3) | (refine wpL_alc M2 rfl rfl ?_; clear M2; intro g3 w3 M3) | (refine wpL_ldc M2 rfl rfl rfl ?_) | (refine wpL_lgc M2 rfl rfl rfl ?_) | (refine wpL_stc M2 rfl rfl rfl rfl ?_; clear M2; intro w' M2) | (refine wpL_sti M2 rfl rfl rfl rfl ?_; clear M2; intro w' M2) | (refine wpL_sth M2 rfl rfl rfl rfl (wr_minus _ _ _) ?_; clear M2; intro w' M2) | (refine wpL_ldc M3 rfl rfl rfl ?_) | (refine wpL_lgc M3 rfl rfl rfl ?_) | (refine wpL_stc M3 rfl rfl rfl rfl ?_; clear M3; intro w' M3) | (refine wpL_sti M3 rfl rfl rfl rfl ?_; clear M3; intro w' M3) | (refine wpL_sth M3 rfl rfl rfl rfl (wr_minus _ _ _) ?_; clear M3; intro w' M3))))
  clear e1 e2 e1t e2t
  have hO : OwnU w' w.heap.size (.slice none 0 0) (0 * wq) (tabN f (0 * wq)) := by rw [Nat.zero_mul]; exact OwnU.nil _ _
  have HO0 := Lib.hid hO
  clear hO
  go_wp2_with fail
  go_loopw [4] (fun c wr => ∃ (k kk : Nat) (va : Value), k ≤ hq ∧ c = .int .i64 kk ∧ Hid (kk = 2 * k) ∧ Hid (OwnU wr w.heap.size va (k * wq) (tabN f (k * wq))) ∧ Mem w wr [(g3, 36, fc wq hq va), (g2, 36, fc 0 0 (.slice none 0 0)), (g1, 36, fc x y (.slice a n cap))]) (fun c _ => y - (intOf c).toNat)
  case atStart => exact ⟨0, 0, _, Nat.zero_le _, rfl, Lib.hid rfl, HO0, M3⟩
  case round =>
    clear M3 HO0
    obtain ⟨k, kk, va, hk, rfl, HKK, HO, M0⟩ := hrel
    obtain ⟨a5, c5, rfl⟩ := HO.out.form
    have cy1 := M0.cell (.tail _ _ _ _ _ (.tail _ _ _ _ _ (Has.head _ _ _ _))) (i := 1) rfl
    by_cases hlt : k < hq
    · have hk0 : (kk : Int) < y := by have := HKK.out; have := HYE.out; omega
      have hk64 : kk ≤ 64 := by omega
      go_wp2_with fail
      clear cy1
      go_loopw [5] (fun c wr => ∃ (i ii : Nat) (va : Value), i ≤ wq ∧ c = .int .i64 ii ∧ Hid (ii = 2 * i) ∧ Hid (OwnU wr w.heap.size va (k * wq + i) (tabN f (k * wq + i))) ∧ Mem w wr [(g3, 36, fc wq hq va), (g2, 36, fc 0 0 (.slice none 0 0)), (g1, 36, fc x y (.slice a n cap))]) (fun c _ => x - (intOf c).toNat)
      case atStart => exact ⟨0, 0, _, Nat.zero_le _, rfl, Lib.hid rfl, HO, M0⟩
      case round =>
        clear M0 HO
        obtain ⟨i, ii, va, hi, rfl, HII, HO, M0⟩ := hrel
        have cx0 := M0.cell (.tail _ _ _ _ _ (.tail _ _ _ _ _ (Has.head _ _ _ _))) (i := 0) rfl
        by_cases hli : i < wq
        · obtain ⟨NN, kk', ii', v1, v2, v3, v4, P, Q, R1, R2, R3, R4, HN, hNN, HK', HI', ⟨hR1, hR2, hR3, hR4⟩, HVR, HV, HE, HBd, HLN⟩ := HST.out k i hlt hli
          obtain rfl : kk' = kk := by rw [HK'.out, HKK.out]
          obtain rfl : ii' = ii := by rw [HI'.out, HII.out]
          rw [← HN.out] at HO
          obtain ⟨a6, c6, rfl⟩ := HO.out.form
          have hi0 : (ii' : Int) < x := by have := HII.out; have := HXE.out; omega
          have hi64 : ii' ≤ 64 := by omega
          have hb63 : NN + 1 ≤ maxLen := by unfold maxLen; omega
          have hb24 : (NN + 1) * 24 ≤ 140737488355328 := by omega
          have c12 := M0.cell (.tail _ _ _ _ _ (.tail _ _ _ _ _ (Has.head _ _ _ _))) (i := 2) rfl
          obtain ⟨b, o, d1, e1, f1, rfl, hbl, cu1, hd1⟩ := (HU.out.below M0.below).cell hR1
          obtain ⟨_, _, d2, e2, f2, hee, _, cu2, hd2⟩ := (HU.out.below M0.below).cell hR2
          cases hee
          have hb0 : b < w.heap.size := by
            obtain ⟨_, _, _, _, _, hee, hbb, _⟩ := HU.out.cell hR1
            cases hee; exact hbb
          rw [HVR.out.1] at hd1
          rw [HVR.out.2.1] at hd2
          have HD1 := Lib.hid hd1
          have HD2 := Lib.hid hd2
          have hR10 : (R1 : Int) < n := by omega
          have hR20 : (R2 : Int) < n := by omega
          have hR30 : (R3 : Int) < n := by omega
          have hR40 : (R4 : Int) < n := by omega
          have HR3 := Lib.hid hR3
          have HR4 := Lib.hid hR4
          clear hd1 hd2 hR1 hR2 hR3 hR4 HK' HI'
          go_wp2_with fail
          have b3 := HBd.out
          have wP : IntKind.i64.wrap (P : Int) = (P : Int) := IntWalk.i64_in _ (by omega)
          have wQ : IntKind.i64.wrap (Q : Int) = (Q : Int) := IntWalk.i64_in _ (by omega)
          have wR1 : IntKind.i64.wrap (R1 : Int) = (R1 : Int) := IntWalk.i64_in _ (by omega)
          have wR2 : IntKind.i64.wrap (R2 : Int) = (R2 : Int) := IntWalk.i64_in _ (by omega)
          have wR3 : IntKind.i64.wrap (R3 : Int) = (R3 : Int) := IntWalk.i64_in _ (by omega)
          have wR4 : IntKind.i64.wrap (R4 : Int) = (R4 : Int) := IntWalk.i64_in _ (by omega)
          clear b3
          obtain ⟨eP, eR1, eR2, eQ, eR3, eR4⟩ := HE.out
          refine wp_region_held_drew (S := (fun w' : World => w'.cell? ⟨g1, 0, none⟩ = some (.int .i64 x) ∧ w'.cell? ⟨g1, 2, none⟩ = some (.slice (some ⟨b, o, none⟩) n cap) ∧ w'.cell? ⟨b, o + R1, none⟩ = some (.slice d1 e1 f1) ∧ w'.cell? ⟨b, o + R2, none⟩ = some (.slice d2 e2 f2))) (by kernel_rfl) (⟨cx0, c12, cu1, cu2⟩) (fun hHeld => ?_)
          refine tkT 0 ?v77 ?hy77 hHeld ?rest77
          case hy77 => (intro w' hSw; (try dsimp only at hSw); go_simp; (try with_reducible rfl))
          try simp only [Act.put, puts]
          refine tkT 1 ?v78 ?hy78 hHeld ?rest78
          case hy78 => (intro w' hSw; (try dsimp only at hSw); go_simp; (try with_reducible rfl))
          try simp only [Act.put, puts]
          refine tkT 2 ?v79 ?hy79 hHeld ?rest79
          case hy79 => (intro w' hSw; (try dsimp only at hSw); go_simp; (try with_reducible rfl))
          try simp only [Act.put, puts]
          refine tkT 3 ?v80 ?hy80 hHeld ?rest80
          case hy80 => (intro w' hSw; (try dsimp only at hSw); go_simp; (try with_reducible rfl))
          try simp only [Act.put, puts]
          refine tkT 4 ?v81 ?hy81 hHeld ?rest81
          case hy81 => (intro w' hSw; (try dsimp only at hSw); go_simp; (try with_reducible rfl))
          try simp only [Act.put, puts]
          refine tkT 5 ?v82 ?hy82 hHeld ?rest82
          case hy82 => (intro w' hSw; (try dsimp only at hSw); go_simp; (try with_reducible rfl))
          try simp only [Act.put, puts]
          refine tkT 6 ?v83 ?hy83 hHeld ?rest83
          case hy83 => (intro w' hSw; (try dsimp only at hSw); go_simp; (try with_reducible rfl))
          try simp only [Act.put, puts]
          refine tkT 7 ?v84 ?hy84 hHeld ?rest84
          case hy84 => (intro w' hSw; (try dsimp only at hSw); go_simp; (try with_reducible rfl))
          try simp only [Act.put, puts]
          refine tkT 8 ?v85 ?hy85 hHeld ?rest85
          case hy85 => (intro w' hSw; (try dsimp only at hSw); go_simp; (try with_reducible rfl))
          try simp only [Act.put, puts]
          refine tkT 9 ?v86 ?hy86 hHeld ?rest86
          case hy86 => (intro w' hSw; (try dsimp only at hSw); go_simp; (try with_reducible rfl))
          try simp only [Act.put, puts]
          refine tkT 10 ?v87 ?hy87 hHeld ?rest87
          case hy87 => (intro w' hSw; (try dsimp only at hSw); go_simp; (try with_reducible rfl))
          try simp only [Act.put, puts]
          refine tkT 11 ?v88 ?hy88 hHeld ?rest88
          case hy88 => (intro w' hSw; (try dsimp only at hSw); go_simp; (try with_reducible rfl))
          try simp only [Act.put, puts]
          refine tkT 12 ?v89 ?hy89 hHeld ?rest89
          case hy89 => (intro w' hSw; (try dsimp only at hSw); go_simp; (try with_reducible rfl))
          try simp only [Act.put, puts]
          refine tkT 13 ?v90 ?hy90 hHeld ?rest90
          case hy90 => (intro w' hSw; (try dsimp only at hSw); go_simp; (try with_reducible rfl))
          try simp only [Act.put, puts]
          refine tkT 14 ?v91 ?hy91 hHeld ?rest91
          case hy91 => (intro w' hSw; (try dsimp only at hSw); go_simp; (try with_reducible rfl))
          try simp only [Act.put, puts]
          refine tkT 15 ?v92 ?hy92 hHeld ?rest92
          case hy92 => (intro w' hSw; (try dsimp only at hSw); go_simp; (try with_reducible rfl))
          try simp only [Act.put, puts]
          refine tkT 16 ?v93 ?hy93 hHeld ?rest93
          case hy93 => (intro w' hSw; (try dsimp only at hSw); go_simp; (try with_reducible rfl))
          try simp only [Act.put, puts]
          refine tkT 17 ?v94 ?hy94 hHeld ?rest94
          case hy94 => (intro w' hSw; (try dsimp only at hSw); go_simp; (try with_reducible rfl))
          try simp only [Act.put, puts]
          refine tkT 18 ?v95 ?hy95 hHeld ?rest95
          case hy95 => (intro w' hSw; (try dsimp only at hSw); go_simp; (try with_reducible rfl))
          try simp only [Act.put, puts]
          refine tkT 19 ?v96 ?hy96 hHeld ?rest96
          case hy96 => (intro w' hSw; (try dsimp only at hSw); go_simp; (try with_reducible rfl))
          try simp only [Act.put, puts]
          refine tkT 20 ?v97 ?hy97 hHeld ?rest97
          case hy97 => (intro w' hSw; (try dsimp only at hSw); go_simp; (try with_reducible rfl))
          try simp only [Act.put, puts]
          refine wpAnyH_ready (rs := [21]) (by kernel_rfl) (by simp) ?_
          refine AllReadyH.cons rfl (fun K hK => ?_) AllReadyH.nil
          go_simp
          refine (add_u _ _ v1 v2 _ (D16.below (w := wr) (w' := wr.drew) HD1.out ((Below.refl wr.heap.size wr).drew)) (D16.below (w := wr) (w' := wr.drew) HD2.out ((Below.refl wr.heap.size wr).drew)) HLN.out.1 HLN.out.2.1).mono ?_
          rintro e w8 ⟨v8, rfl, hv8, hA⟩
          have M8 := M0.drew.call hA
          obtain ⟨a8, n8, c8, rfl, -, hd8⟩ := hv8.form
          have HD8 := Lib.hid hd8
          have HO8 := Lib.hid (OwnU.below (w := wr.drew) HO.out hA)
          have cu18 := (hA.cell (p := ⟨b, o + R1, none⟩) hbl).trans cu1
          have cu28 := (hA.cell (p := ⟨b, o + R2, none⟩) hbl).trans cu2
          clear hv8 hd8 hA
          try go_wp2_with fail
          refine hK.out _ _ (⟨M8.cell (.tail _ _ _ _ _ (.tail _ _ _ _ _ (Has.head _ _ _ _))) (i := 0) rfl, M8.cell (.tail _ _ _ _ _ (.tail _ _ _ _ _ (Has.head _ _ _ _))) (i := 2) rfl, cu18, cu28⟩) (fun hHeld => ?_)
          clear hK K
          try simp only [Act.put, puts]
          refine tkT 22 ?v99 ?hy99 hHeld ?rest99
          case hy99 => (intro w' hSw; (try dsimp only at hSw); go_simp; (try with_reducible rfl))
          try simp only [Act.put, puts]
          refine wpAnyH_done (by kernel_rfl) ?_ _
          clear eP eR1 eR2 eQ eR3 eR4 wP wQ wR1 wR2 wR3 wR4
          clear cu1 cu2 cu18 cu28 HD1 HD2 M0 HO c12 cx0
          have cx8 := M8.cell (.tail _ _ _ _ _ (.tail _ _ _ _ _ (Has.head _ _ _ _))) (i := 0) rfl
          have cU8 := M8.cell (.tail _ _ _ _ _ (.tail _ _ _ _ _ (Has.head _ _ _ _))) (i := 2) rfl
          obtain ⟨_, _, d3, e3, f3, hee, hb8, cu3, hd3⟩ := (HU.out.below M8.below).cell HR3.out
          cases hee
          rw [HVR.out.2.2.1] at hd3
          have C3 := Lib.hid (add_u _ _ (v1 + v2) v3 _ HD8.out hd3 HLN.out.2.2.1 HLN.out.2.2.2.1)
          clear hd3
          obtain ⟨eP, eR1, eR2, eQ, eR3, eR4⟩ := HE.out
          have b3 := HBd.out
          go_wp2_with fail
          clear eP eR1 eR2 eQ eR3 eR4 b3
          refine C3.out.mono ?_
          rintro e w9 ⟨v9, rfl, hv9, hA⟩
          have M9 := M8.call hA
          obtain ⟨a9, n9, c9, rfl, -, hd9⟩ := hv9.form
          have HD9 := Lib.hid hd9
          have HO9 := Lib.hid (HO8.out.below hA)
          clear hv9 hd9 hA C3 HD8 HO8 M8 cx8 cU8 cu3
          have cx9 := M9.cell (.tail _ _ _ _ _ (.tail _ _ _ _ _ (Has.head _ _ _ _))) (i := 0) rfl
          have cU9 := M9.cell (.tail _ _ _ _ _ (.tail _ _ _ _ _ (Has.head _ _ _ _))) (i := 2) rfl
          have c329 := M9.cell (Has.head _ _ _ _) (i := 2) rfl
          obtain ⟨_, _, d4, e4, f4, hee, hb9, cu4, hd4⟩ := (HU.out.below M9.below).cell HR4.out
          cases hee
          rw [HVR.out.2.2.2] at hd4
          have HD4 := Lib.hid hd4
          clear hd4
          go_wp2_with fail
          have b3 := HBd.out
          have wP : IntKind.i64.wrap (P : Int) = (P : Int) := IntWalk.i64_in _ (by omega)
          have wQ : IntKind.i64.wrap (Q : Int) = (Q : Int) := IntWalk.i64_in _ (by omega)
          have wR1 : IntKind.i64.wrap (R1 : Int) = (R1 : Int) := IntWalk.i64_in _ (by omega)
          have wR2 : IntKind.i64.wrap (R2 : Int) = (R2 : Int) := IntWalk.i64_in _ (by omega)
          have wR3 : IntKind.i64.wrap (R3 : Int) = (R3 : Int) := IntWalk.i64_in _ (by omega)
          have wR4 : IntKind.i64.wrap (R4 : Int) = (R4 : Int) := IntWalk.i64_in _ (by omega)
          clear b3
          obtain ⟨eP, eR1, eR2, eQ, eR3, eR4⟩ := HE.out
          refine wp_region_N_drew (S := (fun w' : World => w'.cell? ⟨g3, 2, none⟩ = some (.slice a6 NN c6) ∧ w'.cell? ⟨g1, 0, none⟩ = some (.int .i64 x) ∧ w'.cell? ⟨g1, 2, none⟩ = some (.slice (some ⟨b, o, none⟩) n cap) ∧ w'.cell? ⟨b, o + R4, none⟩ = some (.slice d4 e4 f4))) 21 (by kernel_rfl) ?_
          have hHeld : (fun w' : World => w'.cell? ⟨g3, 2, none⟩ = some (.slice a6 NN c6) ∧ w'.cell? ⟨g1, 0, none⟩ = some (.int .i64 x) ∧ w'.cell? ⟨g1, 2, none⟩ = some (.slice (some ⟨b, o, none⟩) n cap) ∧ w'.cell? ⟨b, o + R4, none⟩ = some (.slice d4 e4 f4)) w9.drew := ⟨c329, cx9, cU9, cu4⟩
          refine wpAnyN_takeY (i := 0) (v := ?v100) rfl (by kernel_rfl) (by kernel_rfl) (by kernel_rfl) (fun _ _ _ h => h) rfl (Or.inl ⟨by rfl, ?hy100⟩) (fun _ => hHeld) ?rest100
          case hy100 => (intro w' _; go_simp; (try with_reducible rfl))
          try simp only [Act.put, puts]
          refine wpAnyN_takeY (i := 2) (v := ?v101) rfl (by kernel_rfl) (by kernel_rfl) (by kernel_rfl) (fun _ _ _ h => h) rfl (Or.inl ⟨by rfl, ?hy101⟩) (fun _ => hHeld) ?rest101
          case hy101 => (intro w' _; go_simp; (try with_reducible rfl))
          try simp only [Act.put, puts]
          refine wpAnyN_takeY (i := 3) (v := ?v102) rfl (by kernel_rfl) (by kernel_rfl) (by kernel_rfl) (fun _ _ _ h => h) rfl (Or.inl ⟨by rfl, ?hy102⟩) (fun _ => hHeld) ?rest102
          case hy102 => (intro w' _; go_simp; (try with_reducible rfl))
          try simp only [Act.put, puts]
          refine wpAnyN_takeY (i := 5) (v := ?v103) rfl (by kernel_rfl) (by kernel_rfl) (by kernel_rfl) (fun _ _ _ h => h) rfl (Or.inl ⟨by rfl, ?hy103⟩) (fun _ => hHeld) ?rest103
          case hy103 => (intro w' _; go_simp; (try with_reducible rfl))
          try simp only [Act.put, puts]
          refine wpAnyN_takeY (i := 6) (v := ?v104) rfl (by kernel_rfl) (by kernel_rfl) (by kernel_rfl) (fun _ _ _ h => h) rfl (Or.inl ⟨by rfl, ?hy104⟩) (fun _ => hHeld) ?rest104
          case hy104 => (intro w' _; go_simp; (try with_reducible rfl))
          try simp only [Act.put, puts]
          refine wpAnyN_takeY (i := 9) (v := ?v105) rfl (by kernel_rfl) (by kernel_rfl) (by kernel_rfl) (fun _ _ _ h => h) rfl (Or.inl ⟨by rfl, ?hy105⟩) (fun _ => hHeld) ?rest105
          case hy105 => (intro w' _; go_simp; (try with_reducible rfl))
          try simp only [Act.put, puts]
          refine wpAnyN_takeY (i := 12) (v := ?v106) rfl (by kernel_rfl) (by kernel_rfl) (by kernel_rfl) (fun _ _ _ h => h) rfl (Or.inl ⟨by rfl, ?hy106⟩) (fun _ => hHeld) ?rest106
          case hy106 => (intro w' _; go_simp; (try with_reducible rfl))
          try simp only [Act.put, puts]
          refine wpAnyN_take (i := 1) (v := ?v107) rfl (by kernel_rfl) (by kernel_rfl) (by kernel_rfl) (fun _ _ _ h => h) rfl (by kernel_rfl) (by kernel_rfl) (Or.inl ⟨by rfl, ?hy107⟩) hHeld ?rest107
          case hy107 => (intro w' hSw; (try dsimp only at hSw); go_simp; (try with_reducible rfl))
          try simp only [Act.put, puts]
          refine wpAnyN_take (i := 4) (v := ?v108) rfl (by kernel_rfl) (by kernel_rfl) (by kernel_rfl) (fun _ _ _ h => h) rfl (by kernel_rfl) (by kernel_rfl) (Or.inl ⟨by rfl, ?hy108⟩) hHeld ?rest108
          case hy108 => (intro w' hSw; (try dsimp only at hSw); go_simp; (try with_reducible rfl))
          try simp only [Act.put, puts]
          refine wpAnyN_take (i := 7) (v := ?v109) rfl (by kernel_rfl) (by kernel_rfl) (by kernel_rfl) (fun _ _ _ h => h) rfl (by kernel_rfl) (by kernel_rfl) (Or.inl ⟨by rfl, ?hy109⟩) hHeld ?rest109
          case hy109 => (intro w' hSw; (try dsimp only at hSw); go_simp; (try with_reducible rfl))
          try simp only [Act.put, puts]
          refine wpAnyN_take (i := 10) (v := ?v110) rfl (by kernel_rfl) (by kernel_rfl) (by kernel_rfl) (fun _ _ _ h => h) rfl (by kernel_rfl) (by kernel_rfl) (Or.inl ⟨by rfl, ?hy110⟩) hHeld ?rest110
          case hy110 => (intro w' hSw; (try dsimp only at hSw); go_simp; (try with_reducible rfl))
          try simp only [Act.put, puts]
          refine wpAnyN_takeY (i := 8) (v := ?v111) rfl (by kernel_rfl) (by kernel_rfl) (by kernel_rfl) (fun _ _ _ h => h) rfl (Or.inl ⟨by rfl, ?hy111⟩) (fun _ => hHeld) ?rest111
          case hy111 => (intro w' _; go_simp; (try with_reducible rfl))
          try simp only [Act.put, puts]
          refine wpAnyN_takeY (i := 11) (v := ?v112) rfl (by kernel_rfl) (by kernel_rfl) (by kernel_rfl) (fun _ _ _ h => h) rfl (Or.inl ⟨by rfl, ?hy112⟩) (fun _ => hHeld) ?rest112
          case hy112 => (intro w' _; go_simp; (try with_reducible rfl))
          try simp only [Act.put, puts]
          refine wpAnyN_takeY (i := 13) (v := ?v113) rfl (by kernel_rfl) (by kernel_rfl) (by kernel_rfl) (fun _ _ _ h => h) rfl (Or.inl ⟨by rfl, ?hy113⟩) (fun _ => hHeld) ?rest113
          case hy113 => (intro w' _; go_simp; (try with_reducible rfl))
          try simp only [Act.put, puts]
          refine wpAnyN_takeY (i := 14) (v := ?v114) rfl (by kernel_rfl) (by kernel_rfl) (by kernel_rfl) (fun _ _ _ h => h) rfl (Or.inl ⟨by rfl, ?hy114⟩) (fun _ => hHeld) ?rest114
          case hy114 => (intro w' _; go_simp; (try with_reducible rfl))
          try simp only [Act.put, puts]
          refine wpAnyN_takeY (i := 15) (v := ?v115) rfl (by kernel_rfl) (by kernel_rfl) (by kernel_rfl) (fun _ _ _ h => h) rfl (Or.inl ⟨by rfl, ?hy115⟩) (fun _ => hHeld) ?rest115
          case hy115 => (intro w' _; go_simp; (try with_reducible rfl))
          try simp only [Act.put, puts]
          refine wpAnyN_take (i := 16) (v := ?v116) rfl (by kernel_rfl) (by kernel_rfl) (by kernel_rfl) (fun _ _ _ h => h) rfl (by kernel_rfl) (by kernel_rfl) (Or.inl ⟨by rfl, ?hy116⟩) hHeld ?rest116
          case hy116 => (intro w' hSw; (try dsimp only at hSw); go_simp; (try with_reducible rfl))
          try simp only [Act.put, puts]
          refine wpAnyN_ready (rs := [17]) (by kernel_rfl) (by simp) ?_
          refine AllReadyN.cons rfl (fun K hK => ?_) AllReadyN.nil
          go_simp
          refine (add_u _ _ (v1 + v2 + v3) v4 _ (D16.below (w := w9) (w' := w9.drew) HD9.out ((Below.refl w9.heap.size w9).drew)) (D16.below (w := w9) (w' := w9.drew) HD4.out ((Below.refl w9.heap.size w9).drew)) HLN.out.2.2.2.2.1 HLN.out.2.2.2.2.2).mono ?_
          rintro e w10 ⟨v10, rfl, hv10, hA⟩
          have M10 := M9.drew.call hA
          obtain ⟨a10, n10, c10, rfl, -, hd10⟩ := hv10.form
          have HD10 := Lib.hid hd10
          have HO10 := Lib.hid (OwnU.below (w := w9.drew) HO9.out hA)
          have cu410 := (hA.cell (p := ⟨b, o + R4, none⟩) hb9).trans cu4
          have hb10 : b < w10.heap.size := Nat.lt_of_lt_of_le hb9 hA.size
          clear hv10 hd10 hA
          try go_wp2_with fail
          replace hHeld : (fun w' : World => w'.cell? ⟨g3, 2, none⟩ = some (.slice a6 NN c6) ∧ w'.cell? ⟨g1, 0, none⟩ = some (.int .i64 x) ∧ w'.cell? ⟨g1, 2, none⟩ = some (.slice (some ⟨b, o, none⟩) n cap) ∧ w'.cell? ⟨b, o + R4, none⟩ = some (.slice d4 e4 f4)) _ := ⟨M10.cell (Has.head _ _ _ _) (i := 2) rfl, M10.cell (.tail _ _ _ _ _ (.tail _ _ _ _ _ (Has.head _ _ _ _))) (i := 0) rfl, M10.cell (.tail _ _ _ _ _ (.tail _ _ _ _ _ (Has.head _ _ _ _))) (i := 2) rfl, cu410⟩
          refine hK.out _ _ (fun _ => hHeld) ?_
          clear hK K
          try simp only [Act.put, puts]
          refine wpAnyN_ready (rs := [18]) (by kernel_rfl) (by simp) ?_
          refine AllReadyN.cons rfl (fun K hK => ?_) AllReadyN.nil
          go_simp
          obtain ⟨w11, hw11⟩ : ∃ w11, w10.alloc (.cells #[.slice a10 n10 c10] 51) = w11 := ⟨_, rfl⟩
          have hA11 : Below w10.heap.size w10 w11 := by rw [← hw11]; exact (Below.refl _ _).alloc (Nat.le_refl _) _
          have p11 : Sl w11 1 (.slice (some ⟨w10.heap.size, 0, none⟩) 1 1) 1 [.slice a10 n10 c10] := by rw [← hw11]; exact Sl.one w10 _ _
          have M11 := M10.call hA11
          have cu411 := (hA11.cell (p := ⟨b, o + R4, none⟩) hb10).trans cu410
          have hd11 := HD10.out.below hA11
          obtain ⟨h011, cs11, ho11, hD11⟩ := HO10.out.below hA11
          (try simp only [hw11])
          clear hw11
          try go_wp2_with fail
          replace hHeld : (fun w' : World => w'.cell? ⟨g3, 2, none⟩ = some (.slice a6 NN c6) ∧ w'.cell? ⟨g1, 0, none⟩ = some (.int .i64 x) ∧ w'.cell? ⟨g1, 2, none⟩ = some (.slice (some ⟨b, o, none⟩) n cap) ∧ w'.cell? ⟨b, o + R4, none⟩ = some (.slice d4 e4 f4)) _ := ⟨M11.cell (Has.head _ _ _ _) (i := 2) rfl, M11.cell (.tail _ _ _ _ _ (.tail _ _ _ _ _ (Has.head _ _ _ _))) (i := 0) rfl, M11.cell (.tail _ _ _ _ _ (.tail _ _ _ _ _ (Has.head _ _ _ _))) (i := 2) rfl, cu411⟩
          refine hK.out _ _ (fun _ => hHeld) ?_
          clear hK K
          try simp only [Act.put, puts]
          refine wpAnyN_ready (rs := [19]) (by kernel_rfl) (by simp) ?_
          refine AllReadyN.cons rfl (fun K hK => ?_) AllReadyN.nil
          rw [if_pos (by rfl)]
          refine wp_app Edd (.tmp 64) (.tmp 81) rfl w.heap.size rfl ho11 rfl p11 (by intro u hu; simp at hu; subst hu; rfl) hb63 hb24 M11.below.size ?_
          intro v12 w12 ho12 hg12 _
          have hO12 := own_snoc h011 ho11 hD11 hd11 ho12 hg12
          rw [show tabN f NN ++ [v1 + v2 + v3 + v4] = tabN f (NN + 1) by rw [← HV.out]; exact HT.out _] at hO12
          have M12 := M11.app ho11 hg12 (Nat.le_refl _) (by simp)
          have cu412 := ((grown_turnedB hg12).cell (p := ⟨b, o + R4, none⟩) (Nat.lt_of_lt_of_le hb0 M11.below.size) (fun e => by have := (ho11.lt b e).1; omega)).trans cu411
          obtain ⟨a12, c12', rfl⟩ := hO12.form
          have HO12 := Lib.hid hO12
          have r1 := M12.cell (Has.head _ _ _ _) (i := 2) rfl
          have q1 := M12.free (Has.head _ _ _ _) 2
          clear hO12 ho12 hg12 p11 h011 ho11 hD11 hd11 M11 M10 HD10 HO10
          replace hHeld : (fun w' : World => w'.cell? ⟨g3, 2, none⟩ = some (.slice a6 NN c6) ∧ w'.cell? ⟨g1, 0, none⟩ = some (.int .i64 x) ∧ w'.cell? ⟨g1, 2, none⟩ = some (.slice (some ⟨b, o, none⟩) n cap) ∧ w'.cell? ⟨b, o + R4, none⟩ = some (.slice d4 e4 f4)) _ := ⟨M12.cell (Has.head _ _ _ _) (i := 2) rfl, M12.cell (.tail _ _ _ _ _ (.tail _ _ _ _ _ (Has.head _ _ _ _))) (i := 0) rfl, M12.cell (.tail _ _ _ _ _ (.tail _ _ _ _ _ (Has.head _ _ _ _))) (i := 2) rfl, cu412⟩
          refine hK.out _ _ (fun _ => hHeld) ?_
          clear hK K
          try simp only [Act.put, puts]
          refine wpAnyN_takeY (i := 20) (v := ?v120) rfl (by kernel_rfl) (by kernel_rfl) (by kernel_rfl) (fun _ _ _ h => h) rfl (Or.inl ⟨by rfl, ?hy120⟩) (fun _ => hHeld) ?rest120
          case hy120 => (intro w' _; go_simp; (try with_reducible rfl))
          try simp only [Act.put, puts]
          refine wpAnyN_ready (rs := [21]) (by kernel_rfl) (by simp) ?_
          refine AllReadyN.cons rfl (fun K hK => ?_) AllReadyN.nil
          go_simp
          try go_wp2_with fail
          refine hK.out _ _ (fun h => by have h' : (true : Bool) = false := h; cases h') ?_
          clear hK K
          try simp only [Act.put, puts]
          refine wpAnyN_done (by kernel_rfl) ?_ _
          have M13 := M12.set 2 (.slice a12 (NN + 1) c12') (Upd.head _ _ _ _ _) (by simp)
          have HO13 := Lib.hid (HO12.out.turnedB (M12.has (Has.head _ _ _ _)) (by decide) (by decide) ((Turned.refl (fun k => k = g3) w12).setCell (a := ⟨g3, 2, none⟩) (.inl rfl) (.slice a12 (NN + 1) c12')))
          have M13 : Mem w (w12.setCell ⟨g3, 2, none⟩ (.slice a12 (NN + 1) c12')) [(g3, 36, fc wq hq (.slice a12 (NN + 1) c12')), (g2, 36, fc 0 0 (.slice none 0 0)), (g1, 36, fc x y (.slice (some ⟨b, o, none⟩) n cap))] := M13
          obtain ⟨w13, hw13⟩ : ∃ w13, w12.setCell ⟨g3, 2, none⟩ (.slice a12 (NN + 1) c12') = w13 := ⟨_, rfl⟩
          rw [hw13] at M13 HO13 ⊢
          clear r1 q1 M12 HO12 hw13 cu4 cu410 cu411 cu412 cx9 cU9 c329 M9 HO9 HD9 HD4
          clear eP eR1 eR2 eQ eR3 eR4 wP wQ wR1 wR2 wR3 wR4
          go_wp2_with fail
          go_roundw
          case rel => exact ⟨i + 1, ii' + 2, _, by omega, by go_num, Lib.hid (by rw [HII.out]; omega), by rw [← Nat.add_assoc, ← HN.out]; exact HO13, M13⟩
          case measure => simp [intOf]; omega
        · obtain rfl : i = wq := by omega
          have hii : ¬ (ii : Int) < x := by have := HII.out; have := HXE.out; omega
          have hO := HO.out
          rw [show k * i + i = (k + 1) * i by rw [Nat.add_mul, Nat.one_mul]] at hO
          have HO2 := Lib.hid hO
          clear hO HO
          go_wp2_with fail
          go_roundw
          case rel => exact ⟨k + 1, kk + 2, _, by omega, by go_num, Lib.hid (by rw [HKK.out]; omega), HO2, M0⟩
          case measure => simp [intOf]; omega
    · obtain rfl : k = hq := by omega
      have hkk : ¬ (kk : Int) < y := by have := HKK.out; have := HYE.out; omega
      have HO2 := HO
      clear HO
      go_wp2_with ((with_reducible refine (?_ : Go.wpList _ _ _ (_ :: _) _ _)); (first | go_skip | (refine wpL_ldc M0 rfl rfl rfl ?_) | (refine wpL_stM (v := fv wq k (.slice a5 (k * wq) c5)) M0 rfl rfl rfl rfl (wr_f _ _ _ _ _ _ _ _) (.tail _ _ _ _ _ _ _ (Upd.head _ _ _ _ _)) ?_; intro w4 M4 hT4)))
      have hO4 := HO2.out.turnedB (M0.has (.tail _ _ _ _ _ (Has.head _ _ _ _))) (by decide) (by decide) hT4
      refine bodyPost_ret (res_cell rfl M4 rfl (.tail _ _ _ _ _ (Has.head _ _ _ _)) (rd_f _ _ _)) rfl ?_
      exact ⟨a5, c5, by rw [HTL.out], by rw [HTL.out]; exact hO4.isU, M4.below⟩
end Go.Proofs.YtanblpfpkohghaaDoor

/-
  How far apart a grid and a filter are: the reference's.
-/
namespace Go.Proofs.YtanblpfpkohghaaDoor
open Go Go.RowKit Go.Th Go.Th.Dig Go.Th.Ex Go.Th.Grid

/-- By how much two numbers differ. -/
def dif (p q : Nat) : Nat := if p < q then q - p else p - q
/-- What so many places differ by, together. -/
def sumD (us vs : List Nat) (s t : Nat) : Nat → Nat
  | 0 => 0
  | i + 1 => sumD us vs s t i + dif (us.getD i 0 * t) (vs.getD i 0 * s)
def overN (us vs : List Nat) (b : Int) : Bool :=
  if us.sum = 0 ∨ vs.sum = 0 then decide (b < 1099511627776) else decide (us.sum * vs.sum * b.toNat + us.sum * vs.sum * b.toNat < sumD us vs us.sum vs.sum us.length * 1099511627776)
theorem dif_le (p q : Nat) : dif p q ≤ p + q := by unfold dif; split <;> omega
theorem sumD_lt {us vs : List Nat} {s t K : Nat} (h1 : ∀ i, us.getD i 0 * t < 2 ^ K) (h2 : ∀ i, vs.getD i 0 * s < 2 ^ K) : ∀ i, sumD us vs s t i ≤ i * 2 ^ (K + 1)
  | 0 => by simp [sumD]
  | i + 1 => by
    have h := sumD_lt h1 h2 i
    have h3 := h1 i
    have h4 := h2 i
    have h5 := dif_le (us.getD i 0 * t) (vs.getD i 0 * s)
    have e : 2 ^ (K + 1) = 2 ^ K * 2 := Nat.pow_succ ..
    rw [sumD, Nat.add_mul, Nat.one_mul]
    omega

set_option maxRecDepth 20000 in
set_option maxHeartbeats 6400000 in
theorem rover_any (x y : Nat) (x' y' X Y S b : Int) (a a2 : Option Addr) (n ca cb k : Nat) (p : List Int) (us vs : List Nat) (hp : p.length = n) (hus : us.length = n) (hpv : ∀ i, i < n → p.getD i 0 = ((us.getD i 0 : Nat) : Int)) (hl : Lt 63 us) (hm : Lt k vs) (hk : k ≤ 7000) (hk63 : 63 ≤ k) (hn : n ≤ 4096) (hb : b < 9223372036854775808) (w : World) (hS : Sl w 1 (.slice a n ca) n (i64s p)) (hV : IsU w a2 n cb vs) :
    Calls Tryd.prog 14 #[gv x y X Y S (.slice a n ca), fv x' y' (.slice a2 n cb), .int .i64 b] w fun e w' => e = .returned (.bool (overN us vs b)) ∧ Below w.heap.size w w' := by
  have hsu : us.sum < 2 ^ (63 + 13) := by have h := sumN_lt hl us.length (m := 13) (by omega); rwa [sumN_all] at h
  have hsv : vs.sum < 2 ^ (k + 13) := by have h := sumN_lt hm vs.length (m := 13) (by have := hV.len; omega); rwa [sumN_all] at h
  have CF := Lib.hid (fun wx hs => rfrom_any x y X Y S a n ca p us hp hus hpv (fun i => by have h := hl i; have e : (2 : Nat) ^ 63 = 9223372036854775808 := (by decide); omega) hn wx hs)
  have C1 := Lib.hid (fun (aU : Option Addr) (cU : Nat) wx hx => rsum_any x y aU n cU 63 us hl (by omega) hn wx hx)
  have C2 := Lib.hid (fun wx hx => rsum_any x' y' a2 n cb k vs hm (by omega) hn wx hx)
  have hov : overN us vs b = if us.sum = 0 ∨ vs.sum = 0 then decide (b < 1099511627776) else decide (us.sum * vs.sum * b.toNat + us.sum * vs.sum * b.toNat < sumD us vs us.sum vs.sum n * 1099511627776) := by unfold overN; rw [hus]
  rw [hov]
  obtain ⟨s, hs⟩ : ∃ s, s = us.sum := ⟨_, rfl⟩
  obtain ⟨t, ht⟩ : ∃ t, t = vs.sum := ⟨_, rfl⟩
  rw [← hs, ← ht]
  obtain ⟨ov, hov2⟩ : ∃ ov, ov = if s = 0 ∨ t = 0 then decide (b < 1099511627776) else decide (s * t * b.toNat + s * t * b.toNat < sumD us vs s t n * 1099511627776) := ⟨_, rfl⟩
  rw [← hov2]
  have HZ := Lib.hid (fun (h : s = 0 ∨ t = 0) => (show ov = decide (b < 1099511627776) by rw [hov2, if_pos h]))
  have HNZ := Lib.hid (fun (h : ¬ (s = 0 ∨ t = 0)) => (show ov = decide (s * t * b.toNat + s * t * b.toNat < sumD us vs s t n * 1099511627776) by rw [hov2, if_neg h]))
  clear hov2
  rw [← hs] at hsu C1
  rw [← ht] at hsv C2
  have g1 : ∀ i, us.getD i 0 * t < 2 ^ (k + 76) := fun i => Nat.lt_of_lt_of_le (mul_pow2 (hl i) hsv) (Nat.pow_le_pow_right (by decide) (by omega))
  have g2 : ∀ i, vs.getD i 0 * s < 2 ^ (k + 76) := fun i => Nat.lt_of_lt_of_le (mul_pow2 (hm i) hsu) (Nat.pow_le_pow_right (by decide) (by omega))
  have g3' : ∀ i, i ≤ n → sumD us vs s t i < 2 ^ (k + 90) := fun i hi => by
    have h := sumD_lt g1 g2 i
    have e : 2 ^ (k + 90) = 2 ^ 13 * 2 ^ (k + 76 + 1) := by rw [← Nat.pow_add]; congr 1; omega
    have h2 : i * 2 ^ (k + 76 + 1) < 2 ^ 13 * 2 ^ (k + 76 + 1) := Nat.mul_lt_mul_of_pos_right (by omega) (Nat.pow_pos (by decide))
    omega
  have hln : ∀ u : Nat, u < 2 ^ (k + 300) → (dg 256 u).length ≤ 10000 := fun u h => Nat.le_trans (d16 (m := 1000) h (by omega)) (by omega)
  have up : ∀ {u m : Nat}, u < 2 ^ m → m ≤ k + 300 → u < 2 ^ (k + 300) := fun h1 h2 => Nat.lt_of_lt_of_le h1 (Nat.pow_le_pow_right (by decide) h2)
  have HSL := Lib.hid (hln s (up hsu (by omega)))
  have HTL := Lib.hid (hln t (up hsv (by omega)))
  have HUL := Lib.hid (fun i => hln _ (up (hl i) (by omega)))
  have HVL := Lib.hid (fun i => hln _ (up (hm i) (by omega)))
  have HG1 := Lib.hid (fun i => hln _ (up (g1 i) (by omega)))
  have HG2 := Lib.hid (fun i => hln _ (up (g2 i) (by omega)))
  have HG3 := Lib.hid (fun i hi => hln _ (up (g3' i hi) (by omega)))
  have hst : s * t < 2 ^ (k + 89) := Nat.lt_of_lt_of_le (mul_pow2 hsu hsv) (Nat.pow_le_pow_right (by decide) (by omega))
  have hB : b.toNat < 2 ^ 63 := by have e : (2 : Nat) ^ 63 = 9223372036854775808 := (by decide); omega
  have hall : s * t * b.toNat < 2 ^ (k + 152) := Nat.lt_of_lt_of_le (mul_pow2 hst hB) (Nat.pow_le_pow_right (by decide) (by omega))
  have h40 : (1099511627776 : Nat) < 2 ^ 41 := by decide
  have hd40 : sumD us vs s t n * 1099511627776 < 2 ^ (k + 131) := Nat.lt_of_lt_of_le (mul_pow2 (g3' n (Nat.le_refl _)) h40) (Nat.pow_le_pow_right (by decide) (by omega))
  have h2all : s * t * b.toNat + s * t * b.toNat < 2 ^ (k + 153) := by
    have e : 2 ^ (k + 153) = 2 ^ (k + 152) * 2 := Nat.pow_succ ..
    omega
  have HST := Lib.hid (hln _ (up hst (by omega)))
  have HBL := Lib.hid (hln _ (up hB (by omega)))
  have HALL := Lib.hid (hln _ (up hall (by omega)))
  have H2A := Lib.hid (hln _ (up h2all (by omega)))
  have HD40 := Lib.hid (hln _ (up hd40 (by omega)))
  have H40 := Lib.hid (hln _ (up h40 (by omega)))
  have HDN := Lib.hid (fun i => (show sumD us vs s t i + dif (us.getD i 0 * t) (vs.getD i 0 * s) = sumD us vs s t (i + 1) from rfl))
  have HU0 := Lib.hid hus
  have HS := Lib.hid hS
  have HV := Lib.hid hV
  have hmx := hS.max
  have hmx2 := hV.max
  have HB63 := Lib.hid hB
  have M0 := Mem.start w
  clear hp hus hpv hl hm hk hS hV hsu hsv hov hs ht g1 g2 g3' hln up hst hB hall h40 hd40 h2all hk63
  go_enter Tryd.func14, Tryd.ntmps14
  go_upto_region 1 with (((with_reducible refine (?_ : Go.wpList _ _ _ (_ :: _) _ _)); (first | go_skip | (refine wpL_bx M0 rfl rfl rfl rfl ?_; clear M0; intro g1 w1 M1) | (refine wpL_alc M0 rfl rfl ?_; clear M0; intro g1 w1 M1) | (refine wpL_ldc M0 rfl rfl rfl ?_) | (refine wpL_lgc M0 rfl rfl rfl ?_) | (refine wpL_stc M0 rfl rfl rfl rfl ?_; clear M0; intro w' M0) | (refine wpL_sti M0 rfl rfl rfl rfl ?_; clear M0; intro w' M0) | (refine wpL_sth M0 rfl rfl rfl rfl (wr_minus _ _ _) ?_; clear M0; intro w' M0) | (refine wpL_bx M1 rfl rfl rfl rfl ?_; clear M1; intro g2 w2 M2) | (refine wpL_alc M1 rfl rfl ?_; clear M1; intro g2 w2 M2) | (refine wpL_ldc M1 rfl rfl rfl ?_) | (refine wpL_lgc M1 rfl rfl rfl ?_) | (refine wpL_stc M1 rfl rfl rfl rfl ?_; clear M1; intro w' M1) | (refine wpL_sti M1 rfl rfl rfl rfl ?_; clear M1; intro w' M1) | (refine wpL_sth M1 rfl rfl rfl rfl (wr_minus _ _ _) ?_; clear M1; intro w' M1) | (refine wpL_ldc M2 rfl rfl rfl ?_) | (refine wpL_lgc M2 rfl rfl rfl ?_) | (refine wpL_stc M2 rfl rfl rfl rfl ?_; clear M2; intro w' M2) | (refine wpL_sti M2 rfl rfl rfl rfl ?_; clear M2; intro w' M2) | (refine wpL_sth M2 rfl rfl rfl rfl (wr_minus _ _ _) ?_; clear M2; intro w' M2))))
  go_wp2_with ((with_reducible refine (?_ : Go.wpList _ _ _ (_ :: _) _ _)); (first | go_skip | (refine wpL_ldc M2 rfl rfl rfl ?_) | (refine wpL_lgc M2 rfl rfl rfl ?_) | (refine wpL_stc M2 rfl rfl rfl rfl ?_; clear M2; intro w' M2) | (refine wpL_sti M2 rfl rfl rfl rfl ?_; clear M2; intro w' M2) | (refine wpL_sth M2 rfl rfl rfl rfl (wr_minus _ _ _) ?_; clear M2; intro w' M2)))
  refine (CF.out _ (HS.out.below M2.below)).mono ?_
  rintro e w9 ⟨aU, cU, rfl, hU, hA⟩
  rw [HU0.out] at hU ⊢
  replace M2 := M2.call hA
  have HU := Lib.hid hU
  clear hU hA
  have M20 := Mem.start w9
  go_upto_region 2 with (((with_reducible refine (?_ : Go.wpList _ _ _ (_ :: _) _ _)); (first | go_skip | (refine wpL_bx M20 rfl rfl rfl rfl ?_; clear M20; intro g21 w21 M21) | (refine wpL_alc M20 rfl rfl ?_; clear M20; intro g21 w21 M21) | (refine wpL_ldc M20 rfl rfl rfl ?_) | (refine wpL_lgc M20 rfl rfl rfl ?_) | (refine wpL_stc M20 rfl rfl rfl rfl ?_; clear M20; intro w' M20) | (refine wpL_sti M20 rfl rfl rfl rfl ?_; clear M20; intro w' M20) | (refine wpL_sth M20 rfl rfl rfl rfl (wr_minus _ _ _) ?_; clear M20; intro w' M20) | (refine wpL_ldc M21 rfl rfl rfl ?_) | (refine wpL_lgc M21 rfl rfl rfl ?_) | (refine wpL_stc M21 rfl rfl rfl rfl ?_; clear M21; intro w' M21) | (refine wpL_sti M21 rfl rfl rfl rfl ?_; clear M21; intro w' M21) | (refine wpL_sth M21 rfl rfl rfl rfl (wr_minus _ _ _) ?_; clear M21; intro w' M21))))
  obtain ⟨w10, hw10⟩ : ∃ w10, w10 = w' := ⟨_, rfl⟩
  rw [← hw10] at M21 ⊢
  clear hw10
  have hA := M21.below
  replace HU := Lib.hid (HU.out.below hA)
  have M0 : Mem w w10 [(g21, 36, fc x y (.slice aU n cU)), (g2, 36, fc x' y' (.slice a2 n cb)), (g1, 28, gc x y X Y S (.slice a n ca))] := Mem.join M2 M21
  clear hA M21 M2
  go_wp2_with ((with_reducible refine (?_ : Go.wpList _ _ _ (_ :: _) _ _)); (first | go_skip | (refine wpL_ldc M0 rfl rfl rfl ?_) | (refine wpL_lgc M0 rfl rfl rfl ?_) | (refine wpL_stc M0 rfl rfl rfl rfl ?_; clear M0; intro w' M0) | (refine wpL_sti M0 rfl rfl rfl rfl ?_; clear M0; intro w' M0) | (refine wpL_sth M0 rfl rfl rfl rfl (wr_minus _ _ _) ?_; clear M0; intro w' M0)))
  refine (C1.out aU cU _ HU.out).mono ?_
  rintro e w3 ⟨v3, rfl, hv3, hA⟩
  replace M0 := M0.call hA
  replace HU := Lib.hid (HU.out.below hA)
  obtain ⟨aS, nS, cS, rfl, lS, hS⟩ := hv3.form
  have LS := Lib.hid lS
  have HSS := Lib.hid hS
  clear hv3 hA hS lS
  go_wp2_with ((with_reducible refine (?_ : Go.wpList _ _ _ (_ :: _) _ _)); (first | go_skip | (refine wpL_ldc M0 rfl rfl rfl ?_) | (refine wpL_lgc M0 rfl rfl rfl ?_) | (refine wpL_stc M0 rfl rfl rfl rfl ?_; clear M0; intro w' M0) | (refine wpL_sti M0 rfl rfl rfl rfl ?_; clear M0; intro w' M0) | (refine wpL_sth M0 rfl rfl rfl rfl (wr_minus _ _ _) ?_; clear M0; intro w' M0)))
  refine (C2.out _ (HV.out.below M0.below)).mono ?_
  rintro e w4 ⟨v4, rfl, hv4, hA⟩
  replace M0 := M0.call hA
  replace HU := Lib.hid (HU.out.below hA)
  replace HSS := Lib.hid (HSS.out.below hA)
  obtain ⟨aT, nT, cT, rfl, lT, hT⟩ := hv4.form
  have LT := Lib.hid lT
  have HTT := Lib.hid hT
  clear hv4 hA hT lT
  by_cases hz : s = 0 ∨ t = 0
  · have hov3 := Lib.hid (HZ.out hz)
    have e1 := dg_len_pos (p := s)
    have e2 := dg_len_pos (p := t)
    rw [← LS.out] at e1
    rw [← LT.out] at e2
    by_cases hs0 : nS = 0
    · have hs1 : (nS : Int) = 0 := by omega
      clear e1 e2 hz LS LT
      go_wp2_with ((with_reducible refine (?_ : Go.wpList _ _ _ (_ :: _) _ _)); (first | go_skip | (refine wpL_ldc M0 rfl rfl rfl ?_) | (refine wpL_lgc M0 rfl rfl rfl ?_) | (refine wpL_stc M0 rfl rfl rfl rfl ?_; clear M0; intro w' M0) | (refine wpL_sti M0 rfl rfl rfl rfl ?_; clear M0; intro w' M0) | (refine wpL_sth M0 rfl rfl rfl rfl (wr_minus _ _ _) ?_; clear M0; intro w' M0)))
      go_ret
      exact ⟨by rw [hov3.out]; rfl, M0.below⟩
    · have hs1 : ¬ (nS : Int) = 0 := by omega
      have hs2 : ((nS : Int) == 0) = false := beq_eq_false_iff_ne.2 hs1
      have ht1 : (nT : Int) = 0 := by omega
      clear e1 e2 hz LS LT hs0
      go_wp2_with ((with_reducible refine (?_ : Go.wpList _ _ _ (_ :: _) _ _)); (first | go_skip | (refine wpL_ldc M0 rfl rfl rfl ?_) | (refine wpL_lgc M0 rfl rfl rfl ?_) | (refine wpL_stc M0 rfl rfl rfl rfl ?_; clear M0; intro w' M0) | (refine wpL_sti M0 rfl rfl rfl rfl ?_; clear M0; intro w' M0) | (refine wpL_sth M0 rfl rfl rfl rfl (wr_minus _ _ _) ?_; clear M0; intro w' M0)))
      go_ret
      exact ⟨by rw [hov3.out]; rfl, M0.below⟩
  have hov3 := Lib.hid (HNZ.out hz)
  have hs1 : ¬ (nS : Int) = 0 := by
    have e1 := dg_len_pos (p := s)
    rw [← LS.out] at e1
    omega
  have ht1 : ¬ (nT : Int) = 0 := by
    have e2 := dg_len_pos (p := t)
    rw [← LT.out] at e2
    omega
  have hs2 : ((nS : Int) == 0) = false := beq_eq_false_iff_ne.2 hs1
  have ht2 : ((nT : Int) == 0) = false := beq_eq_false_iff_ne.2 ht1
  clear hz LS LT
  go_wp2_with ((with_reducible refine (?_ : Go.wpList _ _ _ (_ :: _) _ _)); (first | go_skip | (refine wpL_ldc M0 rfl rfl rfl ?_) | (refine wpL_lgc M0 rfl rfl rfl ?_) | (refine wpL_stc M0 rfl rfl rfl rfl ?_; clear M0; intro w' M0) | (refine wpL_sti M0 rfl rfl rfl rfl ?_; clear M0; intro w' M0) | (refine wpL_sth M0 rfl rfl rfl rfl (wr_minus _ _ _) ?_; clear M0; intro w' M0)))
  clear hs1 ht1 hs2 ht2
  go_loopw [10, 11] (fun v c wr => ∃ (i : Nat) (v0 : Value), i ≤ n ∧ c = .int .i64 i ∧ v0 = v ∧ Hid (D16 wr v0 (sumD us vs s t i)) ∧ Hid (D16 wr (.slice aS nS cS) s) ∧ Hid (D16 wr (.slice aT nT cT) t) ∧ Hid (IsU wr aU n cU us) ∧ Mem w wr [(g21, 36, fc x y (.slice aU n cU)), (g2, 36, fc x' y' (.slice a2 n cb)), (g1, 28, gc x y X Y S (.slice a n ca))]) (fun _ c _ => n - (intOf c).toNat)
  case atStart => exact ⟨0, _, Nat.zero_le _, rfl, rfl, Lib.hid (d16_nil _), HSS, HTT, HU, M0⟩
  case round =>
    clear HSS HTT HU M0
    obtain ⟨i, vd, hi, rfl, rfl, HD, HSS, HTT, HU, M0⟩ := hrel
    have ca1 := M0.cell (Has.head _ _ _ _) (i := 2) rfl
    have cf1 := M0.cell (.tail _ _ _ _ _ (Has.head _ _ _ _)) (i := 2) rfl
    by_cases hlt : i < n
    · obtain ⟨b1, o1, d1, e1, f1, rfl, hb1, cu, hd1⟩ := HU.out.cell hlt
      have h1 := HUL.out i
      have h2 := HVL.out i
      have h3 := HG1.out i
      have h4 := HG2.out i
      have h5 := HDN.out i
      have h6 := HG3.out i hi
      obtain ⟨u, hu⟩ : ∃ u, u = us.getD i 0 := ⟨_, rfl⟩
      obtain ⟨v, hv⟩ : ∃ v, v = vs.getD i 0 := ⟨_, rfl⟩
      rw [← hu] at hd1 h1 h3 h5
      rw [← hv] at h2 h4 h5
      have HVE := Lib.hid hv
      obtain ⟨D0, hD0⟩ : ∃ D0, D0 = sumD us vs s t i := ⟨_, rfl⟩
      rw [← hD0] at HD h5 h6
      obtain ⟨D1, hD1⟩ : ∃ D1, D1 = sumD us vs s t (i + 1) := ⟨_, rfl⟩
      rw [← hD1] at h5
      have H1 := Lib.hid h1
      have H2 := Lib.hid h2
      have H3 := Lib.hid h3
      have H4 := Lib.hid h4
      have H5 := Lib.hid h5
      have H6 := Lib.hid h6
      have HE1 := Lib.hid hD1
      have HD1 := Lib.hid hd1
      obtain ⟨aD, nD, cD, rfl, -, hdd⟩ := HD.out.form
      replace HD := Lib.hid hdd
      have hi0 : (i : Int) < n := by omega
      clear hu hv hd1 h1 h2 h3 h4 h5 h6 hD0 hD1 hdd
      go_wp2_with ((with_reducible refine (?_ : Go.wpList _ _ _ (_ :: _) _ _)); (first | go_skip | (refine wpL_ldc M0 rfl rfl rfl ?_) | (refine wpL_lgc M0 rfl rfl rfl ?_) | (refine wpL_stc M0 rfl rfl rfl rfl ?_; clear M0; intro w' M0) | (refine wpL_sti M0 rfl rfl rfl rfl ?_; clear M0; intro w' M0) | (refine wpL_sth M0 rfl rfl rfl rfl (wr_minus _ _ _) ?_; clear M0; intro w' M0)))
      refine (mul_u _ _ u t _ HD1.out HTT.out H1.out HTL.out).mono ?_
      rintro e w5 ⟨vw5, rfl, hvw5, hA⟩
      replace M0 := M0.call hA
      obtain ⟨aw5, nw5, cw5, rfl, -, hdw5⟩ := hvw5.form
      have HX := Lib.hid hdw5
      replace HD := Lib.hid (HD.out.below hA)
      replace HSS := Lib.hid (HSS.out.below hA)
      replace HTT := Lib.hid (HTT.out.below hA)
      replace HU := Lib.hid (HU.out.below hA)
      clear hvw5 hdw5 hA HD1 cu ca1
      have cf5 := M0.cell (.tail _ _ _ _ _ (Has.head _ _ _ _)) (i := 2) rfl
      obtain ⟨b2, o2, d2, e2, f2, rfl, hb2, cv, hd2⟩ := (HV.out.below M0.below).cell hlt
      rw [← HVE.out] at hd2
      have HD2 := Lib.hid hd2
      clear hd2
      go_wp2_with ((with_reducible refine (?_ : Go.wpList _ _ _ (_ :: _) _ _)); (first | go_skip | (refine wpL_ldc M0 rfl rfl rfl ?_) | (refine wpL_lgc M0 rfl rfl rfl ?_) | (refine wpL_stc M0 rfl rfl rfl rfl ?_; clear M0; intro w' M0) | (refine wpL_sti M0 rfl rfl rfl rfl ?_; clear M0; intro w' M0) | (refine wpL_sth M0 rfl rfl rfl rfl (wr_minus _ _ _) ?_; clear M0; intro w' M0)))
      refine (mul_u _ _ v s _ HD2.out HSS.out H2.out HSL.out).mono ?_
      rintro e w6 ⟨vw6, rfl, hvw6, hA⟩
      replace M0 := M0.call hA
      obtain ⟨aw6, nw6, cw6, rfl, -, hdw6⟩ := hvw6.form
      have HY := Lib.hid hdw6
      replace HX := Lib.hid (HX.out.below hA)
      replace HD := Lib.hid (HD.out.below hA)
      replace HSS := Lib.hid (HSS.out.below hA)
      replace HTT := Lib.hid (HTT.out.below hA)
      replace HU := Lib.hid (HU.out.below hA)
      clear hvw6 hdw6 hA HD2 cv cf5 cf1
      have CL := Lib.hid (fun wx (h1 : Is16 wx (.slice aw5 nw5 cw5) (u * t)) (h2 : Is16 wx (.slice aw6 nw6 cw6) (v * s)) => refLess16_any _ _ (u * t) (v * s) wx h1 h2 (Nat.le_trans H3.out (by omega)) (Nat.le_trans H4.out (by omega)))
      by_cases hc : u * t < v * s
      · have HC := Lib.hid (show D0 + (v * s - u * t) = D1 by rw [← H5.out]; unfold dif; rw [if_pos hc])
        have hle : u * t ≤ v * s := by omega
        have HLE := Lib.hid hle
        have hcb : decide (u * t < v * s) = true := decide_eq_true hc
        rw [hcb] at CL
        clear hc hle hcb
        go_wp2_with ((with_reducible refine (?_ : Go.wpList _ _ _ (_ :: _) _ _)); (first | go_skip | (refine wpL_ldc M0 rfl rfl rfl ?_) | (refine wpL_lgc M0 rfl rfl rfl ?_) | (refine wpL_stc M0 rfl rfl rfl rfl ?_; clear M0; intro w' M0) | (refine wpL_sti M0 rfl rfl rfl rfl ?_; clear M0; intro w' M0) | (refine wpL_sth M0 rfl rfl rfl rfl (wr_minus _ _ _) ?_; clear M0; intro w' M0)))
        refine (CL.out _ HX.out.1 HY.out.1).mono ?_
        rintro e w7 ⟨rfl, hA⟩
        replace M0 := M0.call hA
        replace HX := Lib.hid (HX.out.below hA)
        replace HY := Lib.hid (HY.out.below hA)
        replace HD := Lib.hid (HD.out.below hA)
        replace HSS := Lib.hid (HSS.out.below hA)
        replace HTT := Lib.hid (HTT.out.below hA)
        replace HU := Lib.hid (HU.out.below hA)
        clear hA CL
        go_wp2_with ((with_reducible refine (?_ : Go.wpList _ _ _ (_ :: _) _ _)); (first | go_skip | (refine wpL_ldc M0 rfl rfl rfl ?_) | (refine wpL_lgc M0 rfl rfl rfl ?_) | (refine wpL_stc M0 rfl rfl rfl rfl ?_; clear M0; intro w' M0) | (refine wpL_sti M0 rfl rfl rfl rfl ?_; clear M0; intro w' M0) | (refine wpL_sth M0 rfl rfl rfl rfl (wr_minus _ _ _) ?_; clear M0; intro w' M0)))
        refine (less17_any _ _ (v * s) (u * t) _ HY.out HX.out (Nat.le_trans H4.out (by omega)) HLE.out).mono ?_
        rintro e w8 ⟨vw8, rfl, hvw8, hA⟩
        replace M0 := M0.call hA
        obtain ⟨aw8, nw8, cw8, rfl, -, hdw8⟩ := hvw8.form
        have HL := Lib.hid hdw8
        replace HD := Lib.hid (HD.out.below hA)
        replace HSS := Lib.hid (HSS.out.below hA)
        replace HTT := Lib.hid (HTT.out.below hA)
        replace HU := Lib.hid (HU.out.below hA)
        clear hvw8 hdw8 hA HX HY
        go_wp2_with ((with_reducible refine (?_ : Go.wpList _ _ _ (_ :: _) _ _)); (first | go_skip | (refine wpL_ldc M0 rfl rfl rfl ?_) | (refine wpL_lgc M0 rfl rfl rfl ?_) | (refine wpL_stc M0 rfl rfl rfl rfl ?_; clear M0; intro w' M0) | (refine wpL_sti M0 rfl rfl rfl rfl ?_; clear M0; intro w' M0) | (refine wpL_sth M0 rfl rfl rfl rfl (wr_minus _ _ _) ?_; clear M0; intro w' M0)))
        refine (add_u _ _ D0 (v * s - u * t) _ HD.out HL.out (Nat.le_trans H6.out (by omega)) (Nat.le_trans (dg_len_mono (Nat.sub_le _ _)) (Nat.le_trans H4.out (by omega)))).mono ?_
        rw [HC.out]
        rintro e w9 ⟨vw9, rfl, hvw9, hA⟩
        replace M0 := M0.call hA
        obtain ⟨aw9, nw9, cw9, rfl, -, hdw9⟩ := hvw9.form
        have HD1 := Lib.hid hdw9
        replace HSS := Lib.hid (HSS.out.below hA)
        replace HTT := Lib.hid (HTT.out.below hA)
        replace HU := Lib.hid (HU.out.below hA)
        clear hvw9 hdw9 hA HL HD
        go_wp2_with ((with_reducible refine (?_ : Go.wpList _ _ _ (_ :: _) _ _)); (first | go_skip | (refine wpL_ldc M0 rfl rfl rfl ?_) | (refine wpL_lgc M0 rfl rfl rfl ?_) | (refine wpL_stc M0 rfl rfl rfl rfl ?_; clear M0; intro w' M0) | (refine wpL_sti M0 rfl rfl rfl rfl ?_; clear M0; intro w' M0) | (refine wpL_sth M0 rfl rfl rfl rfl (wr_minus _ _ _) ?_; clear M0; intro w' M0)))
        go_roundw
        case rel => exact ⟨i + 1, _, by omega, by go_num, rfl, by rw [← HE1.out]; exact HD1, HSS, HTT, HU, M0⟩
        case measure => simp [intOf]; omega
      · have HC := Lib.hid (show D0 + (u * t - v * s) = D1 by rw [← H5.out]; unfold dif; rw [if_neg hc])
        have hle : v * s ≤ u * t := by omega
        have HLE := Lib.hid hle
        have hcb : decide (u * t < v * s) = false := decide_eq_false hc
        rw [hcb] at CL
        clear hc hle hcb
        go_wp2_with ((with_reducible refine (?_ : Go.wpList _ _ _ (_ :: _) _ _)); (first | go_skip | (refine wpL_ldc M0 rfl rfl rfl ?_) | (refine wpL_lgc M0 rfl rfl rfl ?_) | (refine wpL_stc M0 rfl rfl rfl rfl ?_; clear M0; intro w' M0) | (refine wpL_sti M0 rfl rfl rfl rfl ?_; clear M0; intro w' M0) | (refine wpL_sth M0 rfl rfl rfl rfl (wr_minus _ _ _) ?_; clear M0; intro w' M0)))
        refine (CL.out _ HX.out.1 HY.out.1).mono ?_
        rintro e w7 ⟨rfl, hA⟩
        replace M0 := M0.call hA
        replace HX := Lib.hid (HX.out.below hA)
        replace HY := Lib.hid (HY.out.below hA)
        replace HD := Lib.hid (HD.out.below hA)
        replace HSS := Lib.hid (HSS.out.below hA)
        replace HTT := Lib.hid (HTT.out.below hA)
        replace HU := Lib.hid (HU.out.below hA)
        clear hA CL
        go_wp2_with ((with_reducible refine (?_ : Go.wpList _ _ _ (_ :: _) _ _)); (first | go_skip | (refine wpL_ldc M0 rfl rfl rfl ?_) | (refine wpL_lgc M0 rfl rfl rfl ?_) | (refine wpL_stc M0 rfl rfl rfl rfl ?_; clear M0; intro w' M0) | (refine wpL_sti M0 rfl rfl rfl rfl ?_; clear M0; intro w' M0) | (refine wpL_sth M0 rfl rfl rfl rfl (wr_minus _ _ _) ?_; clear M0; intro w' M0)))
        refine (less17_any _ _ (u * t) (v * s) _ HX.out HY.out (Nat.le_trans H3.out (by omega)) HLE.out).mono ?_
        rintro e w8 ⟨vw8, rfl, hvw8, hA⟩
        replace M0 := M0.call hA
        obtain ⟨aw8, nw8, cw8, rfl, -, hdw8⟩ := hvw8.form
        have HL := Lib.hid hdw8
        replace HD := Lib.hid (HD.out.below hA)
        replace HSS := Lib.hid (HSS.out.below hA)
        replace HTT := Lib.hid (HTT.out.below hA)
        replace HU := Lib.hid (HU.out.below hA)
        clear hvw8 hdw8 hA HX HY
        go_wp2_with ((with_reducible refine (?_ : Go.wpList _ _ _ (_ :: _) _ _)); (first | go_skip | (refine wpL_ldc M0 rfl rfl rfl ?_) | (refine wpL_lgc M0 rfl rfl rfl ?_) | (refine wpL_stc M0 rfl rfl rfl rfl ?_; clear M0; intro w' M0) | (refine wpL_sti M0 rfl rfl rfl rfl ?_; clear M0; intro w' M0) | (refine wpL_sth M0 rfl rfl rfl rfl (wr_minus _ _ _) ?_; clear M0; intro w' M0)))
        refine (add_u _ _ D0 (u * t - v * s) _ HD.out HL.out (Nat.le_trans H6.out (by omega)) (Nat.le_trans (dg_len_mono (Nat.sub_le _ _)) (Nat.le_trans H3.out (by omega)))).mono ?_
        rw [HC.out]
        rintro e w9 ⟨vw9, rfl, hvw9, hA⟩
        replace M0 := M0.call hA
        obtain ⟨aw9, nw9, cw9, rfl, -, hdw9⟩ := hvw9.form
        have HD1 := Lib.hid hdw9
        replace HSS := Lib.hid (HSS.out.below hA)
        replace HTT := Lib.hid (HTT.out.below hA)
        replace HU := Lib.hid (HU.out.below hA)
        clear hvw9 hdw9 hA HL HD
        go_wp2_with ((with_reducible refine (?_ : Go.wpList _ _ _ (_ :: _) _ _)); (first | go_skip | (refine wpL_ldc M0 rfl rfl rfl ?_) | (refine wpL_lgc M0 rfl rfl rfl ?_) | (refine wpL_stc M0 rfl rfl rfl rfl ?_; clear M0; intro w' M0) | (refine wpL_sti M0 rfl rfl rfl rfl ?_; clear M0; intro w' M0) | (refine wpL_sth M0 rfl rfl rfl rfl (wr_minus _ _ _) ?_; clear M0; intro w' M0)))
        go_roundw
        case rel => exact ⟨i + 1, _, by omega, by go_num, rfl, by rw [← HE1.out]; exact HD1, HSS, HTT, HU, M0⟩
        case measure => simp [intOf]; omega
    · obtain rfl : i = n := by omega
      obtain ⟨B, hB⟩ : ∃ B, B = b.toNat := ⟨_, rfl⟩
      rw [← hB] at hov3 HBL HALL H2A HB63
      have CB := Lib.hid (small_any B (by have := HB63.out; have e : (2 : Nat) ^ 63 = 9223372036854775808 := (by decide); omega))
      have C40 := Lib.hid (small_any 1099511627776 (by decide))
      have HB2 := Lib.hid (show (0 < b ∧ b = (B : Int)) ∨ (¬ 0 < b ∧ B = 0) by omega)
      have hb9 : B < 9223372036854775808 := by have := HB63.out; have e : (2 : Nat) ^ 63 = 9223372036854775808 := (by decide); omega
      clear hB ca1 cf1 HU
      go_upto_if 67 with ((with_reducible refine (?_ : Go.wpList _ _ _ (_ :: _) _ _)); (first | go_skip | (refine wpL_ldc M0 rfl rfl rfl ?_) | (refine wpL_lgc M0 rfl rfl rfl ?_) | (refine wpL_stc M0 rfl rfl rfl rfl ?_; clear M0; intro w' M0) | (refine wpL_sti M0 rfl rfl rfl rfl ?_; clear M0; intro w' M0) | (refine wpL_sth M0 rfl rfl rfl rfl (wr_minus _ _ _) ?_; clear M0; intro w' M0)))
      go_cut [14] from 66 (fun s14 wx => wx = wr ∧ s14 = .int .u64 (B : Int))
      case first =>
        rcases HB2.out with ⟨h1, h2⟩ | ⟨h1, h2⟩
        · have hw : IntKind.u64.wrap b = (B : Int) := by rw [h2]; exact IntWalk.u64_in _ ⟨by omega, by omega⟩
          have HH2 := Lib.hid h2
          have hb3 : b < 9223372036854775808 := by omega
          clear h2
          go_wp2_with fail
          go_meet
          exact ⟨rfl, by first | rfl | (have h2 := HH2.out; rw [h2]) | (have h2 := HH2.out; congr 1)⟩
        · subst h2
          go_wp2_with fail
          go_meet
          exact ⟨rfl, rfl⟩
      obtain ⟨rfl, rfl⟩ := hcut
      go_wp2_with ((with_reducible refine (?_ : Go.wpList _ _ _ (_ :: _) _ _)); (first | go_skip | (refine wpL_ldc M0 rfl rfl rfl ?_) | (refine wpL_lgc M0 rfl rfl rfl ?_) | (refine wpL_stc M0 rfl rfl rfl rfl ?_; clear M0; intro w' M0) | (refine wpL_sti M0 rfl rfl rfl rfl ?_; clear M0; intro w' M0) | (refine wpL_sth M0 rfl rfl rfl rfl (wr_minus _ _ _) ?_; clear M0; intro w' M0)))
      refine (mul_u _ _ s t _ HSS.out HTT.out HSL.out HTL.out).mono ?_
      rintro e w5 ⟨vw5, rfl, hvw5, hA⟩
      replace M0 := M0.call hA
      obtain ⟨aw5, nw5, cw5, rfl, -, hdw5⟩ := hvw5.form
      have HA1 := Lib.hid hdw5
      replace HD := Lib.hid (HD.out.below hA)
      clear hvw5 hdw5 hA HSS HTT
      go_wp2_with ((with_reducible refine (?_ : Go.wpList _ _ _ (_ :: _) _ _)); (first | go_skip | (refine wpL_ldc M0 rfl rfl rfl ?_) | (refine wpL_lgc M0 rfl rfl rfl ?_) | (refine wpL_stc M0 rfl rfl rfl rfl ?_; clear M0; intro w' M0) | (refine wpL_sti M0 rfl rfl rfl rfl ?_; clear M0; intro w' M0) | (refine wpL_sth M0 rfl rfl rfl rfl (wr_minus _ _ _) ?_; clear M0; intro w' M0)))
      refine (CB.out _).mono ?_
      rintro e w6 ⟨vw6, rfl, hvw6, hA⟩
      replace M0 := M0.call hA
      obtain ⟨aw6, nw6, cw6, rfl, -, hdw6⟩ := hvw6.form
      have HN1 := Lib.hid hdw6
      replace HD := Lib.hid (HD.out.below hA)
      replace HA1 := Lib.hid (HA1.out.below hA)
      clear hvw6 hdw6 hA
      go_wp2_with ((with_reducible refine (?_ : Go.wpList _ _ _ (_ :: _) _ _)); (first | go_skip | (refine wpL_ldc M0 rfl rfl rfl ?_) | (refine wpL_lgc M0 rfl rfl rfl ?_) | (refine wpL_stc M0 rfl rfl rfl rfl ?_; clear M0; intro w' M0) | (refine wpL_sti M0 rfl rfl rfl rfl ?_; clear M0; intro w' M0) | (refine wpL_sth M0 rfl rfl rfl rfl (wr_minus _ _ _) ?_; clear M0; intro w' M0)))
      refine (mul_u _ _ (s * t) B _ HA1.out HN1.out HST.out HBL.out).mono ?_
      rintro e w7 ⟨vw7, rfl, hvw7, hA⟩
      replace M0 := M0.call hA
      obtain ⟨aw7, nw7, cw7, rfl, -, hdw7⟩ := hvw7.form
      have HA2 := Lib.hid hdw7
      replace HD := Lib.hid (HD.out.below hA)
      clear hvw7 hdw7 hA HA1 HN1
      go_wp2_with ((with_reducible refine (?_ : Go.wpList _ _ _ (_ :: _) _ _)); (first | go_skip | (refine wpL_ldc M0 rfl rfl rfl ?_) | (refine wpL_lgc M0 rfl rfl rfl ?_) | (refine wpL_stc M0 rfl rfl rfl rfl ?_; clear M0; intro w' M0) | (refine wpL_sti M0 rfl rfl rfl rfl ?_; clear M0; intro w' M0) | (refine wpL_sth M0 rfl rfl rfl rfl (wr_minus _ _ _) ?_; clear M0; intro w' M0)))
      refine (add_u _ _ (s * t * B) (s * t * B) _ HA2.out HA2.out (Nat.le_trans HALL.out (by omega)) (Nat.le_trans HALL.out (by omega))).mono ?_
      rintro e w8 ⟨vw8, rfl, hvw8, hA⟩
      replace M0 := M0.call hA
      obtain ⟨aw8, nw8, cw8, rfl, -, hdw8⟩ := hvw8.form
      have HA3 := Lib.hid hdw8
      replace HD := Lib.hid (HD.out.below hA)
      clear hvw8 hdw8 hA HA2
      go_wp2_with ((with_reducible refine (?_ : Go.wpList _ _ _ (_ :: _) _ _)); (first | go_skip | (refine wpL_ldc M0 rfl rfl rfl ?_) | (refine wpL_lgc M0 rfl rfl rfl ?_) | (refine wpL_stc M0 rfl rfl rfl rfl ?_; clear M0; intro w' M0) | (refine wpL_sti M0 rfl rfl rfl rfl ?_; clear M0; intro w' M0) | (refine wpL_sth M0 rfl rfl rfl rfl (wr_minus _ _ _) ?_; clear M0; intro w' M0)))
      refine (C40.out _).mono ?_
      rintro e w9 ⟨vw9, rfl, hvw9, hA⟩
      replace M0 := M0.call hA
      obtain ⟨aw9, nw9, cw9, rfl, -, hdw9⟩ := hvw9.form
      have HN4 := Lib.hid hdw9
      replace HD := Lib.hid (HD.out.below hA)
      replace HA3 := Lib.hid (HA3.out.below hA)
      clear hvw9 hdw9 hA
      go_wp2_with ((with_reducible refine (?_ : Go.wpList _ _ _ (_ :: _) _ _)); (first | go_skip | (refine wpL_ldc M0 rfl rfl rfl ?_) | (refine wpL_lgc M0 rfl rfl rfl ?_) | (refine wpL_stc M0 rfl rfl rfl rfl ?_; clear M0; intro w' M0) | (refine wpL_sti M0 rfl rfl rfl rfl ?_; clear M0; intro w' M0) | (refine wpL_sth M0 rfl rfl rfl rfl (wr_minus _ _ _) ?_; clear M0; intro w' M0)))
      refine (mul_u _ _ (sumD us vs s t i) 1099511627776 _ HD.out HN4.out (HG3.out i (Nat.le_refl _)) H40.out).mono ?_
      rintro e w10 ⟨vw10, rfl, hvw10, hA⟩
      replace M0 := M0.call hA
      obtain ⟨aw10, nw10, cw10, rfl, -, hdw10⟩ := hvw10.form
      have HD4 := Lib.hid hdw10
      replace HA3 := Lib.hid (HA3.out.below hA)
      clear hvw10 hdw10 hA HN4 HD
      go_wp2_with ((with_reducible refine (?_ : Go.wpList _ _ _ (_ :: _) _ _)); (first | go_skip | (refine wpL_ldc M0 rfl rfl rfl ?_) | (refine wpL_lgc M0 rfl rfl rfl ?_) | (refine wpL_stc M0 rfl rfl rfl rfl ?_; clear M0; intro w' M0) | (refine wpL_sti M0 rfl rfl rfl rfl ?_; clear M0; intro w' M0) | (refine wpL_sth M0 rfl rfl rfl rfl (wr_minus _ _ _) ?_; clear M0; intro w' M0)))
      refine (refLess16_any _ _ (s * t * B + s * t * B) (sumD us vs s t i * 1099511627776) _ HA3.out.1 HD4.out.1 (Nat.le_trans H2A.out (by omega)) (Nat.le_trans HD40.out (by omega))).mono ?_
      rintro e w11 ⟨rfl, hA⟩
      replace M0 := M0.call hA
      rw [← hov3.out]
      clear hA HA3 HD4
      go_wp2_with ((with_reducible refine (?_ : Go.wpList _ _ _ (_ :: _) _ _)); (first | go_skip | (refine wpL_ldc M0 rfl rfl rfl ?_) | (refine wpL_lgc M0 rfl rfl rfl ?_) | (refine wpL_stc M0 rfl rfl rfl rfl ?_; clear M0; intro w' M0) | (refine wpL_sti M0 rfl rfl rfl rfl ?_; clear M0; intro w' M0) | (refine wpL_sth M0 rfl rfl rfl rfl (wr_minus _ _ _) ?_; clear M0; intro w' M0)))
      go_ret
      exact ⟨rfl, M0.below⟩
end Go.Proofs.YtanblpfpkohghaaDoor

/-
  Filters that are one but for what all have in common; how far apart two are; plain.
-/
namespace Go.Proofs.YtanblpfpkohghaaDoor
open Go Go.RowKit Go.Th Go.Th.Dig Go.Th.Ex Go.Th.Grid

/-- One row, but for what all its numbers have in common. -/
def Prp (f r : List Nat) : Prop := f.length = r.length ∧ ∃ c d, 0 < c ∧ 0 < d ∧ ∀ i, f.getD i 0 * c = r.getD i 0 * d
theorem Prp.refl (f : List Nat) : Prp f f := ⟨rfl, 1, 1, by decide, by decide, fun _ => rfl⟩
theorem sumN_prp {f r : List Nat} {c d : Nat} (h : ∀ i, f.getD i 0 * c = r.getD i 0 * d) : ∀ n, sumN f n * c = sumN r n * d
  | 0 => by simp [sumN]
  | n + 1 => by rw [sumN_next, sumN_next, Nat.add_mul, Nat.add_mul, sumN_prp h n, h n]
theorem sum_prp {f r : List Nat} {c d : Nat} (hl : f.length = r.length) (h : ∀ i, f.getD i 0 * c = r.getD i 0 * d) : f.sum * c = r.sum * d := by
  rw [← sumN_all f, ← sumN_all r, hl]
  exact sumN_prp h _
theorem zero_of_mul {p q c d : Nat} (hc : 0 < c) (hd : 0 < d) (h : p * c = q * d) : p = 0 ↔ q = 0 := by
  constructor
  · rintro rfl
    rw [Nat.zero_mul] at h
    rcases Nat.mul_eq_zero.1 h.symm with h | h
    · exact h
    · omega
  · rintro rfl
    rw [Nat.zero_mul] at h
    rcases Nat.mul_eq_zero.1 h with h | h
    · exact h
    · omega
theorem Prp.alike {f r : List Nat} (h : Prp f r) : (∀ i, f.getD i 0 * r.sum = r.getD i 0 * f.sum) ∧ (f.sum = 0 ↔ r.sum = 0) := by
  obtain ⟨hl, c, d, hc, hd, h⟩ := h
  have hs := sum_prp hl h
  refine ⟨fun i => ?_, zero_of_mul hc hd hs⟩
  have h1 := h i
  refine Nat.eq_of_mul_eq_mul_right (Nat.mul_pos hc hd) ?_
  have e1 : f.getD i 0 * r.sum * (c * d) = f.getD i 0 * c * (r.sum * d) := by ac_rfl
  have e2 : r.getD i 0 * f.sum * (c * d) = r.getD i 0 * d * (f.sum * c) := by ac_rfl
  rw [e1, e2, h1, hs]
theorem Prp.tab {n : Nat} {p q : Nat → Nat} {c d : Nat} (hc : 0 < c) (hd : 0 < d) (h : ∀ i, p i * c = q i * d) : Prp (tabN p n) (tabN q n) := by
  refine ⟨by rw [tabN_length, tabN_length], c, d, hc, hd, fun i => ?_⟩
  by_cases hi : i < n
  · rw [tabN_getD p n i hi, tabN_getD q n i hi]; exact h i
  · rw [List.getD_eq_getElem?_getD, List.getD_eq_getElem?_getD, List.getElem?_eq_none (by rw [tabN_length]; omega), List.getElem?_eq_none (by rw [tabN_length]; omega)]
    simp
theorem Prp.pass {f r : List Nat} (h : Prp f r) (x y q dx dy : Nat) : Prp (passU f x y q dx dy) (passU r x y q dx dy) := by
  obtain ⟨hl, c, d, hc, hd, h⟩ := h
  unfold passU
  rw [hl]
  refine Prp.tab hc hd fun i => ?_
  unfold passAt
  have e : ∀ p k : Nat, f.getD p 0 * k * c = r.getD p 0 * k * d := fun p k => by rw [Nat.mul_right_comm, h p, Nat.mul_right_comm]
  rw [Nat.add_mul, Nat.add_mul, Nat.add_mul, Nat.add_mul, e, e, e]
theorem Prp.spread {f r : List Nat} (h : Prp f r) (x y q : Nat) : Prp (spreadU f x y q) (spreadU r x y q) := (h.pass x y q 1 0).pass x y q 0 1
theorem Prp.weigh {f r : List Nat} (h : Prp f r) (ls : List Nat) : Prp (weighU f ls) (weighU r ls) := by
  obtain ⟨hl, c, d, hc, hd, h⟩ := h
  unfold weighU
  rw [hl]
  exact Prp.tab hc hd fun i => by rw [Nat.mul_right_comm, h i, Nat.mul_right_comm]
theorem Prp.cut {f r : List Nat} (h : Prp f r) (x y : Nat) (X Y : Int) (cw ch : Nat) : Prp (cutU f x y X Y cw ch) (cutU r x y X Y cw ch) := by
  obtain ⟨hl, c, d, hc, hd, h⟩ := h
  refine Prp.tab hc hd fun i => ?_
  unfold cutAt17
  split
  · exact h _
  · rw [Nat.zero_mul, Nat.zero_mul]
theorem Prp.split {f r : List Nat} (h : Prp f r) (x y : Nat) : Prp (splitU f x y) (splitU r x y) := by
  obtain ⟨hl, c, d, hc, hd, h⟩ := h
  exact Prp.tab hc hd fun i => h _
theorem Prp.join {f r : List Nat} (h : Prp f r) (x wq hq : Nat) : Prp (joinU f x wq hq) (joinU r x wq hq) := by
  obtain ⟨hl, c, d, hc, hd, h⟩ := h
  refine Prp.tab hc hd fun i => ?_
  unfold joinAt17
  rw [Nat.add_mul, Nat.add_mul, Nat.add_mul, Nat.add_mul, Nat.add_mul, Nat.add_mul, h, h, h, h]
theorem Prp.trans {f g r : List Nat} (h : Prp f g) (h' : Prp g r) : Prp f r := by
  obtain ⟨hl, c, d, hc, hd, h⟩ := h
  obtain ⟨hl', c', d', hc', hd', h'⟩ := h'
  refine ⟨hl.trans hl', c * c', d * d', Nat.mul_pos hc hc', Nat.mul_pos hd hd', fun i => ?_⟩
  rw [← Nat.mul_assoc, h i, Nat.mul_right_comm, h' i]
  ac_rfl
theorem Prp.symm {f r : List Nat} (h : Prp f r) : Prp r f := by
  obtain ⟨hl, c, d, hc, hd, h⟩ := h
  exact ⟨hl.symm, d, c, hd, hc, fun i => (h i).symm⟩

/-! How far apart. -/
theorem dif_mul (p q k : Nat) : dif (p * k) (q * k) = dif p q * k := by
  unfold dif
  rcases Nat.eq_zero_or_pos k with rfl | hk
  · simp
  · by_cases h : p < q
    · rw [if_pos h, if_pos (Nat.mul_lt_mul_of_pos_right h hk), Nat.sub_mul]
    · rw [if_neg h, if_neg (fun h2 => h (Nat.lt_of_mul_lt_mul_right h2)), Nat.sub_mul]
theorem dif_comm (p q : Nat) : dif p q = dif q p := by unfold dif; split <;> split <;> omega
theorem dif_self (p : Nat) : dif p p = 0 := by unfold dif; split <;> omega
theorem dif_tri (p q r : Nat) : dif p r ≤ dif p q + dif q r := by unfold dif; split <;> split <;> split <;> omega
theorem sumD_self (us : List Nat) (s : Nat) : ∀ i, sumD us us s s i = 0
  | 0 => rfl
  | i + 1 => by rw [sumD, sumD_self us s i, dif_self]
theorem sumD_comm (us vs : List Nat) (s t : Nat) : ∀ i, sumD us vs s t i = sumD vs us t s i
  | 0 => rfl
  | i + 1 => by rw [sumD, sumD, sumD_comm us vs s t i, dif_comm]
theorem sumD_most (us vs : List Nat) (s t : Nat) : ∀ i, sumD us vs s t i ≤ sumN us i * t + sumN vs i * s
  | 0 => by simp [sumD]
  | i + 1 => by
    rw [sumD, sumN_next, sumN_next, Nat.add_mul, Nat.add_mul]
    have h1 := sumD_most us vs s t i
    have h2 := dif_le (us.getD i 0 * t) (vs.getD i 0 * s)
    omega
theorem sumD_scale {us vs vs' : List Nat} {s t t' c d : Nat} (h : ∀ i, vs.getD i 0 * c = vs'.getD i 0 * d) (ht : t * c = t' * d) : ∀ i, sumD us vs s t i * c = sumD us vs' s t' i * d
  | 0 => by simp [sumD]
  | i + 1 => by
    rw [sumD, sumD, Nat.add_mul, Nat.add_mul, sumD_scale h ht i, ← dif_mul, ← dif_mul]
    congr 2
    · rw [Nat.mul_assoc, ht, Nat.mul_assoc]
    · rw [Nat.mul_right_comm, h i, Nat.mul_right_comm]
theorem sumD_tri (us vs zs : List Nat) (s t r : Nat) : ∀ i, sumD us zs s r i * t ≤ sumD us vs s t i * r + sumD vs zs t r i * s
  | 0 => by simp [sumD]
  | i + 1 => by
    rw [sumD, sumD, sumD, Nat.add_mul, Nat.add_mul, Nat.add_mul, ← dif_mul, ← dif_mul, ← dif_mul]
    have h1 := sumD_tri us vs zs s t r i
    have h2 := dif_tri (us.getD i 0 * r * t) (vs.getD i 0 * s * r) (zs.getD i 0 * s * t)
    rw [show us.getD i 0 * t * r = us.getD i 0 * r * t by ac_rfl, show vs.getD i 0 * r * s = vs.getD i 0 * s * r by ac_rfl, show zs.getD i 0 * t * s = zs.getD i 0 * s * t by ac_rfl]
    omega
/-- A filter told otherwise is as far apart. -/
theorem over_prp (us : List Nat) {vs vs' : List Nat} (h : Prp vs vs') (b : Int) : overN us vs b = overN us vs' b := by
  obtain ⟨hl, c, d, hc, hd, h⟩ := h
  have hs := sum_prp hl h
  have hz := zero_of_mul hc hd hs
  unfold overN
  by_cases h0 : us.sum = 0 ∨ vs.sum = 0
  · rw [if_pos h0, if_pos (by rcases h0 with h0 | h0; exact .inl h0; exact .inr (hz.1 h0))]
  · rw [if_neg h0, if_neg (fun h1 => h0 (by rcases h1 with h1 | h1; exact .inl h1; exact .inr (hz.2 h1)))]
    have hD := sumD_scale (us := us) (s := us.sum) h hs us.length
    refine decide_eq_decide.2 ?_
    have e1 : (us.sum * vs.sum * b.toNat + us.sum * vs.sum * b.toNat) * c = (us.sum * vs'.sum * b.toNat + us.sum * vs'.sum * b.toNat) * d := by
      have e : us.sum * vs.sum * b.toNat * c = us.sum * vs'.sum * b.toNat * d := by
        have e3 : us.sum * vs.sum * b.toNat * c = us.sum * (vs.sum * c) * b.toNat := by ac_rfl
        rw [e3, hs]; ac_rfl
      rw [Nat.add_mul, Nat.add_mul, e]
    have e2 : sumD us vs us.sum vs.sum us.length * 1099511627776 * c = sumD us vs' us.sum vs'.sum us.length * 1099511627776 * d := by
      rw [Nat.mul_right_comm, hD, Nat.mul_right_comm]
    constructor
    · intro hlt
      have := Nat.mul_lt_mul_of_pos_right hlt hc
      rw [e1, e2] at this
      exact Nat.lt_of_mul_lt_mul_right this
    · intro hlt
      have := Nat.mul_lt_mul_of_pos_right hlt hd
      rw [← e1, ← e2] at this
      exact Nat.lt_of_mul_lt_mul_right this
theorem over_self {us : List Nat} (h : us.sum ≠ 0) : overN us us 0 = false := by
  unfold overN
  rw [if_neg (by omega), sumD_self]
  simp
theorem over_one {us vs : List Nat} (hl : us.length = vs.length) : overN us vs 1099511627776 = false := by
  unfold overN
  split
  · rfl
  · refine decide_eq_false ?_
    have h := sumD_most us vs us.sum vs.sum us.length
    rw [sumN_all, hl, sumN_all] at h
    have e : vs.sum * us.sum = us.sum * vs.sum := Nat.mul_comm _ _
    rw [e] at h
    show ¬ (us.sum * vs.sum * 1099511627776 + us.sum * vs.sum * 1099511627776 < sumD us vs us.sum vs.sum us.length * 1099511627776)
    rw [hl]
    omega
theorem over_comm {us vs : List Nat} (hl : us.length = vs.length) (b : Int) : overN us vs b = overN vs us b := by
  unfold overN
  by_cases h : us.sum = 0 ∨ vs.sum = 0
  · rw [if_pos h, if_pos (Or.comm.1 h)]
  · rw [if_neg h, if_neg (fun h2 => h (Or.comm.1 h2)), sumD_comm, hl, Nat.mul_comm us.sum]
theorem over_tri {us vs zs : List Nat} (hl : us.length = vs.length) (hl2 : vs.length = zs.length) (hu : us.sum ≠ 0) (hv : vs.sum ≠ 0) (hz : zs.sum ≠ 0) {b c : Int} (hb : 0 ≤ b) (hc : 0 ≤ c) (h1 : overN us vs b = false) (h2 : overN vs zs c = false) : overN us zs (b + c) = false := by
  unfold overN at h1 h2 ⊢
  rw [if_neg (by omega)] at h1 h2 ⊢
  have h1 := of_decide_eq_false h1
  have h2 := of_decide_eq_false h2
  refine decide_eq_false ?_
  rw [← hl] at h2
  have ht := sumD_tri us vs zs us.sum vs.sum zs.sum us.length
  obtain ⟨B, rfl⟩ := Int.eq_ofNat_of_zero_le hb
  obtain ⟨C, rfl⟩ := Int.eq_ofNat_of_zero_le hc
  have eb : ((B : Int) + (C : Int)).toNat = B + C := by omega
  have eB : ((B : Int)).toNat = B := by omega
  have eC : ((C : Int)).toNat = C := by omega
  rw [eB] at h1
  rw [eC] at h2
  rw [eb]
  obtain ⟨s, hs⟩ : ∃ s, s = us.sum := ⟨_, rfl⟩
  obtain ⟨t, htt⟩ : ∃ t, t = vs.sum := ⟨_, rfl⟩
  obtain ⟨r, hr⟩ : ∃ r, r = zs.sum := ⟨_, rfl⟩
  rw [← hs, ← htt] at h1
  rw [← htt, ← hr] at h2
  rw [← hs, ← htt, ← hr] at ht
  rw [← htt] at hv
  rw [← hs, ← hr]
  obtain ⟨D1, hD1⟩ : ∃ D, D = sumD us vs s t us.length := ⟨_, rfl⟩
  obtain ⟨D2, hD2⟩ : ∃ D, D = sumD vs zs t r us.length := ⟨_, rfl⟩
  obtain ⟨D3, hD3⟩ : ∃ D, D = sumD us zs s r us.length := ⟨_, rfl⟩
  rw [← hD1] at h1 ht
  rw [← hD2] at h2 ht
  rw [← hD3] at ht ⊢
  clear hD1 hD2 hD3 hs htt hr
  intro h3
  have a1 : D1 * 1099511627776 * r ≤ (s * t * B + s * t * B) * r := Nat.mul_le_mul_right _ (by omega)
  have a2 : D2 * 1099511627776 * s ≤ (t * r * C + t * r * C) * s := Nat.mul_le_mul_right _ (by omega)
  have a3 : (s * r * (B + C) + s * r * (B + C)) * t < D3 * 1099511627776 * t := Nat.mul_lt_mul_of_pos_right h3 (by omega)
  have a4 : D3 * t * 1099511627776 ≤ (D1 * r + D2 * s) * 1099511627776 := Nat.mul_le_mul_right _ ht
  have e1 : D1 * 1099511627776 * r = D1 * r * 1099511627776 := by ac_rfl
  have e2 : D2 * 1099511627776 * s = D2 * s * 1099511627776 := by ac_rfl
  have e3 : D3 * 1099511627776 * t = D3 * t * 1099511627776 := by ac_rfl
  have e4 : (s * t * B + s * t * B) * r = s * r * t * B + s * r * t * B := by rw [Nat.add_mul]; congr 1 <;> ac_rfl
  have e5 : (t * r * C + t * r * C) * s = s * r * t * C + s * r * t * C := by rw [Nat.add_mul]; congr 1 <;> ac_rfl
  have e6 : (s * r * (B + C) + s * r * (B + C)) * t = s * r * t * B + s * r * t * C + (s * r * t * B + s * r * t * C) := by
    rw [Nat.add_mul, Nat.mul_add, Nat.add_mul]
    have x1 : s * r * B * t = s * r * t * B := by ac_rfl
    have x2 : s * r * C * t = s * r * t * C := by ac_rfl
    rw [x1, x2]
  rw [Nat.add_mul] at a4
  omega
end Go.Proofs.YtanblpfpkohghaaDoor

/-
  Is the code's filter what it is to be: the law's.
-/
namespace Go.Proofs.YtanblpfpkohghaaDoor
open Go Go.RowKit Go.Th Go.Th.Dig Go.Th.Ex Go.Th.Grid

/-- The code's numbers, one behind the other. -/
def IsV (w : World) (a : Option Addr) (n cap : Nat) (fs : List Nat) : Prop := ∃ cs, Nats w a n cap cs fs ∧ TyR 59 w (.slice a n cap)
theorem IsV.below {w w' : World} {a : Option Addr} {n cap : Nat} {fs : List Nat} (h : IsV w a n cap fs) (hB : Below w.heap.size w w') : IsV w' a n cap fs := by
  obtain ⟨cs, h, h2⟩ := h
  exact ⟨cs, h.below hB, h2.below hB⟩
/-- .. where a block of another type, in which no parts lie, has turned. -/
theorem IsV.turnedB {w w' : World} {a : Option Addr} {n cap g : Nat} {fs : List Nat} {t : TypeId} {cs0 : List Value} (h : IsV w a n cap fs) (K : Blk w g t cs0) (hne : t ≠ 59) (hno : NoPart cs0) (hT : Turned (fun k => k = g) w w') : IsV w' a n cap fs := by
  obtain ⟨cs, h, h2⟩ := h
  exact ⟨cs, ⟨Sl.turned h.sl hT (fun x e => h2.ne K hne x n cap (by rw [e])), h.len, fun j hj => let ⟨b, c, e1, e2⟩ := h.is j hj; ⟨b, c, e1, sl_kept e2 K hno hT⟩⟩, h2.turned hT (fun x m c e => h2.ne K hne x m c e)⟩
theorem IsV.cell {w : World} {a : Option Addr} {n cap : Nat} {fs : List Nat} (h : IsV w a n cap fs) {j : Nat} (hj : j < n) :
    ∃ b o d e f, a = some ⟨b, o, none⟩ ∧ b < w.heap.size ∧ w.cell? ⟨b, o + j, none⟩ = some (.slice d e f) ∧ IsN w (.agg #[.slice d e f]) (fs.getD j 0) := by
  obtain ⟨cs, h, _⟩ := h
  obtain ⟨b, o, d, c, e, hb, hc, hS⟩ := h.cell hj
  exact ⟨b, o, d, _, c, e, hb, hc, ⟨d, c, rfl, hS⟩⟩
theorem IsV.len {w : World} {a : Option Addr} {n cap : Nat} {fs : List Nat} (h : IsV w a n cap fs) : fs.length = n := by
  obtain ⟨cs, h, _⟩ := h
  exact h.len
theorem IsV.max {w : World} {a : Option Addr} {n cap : Nat} {fs : List Nat} (h : IsV w a n cap fs) : n ≤ cap ∧ cap ≤ 9223372036854775807 := by
  obtain ⟨cs, h, _⟩ := h
  exact h.sl.max
theorem noPart_f (x y : Int) (a : Option Addr) (n cap : Nat) : NoPart (fc x y (.slice a n cap)) := by
  intro u hu x e
  simp at hu
  rcases hu with rfl | rfl | rfl <;> cases e
theorem d32 {p k m : Nat} (h : p < 2 ^ k) (hm : k ≤ 32 * m) : len32 p ≤ m := by
  refine dg_len_le (by decide) (Nat.lt_of_lt_of_le h ?_)
  rw [show (4294967296 : Nat) = 2 ^ 32 by decide, ← Nat.pow_mul]
  exact Nat.pow_le_pow_right (by decide) hm
theorem sizeFx : (Tryd.prog.info? 32).map (·.size) = some 3 := by kernel_rfl
theorem rd_fx (x y : Int) (v : Value) : Rd Tryd.prog 32 0 (fc x y v) (fv x y v) :=
  Rd.agg (ds := fc x y v) Tryd.underlying32 rfl sizeFx (fun j u hj => by rw [Nat.zero_add]; exact hj)
theorem wr_fx (x y x' y' : Int) (v' : Value) (a : Option Addr) (n cap : Nat) : Wr Tryd.prog 32 0 (fc x' y' v') (fv x y (.slice a n cap)) (fc x y (.slice a n cap)) :=
  Wr.whole (ds := fc x y (.slice a n cap)) sizeFx rfl (by intro u hu; simp at hu; rcases hu with rfl | rfl | rfl <;> rfl)
instance bNats17 : BsI Tryd.prog 30 := ⟨fun h => Rd.one Tryd.underlying30 rfl h⟩
instance rFx17 (x y : Int) (v : Value) : RdI Tryd.prog 32 0 (fc x y v) (fv x y v) := ⟨rd_fx x y v⟩
instance kFx17 : SzI Tryd.prog 32 3 := ⟨sizeFx⟩
instance zFx17 : ZrI Tryd.prog 32 (fv 0 0 (.slice none 0 0)) (fc 0 0 (.slice none 0 0)) := ⟨by kernel_rfl, rfl⟩

/-- The digits of a number's parts. -/
theorem digits_any (v : Value) (p : Nat) (w : World) (h : IsN w v p) (hp : len32 p ≤ 10000) :
    Calls Tryd.prog 30 #[v] w fun e w' => ∃ a n c, e = .returned (.slice a n c) ∧ Below w.heap.size w w' ∧ ∀ wx, Below w'.heap.size w' wx → AnsU 29 #[.slice a n c] wx p := by
  refine (parts_any v p w h (by omega)).mono ?_
  rintro e w' ⟨a, c, rfl, hS, hA⟩
  refine ⟨a, _, c, rfl, hA, fun wx hx => ?_⟩
  refine (refOf16_ty a (len32 p) c (dg 4294967296 p) wx (hS.below hx) hp (dg_lt (by decide) p)).mono ?_
  rintro e w2 ⟨t, rfl, h1, h2, h3⟩
  rw [dg_val (by decide)] at h1
  exact ⟨t, rfl, ⟨h1, h2⟩, h3⟩

set_option maxRecDepth 20000 in
set_option maxHeartbeats 6400000 in
theorem lalike_any (x y : Int) (a b : Option Addr) (n ca cb k : Nat) (fs us : List Nat) (hl : Lt k fs) (hm : Lt k us) (hk : k ≤ 8000) (hn : n ≤ 4096) (hp : ∀ i, fs.getD i 0 * us.sum = us.getD i 0 * fs.sum) (hz : fs.sum = 0 ↔ us.sum = 0) (w : World) (hV : IsV w a n ca fs) (hU : IsU w b n cb us) :
    Calls Tryd.prog 11 #[fv x y (.slice a n ca), fv x y (.slice b n cb)] w fun e w' => e = .returned (.int .i64 1) ∧ Below w.heap.size w w' := by
  have HLN := Lib.hid (fun i => Nat.le_trans (d32 (m := 250) (hl i) (by omega)) (show 250 ≤ 10000 by omega))
  have CA := Lib.hid (fun a' c' wx h1 h2 => ralike_any x y a' b n c' cb k fs us hl hm hk hn hp hz wx h1 h2)
  have HT := Lib.hid (fun k (h : k < fs.length) => take_snoc17 fs k h)
  have HL := Lib.hid hV.len
  have HV := Lib.hid hV
  have HU := Lib.hid hU
  have hmx := hV.max
  have M0 := Mem.start w
  clear hl hm hk hp hz hV hU
  go_enter Tryd.func11, Tryd.ntmps11
  go_upto_region 2 with (((with_reducible refine (?_ : Go.wpList _ _ _ (_ :: _) _ _)); (first | go_skip | (refine wpL_bx M0 rfl rfl rfl rfl ?_; clear M0; intro g1 w1 M1) | (refine wpL_alc M0 rfl rfl ?_; clear M0; intro g1 w1 M1) | (refine wpL_ldc M0 rfl rfl rfl ?_) | (refine wpL_lgc M0 rfl rfl rfl ?_) | (refine wpL_stc M0 rfl rfl rfl rfl ?_; clear M0; intro w' M0) | (refine wpL_sti M0 rfl rfl rfl rfl ?_; clear M0; intro w' M0) | (refine wpL_sth M0 rfl rfl rfl rfl (wr_minus _ _ _) ?_; clear M0; intro w' M0) | (refine wpL_bx M1 rfl rfl rfl rfl ?_; clear M1; intro g2 w2 M2) | (refine wpL_alc M1 rfl rfl ?_; clear M1; intro g2 w2 M2) | (refine wpL_ldc M1 rfl rfl rfl ?_) | (refine wpL_lgc M1 rfl rfl rfl ?_) | (refine wpL_stc M1 rfl rfl rfl rfl ?_; clear M1; intro w' M1) | (refine wpL_sti M1 rfl rfl rfl rfl ?_; clear M1; intro w' M1) | (refine wpL_sth M1 rfl rfl rfl rfl (wr_minus _ _ _) ?_; clear M1; intro w' M1) | (refine wpL_bx M2 rfl rfl rfl rfl ?_; clear M2; intro g3 w3 M3) | (refine wpL_alc M2 rfl rfl ?_; clear M2; intro g3 w3 M3) | (refine wpL_ldc M2 rfl rfl rfl ?_) | (refine wpL_lgc M2 rfl rfl rfl ?_) | (refine wpL_stc M2 rfl rfl rfl rfl ?_; clear M2; intro w' M2) | (refine wpL_sti M2 rfl rfl rfl rfl ?_; clear M2; intro w' M2) | (refine wpL_sth M2 rfl rfl rfl rfl (wr_minus _ _ _) ?_; clear M2; intro w' M2) | (refine wpL_ldc M3 rfl rfl rfl ?_) | (refine wpL_lgc M3 rfl rfl rfl ?_) | (refine wpL_stc M3 rfl rfl rfl rfl ?_; clear M3; intro w' M3) | (refine wpL_sti M3 rfl rfl rfl rfl ?_; clear M3; intro w' M3) | (refine wpL_sth M3 rfl rfl rfl rfl (wr_minus _ _ _) ?_; clear M3; intro w' M3))))
  have hO : OwnU w' w.heap.size (.slice none 0 0) 0 (fs.take 0) := OwnU.nil _ _
  go_wp2_with fail
  go_loopw [6] (fun c wr => ∃ (i : Nat) (va : Value), i ≤ n ∧ c = .int .i64 i ∧ Hid (OwnU wr w.heap.size va i (fs.take i)) ∧ Mem w wr [(g3, 36, fc x y va), (g2, 36, fc x y (.slice b n cb)), (g1, 32, fc x y (.slice a n ca))]) (fun c _ => n - (intOf c).toNat)
  case atStart => exact ⟨0, _, Nat.zero_le _, rfl, Lib.hid hO, M3⟩
  case round =>
    clear M3 hO
    obtain ⟨i, va, hi, rfl, HO, M0⟩ := hrel
    obtain ⟨a5, c5, rfl⟩ := HO.out.form
    have c1 := M0.cell (.tail _ _ _ _ _ (.tail _ _ _ _ _ (Has.head _ _ _ _))) (i := 2) rfl
    have c3 := M0.cell (Has.head _ _ _ _) (i := 2) rfl
    by_cases hlt : i < n
    · obtain ⟨b1, o1, d, e, f0, rfl, hbl, cu, hd⟩ := (HV.out.below M0.below).cell hlt
      have hE := HT.out i (by rw [HL.out]; exact hlt)
      have h1 := HLN.out i
      have hb0 : b1 < w.heap.size := by
        obtain ⟨_, _, _, _, _, hee, hbb, _⟩ := HV.out.cell hlt
        cases hee; exact hbb
      obtain ⟨u, hu⟩ : ∃ u, u = fs.getD i 0 := ⟨_, rfl⟩
      rw [← hu] at hd hE h1
      have HE := Lib.hid hE
      have HD := Lib.hid hd
      have H1 := Lib.hid h1
      have hi0 : (i : Int) < n := by omega
      have hb63 : i + 1 ≤ maxLen := by unfold maxLen; omega
      have hb24 : (i + 1) * 24 ≤ 140737488355328 := by omega
      clear hu hE hd h1
      go_wp2_with fail
      refine wp_region_N_drew (S := (fun w' : World => w'.cell? ⟨g3, 2, none⟩ = some (.slice a5 i c5) ∧ w'.cell? ⟨g1, 2, none⟩ = some (.slice (some ⟨b1, o1, none⟩) n ca) ∧ w'.cell? ⟨b1, o1 + i, none⟩ = some (.slice d e f0))) 12 (by kernel_rfl) ?_
      have hHeld : (fun w' : World => w'.cell? ⟨g3, 2, none⟩ = some (.slice a5 i c5) ∧ w'.cell? ⟨g1, 2, none⟩ = some (.slice (some ⟨b1, o1, none⟩) n ca) ∧ w'.cell? ⟨b1, o1 + i, none⟩ = some (.slice d e f0)) wr.drew := ⟨c3, c1, cu⟩
      refine wpAnyN_takeY (i := 0) (v := ?v122) rfl (by kernel_rfl) (by kernel_rfl) (by kernel_rfl) (fun _ _ _ h => h) rfl (Or.inl ⟨by rfl, ?hy122⟩) (fun _ => hHeld) ?rest122
      case hy122 => (intro w' _; go_simp; (try with_reducible rfl))
      try simp only [Act.put, puts]
      refine wpAnyN_takeY (i := 2) (v := ?v123) rfl (by kernel_rfl) (by kernel_rfl) (by kernel_rfl) (fun _ _ _ h => h) rfl (Or.inl ⟨by rfl, ?hy123⟩) (fun _ => hHeld) ?rest123
      case hy123 => (intro w' _; go_simp; (try with_reducible rfl))
      try simp only [Act.put, puts]
      refine wpAnyN_takeY (i := 4) (v := ?v124) rfl (by kernel_rfl) (by kernel_rfl) (by kernel_rfl) (fun _ _ _ h => h) rfl (Or.inl ⟨by rfl, ?hy124⟩) (fun _ => hHeld) ?rest124
      case hy124 => (intro w' _; go_simp; (try with_reducible rfl))
      try simp only [Act.put, puts]
      refine wpAnyN_take (i := 1) (v := ?v125) rfl (by kernel_rfl) (by kernel_rfl) (by kernel_rfl) (fun _ _ _ h => h) rfl (by kernel_rfl) (by kernel_rfl) (Or.inl ⟨by rfl, ?hy125⟩) hHeld ?rest125
      case hy125 => (intro w' hSw; (try dsimp only at hSw); go_simp; (try with_reducible rfl))
      try simp only [Act.put, puts]
      refine wpAnyN_take (i := 3) (v := ?v126) rfl (by kernel_rfl) (by kernel_rfl) (by kernel_rfl) (fun _ _ _ h => h) rfl (by kernel_rfl) (by kernel_rfl) (Or.inl ⟨by rfl, ?hy126⟩) hHeld ?rest126
      case hy126 => (intro w' hSw; (try dsimp only at hSw); go_simp; (try with_reducible rfl))
      try simp only [Act.put, puts]
      refine wpAnyN_takeY (i := 5) (v := ?v127) rfl (by kernel_rfl) (by kernel_rfl) (by kernel_rfl) (fun _ _ _ h => h) rfl (Or.inl ⟨by rfl, ?hy127⟩) (fun _ => hHeld) ?rest127
      case hy127 => (intro w' _; go_simp; (try with_reducible rfl))
      try simp only [Act.put, puts]
      refine wpAnyN_take (i := 6) (v := ?v128) rfl (by kernel_rfl) (by kernel_rfl) (by kernel_rfl) (fun _ _ _ h => h) rfl (by kernel_rfl) (by kernel_rfl) (Or.inl ⟨by rfl, ?hy128⟩) hHeld ?rest128
      case hy128 => (intro w' hSw; (try dsimp only at hSw); go_simp; (try with_reducible rfl))
      try simp only [Act.put, puts]
      refine wpAnyN_ready (rs := [7]) (by kernel_rfl) (by simp) ?_
      refine AllReadyN.cons rfl (fun K hK => ?_) AllReadyN.nil
      go_simp
      refine (digits_any _ u _ (IsN.below (w := wr) (w' := wr.drew) HD.out ((Below.refl wr.heap.size wr).drew)) H1.out).mono ?_
      rintro e w8 ⟨a8, n8, c8, rfl, hA, hC8⟩
      have M8 := M0.drew.call hA
      have HC8 := Lib.hid hC8
      have HO8 := Lib.hid (OwnU.below (w := wr.drew) HO.out hA)
      have cu8 := (hA.cell (p := ⟨b1, o1 + i, none⟩) hbl).trans cu
      have hb8 : b1 < w8.heap.size := Nat.lt_of_lt_of_le hbl hA.size
      clear hC8 hA
      try go_wp2_with fail
      replace hHeld : (fun w' : World => w'.cell? ⟨g3, 2, none⟩ = some (.slice a5 i c5) ∧ w'.cell? ⟨g1, 2, none⟩ = some (.slice (some ⟨b1, o1, none⟩) n ca) ∧ w'.cell? ⟨b1, o1 + i, none⟩ = some (.slice d e f0)) _ := ⟨M8.cell (Has.head _ _ _ _) (i := 2) rfl, M8.cell (.tail _ _ _ _ _ (.tail _ _ _ _ _ (Has.head _ _ _ _))) (i := 2) rfl, cu8⟩
      refine hK.out _ _ (fun _ => hHeld) ?_
      clear hK K
      try simp only [Act.put, puts]
      refine wpAnyN_ready (rs := [8]) (by kernel_rfl) (by simp) ?_
      refine AllReadyN.cons rfl (fun K hK => ?_) AllReadyN.nil
      go_simp
      refine (HC8.out _ (Below.refl _ _)).mono ?_
      rintro e w7 ⟨v7, rfl, hv7, hA⟩
      have M7 := M8.call hA
      obtain ⟨a7, n7, c7, rfl, -, hd7⟩ := hv7.form
      have HD7 := Lib.hid hd7
      have HO7 := Lib.hid (HO8.out.below hA)
      have cu7 := (hA.cell (p := ⟨b1, o1 + i, none⟩) hb8).trans cu8
      have hb7 : b1 < w7.heap.size := Nat.lt_of_lt_of_le hb8 hA.size
      clear hv7 hd7 hA HC8 HO8
      try go_wp2_with fail
      replace hHeld : (fun w' : World => w'.cell? ⟨g3, 2, none⟩ = some (.slice a5 i c5) ∧ w'.cell? ⟨g1, 2, none⟩ = some (.slice (some ⟨b1, o1, none⟩) n ca) ∧ w'.cell? ⟨b1, o1 + i, none⟩ = some (.slice d e f0)) _ := ⟨M7.cell (Has.head _ _ _ _) (i := 2) rfl, M7.cell (.tail _ _ _ _ _ (.tail _ _ _ _ _ (Has.head _ _ _ _))) (i := 2) rfl, cu7⟩
      refine hK.out _ _ (fun _ => hHeld) ?_
      clear hK K
      try simp only [Act.put, puts]
      refine wpAnyN_ready (rs := [9]) (by kernel_rfl) (by simp) ?_
      refine AllReadyN.cons rfl (fun K hK => ?_) AllReadyN.nil
      go_simp
      obtain ⟨w9, hw9⟩ : ∃ w9, w7.alloc (.cells #[.slice a7 n7 c7] 51) = w9 := ⟨_, rfl⟩
      have hA9 : Below w7.heap.size w7 w9 := by rw [← hw9]; exact (Below.refl _ _).alloc (Nat.le_refl _) _
      have p9 : Sl w9 1 (.slice (some ⟨w7.heap.size, 0, none⟩) 1 1) 1 [.slice a7 n7 c7] := by rw [← hw9]; exact Sl.one w7 _ _
      have M9 := M7.call hA9
      have cu9 := (hA9.cell (p := ⟨b1, o1 + i, none⟩) hb7).trans cu7
      have hd9 := HD7.out.below hA9
      obtain ⟨h09, cs9, ho9, hD9⟩ := HO7.out.below hA9
      (try simp only [hw9])
      clear hw9
      try go_wp2_with fail
      replace hHeld : (fun w' : World => w'.cell? ⟨g3, 2, none⟩ = some (.slice a5 i c5) ∧ w'.cell? ⟨g1, 2, none⟩ = some (.slice (some ⟨b1, o1, none⟩) n ca) ∧ w'.cell? ⟨b1, o1 + i, none⟩ = some (.slice d e f0)) _ := ⟨M9.cell (Has.head _ _ _ _) (i := 2) rfl, M9.cell (.tail _ _ _ _ _ (.tail _ _ _ _ _ (Has.head _ _ _ _))) (i := 2) rfl, cu9⟩
      refine hK.out _ _ (fun _ => hHeld) ?_
      clear hK K
      try simp only [Act.put, puts]
      refine wpAnyN_ready (rs := [10]) (by kernel_rfl) (by simp) ?_
      refine AllReadyN.cons rfl (fun K hK => ?_) AllReadyN.nil
      rw [if_pos (by rfl)]
      refine wp_app Edd (.tmp 20) (.tmp 28) rfl w.heap.size rfl ho9 rfl p9 (by intro u hu; simp at hu; subst hu; rfl) hb63 hb24 M9.below.size ?_
      intro v10 w10 ho10 hg10 _
      have hO10 := own_snoc h09 ho9 hD9 hd9 ho10 hg10
      rw [HE.out] at hO10
      have M10 := M9.app ho9 hg10 (Nat.le_refl _) (by simp)
      have cu10 := ((grown_turnedB hg10).cell (p := ⟨b1, o1 + i, none⟩) (Nat.lt_of_lt_of_le hb0 M9.below.size) (fun e => by have := (ho9.lt b1 e).1; omega)).trans cu9
      obtain ⟨a10, c10, rfl⟩ := hO10.form
      have HO10 := Lib.hid hO10
      have r1 := M10.cell (Has.head _ _ _ _) (i := 2) rfl
      have f1 := M10.free (Has.head _ _ _ _) 2
      clear hO10 ho10 hg10 p9 h09 ho9 hD9 hd9 M9 M8 M7 HD7 HO7
      replace hHeld : (fun w' : World => w'.cell? ⟨g3, 2, none⟩ = some (.slice a5 i c5) ∧ w'.cell? ⟨g1, 2, none⟩ = some (.slice (some ⟨b1, o1, none⟩) n ca) ∧ w'.cell? ⟨b1, o1 + i, none⟩ = some (.slice d e f0)) _ := ⟨M10.cell (Has.head _ _ _ _) (i := 2) rfl, M10.cell (.tail _ _ _ _ _ (.tail _ _ _ _ _ (Has.head _ _ _ _))) (i := 2) rfl, cu10⟩
      refine hK.out _ _ (fun _ => hHeld) ?_
      clear hK K
      try simp only [Act.put, puts]
      refine wpAnyN_takeY (i := 11) (v := ?v133) rfl (by kernel_rfl) (by kernel_rfl) (by kernel_rfl) (fun _ _ _ h => h) rfl (Or.inl ⟨by rfl, ?hy133⟩) (fun _ => hHeld) ?rest133
      case hy133 => (intro w' _; go_simp; (try with_reducible rfl))
      try simp only [Act.put, puts]
      refine wpAnyN_ready (rs := [12]) (by kernel_rfl) (by simp) ?_
      refine AllReadyN.cons rfl (fun K hK => ?_) AllReadyN.nil
      go_simp
      try go_wp2_with fail
      refine hK.out _ _ (fun h => by have h' : (true : Bool) = false := h; cases h') ?_
      clear hK K
      try simp only [Act.put, puts]
      refine wpAnyN_done (by kernel_rfl) ?_ _
      have M11 := M10.set 2 (.slice a10 (i + 1) c10) (Upd.head _ _ _ _ _) (by simp)
      have HO11 := Lib.hid (HO10.out.turnedB (M10.has (Has.head _ _ _ _)) (by decide) (by decide) ((Turned.refl (fun k => k = g3) w10).setCell (a := ⟨g3, 2, none⟩) (.inl rfl) (.slice a10 (i + 1) c10)))
      have M11 : Mem w (w10.setCell ⟨g3, 2, none⟩ (.slice a10 (i + 1) c10)) [(g3, 36, fc x y (.slice a10 (i + 1) c10)), (g2, 36, fc x y (.slice b n cb)), (g1, 32, fc x y (.slice (some ⟨b1, o1, none⟩) n ca))] := M11
      obtain ⟨w11, hw11⟩ : ∃ w11, w10.setCell ⟨g3, 2, none⟩ (.slice a10 (i + 1) c10) = w11 := ⟨_, rfl⟩
      rw [hw11] at M11 HO11 ⊢
      clear r1 f1 M10 HO10 hw11 cu cu8 cu7 cu9 cu10 c1 c3 M0 HO
      go_wp2_with fail
      go_roundw
      case rel => exact ⟨i + 1, _, by omega, by go_num, HO11, M11⟩
      case measure => simp [intOf]; omega
    · obtain rfl : i = n := by omega
      have hO := HO.out
      rw [List.take_of_length_le (by rw [HL.out]; exact Nat.le_refl _)] at hO
      have hI := hO.isU
      have HI := Lib.hid hI
      clear hO HO hI c1 c3
      go_wp2_with ((with_reducible refine (?_ : Go.wpList _ _ _ (_ :: _) _ _)); (first | go_skip | (refine wpL_ldc M0 rfl rfl rfl ?_) | (refine wpL_lgc M0 rfl rfl rfl ?_) | (refine wpL_stc M0 rfl rfl rfl rfl ?_; clear M0; intro w' M0) | (refine wpL_sti M0 rfl rfl rfl rfl ?_; clear M0; intro w' M0) | (refine wpL_sth M0 rfl rfl rfl rfl (wr_minus _ _ _) ?_; clear M0; intro w' M0)))
      refine (CA.out a5 c5 _ HI.out (HU.out.below M0.below)).mono ?_
      rintro e w9 ⟨rfl, hA⟩
      have M9 := M0.call hA
      clear hA
      go_wp2_with fail
      go_ret
      exact ⟨rfl, M9.below⟩
end Go.Proofs.YtanblpfpkohghaaDoor

/-
  Is the code's filter that of some small numbers: the law's.
-/
namespace Go.Proofs.YtanblpfpkohghaaDoor
open Go Go.RowKit Go.Th Go.Th.Dig Go.Th.Ex Go.Th.Grid

theorem dg_small {x : Nat} (h0 : x ≠ 0) (h : x < 256) : dg 256 x = [x] := by
  refine (dg_of (B := 256) (by decide) (l := [x]) (n := x) ?_ ?_ ?_).symm
  · intro d hd
    rw [List.mem_singleton.1 hd]; exact h
  · intro d hd
    simp at hd
    omega
  · simp [val]
set_option maxRecDepth 20000 in
set_option maxHeartbeats 6400000 in
theorem has17_any (wd h : Nat) (a b : Option Addr) (n ca cb k : Nat) (fs li : List Nat) (hl : Lt k fs) (hk : k ≤ 8000) (hk8 : 8 ≤ k) (hn : n ≤ 4096) (hw0 : 1 ≤ wd) (hwh : n / wd = h) (hli : ∀ d ∈ li, d < 256) (hll : li.length = n) (hp : ∀ i, fs.getD i 0 * li.sum = li.getD i 0 * fs.sum) (hz : fs.sum = 0 ↔ li.sum = 0) (w : World) (hV : IsV w a n ca fs) (hS : Sl w 1 (.slice b n cb) n (digs li)) :
    Calls Tryd.prog 16 #[fv wd h (.slice a n ca), .int .i64 wd, .slice b n cb] w fun e w' => e = .returned (.int .i64 1) ∧ Below w.heap.size w w' := by
  have hm : Lt k li := fun i => Nat.lt_of_lt_of_le (show li.getD i 0 < 2 ^ 8 from getD_lt hli i) (Nat.pow_le_pow_right (by decide) hk8)
  have CA := Lib.hid (fun a' c' wx h1 h2 => lalike_any wd h a a' n ca c' k fs li hl hm hk hn hp hz wx h1 h2)
  have HT := Lib.hid (fun k (h : k < li.length) => take_snoc17 li k h)
  have HL := Lib.hid hll
  have HG := Lib.hid (getD_lt hli)
  have HV := Lib.hid hV
  have HS := Lib.hid hS
  have hmx := hV.max
  have hmx2 := hS.max
  have e1 : (n : Int) / (wd : Int) = (h : Int) := by rw [← hwh]; simp
  have e1t : (n : Int).tdiv (wd : Int) = (h : Int) := by rw [Int.tdiv_eq_ediv_of_nonneg (Int.natCast_nonneg n)]; exact e1
  have hw1 : ¬ (wd : Int) = 0 := by omega
  have hw2 : ¬ wd = 0 := by omega
  have hh : h ≤ 4096 := by rw [← hwh]; exact Nat.le_trans (Nat.div_le_self _ _) hn
  have wh : wrap64 (h : Int) = (h : Int) := IntWalk.wrap64_in _ (by omega)
  have M0 := Mem.start w
  clear hl hk hk8 hwh hli hll hp hz hV hS hm
  go_enter Tryd.func16, Tryd.ntmps16
  go_upto_region 2 with (((with_reducible refine (?_ : Go.wpList _ _ _ (_ :: _) _ _)); (first | go_skip | (refine wpL_bx M0 rfl rfl rfl rfl ?_; clear M0; intro g1 w1 M1) | (refine wpL_alc M0 rfl rfl ?_; clear M0; intro g1 w1 M1) | (refine wpL_ldc M0 rfl rfl rfl ?_) | (refine wpL_lgc M0 rfl rfl rfl ?_) | (refine wpL_stc M0 rfl rfl rfl rfl ?_; clear M0; intro w' M0) | (refine wpL_sti M0 rfl rfl rfl rfl ?_; clear M0; intro w' M0) | (refine wpL_sth M0 rfl rfl rfl rfl (wr_minus _ _ _) ?_; clear M0; intro w' M0) | (refine wpL_bx M1 rfl rfl rfl rfl ?_; clear M1; intro g2 w2 M2) | (refine wpL_alc M1 rfl rfl ?_; clear M1; intro g2 w2 M2) | (refine wpL_ldc M1 rfl rfl rfl ?_) | (refine wpL_lgc M1 rfl rfl rfl ?_) | (refine wpL_stc M1 rfl rfl rfl rfl ?_; clear M1; intro w' M1) | (refine wpL_sti M1 rfl rfl rfl rfl ?_; clear M1; intro w' M1) | (refine wpL_sth M1 rfl rfl rfl rfl (wr_minus _ _ _) ?_; clear M1; intro w' M1) | (refine wpL_ldc M2 rfl rfl rfl ?_) | (refine wpL_lgc M2 rfl rfl rfl ?_) | (refine wpL_stc M2 rfl rfl rfl rfl ?_; clear M2; intro w' M2) | (refine wpL_sti M2 rfl rfl rfl rfl ?_; clear M2; intro w' M2) | (refine wpL_sth M2 rfl rfl rfl rfl (wr_minus _ _ _) ?_; clear M2; intro w' M2))))
  clear e1 e1t wh
  have hO : OwnU w' w.heap.size (.slice none 0 0) 0 (li.take 0) := OwnU.nil _ _
  go_wp2_with fail
  go_loopw [8] (fun c wr => ∃ (i : Nat) (va : Value), i ≤ n ∧ c = .int .i64 i ∧ Hid (OwnU wr w.heap.size va i (li.take i)) ∧ Mem w wr [(g2, 36, fc wd h va), (g1, 32, fc wd h (.slice a n ca))]) (fun c _ => n - (intOf c).toNat)
  case atStart => exact ⟨0, _, Nat.zero_le _, rfl, Lib.hid hO, M2⟩
  case round =>
    clear M2 hO
    obtain ⟨i, va, hi, rfl, HO, M0⟩ := hrel
    obtain ⟨a5, c5, rfl⟩ := HO.out.form
    by_cases hlt : i < n
    · obtain ⟨b1, o1, rfl, hb1, cu⟩ := cell_dig (HS.out.below M0.below) i (by rw [HL.out]; exact hlt)
      have hE := HT.out i (by rw [HL.out]; exact hlt)
      have hx := HG.out i
      obtain ⟨x, hxe⟩ : ∃ x, x = li.getD i 0 := ⟨_, rfl⟩
      rw [← hxe] at cu hE hx
      have HE := Lib.hid hE
      have hi0 : (i : Int) < n := by omega
      have hb63 : i + 1 ≤ maxLen := by unfold maxLen; omega
      have hb24 : (i + 1) * 24 ≤ 140737488355328 := by omega
      have hA4 := (Below.refl wr.heap.size wr).alloc (Nat.le_refl _) (.cells #[.int .i64 (x : Int)] 3)
      have cu4 := ((Turned.below (S := fun _ => False) hA4).cell (p := ⟨b1, o1 + i, none⟩) hb1 id).trans cu
      have M4 := M0.call hA4
      have HO4 := Lib.hid (HO.out.below hA4)
      have hS4 : Sl (wr.alloc (.cells #[.int .i64 (x : Int)] 3)) 1 (.slice (some ⟨wr.heap.size, 0, none⟩) 1 1) 1 [.int .i64 (x : Int)] := Sl.one wr _ _
      have hK4 : Blk (wr.alloc (.cells #[.int .i64 (x : Int)] 3)) wr.heap.size 3 [.int .i64 (x : Int)] := heap_alloc_new wr _
      obtain ⟨B4, hB4⟩ : ∃ B4, B4 = wr.heap.size := ⟨_, rfl⟩
      clear hxe hE HO M0 hA4
      go_upto_region 6 with fail
      obtain ⟨wq, hwq⟩ : ∃ wq, wr.alloc (.cells #[.int .i64 (x : Int)] 3) = wq := ⟨_, rfl⟩
      rw [hwq] at cu4 M4 HO4 hS4 hK4
      simp only [hwq, ← hB4]
      rw [← hB4] at hS4 hK4
      have HS4 := Lib.hid hS4
      have HK4 := Lib.hid hK4
      clear hwq hS4 hK4 hB4
      go_upto_if 31 with fail
      go_cut [9] from 16 to 37 (fun s9 wx => wx = wq ∧ ∃ d e f0, s9 = .slice d e f0 ∧ Hid (D16 wq (.slice d e f0) x))
      case first =>
        by_cases h0 : x = 0
        · subst h0
          have HZ := Lib.hid (d16_nil wq)
          go_wp2_with fail
          go_meet
          exact ⟨rfl, _, _, _, rfl, HZ⟩
        · have h1 : ¬ (x : Int) = 0 := by omega
          have h2 : ((x : Int) == 0) = false := beq_eq_false_iff_ne.2 h1
          have hD : D16 wq (.slice (some ⟨B4, 0, none⟩) 1 1) x := by
            refine ⟨?_, tyR_blk HK4.out 0 _ _⟩
            unfold Is16
            rw [dg_small h0 hx]
            exact HS4.out
          have HD := Lib.hid hD
          clear hD
          go_wp2_with fail
          go_meet
          exact ⟨rfl, _, _, _, rfl, HD⟩
      obtain ⟨rfl, d, e, f0, rfl, HD⟩ := hcut
      obtain ⟨h08, cs8, ho8, hD8⟩ := HO4.out
      have hA9 := (Below.refl wc.heap.size wc).alloc (Nat.le_refl _) (.cells #[.slice d e f0] 51)
      have M18 := M4.call hA9
      have hd9 := HD.out.below hA9
      have ho9 := ownsRow_below ho8 hA9
      have hD9 : ∀ j, j < i → ∃ d, cs8[j]? = some d ∧ D16 _ d ((li.take i).getD j 0) := fun j hj => let ⟨d, e1, e2⟩ := hD8 j hj; ⟨d, e1, e2.below hA9⟩
      have HD9' := Lib.hid hD9
      have HD10 := Lib.hid hd9
      have HH := Lib.hid h08
      clear hD8 hD9 hd9 ho8 HO4 HD hA9 h08 HS4 HK4 cu cu4
      have c32 := M4.cell (Has.head _ _ _ _) (i := 2) rfl
      clear M4
      go_wp2_with (at_builtin; refine wpList_app Edd rfl (.tmp 33) (.tmp 35) rfl w.heap.size rfl ho9 rfl (Sl.one _ _ _) (by intro u hu; simp at hu; subst hu; rfl) hb63 hb24 M18.below.size ?_)
      intro v10 w10 ho10 hg10 _
      have hO10 := own_snoc HH.out ho9 HD9'.out HD10.out ho10 hg10
      rw [HE.out] at hO10
      have M19 := M18.app ho9 hg10 (Nat.le_refl _) (by simp)
      obtain ⟨a10, c10, rfl⟩ := hO10.form
      have HO10 := Lib.hid hO10
      clear hO10 ho10 hg10 ho9 HD9' HD10 HH M18 c32
      have r1 := M19.cell (Has.head _ _ _ _) (i := 2) rfl
      have f1 := M19.free (Has.head _ _ _ _) 2
      have M20 := M19.set 2 (.slice a10 (i + 1) c10) (Upd.head _ _ _ _ _) (by simp)
      have HO20 := Lib.hid (HO10.out.turnedB (M19.has (Has.head _ _ _ _)) (by decide) (by decide) ((Turned.refl (fun k => k = g2) w10).setCell (a := ⟨g2, 2, none⟩) (.inl rfl) (.slice a10 (i + 1) c10)))
      have HM20 := Lib.hid M20
      clear M20 M19 HO10
      go_wp2_with fail
      go_roundw
      case rel => exact ⟨i + 1, _, by omega, by go_num, HO20, HM20.out⟩
      case measure => simp [intOf]; omega
    · obtain rfl : i = n := by omega
      have hO := HO.out
      rw [List.take_of_length_le (by rw [HL.out]; exact Nat.le_refl _)] at hO
      have hI := hO.isU
      have HI := Lib.hid hI
      clear hO HO hI
      go_wp2_with ((with_reducible refine (?_ : Go.wpList _ _ _ (_ :: _) _ _)); (first | go_skip | (refine wpL_ldc M0 rfl rfl rfl ?_) | (refine wpL_lgc M0 rfl rfl rfl ?_) | (refine wpL_stc M0 rfl rfl rfl rfl ?_; clear M0; intro w' M0) | (refine wpL_sti M0 rfl rfl rfl rfl ?_; clear M0; intro w' M0) | (refine wpL_sth M0 rfl rfl rfl rfl (wr_minus _ _ _) ?_; clear M0; intro w' M0)))
      refine (CA.out a5 c5 _ (HV.out.below M0.below) HI.out).mono ?_
      rintro e w9 ⟨rfl, hA⟩
      have M9 := M0.call hA
      clear hA
      go_wp2_with fail
      go_ret
      exact ⟨rfl, M9.below⟩
end Go.Proofs.YtanblpfpkohghaaDoor
