/-
  MomentPeaks, walked.
-/
import Derived.Test.YtbjhbbiahmhdeaaLaw15d
set_option linter.unusedVariables false
set_option linter.unusedSimpArgs false
namespace Go.Proofs.Ytbjhbbiahmhdeaa
open Go Go.RowKit Go.Shelf Go.Th Go.Th.Grid Go.Th.Moment Go.Th.Wide

theorem six {w0 W : World} {gA : Nat} {x y S : Int} {a : Option Addr} {n cap : Nat} (M : Mem w0 W [(gA, 26, gc x y 1000 (-1000) S (.slice a n cap))]) :
    W.cell? ⟨gA, 0, none⟩ = some (.int .i64 x) ∧ W.cell? ⟨gA, 1, none⟩ = some (.int .i64 y) ∧ W.cell? ⟨gA, 2, none⟩ = some (.int .i64 1000) ∧ W.cell? ⟨gA, 3, none⟩ = some (.int .i64 (-1000)) ∧ W.cell? ⟨gA, 4, none⟩ = some (.int .i64 S) ∧ W.cell? ⟨gA, 5, none⟩ = some (.slice a n cap) := by
  obtain ⟨c0, c1, c2, c3, c4, c5⟩ := gcells (M.has (Has.head _ _ _ _))
  exact ⟨c0, c1, c2, c3, c4, c5⟩
set_option maxRecDepth 20000 in
set_option maxHeartbeats 16000000 in
theorem peaks_go (p q k capl n : Nat) (al : Option Addr) (z G : List Int) (x y S A B R E at_ far : Int) (hk : ¬ ((100 : Int) < (k : Int))) (hG : G.length = n)
    (CM : MadeC p q 2 k capl al z x y S n G) (C1 : OfG 15 x y 1000 (-1000) S n G (fun g => #[g]) (.int .i64 A)) (C2 : OfG 16 x y 1000 (-1000) S n G (fun g => #[g, .int .i64 far]) (.int .i64 B))
    (D1 : OfG 17 x y 1000 (-1000) S n G (fun g => #[g]) (.int .i64 A)) (D2 : OfG 18 x y 1000 (-1000) S n G (fun g => #[g, .int .i64 far]) (.int .i64 B))
    (C3 : OfG 19 x y 1000 (-1000) S n G (fun g => #[g, .int .i64 at_, .int .i64 far]) (.int .i64 R)) (D3 : OfG 20 x y 1000 (-1000) S n G (fun g => #[g, .int .i64 at_, .int .i64 far]) (.int .i64 R))
    (C4 : OfG 21 x y 1000 (-1000) S n G (fun g => #[g]) (.int .i64 E)) (D4 : OfG 22 x y 1000 (-1000) S n G (fun g => #[g]) (.int .i64 E))
    (C0 : Ans 7 #[] (.bool true)) (hb : B < 0 ∨ ∃ i j : Nat, A = (i : Nat) ∧ B = (j : Nat) ∧ i < n ∧ j < n ∧ G.getD j 0 ≤ G.getD i 0) (hn : n ≤ 64) (w : World) (hT : Sl w 1 (.slice al k capl) k (u16s z)) :
    Calls Try.prog 5 #[.int .u8 p, .int .u8 q, .slice al k capl, .int .i64 at_, .int .i64 far] w fun e w' => e = .returned (.bool true) ∧ Below w.heap.size w w' := by
  have hmy := hT.max
  have nA : (A != A) = false := by simp
  have nB : (B != B) = false := by simp
  have nR : (R != R) = false := by simp
  have nE : (E != E) = false := by simp
  have CM := Lib.hid CM
  have C1 := Lib.hid C1
  have C2 := Lib.hid C2
  have C3 := Lib.hid C3
  have C4 := Lib.hid C4
  have D1 := Lib.hid D1
  have D2 := Lib.hid D2
  have D3 := Lib.hid D3
  have D4 := Lib.hid D4
  have C0 := Lib.hid C0
  have hT := Lib.hid hT
  have HBB := Lib.hid hb
  have HG := Lib.hid hG
  have M0 := Mem.start w
  clear hb hG
  go_enter Try.func5, Try.ntmps5
  go_wp2_with ((with_reducible refine (?_ : Go.wpList _ _ _ (_ :: _) _ _)); (first | go_skip | (refine wpL_ldc M0 rfl rfl rfl ?_) | (refine wpL_lgc M0 rfl rfl rfl ?_) | (refine wpL_stc M0 rfl rfl rfl rfl ?_; clear M0; intro w' M0) | (refine wpL_sti M0 rfl rfl rfl rfl ?_; clear M0; intro w' M0) | (refine wpL_sth M0 rfl rfl rfl rfl (wr_minus _ _ _) ?_; clear M0; intro w' M0)))
  refine (CM.out _ hT.out).mono ?_
  rintro e wG ⟨a, cap, rfl, s1, hB⟩
  have HB := Lib.hid hB
  have HS := Lib.hid s1
  clear hB CM hT s1 M0
  have M0 := Mem.start wG
  go_wp2_with ((with_reducible refine (?_ : Go.wpList _ _ _ (_ :: _) _ _)); (first | go_skip | (refine wpL_bx M0 rfl rfl rfl rfl ?_; clear M0; intro g1 w1 M1) | (refine wpL_alc M0 rfl rfl ?_; clear M0; intro g1 w1 M1) | (refine wpL_ldc M0 rfl rfl rfl ?_) | (refine wpL_lgc M0 rfl rfl rfl ?_) | (refine wpL_stc M0 rfl rfl rfl rfl ?_; clear M0; intro w' M0) | (refine wpL_sti M0 rfl rfl rfl rfl ?_; clear M0; intro w' M0) | (refine wpL_sth M0 rfl rfl rfl rfl (wr_minus _ _ _) ?_; clear M0; intro w' M0) | (refine wpL_ldc M1 rfl rfl rfl ?_) | (refine wpL_lgc M1 rfl rfl rfl ?_) | (refine wpL_stc M1 rfl rfl rfl rfl ?_; clear M1; intro w' M1) | (refine wpL_sti M1 rfl rfl rfl rfl ?_; clear M1; intro w' M1) | (refine wpL_sth M1 rfl rfl rfl rfl (wr_minus _ _ _) ?_; clear M1; intro w' M1)))
  obtain ⟨gA, hgA⟩ : ∃ gA, gA = g1 := ⟨_, rfl⟩
  rw [← hgA] at M1 ⊢
  clear hgA
  obtain ⟨c0, c1, c2, c3, c4, c5⟩ := gcells (M1.has (Has.head _ _ _ _))
  refine wp_region_held_drew (S := (fun w' : World => w'.cell? ⟨gA, 0, none⟩ = some (.int .i64 x) ∧ w'.cell? ⟨gA, 1, none⟩ = some (.int .i64 y) ∧ w'.cell? ⟨gA, 2, none⟩ = some (.int .i64 1000) ∧ w'.cell? ⟨gA, 3, none⟩ = some (.int .i64 (-1000)) ∧ w'.cell? ⟨gA, 4, none⟩ = some (.int .i64 S) ∧ w'.cell? ⟨gA, 5, none⟩ = some (.slice a n cap))) (by kernel_rfl) (⟨c0, c1, c2, c3, c4, c5⟩) (fun hHeld => ?_)
  refine tkT 0 ?v52 ?hy52 hHeld ?rest52
  case hy52 => (intro w' hSw; (try dsimp only at hSw); go_simp; (try with_reducible rfl))
  try simp only [Act.put, puts]
  refine tkT 2 ?v53 ?hy53 hHeld ?rest53
  case hy53 => (intro w' hSw; (try dsimp only at hSw); go_simp; (try with_reducible rfl))
  try simp only [Act.put, puts]
  refine tkT 3 ?v54 ?hy54 hHeld ?rest54
  case hy54 => (intro w' hSw; (try dsimp only at hSw); go_simp; (try with_reducible rfl))
  try simp only [Act.put, puts]
  refine wpAnyH_ready (rs := [1]) (by kernel_rfl) (by simp) ?_
  refine AllReadyH.cons rfl (fun K hK => ?_) AllReadyH.nil
  go_simp
  refine (C1.out _ _ _ (HS.out.below M1.drew.below)).mono ?_
  rintro e wx ⟨rfl, hA⟩
  have M2 := M1.drew.call hA
  clear hA
  try go_wp2_with fail
  refine hK.out _ _ (six M2) (fun hHeld => ?_)
  clear hK K
  try simp only [Act.put, puts]
  refine wpAnyH_ready (rs := [4]) (by kernel_rfl) (by simp) ?_
  refine AllReadyH.cons rfl (fun K hK => ?_) AllReadyH.nil
  go_simp
  refine (C2.out _ _ _ (HS.out.below M2.below)).mono ?_
  rintro e wx ⟨rfl, hA⟩
  have M3 := M2.call hA
  clear hA
  try go_wp2_with fail
  refine hK.out _ _ (six M3) (fun hHeld => ?_)
  clear hK K
  try simp only [Act.put, puts]
  refine tkT 5 ?v57 ?hy57 hHeld ?rest57
  case hy57 => (intro w' hSw; (try dsimp only at hSw); go_simp; (try with_reducible rfl))
  try simp only [Act.put, puts]
  refine tkT 6 ?v58 ?hy58 hHeld ?rest58
  case hy58 => (intro w' hSw; (try dsimp only at hSw); go_simp; (try with_reducible rfl))
  try simp only [Act.put, puts]
  refine wpAnyH_done (by kernel_rfl) ?_ _
  clear M1 M2 c0 c1 c2 c3 c4 c5 C1 C2
  go_wp2_with fail
  obtain ⟨c0, c1, c2, c3, c4, c5⟩ := gcells (M3.has (Has.head _ _ _ _))
  refine wp_region_held_drew (S := (fun w' : World => w'.cell? ⟨gA, 0, none⟩ = some (.int .i64 x) ∧ w'.cell? ⟨gA, 1, none⟩ = some (.int .i64 y) ∧ w'.cell? ⟨gA, 2, none⟩ = some (.int .i64 1000) ∧ w'.cell? ⟨gA, 3, none⟩ = some (.int .i64 (-1000)) ∧ w'.cell? ⟨gA, 4, none⟩ = some (.int .i64 S) ∧ w'.cell? ⟨gA, 5, none⟩ = some (.slice a n cap))) (by kernel_rfl) (⟨c0, c1, c2, c3, c4, c5⟩) (fun hHeld => ?_)
  refine tkT 0 ?v59 ?hy59 hHeld ?rest59
  case hy59 => (intro w' hSw; (try dsimp only at hSw); go_simp; (try with_reducible rfl))
  try simp only [Act.put, puts]
  refine tkT 1 ?v60 ?hy60 hHeld ?rest60
  case hy60 => (intro w' hSw; (try dsimp only at hSw); go_simp; (try with_reducible rfl))
  try simp only [Act.put, puts]
  refine wpAnyH_ready (rs := [2]) (by kernel_rfl) (by simp) ?_
  refine AllReadyH.cons rfl (fun K hK => ?_) AllReadyH.nil
  go_simp
  refine (D1.out _ _ _ (HS.out.below M3.drew.below)).mono ?_
  rintro e wx ⟨rfl, hA⟩
  have M4 := M3.drew.call hA
  clear hA
  try go_wp2_with fail
  refine hK.out _ _ (six M4) (fun hHeld => ?_)
  clear hK K
  try simp only [Act.put, puts]
  refine tkT 3 ?v62 ?hy62 hHeld ?rest62
  case hy62 => (intro w' hSw; (try dsimp only at hSw); go_simp; (try with_reducible rfl))
  try simp only [Act.put, puts]
  refine tkT 4 ?v63 ?hy63 hHeld ?rest63
  case hy63 => (intro w' hSw; (try dsimp only at hSw); go_simp; (try with_reducible rfl))
  try simp only [Act.put, puts]
  refine tkT 5 ?v64 ?hy64 hHeld ?rest64
  case hy64 => (intro w' hSw; (try dsimp only at hSw); go_simp; (try with_reducible rfl))
  try simp only [Act.put, puts]
  refine tkT 6 ?v65 ?hy65 hHeld ?rest65
  case hy65 => (intro w' hSw; (try dsimp only at hSw); go_simp; (try with_reducible rfl))
  try simp only [Act.put, puts]
  refine tkT 7 ?v66 ?hy66 hHeld ?rest66
  case hy66 => (intro w' hSw; (try dsimp only at hSw); go_simp; (try with_reducible rfl))
  try simp only [Act.put, puts]
  refine wpAnyH_ready (rs := [8]) (by kernel_rfl) (by simp) ?_
  refine AllReadyH.cons rfl (fun K hK => ?_) AllReadyH.nil
  go_simp
  refine (D2.out _ _ _ (HS.out.below M4.below)).mono ?_
  rintro e wx ⟨rfl, hA⟩
  have M5 := M4.call hA
  clear hA
  try go_wp2_with fail
  refine hK.out _ _ (six M5) (fun hHeld => ?_)
  clear hK K
  try simp only [Act.put, puts]
  refine tkT 9 ?v68 ?hy68 hHeld ?rest68
  case hy68 => (intro w' hSw; (try dsimp only at hSw); go_simp; (try with_reducible rfl))
  try simp only [Act.put, puts]
  refine tkT 10 ?v69 ?hy69 hHeld ?rest69
  case hy69 => (intro w' hSw; (try dsimp only at hSw); go_simp; (try with_reducible rfl))
  try simp only [Act.put, puts]
  refine tkT 11 ?v70 ?hy70 hHeld ?rest70
  case hy70 => (intro w' hSw; (try dsimp only at hSw); go_simp; (try with_reducible rfl))
  try simp only [Act.put, puts]
  refine tkT 12 ?v71 ?hy71 hHeld ?rest71
  case hy71 => (intro w' hSw; (try dsimp only at hSw); go_simp; (try with_reducible rfl))
  try simp only [Act.put, puts]
  refine tkT 13 ?v72 ?hy72 hHeld ?rest72
  case hy72 => (intro w' hSw; (try dsimp only at hSw); go_simp; (try with_reducible rfl))
  try simp only [Act.put, puts]
  refine tkT 14 ?v73 ?hy73 hHeld ?rest73
  case hy73 => (intro w' hSw; (try dsimp only at hSw); go_simp; (try with_reducible rfl))
  try simp only [Act.put, puts]
  refine tkT 16 ?v74 ?hy74 hHeld ?rest74
  case hy74 => (intro w' hSw; (try dsimp only at hSw); go_simp; (try with_reducible rfl))
  try simp only [Act.put, puts]
  refine tkT 17 ?v75 ?hy75 hHeld ?rest75
  case hy75 => (intro w' hSw; (try dsimp only at hSw); go_simp; (try with_reducible rfl))
  try simp only [Act.put, puts]
  refine tkT 18 ?v76 ?hy76 hHeld ?rest76
  case hy76 => (intro w' hSw; (try dsimp only at hSw); go_simp; (try with_reducible rfl))
  try simp only [Act.put, puts]
  refine wpAnyH_ready (rs := [15]) (by kernel_rfl) (by simp) ?_
  refine AllReadyH.cons rfl (fun K hK => ?_) AllReadyH.nil
  go_simp
  refine (C3.out _ _ _ (HS.out.below M5.below)).mono ?_
  rintro e wx ⟨rfl, hA⟩
  have M6 := M5.call hA
  clear hA
  try go_wp2_with fail
  refine hK.out _ _ (six M6) (fun hHeld => ?_)
  clear hK K
  try simp only [Act.put, puts]
  refine wpAnyH_ready (rs := [19]) (by kernel_rfl) (by simp) ?_
  refine AllReadyH.cons rfl (fun K hK => ?_) AllReadyH.nil
  go_simp
  refine (D3.out _ _ _ (HS.out.below M6.below)).mono ?_
  rintro e wx ⟨rfl, hA⟩
  have M7 := M6.call hA
  clear hA
  try go_wp2_with fail
  refine hK.out _ _ (six M7) (fun hHeld => ?_)
  clear hK K
  try simp only [Act.put, puts]
  refine tkT 20 ?v79 ?hy79 hHeld ?rest79
  case hy79 => (intro w' hSw; (try dsimp only at hSw); go_simp; (try with_reducible rfl))
  try simp only [Act.put, puts]
  refine tkT 21 ?v80 ?hy80 hHeld ?rest80
  case hy80 => (intro w' hSw; (try dsimp only at hSw); go_simp; (try with_reducible rfl))
  try simp only [Act.put, puts]
  refine tkT 22 ?v81 ?hy81 hHeld ?rest81
  case hy81 => (intro w' hSw; (try dsimp only at hSw); go_simp; (try with_reducible rfl))
  try simp only [Act.put, puts]
  refine tkT 23 ?v82 ?hy82 hHeld ?rest82
  case hy82 => (intro w' hSw; (try dsimp only at hSw); go_simp; (try with_reducible rfl))
  try simp only [Act.put, puts]
  refine tkT 25 ?v83 ?hy83 hHeld ?rest83
  case hy83 => (intro w' hSw; (try dsimp only at hSw); go_simp; (try with_reducible rfl))
  try simp only [Act.put, puts]
  refine wpAnyH_ready (rs := [24]) (by kernel_rfl) (by simp) ?_
  refine AllReadyH.cons rfl (fun K hK => ?_) AllReadyH.nil
  go_simp
  refine (C4.out _ _ _ (HS.out.below M7.below)).mono ?_
  rintro e wx ⟨rfl, hA⟩
  have M8 := M7.call hA
  clear hA
  try go_wp2_with fail
  refine hK.out _ _ (six M8) (fun hHeld => ?_)
  clear hK K
  try simp only [Act.put, puts]
  refine wpAnyH_ready (rs := [26]) (by kernel_rfl) (by simp) ?_
  refine AllReadyH.cons rfl (fun K hK => ?_) AllReadyH.nil
  go_simp
  refine (D4.out _ _ _ (HS.out.below M8.below)).mono ?_
  rintro e wx ⟨rfl, hA⟩
  have M9 := M8.call hA
  clear hA
  try go_wp2_with fail
  refine hK.out _ _ (six M9) (fun hHeld => ?_)
  clear hK K
  try simp only [Act.put, puts]
  refine tkT 27 ?v86 ?hy86 hHeld ?rest86
  case hy86 => (intro w' hSw; (try dsimp only at hSw); go_simp; (try with_reducible rfl))
  try simp only [Act.put, puts]
  refine tkT 28 ?v87 ?hy87 hHeld ?rest87
  case hy87 => (intro w' hSw; (try dsimp only at hSw); go_simp; (try with_reducible rfl))
  try simp only [Act.put, puts]
  refine wpAnyH_done (by kernel_rfl) ?_ _
  clear M3 M4 M5 M6 M7 M8 c0 c1 c2 c3 c4 c5 C3 C4 D1 D2 D3 D4
  have c5 := M9.cell (Has.head _ _ _ _) (i := 5) rfl
  rcases HBB.out with hb | ⟨i, j, rfl, rfl, hi, hj, hle⟩
  · have db : decide (B < 0) = true := decide_eq_true hb
    clear hb
    go_wp2_with fail
    refine wp_region_held_drew (S := (fun w' : World => w'.cell? ⟨gA, 5, none⟩ = some (.slice a n cap))) (by kernel_rfl) (c5) (fun hHeld => ?_)
    refine tkT 0 ?v88 ?hy88 hHeld ?rest88
    case hy88 => (intro w' hSw; (try dsimp only at hSw); go_simp; (try with_reducible rfl))
    try simp only [Act.put, puts]
    refine tkT 1 ?v89 ?hy89 hHeld ?rest89
    case hy89 => (intro w' hSw; (try dsimp only at hSw); go_simp; (try with_reducible rfl))
    try simp only [Act.put, puts]
    refine tkT 2 ?v90 ?hy90 hHeld ?rest90
    case hy90 => (intro w' hSw; (try dsimp only at hSw); go_simp; (try with_reducible rfl))
    try simp only [Act.put, puts]
    refine tkS 3 hHeld ?_
    try simp only [Act.put, puts]
    refine tkS 4 hHeld ?_
    try simp only [Act.put, puts]
    refine tkS 5 hHeld ?_
    try simp only [Act.put, puts]
    refine tkS 6 hHeld ?_
    try simp only [Act.put, puts]
    refine tkS 7 hHeld ?_
    try simp only [Act.put, puts]
    refine tkS 8 hHeld ?_
    try simp only [Act.put, puts]
    refine tkS 9 hHeld ?_
    try simp only [Act.put, puts]
    refine tkS 10 hHeld ?_
    try simp only [Act.put, puts]
    refine tkS 11 hHeld ?_
    try simp only [Act.put, puts]
    refine tkS 12 hHeld ?_
    try simp only [Act.put, puts]
    refine tkS 13 hHeld ?_
    try simp only [Act.put, puts]
    refine tkT 14 ?v102 ?hy102 hHeld ?rest102
    case hy102 => (intro w' hSw; (try dsimp only at hSw); go_simp; (try with_reducible rfl))
    try simp only [Act.put, puts]
    refine tkT 15 ?v103 ?hy103 hHeld ?rest103
    case hy103 => (intro w' hSw; (try dsimp only at hSw); go_simp; (try with_reducible rfl))
    try simp only [Act.put, puts]
    refine wpAnyH_ready (rs := [16]) (by kernel_rfl) (by simp) ?_
    refine AllReadyH.cons rfl (fun K hK => ?_) AllReadyH.nil
    go_simp
    refine (C0.out _).mono ?_
    rintro e wx ⟨rfl, hA⟩
    have M10 := M9.drew.call hA
    clear hA
    try go_wp2_with fail
    refine hK.out _ _ (M10.cell (Has.head _ _ _ _) (i := 5) rfl) (fun hHeld => ?_)
    clear hK K
    try simp only [Act.put, puts]
    refine tkT 17 ?v105 ?hy105 hHeld ?rest105
    case hy105 => (intro w' hSw; (try dsimp only at hSw); go_simp; (try with_reducible rfl))
    try simp only [Act.put, puts]
    refine tkT 18 ?v106 ?hy106 hHeld ?rest106
    case hy106 => (intro w' hSw; (try dsimp only at hSw); go_simp; (try with_reducible rfl))
    try simp only [Act.put, puts]
    refine wpAnyH_done (by kernel_rfl) ?_ _
    go_wp2_with fail
    go_ret
    exact ⟨rfl, HB.out.trans (M10.below.mono HB.out.size)⟩
  · obtain ⟨b, o, rfl, _, ci⟩ := cell64 (HS.out.below M9.below) i (by rw [HG.out]; exact hi)
    have cj := rowcell (HS.out.below M9.below) j (by rw [HG.out]; exact hj)
    have hin : (i : Int) < (n : Int) := by omega
    have hjn : (j : Int) < (n : Int) := by omega
    obtain ⟨u, hu⟩ : ∃ u, u = G.getD i 0 := ⟨_, rfl⟩
    obtain ⟨v, hv⟩ : ∃ v, v = G.getD j 0 := ⟨_, rfl⟩
    rw [← hu] at ci hle
    rw [← hv] at cj hle
    have dle : decide (v ≤ u) = true := decide_eq_true hle
    have HQ := Lib.hid (fun W (hA : Below wG.heap.size wG W) => rowcell (HS.out.below hA) i (by rw [HG.out]; exact hi))
    have HR := Lib.hid (fun W (hA : Below wG.heap.size wG W) => rowcell (HS.out.below hA) j (by rw [HG.out]; exact hj))
    rw [← hu] at HQ
    rw [← hv] at HR
    clear hu hv hle hi hj
    go_wp2_with fail
    refine wp_region_held_drew (S := (fun w' : World => w'.cell? ⟨gA, 5, none⟩ = some (.slice (some ⟨b, o, none⟩) n cap) ∧ w'.cell? ⟨b, o + i, none⟩ = some (.int .i64 u) ∧ w'.cell? ⟨b, o + j, none⟩ = some (.int .i64 v))) (by kernel_rfl) (⟨c5, ci, cj⟩) (fun hHeld => ?_)
    refine tkT 0 ?v107 ?hy107 hHeld ?rest107
    case hy107 => (intro w' hSw; (try dsimp only at hSw); go_simp; (try with_reducible rfl))
    try simp only [Act.put, puts]
    refine tkT 1 ?v108 ?hy108 hHeld ?rest108
    case hy108 => (intro w' hSw; (try dsimp only at hSw); go_simp; (try with_reducible rfl))
    try simp only [Act.put, puts]
    refine tkT 2 ?v109 ?hy109 hHeld ?rest109
    case hy109 => (intro w' hSw; (try dsimp only at hSw); go_simp; (try with_reducible rfl))
    try simp only [Act.put, puts]
    refine tkT 3 ?v110 ?hy110 hHeld ?rest110
    case hy110 => (intro w' hSw; (try dsimp only at hSw); go_simp; (try with_reducible rfl))
    try simp only [Act.put, puts]
    refine tkT 4 ?v111 ?hy111 hHeld ?rest111
    case hy111 => (intro w' hSw; (try dsimp only at hSw); go_simp; (try with_reducible rfl))
    try simp only [Act.put, puts]
    refine tkT 5 ?v112 ?hy112 hHeld ?rest112
    case hy112 => (intro w' hSw; (try dsimp only at hSw); go_simp; (try with_reducible rfl))
    try simp only [Act.put, puts]
    refine tkT 6 ?v113 ?hy113 hHeld ?rest113
    case hy113 => (intro w' hSw; (try dsimp only at hSw); go_simp; (try with_reducible rfl))
    try simp only [Act.put, puts]
    refine tkT 7 ?v114 ?hy114 hHeld ?rest114
    case hy114 => (intro w' hSw; (try dsimp only at hSw); go_simp; (try with_reducible rfl))
    try simp only [Act.put, puts]
    refine tkT 8 ?v115 ?hy115 hHeld ?rest115
    case hy115 => (intro w' hSw; (try dsimp only at hSw); go_simp; (try with_reducible rfl))
    try simp only [Act.put, puts]
    refine tkT 9 ?v116 ?hy116 hHeld ?rest116
    case hy116 => (intro w' hSw; (try dsimp only at hSw); go_simp; (try with_reducible rfl))
    try simp only [Act.put, puts]
    refine tkT 10 ?v117 ?hy117 hHeld ?rest117
    case hy117 => (intro w' hSw; (try dsimp only at hSw); go_simp; (try with_reducible rfl))
    try simp only [Act.put, puts]
    refine tkT 11 ?v118 ?hy118 hHeld ?rest118
    case hy118 => (intro w' hSw; (try dsimp only at hSw); go_simp; (try with_reducible rfl))
    try simp only [Act.put, puts]
    refine tkT 12 ?v119 ?hy119 hHeld ?rest119
    case hy119 => (intro w' hSw; (try dsimp only at hSw); go_simp; (try with_reducible rfl))
    try simp only [Act.put, puts]
    refine tkT 13 ?v120 ?hy120 hHeld ?rest120
    case hy120 => (intro w' hSw; (try dsimp only at hSw); go_simp; (try with_reducible rfl))
    try simp only [Act.put, puts]
    refine tkT 14 ?v121 ?hy121 hHeld ?rest121
    case hy121 => (intro w' hSw; (try dsimp only at hSw); go_simp; (try with_reducible rfl))
    try simp only [Act.put, puts]
    refine tkT 15 ?v122 ?hy122 hHeld ?rest122
    case hy122 => (intro w' hSw; (try dsimp only at hSw); go_simp; (try with_reducible rfl))
    try simp only [Act.put, puts]
    refine wpAnyH_ready (rs := [16]) (by kernel_rfl) (by simp) ?_
    refine AllReadyH.cons rfl (fun K hK => ?_) AllReadyH.nil
    go_simp
    refine (C0.out _).mono ?_
    rintro e wx ⟨rfl, hA⟩
    have M10 := M9.drew.call hA
    clear hA
    try go_wp2_with fail
    refine hK.out _ _ (⟨M10.cell (Has.head _ _ _ _) (i := 5) rfl, HQ.out _ M10.below, HR.out _ M10.below⟩) (fun hHeld => ?_)
    clear hK K
    try simp only [Act.put, puts]
    refine tkT 17 ?v124 ?hy124 hHeld ?rest124
    case hy124 => (intro w' hSw; (try dsimp only at hSw); go_simp; (try with_reducible rfl))
    try simp only [Act.put, puts]
    refine tkT 18 ?v125 ?hy125 hHeld ?rest125
    case hy125 => (intro w' hSw; (try dsimp only at hSw); go_simp; (try with_reducible rfl))
    try simp only [Act.put, puts]
    refine wpAnyH_done (by kernel_rfl) ?_ _
    go_wp2_with fail
    go_ret
    exact ⟨rfl, HB.out.trans (M10.below.mono HB.out.size)⟩
end Go.Proofs.Ytbjhbbiahmhdeaa
