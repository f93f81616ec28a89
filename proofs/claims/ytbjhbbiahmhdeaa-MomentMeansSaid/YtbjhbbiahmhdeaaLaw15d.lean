/-
  MomentVaries, walked.
-/
import Derived.Test.YtbjhbbiahmhdeaaLaw15c
set_option linter.unusedVariables false
set_option linter.unusedSimpArgs false
namespace Go.Proofs.Ytbjhbbiahmhdeaa
open Go Go.RowKit Go.Shelf Go.Th Go.Th.Grid Go.Th.Moment Go.Th.Wide

theorem srcells {w : World} {g : Nat} {a x y : Int} (K : Blk w g 34 (src a x y)) :
    w.cell? ⟨g, 0, none⟩ = some (.int .i64 a) ∧ w.cell? ⟨g, 1, none⟩ = some (.int .i64 x) ∧ w.cell? ⟨g, 2, none⟩ = some (.int .i64 y) :=
  ⟨K.cell (i := 0) rfl, K.cell (i := 1) rfl, K.cell (i := 2) rfl⟩
theorem nine {w0 W : World} {gA gS : Nat} {x y S u v t : Int} {a : Option Addr} {n cap : Nat} (M : Mem w0 W [(gS, 34, src u v t), (gA, 26, gc x y 1000 (-1000) S (.slice a n cap))]) :
    W.cell? ⟨gA, 0, none⟩ = some (.int .i64 x) ∧ W.cell? ⟨gA, 1, none⟩ = some (.int .i64 y) ∧ W.cell? ⟨gA, 2, none⟩ = some (.int .i64 1000) ∧ W.cell? ⟨gA, 3, none⟩ = some (.int .i64 (-1000)) ∧ W.cell? ⟨gA, 4, none⟩ = some (.int .i64 S) ∧ W.cell? ⟨gA, 5, none⟩ = some (.slice a n cap) ∧ W.cell? ⟨gS, 0, none⟩ = some (.int .i64 u) ∧ W.cell? ⟨gS, 1, none⟩ = some (.int .i64 v) ∧ W.cell? ⟨gS, 2, none⟩ = some (.int .i64 t) := by
  obtain ⟨c0, c1, c2, c3, c4, c5⟩ := gcells (M.has (.tail _ _ _ _ _ (Has.head _ _ _ _)))
  obtain ⟨d0, d1, d2⟩ := srcells (M.has (Has.head _ _ _ _))
  exact ⟨c0, c1, c2, c3, c4, c5, d0, d1, d2⟩
set_option maxRecDepth 20000 in
set_option maxHeartbeats 16000000 in
theorem varies_go (p q k capl n : Nat) (al : Option Addr) (z G : List Int) (x y S T A B D E F u v t : Int) (hk : ¬ ((100 : Int) < (k : Int)))
    (CM : MadeC p q 2 k capl al z x y S n G) (C1 : OfG 11 x y 1000 (-1000) S n G (fun g => #[g]) (.tuple #[srv u v t, .bool true]))
    (CT : ∀ a cap w, Sl w 1 (.slice a n cap) n (i64s G) → Calls Try.prog 12 #[.slice a n cap] w fun e w' => e = .returned (.int .i64 T) ∧ w = w')
    (CA : OfG 13 x y 1000 (-1000) S n G (fun g => #[g, .int .i64 1, .int .i64 0]) (.int .i64 A)) (CB : OfG 13 x y 1000 (-1000) S n G (fun g => #[g, .int .i64 0, .int .i64 1]) (.int .i64 B))
    (CD : OfG 13 x y 1000 (-1000) S n G (fun g => #[g, .int .i64 2, .int .i64 0]) (.int .i64 D)) (CE : OfG 13 x y 1000 (-1000) S n G (fun g => #[g, .int .i64 1, .int .i64 1]) (.int .i64 E)) (CF : OfG 13 x y 1000 (-1000) S n G (fun g => #[g, .int .i64 0, .int .i64 2]) (.int .i64 F))
    (I1 : Ans 14 #[.int .i64 u, .int .i64 T, .int .i64 D, .int .i64 A, .int .i64 A] (.bool true)) (I2 : Ans 14 #[.int .i64 v, .int .i64 T, .int .i64 E, .int .i64 A, .int .i64 B] (.bool true)) (I3 : Ans 14 #[.int .i64 t, .int .i64 T, .int .i64 F, .int .i64 B, .int .i64 B] (.bool true))
    (C0 : Ans 7 #[] (.bool true)) (h1 : decide (0 ≤ u) = true) (h2 : decide (0 ≤ t) = true) (w : World) (hT : Sl w 1 (.slice al k capl) k (u16s z)) :
    Calls Try.prog 4 #[.int .u8 p, .int .u8 q, .slice al k capl] w fun e w' => e = .returned (.bool true) ∧ Below w.heap.size w w' := by
  have hmy := hT.max
  have CM := Lib.hid CM
  have C1 := Lib.hid C1
  have CT := Lib.hid CT
  have CA := Lib.hid CA
  have CB := Lib.hid CB
  have CD := Lib.hid CD
  have CE := Lib.hid CE
  have CF := Lib.hid CF
  have I1 := Lib.hid I1
  have I2 := Lib.hid I2
  have I3 := Lib.hid I3
  have C0 := Lib.hid C0
  have hT := Lib.hid hT
  have M0 := Mem.start w
  go_enter Try.func4, Try.ntmps4
  go_wp2_with ((with_reducible refine (?_ : Go.wpList _ _ _ (_ :: _) _ _)); (first | go_skip | (refine wpL_ldc M0 rfl rfl rfl ?_) | (refine wpL_lgc M0 rfl rfl rfl ?_) | (refine wpL_stc M0 rfl rfl rfl rfl ?_; clear M0; intro w' M0) | (refine wpL_sti M0 rfl rfl rfl rfl ?_; clear M0; intro w' M0) | (refine wpL_sth M0 rfl rfl rfl rfl (wr_minus _ _ _) ?_; clear M0; intro w' M0)))
  refine (CM.out _ hT.out).mono ?_
  rintro e wG ⟨a, cap, rfl, s1, hB⟩
  have HB := Lib.hid hB
  have HS := Lib.hid s1
  clear hB CM hT s1 M0
  have M0 := Mem.start wG
  go_wp2_with ((with_reducible refine (?_ : Go.wpList _ _ _ (_ :: _) _ _)); (first | go_skip | (refine wpL_bx M0 rfl rfl rfl rfl ?_; clear M0; intro g1 w1 M1) | (refine wpL_alc M0 rfl rfl ?_; clear M0; intro g1 w1 M1) | (refine wpL_ldc M0 rfl rfl rfl ?_) | (refine wpL_lgc M0 rfl rfl rfl ?_) | (refine wpL_stc M0 rfl rfl rfl rfl ?_; clear M0; intro w' M0) | (refine wpL_sti M0 rfl rfl rfl rfl ?_; clear M0; intro w' M0) | (refine wpL_sth M0 rfl rfl rfl rfl (wr_minus _ _ _) ?_; clear M0; intro w' M0) | (refine wpL_ldc M1 rfl rfl rfl ?_) | (refine wpL_lgc M1 rfl rfl rfl ?_) | (refine wpL_stc M1 rfl rfl rfl rfl ?_; clear M1; intro w' M1) | (refine wpL_sti M1 rfl rfl rfl rfl ?_; clear M1; intro w' M1) | (refine wpL_sth M1 rfl rfl rfl rfl (wr_minus _ _ _) ?_; clear M1; intro w' M1)))
  refine (C1.out _ _ _ (HS.out.below M1.below)).mono ?_
  rintro e wx ⟨rfl, hA⟩
  replace M1 := M1.call hA
  clear hA C1
  go_wp2_with ((with_reducible refine (?_ : Go.wpList _ _ _ (_ :: _) _ _)); (first | go_skip | (refine wpL_bx M1 rfl rfl rfl rfl ?_; clear M1; intro g2 w2 M2) | (refine wpL_alc M1 rfl rfl ?_; clear M1; intro g2 w2 M2) | (refine wpL_ldc M1 rfl rfl rfl ?_) | (refine wpL_lgc M1 rfl rfl rfl ?_) | (refine wpL_stc M1 rfl rfl rfl rfl ?_; clear M1; intro w' M1) | (refine wpL_sti M1 rfl rfl rfl rfl ?_; clear M1; intro w' M1) | (refine wpL_sth M1 rfl rfl rfl rfl (wr_minus _ _ _) ?_; clear M1; intro w' M1) | (refine wpL_ldc M2 rfl rfl rfl ?_) | (refine wpL_lgc M2 rfl rfl rfl ?_) | (refine wpL_stc M2 rfl rfl rfl rfl ?_; clear M2; intro w' M2) | (refine wpL_sti M2 rfl rfl rfl rfl ?_; clear M2; intro w' M2) | (refine wpL_sth M2 rfl rfl rfl rfl (wr_minus _ _ _) ?_; clear M2; intro w' M2)))
  refine (CT.out _ _ _ (HS.out.below M2.below)).mono ?_
  rintro e wx ⟨rfl, rfl⟩
  clear CT
  go_wp2_with ((with_reducible refine (?_ : Go.wpList _ _ _ (_ :: _) _ _)); (first | go_skip | (refine wpL_ldc M2 rfl rfl rfl ?_) | (refine wpL_lgc M2 rfl rfl rfl ?_) | (refine wpL_stc M2 rfl rfl rfl rfl ?_; clear M2; intro w' M2) | (refine wpL_sti M2 rfl rfl rfl rfl ?_; clear M2; intro w' M2) | (refine wpL_sth M2 rfl rfl rfl rfl (wr_minus _ _ _) ?_; clear M2; intro w' M2)))
  obtain ⟨gA, hgA⟩ : ∃ gA, gA = g1 := ⟨_, rfl⟩
  obtain ⟨gS, hgS⟩ : ∃ gS, gS = g2 := ⟨_, rfl⟩
  rw [← hgA, ← hgS] at M2 ⊢
  clear hgA hgS
  obtain ⟨c0, c1, c2, c3, c4, c5⟩ := gcells (M2.has (.tail _ _ _ _ _ (Has.head _ _ _ _)))
  refine wp_region_held_drew (S := (fun w' : World => w'.cell? ⟨gA, 0, none⟩ = some (.int .i64 x) ∧ w'.cell? ⟨gA, 1, none⟩ = some (.int .i64 y) ∧ w'.cell? ⟨gA, 2, none⟩ = some (.int .i64 1000) ∧ w'.cell? ⟨gA, 3, none⟩ = some (.int .i64 (-1000)) ∧ w'.cell? ⟨gA, 4, none⟩ = some (.int .i64 S) ∧ w'.cell? ⟨gA, 5, none⟩ = some (.slice a n cap))) (by kernel_rfl) (⟨c0, c1, c2, c3, c4, c5⟩) (fun hHeld => ?_)
  refine tkT 0 ?v1 ?hy1 hHeld ?rest1
  case hy1 => (intro w' hSw; (try dsimp only at hSw); go_simp; (try with_reducible rfl))
  try simp only [Act.put, puts]
  refine tkT 2 ?v2 ?hy2 hHeld ?rest2
  case hy2 => (intro w' hSw; (try dsimp only at hSw); go_simp; (try with_reducible rfl))
  try simp only [Act.put, puts]
  refine wpAnyH_ready (rs := [1]) (by kernel_rfl) (by simp) ?_
  refine AllReadyH.cons rfl (fun K hK => ?_) AllReadyH.nil
  go_simp
  refine (CA.out _ _ _ (HS.out.below M2.drew.below)).mono ?_
  rintro e wx ⟨rfl, hA⟩
  have M3 := M2.drew.call hA
  clear hA
  try go_wp2_with fail
  refine hK.out _ _ (gcells (M3.has (.tail _ _ _ _ _ (Has.head _ _ _ _)))) (fun hHeld => ?_)
  clear hK K
  try simp only [Act.put, puts]
  refine wpAnyH_ready (rs := [3]) (by kernel_rfl) (by simp) ?_
  refine AllReadyH.cons rfl (fun K hK => ?_) AllReadyH.nil
  go_simp
  refine (CB.out _ _ _ (HS.out.below M3.below)).mono ?_
  rintro e wx ⟨rfl, hA⟩
  have M4 := M3.call hA
  clear hA
  try go_wp2_with fail
  refine hK.out _ _ (gcells (M4.has (.tail _ _ _ _ _ (Has.head _ _ _ _)))) (fun hHeld => ?_)
  clear hK K
  try simp only [Act.put, puts]
  refine tkT 4 ?v5 ?hy5 hHeld ?rest5
  case hy5 => (intro w' hSw; (try dsimp only at hSw); go_simp; (try with_reducible rfl))
  try simp only [Act.put, puts]
  refine tkT 5 ?v6 ?hy6 hHeld ?rest6
  case hy6 => (intro w' hSw; (try dsimp only at hSw); go_simp; (try with_reducible rfl))
  try simp only [Act.put, puts]
  refine wpAnyH_done (by kernel_rfl) ?_ _
  clear M2 M3 c0 c1 c2 c3 c4 c5 CA CB
  go_wp2_with fail
  obtain ⟨c0, c1, c2, c3, c4, c5⟩ := gcells (M4.has (.tail _ _ _ _ _ (Has.head _ _ _ _)))
  obtain ⟨d0, d1, d2⟩ := srcells (M4.has (Has.head _ _ _ _))
  refine wp_region_held_drew (S := (fun w' : World => w'.cell? ⟨gA, 0, none⟩ = some (.int .i64 x) ∧ w'.cell? ⟨gA, 1, none⟩ = some (.int .i64 y) ∧ w'.cell? ⟨gA, 2, none⟩ = some (.int .i64 1000) ∧ w'.cell? ⟨gA, 3, none⟩ = some (.int .i64 (-1000)) ∧ w'.cell? ⟨gA, 4, none⟩ = some (.int .i64 S) ∧ w'.cell? ⟨gA, 5, none⟩ = some (.slice a n cap) ∧ w'.cell? ⟨gS, 0, none⟩ = some (.int .i64 u) ∧ w'.cell? ⟨gS, 1, none⟩ = some (.int .i64 v) ∧ w'.cell? ⟨gS, 2, none⟩ = some (.int .i64 t))) (by kernel_rfl) (⟨c0, c1, c2, c3, c4, c5, d0, d1, d2⟩) (fun hHeld => ?_)
  refine tkT 0 ?v7 ?hy7 hHeld ?rest7
  case hy7 => (intro w' hSw; (try dsimp only at hSw); go_simp; (try with_reducible rfl))
  try simp only [Act.put, puts]
  refine tkT 1 ?v8 ?hy8 hHeld ?rest8
  case hy8 => (intro w' hSw; (try dsimp only at hSw); go_simp; (try with_reducible rfl))
  try simp only [Act.put, puts]
  refine tkT 2 ?v9 ?hy9 hHeld ?rest9
  case hy9 => (intro w' hSw; (try dsimp only at hSw); go_simp; (try with_reducible rfl))
  try simp only [Act.put, puts]
  refine tkT 3 ?v10 ?hy10 hHeld ?rest10
  case hy10 => (intro w' hSw; (try dsimp only at hSw); go_simp; (try with_reducible rfl))
  try simp only [Act.put, puts]
  refine tkT 4 ?v11 ?hy11 hHeld ?rest11
  case hy11 => (intro w' hSw; (try dsimp only at hSw); go_simp; (try with_reducible rfl))
  try simp only [Act.put, puts]
  refine tkT 5 ?v12 ?hy12 hHeld ?rest12
  case hy12 => (intro w' hSw; (try dsimp only at hSw); go_simp; (try with_reducible rfl))
  try simp only [Act.put, puts]
  refine tkT 7 ?v13 ?hy13 hHeld ?rest13
  case hy13 => (intro w' hSw; (try dsimp only at hSw); go_simp; (try with_reducible rfl))
  try simp only [Act.put, puts]
  refine tkT 8 ?v14 ?hy14 hHeld ?rest14
  case hy14 => (intro w' hSw; (try dsimp only at hSw); go_simp; (try with_reducible rfl))
  try simp only [Act.put, puts]
  refine wpAnyH_ready (rs := [6]) (by kernel_rfl) (by simp) ?_
  refine AllReadyH.cons rfl (fun K hK => ?_) AllReadyH.nil
  go_simp
  refine (CD.out _ _ _ (HS.out.below M4.drew.below)).mono ?_
  rintro e wx ⟨rfl, hA⟩
  have M5 := M4.drew.call hA
  clear hA
  try go_wp2_with fail
  refine hK.out _ _ (nine M5) (fun hHeld => ?_)
  clear hK K
  try simp only [Act.put, puts]
  refine wpAnyH_ready (rs := [9]) (by kernel_rfl) (by simp) ?_
  refine AllReadyH.cons rfl (fun K hK => ?_) AllReadyH.nil
  go_simp
  refine (I1.out _).mono ?_
  rintro e wx ⟨rfl, hA⟩
  have M6 := M5.call hA
  clear hA
  try go_wp2_with fail
  refine hK.out _ _ (nine M6) (fun hHeld => ?_)
  clear hK K
  try simp only [Act.put, puts]
  refine tkT 10 ?v17 ?hy17 hHeld ?rest17
  case hy17 => (intro w' hSw; (try dsimp only at hSw); go_simp; (try with_reducible rfl))
  try simp only [Act.put, puts]
  refine tkT 11 ?v18 ?hy18 hHeld ?rest18
  case hy18 => (intro w' hSw; (try dsimp only at hSw); go_simp; (try with_reducible rfl))
  try simp only [Act.put, puts]
  refine tkT 12 ?v19 ?hy19 hHeld ?rest19
  case hy19 => (intro w' hSw; (try dsimp only at hSw); go_simp; (try with_reducible rfl))
  try simp only [Act.put, puts]
  refine tkT 13 ?v20 ?hy20 hHeld ?rest20
  case hy20 => (intro w' hSw; (try dsimp only at hSw); go_simp; (try with_reducible rfl))
  try simp only [Act.put, puts]
  refine tkT 14 ?v21 ?hy21 hHeld ?rest21
  case hy21 => (intro w' hSw; (try dsimp only at hSw); go_simp; (try with_reducible rfl))
  try simp only [Act.put, puts]
  refine tkT 15 ?v22 ?hy22 hHeld ?rest22
  case hy22 => (intro w' hSw; (try dsimp only at hSw); go_simp; (try with_reducible rfl))
  try simp only [Act.put, puts]
  refine tkT 17 ?v23 ?hy23 hHeld ?rest23
  case hy23 => (intro w' hSw; (try dsimp only at hSw); go_simp; (try with_reducible rfl))
  try simp only [Act.put, puts]
  refine tkT 18 ?v24 ?hy24 hHeld ?rest24
  case hy24 => (intro w' hSw; (try dsimp only at hSw); go_simp; (try with_reducible rfl))
  try simp only [Act.put, puts]
  refine wpAnyH_ready (rs := [16]) (by kernel_rfl) (by simp) ?_
  refine AllReadyH.cons rfl (fun K hK => ?_) AllReadyH.nil
  go_simp
  refine (CE.out _ _ _ (HS.out.below M6.below)).mono ?_
  rintro e wx ⟨rfl, hA⟩
  have M7 := M6.call hA
  clear hA
  try go_wp2_with fail
  refine hK.out _ _ (nine M7) (fun hHeld => ?_)
  clear hK K
  try simp only [Act.put, puts]
  refine wpAnyH_ready (rs := [19]) (by kernel_rfl) (by simp) ?_
  refine AllReadyH.cons rfl (fun K hK => ?_) AllReadyH.nil
  go_simp
  refine (I2.out _).mono ?_
  rintro e wx ⟨rfl, hA⟩
  have M8 := M7.call hA
  clear hA
  try go_wp2_with fail
  refine hK.out _ _ (nine M8) (fun hHeld => ?_)
  clear hK K
  try simp only [Act.put, puts]
  refine tkT 20 ?v27 ?hy27 hHeld ?rest27
  case hy27 => (intro w' hSw; (try dsimp only at hSw); go_simp; (try with_reducible rfl))
  try simp only [Act.put, puts]
  refine tkT 21 ?v28 ?hy28 hHeld ?rest28
  case hy28 => (intro w' hSw; (try dsimp only at hSw); go_simp; (try with_reducible rfl))
  try simp only [Act.put, puts]
  refine tkT 22 ?v29 ?hy29 hHeld ?rest29
  case hy29 => (intro w' hSw; (try dsimp only at hSw); go_simp; (try with_reducible rfl))
  try simp only [Act.put, puts]
  refine tkT 23 ?v30 ?hy30 hHeld ?rest30
  case hy30 => (intro w' hSw; (try dsimp only at hSw); go_simp; (try with_reducible rfl))
  try simp only [Act.put, puts]
  refine tkT 24 ?v31 ?hy31 hHeld ?rest31
  case hy31 => (intro w' hSw; (try dsimp only at hSw); go_simp; (try with_reducible rfl))
  try simp only [Act.put, puts]
  refine tkT 25 ?v32 ?hy32 hHeld ?rest32
  case hy32 => (intro w' hSw; (try dsimp only at hSw); go_simp; (try with_reducible rfl))
  try simp only [Act.put, puts]
  refine tkT 27 ?v33 ?hy33 hHeld ?rest33
  case hy33 => (intro w' hSw; (try dsimp only at hSw); go_simp; (try with_reducible rfl))
  try simp only [Act.put, puts]
  refine tkT 28 ?v34 ?hy34 hHeld ?rest34
  case hy34 => (intro w' hSw; (try dsimp only at hSw); go_simp; (try with_reducible rfl))
  try simp only [Act.put, puts]
  refine wpAnyH_ready (rs := [26]) (by kernel_rfl) (by simp) ?_
  refine AllReadyH.cons rfl (fun K hK => ?_) AllReadyH.nil
  go_simp
  refine (CF.out _ _ _ (HS.out.below M8.below)).mono ?_
  rintro e wx ⟨rfl, hA⟩
  have M9 := M8.call hA
  clear hA
  try go_wp2_with fail
  refine hK.out _ _ (nine M9) (fun hHeld => ?_)
  clear hK K
  try simp only [Act.put, puts]
  refine wpAnyH_ready (rs := [29]) (by kernel_rfl) (by simp) ?_
  refine AllReadyH.cons rfl (fun K hK => ?_) AllReadyH.nil
  go_simp
  refine (I3.out _).mono ?_
  rintro e wx ⟨rfl, hA⟩
  have M10 := M9.call hA
  clear hA
  try go_wp2_with fail
  refine hK.out _ _ (nine M10) (fun hHeld => ?_)
  clear hK K
  try simp only [Act.put, puts]
  refine tkT 30 ?v37 ?hy37 hHeld ?rest37
  case hy37 => (intro w' hSw; (try dsimp only at hSw); go_simp; (try with_reducible rfl))
  try simp only [Act.put, puts]
  refine tkT 31 ?v38 ?hy38 hHeld ?rest38
  case hy38 => (intro w' hSw; (try dsimp only at hSw); go_simp; (try with_reducible rfl))
  try simp only [Act.put, puts]
  refine tkT 32 ?v39 ?hy39 hHeld ?rest39
  case hy39 => (intro w' hSw; (try dsimp only at hSw); go_simp; (try with_reducible rfl))
  try simp only [Act.put, puts]
  refine tkT 33 ?v40 ?hy40 hHeld ?rest40
  case hy40 => (intro w' hSw; (try dsimp only at hSw); go_simp; (try with_reducible rfl))
  try simp only [Act.put, puts]
  refine tkT 34 ?v41 ?hy41 hHeld ?rest41
  case hy41 => (intro w' hSw; (try dsimp only at hSw); go_simp; (try with_reducible rfl))
  try simp only [Act.put, puts]
  refine tkT 35 ?v42 ?hy42 hHeld ?rest42
  case hy42 => (intro w' hSw; (try dsimp only at hSw); go_simp; (try with_reducible rfl))
  try simp only [Act.put, puts]
  refine tkT 36 ?v43 ?hy43 hHeld ?rest43
  case hy43 => (intro w' hSw; (try dsimp only at hSw); go_simp; (try with_reducible rfl))
  try simp only [Act.put, puts]
  refine tkT 37 ?v44 ?hy44 hHeld ?rest44
  case hy44 => (intro w' hSw; (try dsimp only at hSw); go_simp; (try with_reducible rfl))
  try simp only [Act.put, puts]
  refine tkT 38 ?v45 ?hy45 hHeld ?rest45
  case hy45 => (intro w' hSw; (try dsimp only at hSw); go_simp; (try with_reducible rfl))
  try simp only [Act.put, puts]
  refine tkT 39 ?v46 ?hy46 hHeld ?rest46
  case hy46 => (intro w' hSw; (try dsimp only at hSw); go_simp; (try with_reducible rfl))
  try simp only [Act.put, puts]
  refine tkT 40 ?v47 ?hy47 hHeld ?rest47
  case hy47 => (intro w' hSw; (try dsimp only at hSw); go_simp; (try with_reducible rfl))
  try simp only [Act.put, puts]
  refine tkT 41 ?v48 ?hy48 hHeld ?rest48
  case hy48 => (intro w' hSw; (try dsimp only at hSw); go_simp; (try with_reducible rfl))
  try simp only [Act.put, puts]
  refine wpAnyH_ready (rs := [42]) (by kernel_rfl) (by simp) ?_
  refine AllReadyH.cons rfl (fun K hK => ?_) AllReadyH.nil
  go_simp
  refine (C0.out _).mono ?_
  rintro e wx ⟨rfl, hA⟩
  have M11 := M10.call hA
  clear hA
  try go_wp2_with fail
  refine hK.out _ _ (nine M11) (fun hHeld => ?_)
  clear hK K
  try simp only [Act.put, puts]
  refine tkT 43 ?v50 ?hy50 hHeld ?rest50
  case hy50 => (intro w' hSw; (try dsimp only at hSw); go_simp; (try with_reducible rfl))
  try simp only [Act.put, puts]
  refine tkT 44 ?v51 ?hy51 hHeld ?rest51
  case hy51 => (intro w' hSw; (try dsimp only at hSw); go_simp; (try with_reducible rfl))
  try simp only [Act.put, puts]
  refine wpAnyH_done (by kernel_rfl) ?_ _
  go_wp2_with fail
  go_ret
  exact ⟨rfl, HB.out.trans (M11.below.mono HB.out.size)⟩
end Go.Proofs.Ytbjhbbiahmhdeaa
