/-
  A tile read; a tile used: the code's.
-/
import Derived.Test.YtiflbbpliioblaaCacheC
set_option linter.unusedVariables false
set_option linter.unusedSimpArgs false
namespace Go.Proofs.Ytiflbbpliioblaa
open Go Go.RowKit Go.Th Go.Th.Crc

/-- A cache's first cells. -/
def hdr (ab : Option Addr) (Lb cb W H cell : Nat) (ox oy : Int) (aA : Option Addr) (n9 cA : Nat) (aS : Option Addr) (cS room : Nat) : List Value :=
  [.slice ab Lb cb, .int .i64 W, .int .i64 H, .slice none 0 0, .int .i64 cell, .int .i32 ox, .int .i32 oy, .slice aA n9 cA, .slice aS n9 cS, .int .i64 room]

set_option maxRecDepth 20000 in
set_option maxHeartbeats 1600000 in
theorem read_go (g : Nat) (ab : Option Addr) (Lb cb W H cell : Nat) (ox oy : Int) (aA : Option Addr) (n9 cA : Nat) (aS : Option Addr) (cS room : Nat) (T : List (Nat × Value)) (c m s n sz : Nat) (Z : List Int) (w : World)
    (K : CK w g (hdr ab Lb cb W H cell ox oy aA n9 cA aS cS room) T c m s)
    (C : Hid (Calls Try.prog 35 #[.slice ab Lb cb, dv W H (.slice none 0 0) cell ox oy (.slice aA n9 cA) (.slice aS n9 cS), .int .i64 n] w.drew (TAns (fun zs k => k = 0 ∧ zs = Z) sz w.drew))) :
    Calls Try.prog 40 #[.pointer (some ⟨g, 0, none⟩), .int .i64 n] w fun e w' => ∃ a cap, e = .returned (.slice a sz cap) ∧ w'.ownsRow w.heap.size 34 1 (.slice a sz cap) sz (i16s Z) ∧ Below w.heap.size w w' := by
  have c0 := K.head (i := 0) rfl
  have c1 := K.head (i := 1) rfl
  have c2 := K.head (i := 2) rfl
  have c3 := K.head (i := 3) rfl
  have c4 := K.head (i := 4) rfl
  have c5 := K.head (i := 5) rfl
  have c6 := K.head (i := 6) rfl
  have c7 := K.head (i := 7) rfl
  have c8 := K.head (i := 8) rfl
  have hg := K.lt
  clear K
  go_enter Try.func40, Try.ntmps40
  go_wp2_with fail
  refine wp_region_held_drew (S := (fun w' : World => w'.cell? ⟨g, 0, none⟩ = some (.slice ab Lb cb) ∧ w'.cell? ⟨g, 1, none⟩ = some (.int .i64 W) ∧ w'.cell? ⟨g, 2, none⟩ = some (.int .i64 H) ∧ w'.cell? ⟨g, 3, none⟩ = some (.slice none 0 0) ∧ w'.cell? ⟨g, 4, none⟩ = some (.int .i64 cell) ∧ w'.cell? ⟨g, 5, none⟩ = some (.int .i32 ox) ∧ w'.cell? ⟨g, 6, none⟩ = some (.int .i32 oy) ∧ w'.cell? ⟨g, 7, none⟩ = some (.slice aA n9 cA) ∧ w'.cell? ⟨g, 8, none⟩ = some (.slice aS n9 cS))) (by kernel_rfl) (⟨c0, c1, c2, c3, c4, c5, c6, c7, c8⟩) (fun hHeld => ?_)
  refine wpAnyH_take (i := 0) (v := ?v1) rfl (by kernel_rfl) (by kernel_rfl) (by kernel_rfl) (fun _ _ _ h => h) (Or.inl ⟨by rfl, ?hy1⟩) hHeld ?rest1
  case hy1 => (intro w' hSw; (try dsimp only at hSw); go_simp; (try with_reducible rfl))
  try simp only [Act.put, List.setIfInBounds_toArray, List.set_cons_zero, List.set_cons_succ, List.getElem_toArray, List.getElem_cons_zero, List.getElem_cons_succ]
  refine wpAnyH_take (i := 1) (v := ?v2) rfl (by kernel_rfl) (by kernel_rfl) (by kernel_rfl) (fun _ _ _ h => h) (Or.inl ⟨by rfl, ?hy2⟩) hHeld ?rest2
  case hy2 => (intro w' hSw; (try dsimp only at hSw); go_simp; (try with_reducible rfl))
  try simp only [Act.put, List.setIfInBounds_toArray, List.set_cons_zero, List.set_cons_succ, List.getElem_toArray, List.getElem_cons_zero, List.getElem_cons_succ]
  refine wpAnyH_take (i := 2) (v := ?v3) rfl (by kernel_rfl) (by kernel_rfl) (by kernel_rfl) (fun _ _ _ h => h) (Or.inl ⟨by rfl, ?hy3⟩) hHeld ?rest3
  case hy3 => (intro w' hSw; (try dsimp only at hSw); go_simp; (try with_reducible rfl))
  try simp only [Act.put, List.setIfInBounds_toArray, List.set_cons_zero, List.set_cons_succ, List.getElem_toArray, List.getElem_cons_zero, List.getElem_cons_succ]
  refine wpAnyH_take (i := 3) (v := ?v4) rfl (by kernel_rfl) (by kernel_rfl) (by kernel_rfl) (fun _ _ _ h => h) (Or.inl ⟨by rfl, ?hy4⟩) hHeld ?rest4
  case hy4 => (intro w' hSw; (try dsimp only at hSw); go_simp; (try with_reducible rfl))
  try simp only [Act.put, List.setIfInBounds_toArray, List.set_cons_zero, List.set_cons_succ, List.getElem_toArray, List.getElem_cons_zero, List.getElem_cons_succ]
  refine wpAnyH_take (i := 4) (v := ?v5) rfl (by kernel_rfl) (by kernel_rfl) (by kernel_rfl) (fun _ _ _ h => h) (Or.inl ⟨by rfl, ?hy5⟩) hHeld ?rest5
  case hy5 => (intro w' hSw; (try dsimp only at hSw); go_simp; (try with_reducible rfl))
  try simp only [Act.put, List.setIfInBounds_toArray, List.set_cons_zero, List.set_cons_succ, List.getElem_toArray, List.getElem_cons_zero, List.getElem_cons_succ]
  refine wpAnyH_take (i := 5) (v := ?v6) rfl (by kernel_rfl) (by kernel_rfl) (by kernel_rfl) (fun _ _ _ h => h) (Or.inl ⟨by rfl, ?hy6⟩) hHeld ?rest6
  case hy6 => (intro w' hSw; (try dsimp only at hSw); go_simp; (try with_reducible rfl))
  try simp only [Act.put, List.setIfInBounds_toArray, List.set_cons_zero, List.set_cons_succ, List.getElem_toArray, List.getElem_cons_zero, List.getElem_cons_succ]
  refine wpAnyH_take (i := 6) (v := ?v7) rfl (by kernel_rfl) (by kernel_rfl) (by kernel_rfl) (fun _ _ _ h => h) (Or.inl ⟨by rfl, ?hy7⟩) hHeld ?rest7
  case hy7 => (intro w' hSw; (try dsimp only at hSw); go_simp; (try with_reducible rfl))
  try simp only [Act.put, List.setIfInBounds_toArray, List.set_cons_zero, List.set_cons_succ, List.getElem_toArray, List.getElem_cons_zero, List.getElem_cons_succ]
  refine wpAnyH_take (i := 7) (v := ?v8) rfl (by kernel_rfl) (by kernel_rfl) (by kernel_rfl) (fun _ _ _ h => h) (Or.inl ⟨by rfl, ?hy8⟩) hHeld ?rest8
  case hy8 => (intro w' hSw; (try dsimp only at hSw); go_simp; (try with_reducible rfl))
  try simp only [Act.put, List.setIfInBounds_toArray, List.set_cons_zero, List.set_cons_succ, List.getElem_toArray, List.getElem_cons_zero, List.getElem_cons_succ]
  refine wpAnyH_take (i := 8) (v := ?v9) rfl (by kernel_rfl) (by kernel_rfl) (by kernel_rfl) (fun _ _ _ h => h) (Or.inl ⟨by rfl, ?hy9⟩) hHeld ?rest9
  case hy9 => (intro w' hSw; (try dsimp only at hSw); go_simp; (try with_reducible rfl))
  try simp only [Act.put, List.setIfInBounds_toArray, List.set_cons_zero, List.set_cons_succ, List.getElem_toArray, List.getElem_cons_zero, List.getElem_cons_succ]
  refine wpAnyH_ready (rs := [9]) (by kernel_rfl) (by simp) ?_
  refine AllReadyH.cons rfl (fun K hK => ?_) AllReadyH.nil
  go_simp
  refine C.out.mono ?_
  rintro e w2 ⟨zs, k, v, rfl, ⟨rfl, rfl⟩, ⟨a, n, cap, rfl⟩, hz, hA⟩
  have ho := (hz rfl).2
  obtain ⟨a', cap', he, _, _⟩ := ownsRow_slice ho
  cases he
  clear C hz
  try go_wp2_with fail
  refine hK.out _ _ (⟨(hA.cell (p := ⟨g, 0, none⟩) hg).trans c0, (hA.cell (p := ⟨g, 1, none⟩) hg).trans c1, (hA.cell (p := ⟨g, 2, none⟩) hg).trans c2, (hA.cell (p := ⟨g, 3, none⟩) hg).trans c3, (hA.cell (p := ⟨g, 4, none⟩) hg).trans c4, (hA.cell (p := ⟨g, 5, none⟩) hg).trans c5, (hA.cell (p := ⟨g, 6, none⟩) hg).trans c6, (hA.cell (p := ⟨g, 7, none⟩) hg).trans c7, (hA.cell (p := ⟨g, 8, none⟩) hg).trans c8⟩) (fun hHeld => ?_)
  clear hK K
  try simp only [Act.put, List.setIfInBounds_toArray, List.set_cons_zero, List.set_cons_succ, List.getElem_toArray, List.getElem_cons_zero, List.getElem_cons_succ]
  refine wpAnyH_take (i := 10) (v := ?v11) rfl (by kernel_rfl) (by kernel_rfl) (by kernel_rfl) (fun _ _ _ h => h) (Or.inl ⟨by rfl, ?hy11⟩) hHeld ?rest11
  case hy11 => (intro w' hSw; (try dsimp only at hSw); go_simp; (try with_reducible rfl))
  try simp only [Act.put, List.setIfInBounds_toArray, List.set_cons_zero, List.set_cons_succ, List.getElem_toArray, List.getElem_cons_zero, List.getElem_cons_succ]
  refine wpAnyH_take (i := 11) (v := ?v12) rfl (by kernel_rfl) (by kernel_rfl) (by kernel_rfl) (fun _ _ _ h => h) (Or.inl ⟨by rfl, ?hy12⟩) hHeld ?rest12
  case hy12 => (intro w' hSw; (try dsimp only at hSw); go_simp; (try with_reducible rfl))
  try simp only [Act.put, List.setIfInBounds_toArray, List.set_cons_zero, List.set_cons_succ, List.getElem_toArray, List.getElem_cons_zero, List.getElem_cons_succ]
  refine wpAnyH_take (i := 12) (v := ?v13) rfl (by kernel_rfl) (by kernel_rfl) (by kernel_rfl) (fun _ _ _ h => h) (Or.inl ⟨by rfl, ?hy13⟩) hHeld ?rest13
  case hy13 => (intro w' hSw; (try dsimp only at hSw); go_simp; (try with_reducible rfl))
  try simp only [Act.put, List.setIfInBounds_toArray, List.set_cons_zero, List.set_cons_succ, List.getElem_toArray, List.getElem_cons_zero, List.getElem_cons_succ]
  refine wpAnyH_take (i := 13) (v := ?v14) rfl (by kernel_rfl) (by kernel_rfl) (by kernel_rfl) (fun _ _ _ h => h) (Or.inl ⟨by rfl, ?hy14⟩) hHeld ?rest14
  case hy14 => (intro w' hSw; (try dsimp only at hSw); go_simp; (try with_reducible rfl))
  try simp only [Act.put, List.setIfInBounds_toArray, List.set_cons_zero, List.set_cons_succ, List.getElem_toArray, List.getElem_cons_zero, List.getElem_cons_succ]
  refine wpAnyH_take (i := 14) (v := ?v15) rfl (by kernel_rfl) (by kernel_rfl) (by kernel_rfl) (fun _ _ _ h => h) (Or.inl ⟨by rfl, ?hy15⟩) hHeld ?rest15
  case hy15 => (intro w' hSw; (try dsimp only at hSw); go_simp; (try with_reducible rfl))
  try simp only [Act.put, List.setIfInBounds_toArray, List.set_cons_zero, List.set_cons_succ, List.getElem_toArray, List.getElem_cons_zero, List.getElem_cons_succ]
  refine wpAnyH_done (by kernel_rfl) ?_ _
  have HO := Lib.hid ho
  have HA := Lib.hid hA
  clear ho hA c0 c1 c2 c3 c4 c5 c6 c7 c8
  go_wp2_with fail
  go_ret
  exact ⟨_, _, rfl, HO.out, (Below.refl w.heap.size w).drew.trans HA.out⟩

set_option maxRecDepth 20000 in
set_option maxHeartbeats 1600000 in
theorem useMet_go (g : Nat) (h : List Value) (T : List (Nat × Value)) (c m s n i : Nat) (hc : c ≤ 32) (hi : i < c) (hm : m ≤ 1000000) (hp : pl T i = n) (hno : ∀ j, j < i → pl T j ≠ n) (w : World) (K : CK w g h T c m s) :
    Calls Try.prog 22 #[.pointer (some ⟨g, 0, none⟩), .int .i64 n] w fun e w' => e = .returned (pz T i) ∧ CK w' g h (toFront T i) c (m + 1) s ∧ Turned (fun k => k = g) w w' := by
  have C1 : Calls Try.prog 38 #[.pointer (some ⟨g, 0, none⟩), .int .i64 n] w fun e w' => w' = w ∧ e = .returned (.tuple #[.int .i64 i, .bool true]) := (find_any g h T c m s n hc w K).mono (by
    rintro e w' ⟨h1, ⟨j, hj, hpj, hnj, he⟩ | ⟨hn, _⟩⟩
    · refine ⟨h1, ?_⟩
      have : j = i := by
        rcases Nat.lt_trichotomy j i with h | h | h
        · exact absurd hpj (hno j h)
        · exact h
        · exact absurd hp (hnj i h)
      subst this
      exact he
    · exact absurd hp (hn i hi))
  have K1 := K.setM (m + 1)
  have C2 := first_any g h T c (m + 1) s i (by omega) _ K1
  have HC1 := Lib.hid C1
  have HC2 := Lib.hid C2
  have c75 := K.met
  have f75 := K.free 75
  have hm1 : (((m + 1 : Nat) : Int)) = (m : Int) + 1 := rfl
  rw [hm1] at HC2
  clear C1 C2 K1 K hp hno
  go_enter Try.func22, Try.ntmps22
  go_wp2_with fail
  refine HC1.out.mono ?_
  rintro e w1 ⟨rfl, rfl⟩
  clear HC1
  go_wp2_with fail
  refine HC2.out.mono ?_
  rintro e w2 ⟨rfl, K2, hT⟩
  have H2 := Lib.hid K2
  have HT := Lib.hid hT
  clear HC2 K2 hT
  go_wp2_with fail
  go_ret
  exact ⟨rfl, H2.out, ((Turned.refl (fun k => k = g) _).setCell (.inl rfl) _).trans HT.out (fun _ _ h => h)⟩

set_option maxRecDepth 20000 in
set_option maxHeartbeats 1600000 in
theorem useMiss_go (g : Nat) (h : List Value) (T : List (Nat × Value)) (c m s n room sz : Nat) (Z : List Int) (hr : h[9]? = some (.int .i64 (room : Int))) (hc : c ≤ room) (hr0 : 0 < room) (hr2 : room ≤ 32) (hs : s ≤ 1000000) (hno : ∀ j, j < c → pl T j ≠ n) (w : World) (K : CK w g h T c m s)
    (CR : Hid (∀ c' s' w', CK w' g h T c' m s' → Turned (fun k => k = g) w w' → Calls Try.prog 40 #[.pointer (some ⟨g, 0, none⟩), .int .i64 n] w' fun e w'' => ∃ a cap, e = .returned (.slice a sz cap) ∧ w''.ownsRow w'.heap.size 34 1 (.slice a sz cap) sz (i16s Z) ∧ Below w'.heap.size w' w'')) :
    Calls Try.prog 22 #[.pointer (some ⟨g, 0, none⟩), .int .i64 n] w fun e w' => ∃ z k, k < room ∧ (c < room ∧ k = c ∨ c = room ∧ k + 1 = c) ∧ e = .returned z ∧ CK w' g h (toFront (T.set k (n, z)) k) (k + 1) m (s + 1) ∧ w'.ownsRow w.heap.size 34 1 z sz (i16s Z) ∧ Turned (fun k => k = g) w w' := by
  have C1 : Calls Try.prog 38 #[.pointer (some ⟨g, 0, none⟩), .int .i64 n] w fun e w' => w' = w ∧ e = .returned (.tuple #[.int .i64 0, .bool false]) := (find_any g h T c m s n (by omega) w K).mono (by
    rintro e w' ⟨h1, ⟨j, hj, hpj, hnj, he⟩ | ⟨hn, he⟩⟩
    · exact absurd hpj (hno j hj)
    · exact ⟨h1, he⟩)
  have K1 := K.setS (s + 1)
  have hT1 : Turned (fun k => k = g) w (w.setCell ⟨g, 76, none⟩ (.int .i64 ((s + 1 : Nat) : Int))) := (Turned.refl (fun k => k = g) w).setCell (.inl rfl) _
  have C2 := free_any g h T c m (s + 1) room hr hc hr0 hr2 _ K1
  have HC1 := Lib.hid C1
  have HC2 := Lib.hid C2
  have HT1 := Lib.hid hT1
  have c76 := K.mis
  have f76 := K.free 76
  have hs1 : (((s + 1 : Nat) : Int)) = (s : Int) + 1 := rfl
  rw [hs1] at HC2 HT1
  have hg0 := K.lt
  clear C1 C2 K1 K hno hr hT1
  go_enter Try.func22, Try.ntmps22
  go_wp2_with fail
  refine HC1.out.mono ?_
  rintro e w1 ⟨rfl, rfl⟩
  clear HC1
  go_wp2_with fail
  refine HC2.out.mono ?_
  rintro e w2 ⟨k, hk, hkc, rfl, K2, hT⟩
  have hT2 := HT1.out.trans hT (fun _ _ h => h)
  have HC3 := Lib.hid (CR.out (k + 1) (s + 1) w2.drew K2.drew hT2.drew)
  have H2 := Lib.hid K2
  have HT2 := Lib.hid hT2
  have HKC := Lib.hid hkc
  have hk32 : k < 32 := by omega
  have hk32i : (k : Int) < 32 := by omega
  clear HC2 CR hT hT2 K2 hkc HT1 c76 f76
  go_wp2_with fail
  refine wp_region_held_drew (S := (fun _ : World => True)) (by kernel_rfl) (trivial) (fun hHeld => ?_)
  refine wpAnyH_take (i := 0) (v := ?v16) rfl (by kernel_rfl) (by kernel_rfl) (by kernel_rfl) (fun _ _ _ h => h) (Or.inl ⟨by rfl, ?hy16⟩) hHeld ?rest16
  case hy16 => (intro w' hSw; (try dsimp only at hSw); go_simp; (try with_reducible rfl))
  try simp only [Act.put, List.setIfInBounds_toArray, List.set_cons_zero, List.set_cons_succ, List.getElem_toArray, List.getElem_cons_zero, List.getElem_cons_succ]
  refine wpAnyH_take (i := 1) (v := ?v17) rfl (by kernel_rfl) (by kernel_rfl) (by kernel_rfl) (fun _ _ _ h => h) (Or.inl ⟨by rfl, ?hy17⟩) hHeld ?rest17
  case hy17 => (intro w' hSw; (try dsimp only at hSw); go_simp; (try with_reducible rfl))
  try simp only [Act.put, List.setIfInBounds_toArray, List.set_cons_zero, List.set_cons_succ, List.getElem_toArray, List.getElem_cons_zero, List.getElem_cons_succ]
  refine wpAnyH_take (i := 2) (v := ?v18) rfl (by kernel_rfl) (by kernel_rfl) (by kernel_rfl) (fun _ _ _ h => h) (Or.inl ⟨by rfl, ?hy18⟩) hHeld ?rest18
  case hy18 => (intro w' hSw; (try dsimp only at hSw); go_simp; (try with_reducible rfl))
  try simp only [Act.put, List.setIfInBounds_toArray, List.set_cons_zero, List.set_cons_succ, List.getElem_toArray, List.getElem_cons_zero, List.getElem_cons_succ]
  refine wpAnyH_take (i := 3) (v := ?v19) rfl (by kernel_rfl) (by kernel_rfl) (by kernel_rfl) (fun _ _ _ h => h) (Or.inl ⟨by rfl, ?hy19⟩) hHeld ?rest19
  case hy19 => (intro w' hSw; (try dsimp only at hSw); go_simp; (try with_reducible rfl))
  try simp only [Act.put, List.setIfInBounds_toArray, List.set_cons_zero, List.set_cons_succ, List.getElem_toArray, List.getElem_cons_zero, List.getElem_cons_succ]
  refine wpAnyH_take (i := 4) (v := ?v20) rfl (by kernel_rfl) (by kernel_rfl) (by kernel_rfl) (fun _ _ _ h => h) (Or.inl ⟨by rfl, ?hy20⟩) hHeld ?rest20
  case hy20 => (intro w' hSw; (try dsimp only at hSw); go_simp; (try with_reducible rfl))
  try simp only [Act.put, List.setIfInBounds_toArray, List.set_cons_zero, List.set_cons_succ, List.getElem_toArray, List.getElem_cons_zero, List.getElem_cons_succ]
  refine wpAnyH_take (i := 7) (v := ?v21) rfl (by kernel_rfl) (by kernel_rfl) (by kernel_rfl) (fun _ _ _ h => h) (Or.inl ⟨by rfl, ?hy21⟩) hHeld ?rest21
  case hy21 => (intro w' hSw; (try dsimp only at hSw); go_simp; (try with_reducible rfl))
  try simp only [Act.put, List.setIfInBounds_toArray, List.set_cons_zero, List.set_cons_succ, List.getElem_toArray, List.getElem_cons_zero, List.getElem_cons_succ]
  refine wpAnyH_take (i := 8) (v := ?v22) rfl (by kernel_rfl) (by kernel_rfl) (by kernel_rfl) (fun _ _ _ h => h) (Or.inl ⟨by rfl, ?hy22⟩) hHeld ?rest22
  case hy22 => (intro w' hSw; (try dsimp only at hSw); go_simp; (try with_reducible rfl))
  try simp only [Act.put, List.setIfInBounds_toArray, List.set_cons_zero, List.set_cons_succ, List.getElem_toArray, List.getElem_cons_zero, List.getElem_cons_succ]
  refine wpAnyH_ready (rs := [5]) (by kernel_rfl) (by simp) ?_
  refine AllReadyH.cons rfl (fun K hK => ?_) AllReadyH.nil
  go_simp
  refine HC3.out.mono ?_
  rintro e w3 ⟨a, cap, rfl, ho, hA⟩
  have K3 := H2.out.drew.below hA
  have hT3 := HT2.out.drew.trans (Turned.below (S := fun k => k = g) hA) (fun _ _ h => h)
  have q0 := K3.place k hk32
  have q1 := K3.z k hk32
  have f0 := K3.free (10 + k * 2)
  have f1 := K3.free (10 + k * 2 + 1)
  have hg3 := K3.lt
  clear HC3
  try go_wp2_with fail
  refine hK.out _ _ (trivial) (fun hHeld => ?_)
  clear hK K
  try simp only [Act.put, List.setIfInBounds_toArray, List.set_cons_zero, List.set_cons_succ, List.getElem_toArray, List.getElem_cons_zero, List.getElem_cons_succ]
  refine wpAnyH_take (i := 6) (v := ?v24) rfl (by kernel_rfl) (by kernel_rfl) (by kernel_rfl) (fun _ _ _ h => h) (Or.inl ⟨by rfl, ?hy24⟩) hHeld ?rest24
  case hy24 => (intro w' hSw; (try dsimp only at hSw); go_simp; (try with_reducible rfl))
  try simp only [Act.put, List.setIfInBounds_toArray, List.set_cons_zero, List.set_cons_succ, List.getElem_toArray, List.getElem_cons_zero, List.getElem_cons_succ]
  refine wpAnyH_take (i := 9) (v := ?v25) rfl (by kernel_rfl) (by kernel_rfl) (by kernel_rfl) (fun _ _ _ h => h) (Or.inl ⟨by rfl, ?hy25⟩) hHeld ?rest25
  case hy25 => (intro w' hSw; (try dsimp only at hSw); go_simp; (try with_reducible rfl))
  try simp only [Act.put, List.setIfInBounds_toArray, List.set_cons_zero, List.set_cons_succ, List.getElem_toArray, List.getElem_cons_zero, List.getElem_cons_succ]
  refine wpAnyH_ready (rs := [10]) (by kernel_rfl) (by simp) ?_
  refine AllReadyH.cons rfl (fun K hK => ?_) AllReadyH.nil
  go_simp
  try go_wp2_with fail
  refine hK.out _ _ (trivial) (fun hHeld => ?_)
  clear hK K
  try simp only [Act.put, List.setIfInBounds_toArray, List.set_cons_zero, List.set_cons_succ, List.getElem_toArray, List.getElem_cons_zero, List.getElem_cons_succ]
  refine wpAnyH_done (by kernel_rfl) ?_ _
  have K4 := K3.setT k hk32 n (.slice a sz cap) ⟨_, _, _, rfl⟩
  have hT34 : Turned (fun k => k = g) w3 ((w3.setCell ⟨g, 10 + k * 2, none⟩ (.int .i64 n)).setCell ⟨g, 10 + k * 2 + 1, none⟩ (.slice a sz cap)) := ((Turned.refl (fun k => k = g) w3).setCell (.inl rfl) _).setCell (.inl rfl) _
  obtain ⟨w4, hw4⟩ : ∃ w4, ((w3.setCell ⟨g, 10 + k * 2, none⟩ (.int .i64 n)).setCell ⟨g, 10 + k * 2 + 1, none⟩ (.slice a sz cap)) = w4 := ⟨_, rfl⟩
  rw [hw4] at K4 hT34 ⊢
  have hg2 : g < w2.drew.heap.size := H2.out.lt
  have hne : ∀ j, (Value.slice a sz cap).ownBlock = some j → j ≠ g := fun j hj e => by have := (ho.lt j hj).1; omega
  have ho4 := hT34.own ho hne
  have hT4 := hT3.trans hT34 (fun _ _ h => h)
  have hTl : k < T.length := by rw [H2.out.tl]; exact hk32
  have e2 : pz (T.set k (n, .slice a sz cap)) k = .slice a sz cap := by simp [pz, List.getD, List.getElem?_set_self hTl]
  have C5 := first_any g h (T.set k (n, .slice a sz cap)) (k + 1) m (s + 1) k hk32 w4 K4
  rw [e2] at C5
  have HC5 := Lib.hid C5
  have HO := Lib.hid ho4
  have HT4 := Lib.hid hT4
  have HNE := Lib.hid hne
  have hsz2 : w1.heap.size ≤ w2.drew.heap.size := HT2.out.size
  clear hw4 hT34 K3 K4 ho4 ho hT3 hT4 q0 q1 f0 f1 C5 e2 hne
  go_wp2_with fail
  refine HC5.out.mono ?_
  rintro e w5 ⟨rfl, K5, hT5⟩
  have H5 := Lib.hid K5
  have HT5 := Lib.hid hT5
  clear HC5 K5 hT5
  go_wp2_with fail
  go_ret
  exact ⟨_, k, hk, HKC.out, rfl, H5.out, ownsRow_base (HT5.out.own HO.out (fun j hj e => HNE.out j hj e)) hsz2, HT4.out.trans HT5.out (fun _ _ h => h)⟩
end Go.Proofs.Ytiflbbpliioblaa
