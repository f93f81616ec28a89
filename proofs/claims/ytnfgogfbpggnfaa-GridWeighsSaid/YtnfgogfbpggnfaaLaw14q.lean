/-
  GridWeighs: the walks put together.
-/
import Derived.Test.YtnfgogfbpggnfaaLaw14f
import Derived.Test.YtnfgogfbpggnfaaLaw14n
set_option linter.unusedVariables false
set_option linter.unusedSimpArgs false
namespace Go.Proofs.Ytnfgogfbpggnfaa
open Go Go.RowKit Go.Th Go.Th.Grid Go.Th.Wide

theorem weighs_big (C0 : Ans 8 #[] (.bool true)) (p q k capl j capb : Nat) (al bl : Option Addr) (h : (100 : Int) < (k : Int) ∨ (100 : Int) < (j : Int)) (hk2 : k ≤ 9223372036854775807) (hj2 : j ≤ 9223372036854775807) (w : World) :
    Calls Try.prog 5 #[.int .u8 p, .int .u8 q, .slice al k capl, .slice bl j capb] w fun e w' => e = .returned (.bool true) ∧ Below w.heap.size w w' := by
  by_cases hk : (100 : Int) < (k : Int)
  · clear h
    go_enter Try.func5, Try.ntmps5
    go_wp2_with fail
    refine (C0 _).mono ?_
    rintro e w1 ⟨rfl, hB⟩
    go_wp2_with fail
    go_ret
    exact ⟨rfl, hB⟩
  · have hj : (100 : Int) < (j : Int) := h.resolve_left hk
    clear h
    go_enter Try.func5, Try.ntmps5
    go_wp2_with fail
    refine (C0 _).mono ?_
    rintro e w1 ⟨rfl, hB⟩
    go_wp2_with fail
    go_ret
    exact ⟨rfl, hB⟩

theorem inAt_in {z : List Int} {d M : Int} (hz : ∀ u ∈ z, 0 ≤ u ∧ u ≤ M) (hd : 0 ≤ d ∧ d ≤ M) (n : Nat) : allIn (tab (inAt z d) n) M = true :=
  allIn_iff.2 (tab_mem n (fun i _ => by
    unfold inAt
    by_cases h : i < z.length
    · rw [if_pos h]; exact getD_mem hz h
    · rw [if_neg h]; exact hd))

theorem weighs_any (C0 : Ans 8 #[] (.bool true)) (p q k capl j capb : Nat) (al bl : Option Addr) (z zw : List Int) (hp : p < 256) (hq : q < 256) (hz : z.length = k) (hzw : zw.length = j) (hz0 : ∀ u ∈ z, 0 ≤ u ∧ u ≤ 65535) (hzw0 : ∀ u ∈ zw, 0 ≤ u ∧ u ≤ 65535) (w : World) (hT : Sl w 1 (.slice al k capl) k (u16s z)) (hTw : Sl w 1 (.slice bl j capb) j (u16s zw)) :
    Calls Try.prog 5 #[.int .u8 p, .int .u8 q, .slice al k capl, .slice bl j capb] w fun e w' => e = .returned (.bool true) ∧ Below w.heap.size w w' := by
  have hmy := hT.max
  have hmz := hTw.max
  by_cases hk : (100 : Int) < (k : Int) ∨ (100 : Int) < (j : Int)
  · exact weighs_big C0 p q k capl j capb al bl hk (by omega) (by omega) w
  have hk1 : ¬ ((100 : Int) < (k : Int)) := fun h => hk (.inl h)
  have hj1 : ¬ ((100 : Int) < (j : Int)) := fun h => hk (.inr h)
  obtain ⟨x, hx⟩ : ∃ x, x = 1 + p % 8 := ⟨_, rfl⟩
  obtain ⟨y, hy⟩ : ∃ y, y = 1 + q % 8 := ⟨_, rfl⟩
  obtain ⟨n, hn⟩ : ∃ n, n = x * y := ⟨_, rfl⟩
  have hx8 : 1 ≤ x ∧ x ≤ 8 := by omega
  have hy8 : 1 ≤ y ∧ y ≤ 8 := by omega
  have hle : x * y ≤ 8 * 8 := Nat.mul_le_mul (by omega) (by omega)
  have hpos : 0 < x * y := Nat.mul_pos (by omega) (by omega)
  have R := right_made hz0 hx8 hy8 hn (by omega : 16 ≤ 128 ∧ 128 ≤ 4096)
  have CM := fun w hT => made14_any p q 3 x y n 128 k capl al z hp hq (by omega) hx hy hn (by decide) hz (by omega) hz0 w hT
  obtain ⟨G, hG⟩ : ∃ G, G = norm (madeL z n) := ⟨_, rfl⟩
  rw [← hG] at CM R
  obtain ⟨L, hL⟩ : ∃ L, L = tab (inAt zw 65536) n := ⟨_, rfl⟩
  have hLl : L.length = n := by rw [hL, tab_length]
  have hLi : allIn L 65536 = true := by rw [hL]; exact inAt_in (fun u hu => ⟨(hzw0 u hu).1, by have := (hzw0 u hu).2; omega⟩) (by omega) n
  have hwr := wd_rng (by rw [hLl, R.len]) R.rng (allIn_iff.1 hLi)
  have hwl : (wd G L).length = n := by rw [wd_length, hLl]
  have hPl : (wgh G L).length = n := by
    unfold wgh
    by_cases h0 : sm (wd G L) = 0
    · rw [if_pos h0]; exact R.len
    · rw [if_neg h0, List.length_map, hwl]
  have hset : allIn (L.set 0 65537) 65536 = false := by
    cases hh : allIn (L.set 0 65537) 65536
    · rfl
    · have := allIn_iff.1 hh 65537 (List.mem_iff_getElem.2 ⟨0, by rw [List.length_set, hLl]; omega, by simp⟩)
      omega
  have hws := sm_rng hwr
  rw [hwl] at hws
  refine weighs_go p q x y 128 n k capl j capb al bl z zw G L (wgh G L) (sm (wd G L)) (mxl L) (normC (wd G L)) hk1 hj1 (by omega) (by omega) hLl CM
    (fun a cap w hw => by rw [hL]; exact weights_any x y 1000 (-1000) 128 a bl n cap j capb G zw hzw (by omega) (by omega) hzw0 w hw)
    (fun a cap al capl w h1 h2 => weigh_any x y 1000 (-1000) 128 a al n cap capl G L R.len hLl (by omega) R.rng hLi w h1 h2)
    (fun a cap al capl w h1 h2 => rweigh_any x y 1000 (-1000) 128 a al n cap capl G L R.len hLl (by omega) R.rng hLi w h1 h2)
    (fun a cap al capl w h1 h2 => weighed_any x y 1000 (-1000) 128 a al n cap capl G L R.len hLl (by omega) R.rng hLi w h1 h2)
    (fun w => Of_any _ (by omega) w)
    (fun a ca b cb w h1 h2 => rsame_any x y 1000 (-1000) 128 a b n ca cb _ hPl (by omega) w h1 h2)
    (fun a cap al capl w h1 => weigh_size x y 1000 (-1000) 128 a n cap G R.len (by omega) al (n - 1) capl (by omega) (by omega) w h1)
    (fun a cap al capl w h1 h2 => weigh_arg x y 1000 (-1000) 128 a n cap G R.len (by omega) al n capl rfl (L.set 0 65537) (by rw [List.length_set, hLl]) hset w h1 h2)
    (fun hc a cap w h1 => by
      have h := gcheck_any x y 1000 (-1000) 128 a n cap (wgh G L) hPl (by omega) w h1
      have h0 : sm (wd G L) ≠ 0 := fun h0 => by unfold normC at hc; rw [if_pos h0] at hc; omega
      have hN : wgh G L = norm (wd G L) := by unfold wgh norm; rw [if_neg h0, if_neg h0]
      have hcc : chk x y 128 (wgh G L) = 0 := by
        rw [hN]
        exact chk_norm (sidesG_iff.2 ⟨by omega, by omega, by omega⟩) (by rw [hwl, hn]; simp) (fun u hu => (hwr u hu).1) h0
      rw [hcc] at h
      exact h)
    C0 w hT hTw
end Go.Proofs.Ytnfgogfbpggnfaa
