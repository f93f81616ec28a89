/-
  LedgerTells: the walk.
-/
import Derived.Test.YtallbegibdlpaaaLaw18w
import Derived.Test.YtallbegibdlpaaaRef18B
set_option linter.unusedVariables false
set_option linter.unusedSimpArgs false
namespace Go.Proofs.Ytallbegibdlpaaa
open Go Go.RowKit Go.Th Go.Th.Wide Go.Th.Up

theorem up18 (p q : Nat) : Up18 (upD p q) p q := by
  have hle := upD_le p q
  by_cases h0 : q = 0
  · subst h0
    have e : upD p 0 = 1099511627776 := by unfold upD; rw [if_pos rfl]
    rw [e]
    exact ⟨Nat.le_refl _, fun _ => rfl, fun h => absurd rfl h, fun h => absurd rfl h, fun h => absurd rfl h⟩
  · have e : upD p q = min ((p + q - 1) / q) 1099511627776 := by unfold upD; rw [if_neg h0]
    obtain ⟨c, hc⟩ : ∃ c, c = (p + q - 1) / q := ⟨_, rfl⟩
    rw [← hc] at e
    have hq : 0 < q := by omega
    have key : ∀ k, c ≤ k ↔ p ≤ k * q := fun k => by
      rw [hc, Nat.div_le_iff_le_mul hq]
      omega
    refine ⟨hle, fun h => absurd h h0, fun _ hx => ?_, fun _ hx => ?_, fun _ hx0 hx => ?_⟩
    · have h1 : ¬ p ≤ 1099511627775 * q := fun h => by have := (key _).2 h; omega
      omega
    · have h1 := (key (upD p q)).1 (by omega)
      omega
    · have h1 : ¬ p ≤ (upD p q - 1) * q := fun h => by have := (key _).2 h; omega
      omega

set_option maxRecDepth 20000 in
set_option maxHeartbeats 3200000 in
theorem tells_go (n b m s z zz : Int) (P B M S Z : Nat) (hn : 0 ≤ n ∧ n < 65536) (hb : 0 ≤ b ∧ b < 18446744073709551616) (hm : 0 ≤ m ∧ m < 4294967296) (hs : 0 ≤ s ∧ s < 4294967296)
    (e1 : n.tmod 4097 = (P : Int)) (e2 : b.tmod 1099511627777 = (B : Int)) (e3 : m.tmod 65537 = (M : Int)) (e4 : s.tmod 1073741825 = (S : Int))
    (hz : (z < 0 ∧ zz = -(z + 1)) ∨ (¬ z < 0 ∧ zz = z)) (hzr : -9223372036854775808 ≤ z ∧ z ≤ 9223372036854775807) (e5 : zz.tmod 70368744177664 = (Z : Int)) (hP : P ≤ 4096) (hB : B ≤ 1099511627776) (hM : M ≤ 65536) (hS : S ≤ 1073741824) (hZ : Z < 70368744177664) (w : World) :
    Calls Try.prog 3 #[.int .u16 n, .int .u64 b, .int .u32 m, .int .u32 s, .int .i64 z] w fun e w' => e = .returned (.bool true) ∧ Below w.heap.size w w' := by
  have C1 := Lib.hid (Of_any (Z : Int) (by omega))
  have C2 := Lib.hid (scaled_any B M S Z hB hM hS (by omega))
  have C3 := Lib.hid (Cost_any P hP)
  have C4 := Lib.hid (refCost18_any (costN P) P hP (up18 _ _))
  have C5 := Lib.hid (refScaled18_any (upD (B * M * S) Z) B M S Z hB hM hS (by omega) (up18 _ _))
  obtain ⟨u, hu⟩ : ∃ u, u = upD (B * M * S) Z := ⟨_, rfl⟩
  obtain ⟨c, hc⟩ : ∃ c, c = costN P := ⟨_, rfl⟩
  have hu1 := upD_le (B * M * S) Z
  have hc1 := (costN_eq hP).2
  rw [← hu] at C2 C5 hu1
  rw [← hc] at C3 C4 hc1
  clear hu hc
  have M0 := Mem.start w
  rcases hz with ⟨h1, hz⟩ | ⟨h1, hz⟩
  · have w1 : wrap64 (z + 1) = z + 1 := by simp only [wrap64]; omega
    have e6 : -((z + 1).tmod 70368744177664) = (Z : Int) := by rw [← Int.neg_tmod, ← hz]; exact e5
    have w2 : wrap64 (-(z + 1)) = -(z + 1) := by simp only [wrap64]; omega
    clear hz e5
    go_enter Try.func3, Try.ntmps3
    go_wp2_with fail
    refine (C1.out _).mono ?_
    rintro e w2 ⟨rfl, hA⟩
    replace M0 := M0.call hA
    clear hA
    go_wp2_with fail
    refine (C2.out _).mono ?_
    rintro e w2 ⟨rfl, hA⟩
    replace M0 := M0.call hA
    clear hA
    go_wp2_with fail
    refine (C3.out _).mono ?_
    rintro e w2 ⟨rfl, hA⟩
    replace M0 := M0.call hA
    clear hA
    go_wp2_with fail
    refine (C4.out _).mono ?_
    rintro e w2 ⟨rfl, hA⟩
    replace M0 := M0.call hA
    clear hA
    go_wp2_with fail
    refine (C5.out _).mono ?_
    rintro e w2 ⟨rfl, hA⟩
    replace M0 := M0.call hA
    clear hA
    go_wp2_with fail
    refine (works_any18 _).mono ?_
    rintro e w2 ⟨rfl, hA⟩
    replace M0 := M0.call hA
    clear hA
    go_wp2_with fail
    go_ret
    exact ⟨rfl, M0.below⟩
  · obtain rfl := hz
    go_enter Try.func3, Try.ntmps3
    go_wp2_with fail
    refine (C1.out _).mono ?_
    rintro e w2 ⟨rfl, hA⟩
    replace M0 := M0.call hA
    clear hA
    go_wp2_with fail
    refine (C2.out _).mono ?_
    rintro e w2 ⟨rfl, hA⟩
    replace M0 := M0.call hA
    clear hA
    go_wp2_with fail
    refine (C3.out _).mono ?_
    rintro e w2 ⟨rfl, hA⟩
    replace M0 := M0.call hA
    clear hA
    go_wp2_with fail
    refine (C4.out _).mono ?_
    rintro e w2 ⟨rfl, hA⟩
    replace M0 := M0.call hA
    clear hA
    go_wp2_with fail
    refine (C5.out _).mono ?_
    rintro e w2 ⟨rfl, hA⟩
    replace M0 := M0.call hA
    clear hA
    go_wp2_with fail
    refine (works_any18 _).mono ?_
    rintro e w2 ⟨rfl, hA⟩
    replace M0 := M0.call hA
    clear hA
    go_wp2_with fail
    go_ret
    exact ⟨rfl, M0.below⟩
theorem tm {x k : Nat} : (x : Int).tmod (k : Int) = ((x % k : Nat) : Int) := by rw [Int.tmod_eq_emod_of_nonneg (by omega)]; exact (Int.natCast_emod x k).symm
theorem tells_any (n b m s : Nat) (z : Int) (hn : n < 65536) (hb : b < 18446744073709551616) (hm : m < 4294967296) (hs : s < 4294967296) (hz : -9223372036854775808 ≤ z ∧ z ≤ 9223372036854775807) (w : World) :
    Calls Try.prog 3 #[.int .u16 (n : Int), .int .u64 (b : Int), .int .u32 (m : Int), .int .u32 (s : Int), .int .i64 z] w fun e w' => e = .returned (.bool true) ∧ Below w.heap.size w w' := by
  obtain ⟨zz, h1, h2⟩ : ∃ zz : Nat, ((z < 0 ∧ (zz : Int) = -(z + 1)) ∨ (¬ z < 0 ∧ (zz : Int) = z)) ∧ True := by
    by_cases h : z < 0
    · exact ⟨(-(z + 1)).toNat, .inl ⟨h, by omega⟩, trivial⟩
    · exact ⟨z.toNat, .inr ⟨h, by omega⟩, trivial⟩
  exact tells_go n b m s z zz (n % 4097) (b % 1099511627777) (m % 65537) (s % 1073741825) (zz % 70368744177664) (by omega) (by omega) (by omega) (by omega) (tm (k := 4097)) (tm (k := 1099511627777)) (tm (k := 65537)) (tm (k := 1073741825)) h1 hz (tm (k := 70368744177664)) (by omega) (by omega) (by omega) (by omega) (by omega) w
end Go.Proofs.Ytallbegibdlpaaa
