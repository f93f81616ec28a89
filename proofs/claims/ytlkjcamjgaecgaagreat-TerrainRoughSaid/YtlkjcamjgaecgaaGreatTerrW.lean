/-
  Terrain's quotients: units, parts of a cell, metres.
-/
import Derived.Test.YtlkjcamjgaecgaaGreatTerrA
import Derived.Test.YtlkjcamjgaecgaaGreatPackWide
set_option linter.unusedVariables false
set_option linter.unusedSimpArgs false
namespace Go.Proofs.YtlkjcamjgaecgaaGreat
open Go Go.RowKit Go.Th Go.Th.Wide

theorem ediv_rng {n d B : Int} (hd : 0 < d) (h : -B ≤ n ∧ n ≤ B) (hB : 0 ≤ B) : -B - 1 ≤ n / d ∧ n / d ≤ B := by
  constructor
  · rw [Int.le_ediv_iff_mul_le hd]
    have : (-B - 1) * d ≤ (-B - 1) * 1 := Int.mul_le_mul_of_nonpos_left (by omega) (by omega)
    omega
  · have : n / d < B + 1 := by
      rw [Int.ediv_lt_iff_lt_mul hd]
      have : (B + 1) * 1 ≤ (B + 1) * d := Int.mul_le_mul_of_nonneg_left (by omega) (by omega)
      omega
    omega
theorem nearQ_rng {n d B : Int} (hd : 0 < d) (hd2 : d ≤ 1000000) (h : -B ≤ n ∧ n ≤ B) (hB : 0 ≤ B) : -2 * B - 1000001 ≤ nearQ n d ∧ nearQ n d ≤ 2 * B + 1000001 := by
  unfold nearQ
  have := ediv_rng (n := 2 * n + d) (d := 2 * d) (B := 2 * B + 1000000) (by omega) (by omega) (by omega)
  omega

set_option maxRecDepth 20000 in
theorem units_go (x p V E : Int) (C1 : Ans 57 #[.int .i64 16, .int .i64 x, .int .i64 p, .int .i64 2] (.tuple #[.int .i64 V, .int .i64 E])) : Ans 31 #[.int .i64 x, .int .i64 p] (.int .i64 V) := by
  intro w
  go_enter Tryz.func31, Tryz.ntmps31
  go_wp2_with fail
  refine (C1 _).mono ?_
  rintro e w2 ⟨rfl, hB⟩
  go_wp2_with fail
  go_ret
  exact ⟨rfl, hB⟩
theorem units_any (x p : Int) (hx : -1000000000000 ≤ x ∧ x ≤ 1000000000000) (hp : 0 < p) (hp2 : p ≤ 1000000) : Ans 31 #[.int .i64 x, .int .i64 p] (.int .i64 (nearQ (16 * x) p)) := by
  have h := nearQ_rng (n := 16 * x) hp hp2 (B := 16000000000000) (by omega) (by omega)
  have e := (divV_near (16 * x) p hp (by unfold nearQ at h; omega)).1
  unfold nearQ
  rw [← e]
  exact units_go x p _ _ (fun w => MulDiv_any 16 x p 2 (by omega) (by omega) (by omega) (by omega) w)

set_option maxRecDepth 20000 in
theorem parts_go (m b c d V E : Int) (hb : wrap64 b = b) (hb2 : IntKind.i64.wrap b = b) (hd : wrap64 (m - b) = d) (C1 : Ans 57 #[.int .i64 256, .int .i64 d, .int .i64 c, .int .i64 0] (.tuple #[.int .i64 V, .int .i64 E])) : Ans 40 #[.int .i64 m, .int .i32 b, .int .i64 c] (.int .i64 V) := by
  intro w
  go_enter Tryz.func40, Tryz.ntmps40
  go_wp2_with fail
  refine (C1 _).mono ?_
  rintro e w2 ⟨rfl, hB⟩
  go_wp2_with fail
  go_ret
  exact ⟨rfl, hB⟩
theorem parts_any (m b c : Int) (hm : -1099511627776 ≤ m ∧ m ≤ 1099511627776) (hb : -2147483648 ≤ b ∧ b ≤ 2147483647) (hc : 1 ≤ c ∧ c ≤ 1000) : Ans 40 #[.int .i64 m, .int .i32 b, .int .i64 c] (.int .i64 (256 * (m - b) / c)) := by
  have h := ediv_rng (n := 256 * (m - b)) (d := c) (B := 300000000000000) (by omega) (by omega) (by omega)
  have e := divV_down (256 * (m - b)) c (by omega) (by omega)
  rw [← e]
  exact parts_go m b c (m - b) _ _ (IntWalk.wrap64_in _ (by omega)) (IntWalk.i64_in _ (by omega)) (IntWalk.wrap64_in _ (by omega)) (fun w => MulDiv_any 256 (m - b) c 0 (by omega) (by omega) (by omega) (by omega) w)

set_option maxRecDepth 20000 in
set_option maxHeartbeats 1600000 in
theorem metres_go (a b c h1 l1 h2 l2 h3 l3 V : Int) (hb : wrap64 b = b) (hb2 : IntKind.i64.wrap b = b) (C1 : Ans 62 #[.int .i64 a, .int .i64 c] (wv h1 l1)) (C2 : Ans 62 #[.int .i64 b, .int .i64 256] (wv h2 l2))
    (C3 : Ans 61 #[wv h1 l1, wv h2 l2] (.tuple #[wv h3 l3, .bool true])) (C4 : Ans 63 #[wv h3 l3, .int .i64 256, .int .i64 2] (.tuple #[.int .i64 V, .int .i64 0])) :
    Ans 42 #[.int .i64 a, .int .i32 b, .int .i64 c] (.tuple #[.int .i64 V, .bool true]) := by
  intro w
  have M0 := Mem.start w
  go_enter Tryz.func42, Tryz.ntmps42
  go_wp2_with fail
  (refine (C1 _).mono ?_; rintro e w2 ⟨rfl, hBl⟩; replace M0 := M0.call hBl; clear hBl C1)
  go_wp2_with fail
  (refine (C2 _).mono ?_; rintro e w2 ⟨rfl, hBl⟩; replace M0 := M0.call hBl; clear hBl C2)
  go_wp2_with fail
  (refine (C3 _).mono ?_; rintro e w2 ⟨rfl, hBl⟩; replace M0 := M0.call hBl; clear hBl C3)
  go_wp2_with ((with_reducible refine (?_ : Go.wpList _ _ _ (_ :: _) _ _)); (first | go_skip | (refine wpL_bx M0 rfl rfl rfl rfl ?_; clear M0; intro g1 w1 M1) | (refine wpL_al M0 rfl rfl zero25 rfl ?_; clear M0; intro g1 w1 M1) | (refine wpL_ld M0 rfl rfl rfl (by repeat (first | exact Has.head _ _ _ _ | apply Has.tail)) (by first | exact rd_w _ _ | exact rd_hi _ _ | exact rd_lo _ _ | assumption) ?_) | (refine wpL_ldg M0 rfl rfl rfl (by repeat (first | exact Has.head _ _ _ _ | apply Has.tail)) (by first | exact rd_w _ _ | exact rd_hi _ _ | exact rd_lo _ _ | assumption) ?_) | (refine wpL_st M0 rfl rfl rfl rfl (by repeat (first | exact Has.head _ _ _ _ | apply Has.tail)) (by first | exact wr_w _ rfl _ _ | exact wr_hi _ _ _ | assumption) (by repeat (first | exact Upd.head _ _ _ _ _ | apply Upd.tail)) ?_; clear M0; intro w' M0) | (refine wpL_ld M1 rfl rfl rfl (by repeat (first | exact Has.head _ _ _ _ | apply Has.tail)) (by first | exact rd_w _ _ | exact rd_hi _ _ | exact rd_lo _ _ | assumption) ?_) | (refine wpL_ldg M1 rfl rfl rfl (by repeat (first | exact Has.head _ _ _ _ | apply Has.tail)) (by first | exact rd_w _ _ | exact rd_hi _ _ | exact rd_lo _ _ | assumption) ?_) | (refine wpL_st M1 rfl rfl rfl rfl (by repeat (first | exact Has.head _ _ _ _ | apply Has.tail)) (by first | exact wr_w _ rfl _ _ | exact wr_hi _ _ _ | assumption) (by repeat (first | exact Upd.head _ _ _ _ _ | apply Upd.tail)) ?_; clear M1; intro w' M1)))
  (refine (C4 _).mono ?_; rintro e w2 ⟨rfl, hBl⟩; replace M1 := M1.call hBl; clear hBl C4)
  go_wp2_with ((with_reducible refine (?_ : Go.wpList _ _ _ (_ :: _) _ _)); (first | go_skip | (refine wpL_ld M1 rfl rfl rfl (by repeat (first | exact Has.head _ _ _ _ | apply Has.tail)) (by first | exact rd_w _ _ | exact rd_hi _ _ | exact rd_lo _ _ | assumption) ?_) | (refine wpL_ldg M1 rfl rfl rfl (by repeat (first | exact Has.head _ _ _ _ | apply Has.tail)) (by first | exact rd_w _ _ | exact rd_hi _ _ | exact rd_lo _ _ | assumption) ?_) | (refine wpL_st M1 rfl rfl rfl rfl (by repeat (first | exact Has.head _ _ _ _ | apply Has.tail)) (by first | exact wr_w _ rfl _ _ | exact wr_hi _ _ _ | assumption) (by repeat (first | exact Upd.head _ _ _ _ _ | apply Upd.tail)) ?_; clear M1; intro w' M1)))
  go_ret2
  exact ⟨rfl, M1.below⟩
theorem hiZ_add (p q : Int) : hiZ p + hiZ q + (loZ p + loZ q) / 18446744073709551616 = hiZ (p + q) := by unfold hiZ loZ; omega
theorem loZ_add (p q : Int) : (loZ p + loZ q) % 18446744073709551616 = loZ (p + q) := by unfold loZ; omega
theorem hiZ_rng (p : Int) (h : -1000000000000000000 ≤ p ∧ p ≤ 1000000000000000000) : -1 ≤ hiZ p ∧ hiZ p ≤ 0 := by unfold hiZ; omega
theorem loZ_rng (p : Int) : 0 ≤ loZ p ∧ loZ p < 18446744073709551616 := by unfold loZ; omega
theorem metres_any (a b c : Int) (ha : -1099511627776 ≤ a ∧ a ≤ 1099511627776) (hb : -2147483648 ≤ b ∧ b ≤ 2147483647) (hc : 1 ≤ c ∧ c ≤ 1000) : Ans 42 #[.int .i64 a, .int .i32 b, .int .i64 c] (.tuple #[.int .i64 (nearQ (a * c) 256 + b), .bool true]) := by
  have h := mul_range (a := a) (p := c) (A := 1099511627776) (B := 1000) (by omega) (by omega) (by omega)
  obtain ⟨p, hp⟩ : ∃ p, p = a * c := ⟨_, rfl⟩
  have hn : (2 * (p + b * 256) + 256) / (2 * 256) = nearQ p 256 + b := by unfold nearQ; omega
  have C1 : Ans 62 #[.int .i64 a, .int .i64 c] (wv (hiZ p) (loZ p)) := fun w => by rw [hp]; exact Mul_any a c (by omega) (by omega) w
  have C2 : Ans 62 #[.int .i64 b, .int .i64 256] (wv (hiZ (b * 256)) (loZ (b * 256))) := fun w => Mul_any b 256 (by omega) (by omega) w
  rw [← hp] at h ⊢
  have r1 := hiZ_rng p (by omega)
  have r2 := hiZ_rng (b * 256) (by omega)
  have r3 := loZ_rng p
  have r4 := loZ_rng (b * 256)
  have C3 := fun w => Add_ok (hiZ p) (loZ p) (hiZ (b * 256)) (loZ (b * 256)) (by omega) r3 (by omega) r4 (by unfold addF; rw [hiZ_add]; have := hiZ_rng (p + b * 256) (by omega); omega) w
  rw [hiZ_add, loZ_add] at C3
  have hV := divV_near (p + b * 256) 256 (by omega) (by omega)
  have C4 := fun w => Div_any (p + b * 256) 256 2 (by omega) (by omega) w
  rw [hV.1, hV.2, hn] at C4
  exact metres_go a b c _ _ _ _ _ _ _ (IntWalk.wrap64_in _ (by omega)) (IntWalk.i64_in _ (by omega)) C1 C2 C3 C4
end Go.Proofs.YtlkjcamjgaecgaaGreat
