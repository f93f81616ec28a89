/-
  Which code Get tells of any bytes: one alone.
-/
import Derived.Test.YtiflbbpliioblaaPackChartB
set_option linter.unusedVariables false
set_option linter.unusedSimpArgs false
namespace Go.Proofs.Ytiflbbpliioblaa
open Go Go.RowKit Go.Th Go.Th.Crc

/-- Bytes that are a row of so many numbers. -/
def IsRow9 (bs : List Nat) (n : Nat) : Prop := ∃ m : List Int, m.length = n ∧ (∀ u ∈ m, Rm u) ∧ bs = pack (row m)
/-- Which code a tile's bytes have. -/
def TileC (x n : Nat) (bs : List Nat) (c : Int) : Prop :=
  (¬ IsRow9 bs n ∧ c = 3) ∨ (∃ h : IsRow9 bs n, ((∀ u ∈ raise x h.choose n, In16 u) ∧ c = 0) ∨ (¬ (∀ u ∈ raise x h.choose n, In16 u) ∧ c = 2))
theorem TileC.only {x n : Nat} {bs : List Nat} {c d : Int} (h : TileC x n bs c) (k : TileC x n bs d) : c = d := by
  rcases h with ⟨h1, rfl⟩ | ⟨h1, ⟨h2, rfl⟩ | ⟨h2, rfl⟩⟩ <;> rcases k with ⟨k1, rfl⟩ | ⟨k1, ⟨k2, rfl⟩ | ⟨k2, rfl⟩⟩
  all_goals first
    | rfl
    | exact absurd k1 h1
    | exact absurd h1 k1
    | exact absurd k2 h2
    | exact absurd h2 k2
theorem tget_code (x y n : Nat) (hT : isT x y = true) (hn : n = x * y) (v : Value) (bs : List Nat) (hl : bs.length ≤ 1000000) (hb : ∀ u ∈ bs, u < 256) (w : World) (hS : Sl w 1 v bs.length (u8s bs)) :
    Calls Try.prog 58 #[.int .i64 x, .int .i64 y, v] w (TAns (fun _ c => TileC x n bs c) n w) := by
  by_cases H : IsRow9 bs n
  · obtain ⟨hm, hr, he⟩ := H.choose_spec
    rw [he] at hS
    refine (tget_row x y n hT hn v H.choose hm hr w hS).mono ?_
    rintro e w' (⟨h16, v', he', ho, hB⟩ | ⟨h16, he', hB⟩)
    · obtain ⟨a, cap, hv, _, _⟩ := ownsRow_slice ho
      exact ⟨_, 0, v', he', .inr ⟨H, .inl ⟨h16, rfl⟩⟩, ⟨a, _, cap, hv⟩, fun _ => ⟨raise_length x _ n, ho⟩, hB⟩
    · exact ⟨[], 2, _, he', .inr ⟨H, .inr ⟨h16, rfl⟩⟩, ⟨none, 0, 0, rfl⟩, fun h => by omega, hB⟩
  · refine (tget_no x y n hT hn v bs hl hb w hS (fun m h1 h2 h3 => H ⟨m, h1, h2, h3⟩)).mono ?_
    rintro e w' ⟨he', hB⟩
    exact ⟨[], 3, _, he', .inl ⟨H, rfl⟩, ⟨none, 0, 0, rfl⟩, fun h => by omega, hB⟩

/-- Which code the i-th tile has. -/
def TileAtC (bs : List Nat) (W H i : Nat) (c : Int) : Prop :=
  (okB (tb bs W H i) = false ∧ c = 4) ∨ (okB (tb bs W H i) = true ∧ TileC (side W (i % cnt W)) (side W (i % cnt W) * side H (i / cnt W)) ((tb bs W H i).take ((tb bs W H i).length - 4)) c)
theorem TileAtC.only {bs : List Nat} {W H i : Nat} {c d : Int} (h : TileAtC bs W H i c) (k : TileAtC bs W H i d) : c = d := by
  rcases h with ⟨h1, rfl⟩ | ⟨h1, h2⟩ <;> rcases k with ⟨k1, rfl⟩ | ⟨k1, k2⟩
  · rfl
  · rw [h1] at k1; cases k1
  · rw [h1] at k1; cases k1
  · exact h2.only k2
/-- Which code bytes have, as a map. -/
def GetC (bs : List Nat) (c : Int) : Prop :=
  (∃ W H cell, Opens bs W H cell ∧ ((c = 0 ∧ ∀ j, j < nT W H → TileAtC bs W H j 0) ∨ (∃ i, i < nT W H ∧ (∀ j, j < i → TileAtC bs W H j 0) ∧ TileAtC bs W H i c ∧ c ≠ 0))) ∨
  ((∀ W H cell, ¬ Opens bs W H cell) ∧ OpenC bs c)
theorem GetC.only {bs : List Nat} {c d : Int} (h : GetC bs c) (k : GetC bs d) : c = d := by
  rcases h with ⟨W, H, cell, hO, h⟩ | ⟨hO, h⟩ <;> rcases k with ⟨W', H', cell', kO, k⟩ | ⟨kO, k⟩
  · obtain ⟨rfl, rfl, rfl⟩ := hO.only kO
    rcases h with ⟨rfl, h⟩ | ⟨i, hi, h1, h2, h3⟩ <;> rcases k with ⟨rfl, k⟩ | ⟨j, hj, k1, k2, k3⟩
    · rfl
    · exact absurd (k2.only (h j hj)) k3
    · exact absurd (h2.only (k i hi)) h3
    · rcases Nat.lt_trichotomy i j with e | e | e
      · exact absurd (h2.only (k1 i e)) h3
      · subst e; exact h2.only k2
      · exact absurd (k2.only (h1 j e)) k3
  · exact absurd hO (kO _ _ _)
  · exact absurd kO (hO _ _ _)
  · exact h.only k

/-- Get of any bytes: the code that they have. -/
theorem get9_code (bs : List Nat) (L : Nat) (hL : L = bs.length) (hL2 : L ≤ 1000000) (hb : ∀ x ∈ bs, x < 256) (a : Option Addr) (cap : Nat) (w : World) (hS : Sl w 1 (.slice a L cap) L (u8s bs)) :
    Calls Try.prog 19 #[.slice a L cap] w fun e w' => ∃ (c : Int) (W H : Nat) (v : Value) (cell : Nat) (ox oy : Int), e = .returned (.tuple #[cv W H v cell ox oy, .int .i64 c]) ∧ GetC bs c ∧ (c = 0 → ∃ W H cell, Opens bs W H cell) ∧ (∃ a n cap, v = .slice a n cap) ∧ Below w.heap.size w w' := by
  by_cases hO : ∃ W H cell, Opens bs W H cell
  · obtain ⟨W, H, cell, hO⟩ := hO
    refine (get9_by bs W H cell L hO hL hL2 hb (fun i _ => ∀ j, j < i → TileAtC bs W H j 0) (fun i _ c => TileC (side W (i % cnt W)) (side W (i % cnt W) * side H (i / cnt W)) ((tb bs W H i).take ((tb bs W H i).length - 4)) c) ?_ ?_ ?_ a cap w hS).mono ?_
    · intro i hi _ a' cap' k wx hk hs
      obtain ⟨hX, hY, _⟩ := tile_xy W H i hi
      have p1 := (side_pos W _).2 hX
      have p2 := (side_pos H _).2 hY
      have s1 := side_le W (i % cnt W)
      have s2 := side_le H (i / cnt W)
      have hl := tb_length hO i hi
      have hr := rd_lt2 bs (18 + 6 * i + 4) hb
      have hkl : ((tb bs W H i).take k).length = k := by rw [List.length_take]; omega
      rw [← hk]
      refine tget_code _ _ _ (isT_of (by omega)) rfl _ ((tb bs W H i).take k) (by omega) (fun x hx => hb x (List.mem_of_mem_drop (List.mem_of_mem_take (List.mem_of_mem_take hx)))) wx ?_
      rw [hkl]
      exact hs
    · intro j hj; omega
    · intro i G zs hi _ hP hok hR _ j hj
      by_cases e : j = i
      · subst e; exact .inr ⟨hok, hR⟩
      · exact hP j (by omega)
    · rintro e w' (⟨G, v, hP, _, he, ho, hB⟩ | ⟨i, c, zs, G, hi, hc', hP, hR, he, hB⟩)
      · obtain ⟨a', cap', hv, _, _⟩ := ownsRow_slice ho
        exact ⟨0, W, H, v, cell, _, _, he, .inl ⟨W, H, cell, hO, .inl ⟨rfl, hP⟩⟩, fun _ => ⟨W, H, cell, hO⟩, ⟨a', _, cap', hv⟩, hB⟩
      · exact ⟨c, 0, 0, _, 0, 0, 0, he, .inl ⟨W, H, cell, hO, .inr ⟨i, hi, hP, hR, hc'⟩⟩, fun _ => ⟨W, H, cell, hO⟩, ⟨none, 0, 0, rfl⟩, hB⟩
  · have hO' : ∀ W H cell, ¬ Opens bs W H cell := fun W H cell h => hO ⟨W, H, cell, h⟩
    refine (get9_no (fun c => OpenC bs c) 1 L cap a w (by decide) (fun wx hB => (open9_any L bs a cap hL (by omega) hb wx (hS.below hB)).mono ?_)).mono ?_
    · rintro e w' (⟨W', H', cell', va, vs, h, _⟩ | ⟨_, c, hc, h2, he, hB'⟩)
      · exact absurd h (hO' _ _ _)
      · exact ⟨c, hc, h2, he, hB'⟩
    · rintro e w' ⟨c, hc, h2, he, hB⟩
      exact ⟨c, 0, 0, _, 0, 0, 0, he, .inr ⟨hO', h2⟩, fun h => absurd h hc, ⟨none, 0, 0, rfl⟩, hB⟩
end Go.Proofs.Ytiflbbpliioblaa
