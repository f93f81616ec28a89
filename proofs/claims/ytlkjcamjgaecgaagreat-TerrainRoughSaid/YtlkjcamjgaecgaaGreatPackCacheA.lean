/-
  Texts in one: CacheSpec, ChartF, CacheA, CacheB, CacheC, CacheD, CacheE, CacheG.
-/
import Derived.Test.YtlkjcamjgaecgaaGreatPackChartA
import Derived.Test.YtlkjcamjgaecgaaGreatPackChartB
import Derived.Test.YtlkjcamjgaecgaaGreatPackTile
import Derived.Deep.QuietTactic
import Derived.BigQuiet
set_option linter.unusedVariables false
set_option linter.unusedSimpArgs false

/-
  Tiles at hand, as they were used; a height of a field, and where it lies in its tile: plain.
-/
namespace Go.Proofs.YtlkjcamjgaecgaaGreat
open Go.RowKit Go.Th Go.Th.Crc

/-- A tile is used: it comes first, and of the others as many stay as there is room for. -/
def useL (room : Nat) (L : List Nat) (n : Nat) : List Nat := (n :: L.filter (fun m => !(m == n))).take room
theorem useL_length (room : Nat) (L : List Nat) (n : Nat) : (useL room L n).length ≤ room := by
  unfold useL; rw [List.length_take]; exact Nat.min_le_left _ _
theorem useL_head (room : Nat) (L : List Nat) (n : Nat) (h : 0 < room) : ∃ R, useL room L n = n :: R := by
  obtain ⟨k, rfl⟩ : ∃ k, room = k + 1 := ⟨room - 1, by omega⟩
  exact ⟨_, by unfold useL; rw [List.take_succ_cons]⟩
theorem useL_nodup (room : Nat) (L : List Nat) (n : Nat) (h : L.Nodup) : (useL room L n).Nodup := by
  unfold useL
  refine List.Sublist.nodup (List.take_sublist _ _) (List.nodup_cons.2 ⟨?_, List.Sublist.nodup List.filter_sublist h⟩)
  intro hm
  have := (List.mem_filter.1 hm).2
  simp at this
theorem useL_mem (room : Nat) (L : List Nat) (n k : Nat) (h : k ∈ useL room L n) : k = n ∨ k ∈ L := by
  have h1 := List.mem_of_mem_take h
  rcases List.mem_cons.1 h1 with h2 | h2
  · exact .inl h2
  · exact .inr (List.mem_filter.1 h2).1
/-- One that is at hand: nobody goes. -/
theorem filter_out (L : List Nat) (n : Nat) (hn : L.Nodup) (hm : n ∈ L) : (L.filter (fun m => !(m == n))).length + 1 = L.length := by
  induction L with
  | nil => cases hm
  | cons a r ih =>
    obtain ⟨h1, h2⟩ := List.nodup_cons.1 hn
    by_cases e : a = n
    · subst e
      have : r.filter (fun m => !(m == a)) = r := List.filter_eq_self.2 fun x hx => by
        have : x ≠ a := fun h => h1 (h ▸ hx)
        simpa using this
      rw [List.filter_cons_of_neg (by simp), this, List.length_cons]
    · have hm' : n ∈ r := by
        rcases List.mem_cons.1 hm with h | h
        · exact absurd h.symm e
        · exact h
      rw [List.filter_cons_of_pos (by simpa using e), List.length_cons, List.length_cons, ih h2 hm']
/-- One that is not at hand: all others stay ahead of the cut. -/
theorem filter_none (L : List Nat) (n : Nat) (hm : n ∉ L) : L.filter (fun m => !(m == n)) = L := List.filter_eq_self.2 fun x hx => by
  have : x ≠ n := fun h => hm (h ▸ hx)
  simpa using this

theorem getD_mid (l : List Int) (a w c : Nat) (h : c < w) : ((l.drop a).take w).getD c 0 = l.getD (a + c) 0 := by
  simp only [List.getD, List.getElem?_take, h, if_true, List.getElem?_drop]
/-- The height of a column and a row, in its tile. -/
theorem tile_height (F : List Int) (W H x y : Nat) (hF : F.length = W * H) (hx : x < W) (hy : y < H) :
    y / 16 * cnt W + x / 16 < nT W H ∧ (tileAt F W H (y / 16 * cnt W + x / 16)).getD (y % 16 * side W (x / 16) + x % 16) 0 = F.getD (y * W + x) 0 := by
  obtain ⟨X, hX⟩ : ∃ X, X = x / 16 := ⟨_, rfl⟩
  obtain ⟨Y, hY⟩ : ∃ Y, Y = y / 16 := ⟨_, rfl⟩
  have hXc : X < cnt W := by have := cnt_ge W; omega
  have hYc : Y < cnt H := by have := cnt_ge H; omega
  rw [← hX, ← hY]
  have hlt : Y * cnt W + X < nT W H := by
    have := Nat.mul_le_mul_right (cnt W) (Nat.succ_le_of_lt hYc)
    rw [Nat.succ_mul, Nat.mul_comm (cnt H)] at this
    unfold nT; omega
  have e1 : (Y * cnt W + X) % cnt W = X := by rw [Nat.mul_comm, Nat.mul_add_mod]; exact Nat.mod_eq_of_lt hXc
  have e2 : (Y * cnt W + X) / cnt W = Y := by rw [Nat.mul_comm, Nat.mul_add_div (by omega), Nat.div_eq_of_lt hXc]; rfl
  refine ⟨hlt, ?_⟩
  unfold tileAt
  rw [e1, e2]
  have f1 := side_fits W X hXc
  have f2 := side_fits H Y hYc
  have g1 := side_min W X hXc
  have g2 := side_min H Y hYc
  have hc : x % 16 < side W X := by omega
  have hr : y % 16 < side H Y := by omega
  have key := tileTo_row F W H (16 * X) (16 * Y) (side W X) (side H Y) (y % 16) hF f1 f2 hr
  have k2 := congrArg (fun l => l.getD (x % 16) 0) key
  simp only [getD_mid _ _ _ _ hc] at k2
  rw [k2, show 16 * Y + y % 16 = y by omega, Nat.add_assoc, show 16 * X + x % 16 = x by omega]
end Go.Proofs.YtlkjcamjgaecgaaGreat

/-
  Which code Get tells of any bytes: one alone.
-/
namespace Go.Proofs.YtlkjcamjgaecgaaGreat
open Go Go.RowKit Go.Th Go.Th.Crc

/-- Bytes that are a row of so many numbers. -/
def IsRow9 (bs : List Nat) (n : Nat) : Prop := ∃ m : List Int, m.length = n ∧ (∀ u ∈ m, Rm u) ∧ bs = pack (row m)
/-- Which code a tile's bytes have. -/
def TileC (x n : Nat) (bs : List Nat) (c : Int) : Prop :=
  (¬ IsRow9 bs n ∧ c = 3) ∨ (∃ h : IsRow9 bs n, ((∀ u ∈ raise x h.choose n, In16 u) ∧ c = 0) ∨ (¬ (∀ u ∈ raise x h.choose n, In16 u) ∧ c = 2))
theorem TileC.only {x n : Nat} {bs : List Nat} {c d : Int} (h : TileC x n bs c) (k : TileC x n bs d) : c = d := by
  rcases h with ⟨h1, rfl⟩ | ⟨h1, ⟨h2, rfl⟩ | ⟨h2, rfl⟩⟩ <;> rcases k with ⟨k1, rfl⟩ | ⟨k1, ⟨k2, rfl⟩ | ⟨k2, rfl⟩⟩
  all_goals first
    | rfl
    | exact absurd k1 h1
    | exact absurd h1 k1
    | exact absurd k2 h2
    | exact absurd h2 k2
theorem tget_code (x y n : Nat) (hT : isT x y = true) (hn : n = x * y) (v : Value) (bs : List Nat) (hl : bs.length ≤ 1000000) (hb : ∀ u ∈ bs, u < 256) (w : World) (hS : Sl w 1 v bs.length (u8s bs)) :
    Calls Tryz.prog 105 #[.int .i64 x, .int .i64 y, v] w (TAns (fun _ c => TileC x n bs c) n w) := by
  by_cases H : IsRow9 bs n
  · obtain ⟨hm, hr, he⟩ := H.choose_spec
    rw [he] at hS
    refine (tget_row x y n hT hn v H.choose hm hr w hS).mono ?_
    rintro e w' (⟨h16, v', he', ho, hB⟩ | ⟨h16, he', hB⟩)
    · obtain ⟨a, cap, hv, _, _⟩ := ownsRow_slice ho
      exact ⟨_, 0, v', he', .inr ⟨H, .inl ⟨h16, rfl⟩⟩, ⟨a, _, cap, hv⟩, fun _ => ⟨raise_length x _ n, ho⟩, hB⟩
    · exact ⟨[], 2, _, he', .inr ⟨H, .inr ⟨h16, rfl⟩⟩, ⟨none, 0, 0, rfl⟩, fun h => by omega, hB⟩
  · refine (tget_no x y n hT hn v bs hl hb w hS (fun m h1 h2 h3 => H ⟨m, h1, h2, h3⟩)).mono ?_
    rintro e w' ⟨he', hB⟩
    exact ⟨[], 3, _, he', .inl ⟨H, rfl⟩, ⟨none, 0, 0, rfl⟩, fun h => by omega, hB⟩

/-- Which code the i-th tile has. -/
def TileAtC (bs : List Nat) (W H i : Nat) (c : Int) : Prop :=
  (okB (tb bs W H i) = false ∧ c = 4) ∨ (okB (tb bs W H i) = true ∧ TileC (side W (i % cnt W)) (side W (i % cnt W) * side H (i / cnt W)) ((tb bs W H i).take ((tb bs W H i).length - 4)) c)
theorem TileAtC.only {bs : List Nat} {W H i : Nat} {c d : Int} (h : TileAtC bs W H i c) (k : TileAtC bs W H i d) : c = d := by
  rcases h with ⟨h1, rfl⟩ | ⟨h1, h2⟩ <;> rcases k with ⟨k1, rfl⟩ | ⟨k1, k2⟩
  · rfl
  · rw [h1] at k1; cases k1
  · rw [h1] at k1; cases k1
  · exact h2.only k2
/-- Which code bytes have, as a map. -/
def GetC (bs : List Nat) (c : Int) : Prop :=
  (∃ W H cell, Opens bs W H cell ∧ ((c = 0 ∧ ∀ j, j < nT W H → TileAtC bs W H j 0) ∨ (∃ i, i < nT W H ∧ (∀ j, j < i → TileAtC bs W H j 0) ∧ TileAtC bs W H i c ∧ c ≠ 0))) ∨
  ((∀ W H cell, ¬ Opens bs W H cell) ∧ OpenC bs c)
theorem GetC.only {bs : List Nat} {c d : Int} (h : GetC bs c) (k : GetC bs d) : c = d := by
  rcases h with ⟨W, H, cell, hO, h⟩ | ⟨hO, h⟩ <;> rcases k with ⟨W', H', cell', kO, k⟩ | ⟨kO, k⟩
  · obtain ⟨rfl, rfl, rfl⟩ := hO.only kO
    rcases h with ⟨rfl, h⟩ | ⟨i, hi, h1, h2, h3⟩ <;> rcases k with ⟨rfl, k⟩ | ⟨j, hj, k1, k2, k3⟩
    · rfl
    · exact absurd (k2.only (h j hj)) k3
    · exact absurd (h2.only (k i hi)) h3
    · rcases Nat.lt_trichotomy i j with e | e | e
      · exact absurd (h2.only (k1 i e)) h3
      · subst e; exact h2.only k2
      · exact absurd (k2.only (h1 j e)) k3
  · exact absurd hO (kO _ _ _)
  · exact absurd kO (hO _ _ _)
  · exact h.only k

/-- Get of any bytes: the code that they have. -/
theorem get9_code (bs : List Nat) (L : Nat) (hL : L = bs.length) (hL2 : L ≤ 1000000) (hb : ∀ x ∈ bs, x < 256) (a : Option Addr) (cap : Nat) (w : World) (hS : Sl w 1 (.slice a L cap) L (u8s bs)) :
    Calls Tryz.prog 51 #[.slice a L cap] w fun e w' => ∃ (c : Int) (W H : Nat) (v : Value) (cell : Nat) (ox oy : Int), e = .returned (.tuple #[cv W H v cell ox oy, .int .i64 c]) ∧ GetC bs c ∧ (c = 0 → ∃ W H cell, Opens bs W H cell) ∧ (∃ a n cap, v = .slice a n cap) ∧ Below w.heap.size w w' := by
  by_cases hO : ∃ W H cell, Opens bs W H cell
  · obtain ⟨W, H, cell, hO⟩ := hO
    refine (get9_by bs W H cell L hO hL hL2 hb (fun i _ => ∀ j, j < i → TileAtC bs W H j 0) (fun i _ c => TileC (side W (i % cnt W)) (side W (i % cnt W) * side H (i / cnt W)) ((tb bs W H i).take ((tb bs W H i).length - 4)) c) ?_ ?_ ?_ a cap w hS).mono ?_
    · intro i hi _ a' cap' k wx hk hs
      obtain ⟨hX, hY, _⟩ := tile_xy W H i hi
      have p1 := (side_pos W _).2 hX
      have p2 := (side_pos H _).2 hY
      have s1 := side_le W (i % cnt W)
      have s2 := side_le H (i / cnt W)
      have hl := tb_length hO i hi
      have hr := rd_lt2 bs (18 + 6 * i + 4) hb
      have hkl : ((tb bs W H i).take k).length = k := by rw [List.length_take]; omega
      rw [← hk]
      refine tget_code _ _ _ (isT_of (by omega)) rfl _ ((tb bs W H i).take k) (by omega) (fun x hx => hb x (List.mem_of_mem_drop (List.mem_of_mem_take (List.mem_of_mem_take hx)))) wx ?_
      rw [hkl]
      exact hs
    · intro j hj; omega
    · intro i G zs hi _ hP hok hR _ j hj
      by_cases e : j = i
      · subst e; exact .inr ⟨hok, hR⟩
      · exact hP j (by omega)
    · rintro e w' (⟨G, v, hP, _, he, ho, hB⟩ | ⟨i, c, zs, G, hi, hc', hP, hR, he, hB⟩)
      · obtain ⟨a', cap', hv, _, _⟩ := ownsRow_slice ho
        exact ⟨0, W, H, v, cell, _, _, he, .inl ⟨W, H, cell, hO, .inl ⟨rfl, hP⟩⟩, fun _ => ⟨W, H, cell, hO⟩, ⟨a', _, cap', hv⟩, hB⟩
      · exact ⟨c, 0, 0, _, 0, 0, 0, he, .inl ⟨W, H, cell, hO, .inr ⟨i, hi, hP, hR, hc'⟩⟩, fun _ => ⟨W, H, cell, hO⟩, ⟨none, 0, 0, rfl⟩, hB⟩
  · have hO' : ∀ W H cell, ¬ Opens bs W H cell := fun W H cell h => hO ⟨W, H, cell, h⟩
    refine (get9_no (fun c => OpenC bs c) 1 L cap a w (by decide) (fun wx hB => (open9_any L bs a cap hL (by omega) hb wx (hS.below hB)).mono ?_)).mono ?_
    · rintro e w' (⟨W', H', cell', va, vs, h, _⟩ | ⟨_, c, hc, h2, he, hB'⟩)
      · exact absurd h (hO' _ _ _)
      · exact ⟨c, hc, h2, he, hB'⟩
    · rintro e w' ⟨c, hc, h2, he, hB⟩
      exact ⟨c, 0, 0, _, 0, 0, 0, he, .inr ⟨hO', h2⟩, fun h => absurd h hc, ⟨none, 0, 0, rfl⟩, hB⟩
end Go.Proofs.YtlkjcamjgaecgaaGreat

/-
  A cache's memory: its cells; where a tile stands, where another may stand: the code's.
-/
namespace Go.Proofs.YtlkjcamjgaecgaaGreat
open Go Go.RowKit Go.Th

/-- The cells of tiles: each its place, and its heights. -/
def tcs : List (Nat × Value) → List Value
  | [] => []
  | p :: r => .int .i64 (p.1 : Int) :: p.2 :: tcs r
theorem tcs_length : ∀ T : List (Nat × Value), (tcs T).length = 2 * T.length
  | [] => rfl
  | p :: r => by rw [tcs, List.length_cons, List.length_cons, List.length_cons, tcs_length r]; omega
theorem tcs_append : ∀ A B : List (Nat × Value), tcs (A ++ B) = tcs A ++ tcs B
  | [], _ => rfl
  | p :: r, B => by rw [List.cons_append, tcs, tcs, tcs_append r B, List.cons_append, List.cons_append]
theorem tcs_take : ∀ (T : List (Nat × Value)) (k : Nat), (tcs T).take (2 * k) = tcs (T.take k)
  | [], k => by simp [tcs]
  | p :: r, 0 => by simp [tcs]
  | p :: r, k + 1 => by rw [show 2 * (k + 1) = 2 * k + 1 + 1 by omega, tcs, List.take_succ_cons, List.take_succ_cons, List.take_succ_cons, tcs, tcs_take r k]
theorem tcs_drop : ∀ (T : List (Nat × Value)) (k : Nat), (tcs T).drop (2 * k) = tcs (T.drop k)
  | [], k => by simp [tcs]
  | p :: r, 0 => by simp [tcs]
  | p :: r, k + 1 => by rw [show 2 * (k + 1) = 2 * k + 1 + 1 by omega, tcs, List.drop_succ_cons, List.drop_succ_cons, List.drop_succ_cons, tcs_drop r k]
def pl (T : List (Nat × Value)) (i : Nat) : Nat := (T.getD i (0, .slice none 0 0)).1
def pz (T : List (Nat × Value)) (i : Nat) : Value := (T.getD i (0, .slice none 0 0)).2
theorem tcs_fst : ∀ (T : List (Nat × Value)) (i : Nat), i < T.length → (tcs T)[2 * i]? = some (.int .i64 (pl T i : Nat))
  | [], i, h => by simp at h
  | p :: r, 0, _ => by simp [tcs, pl]
  | p :: r, i + 1, h => by
    have := tcs_fst r i (by simpa using h)
    rw [show 2 * (i + 1) = 2 * i + 1 + 1 by omega, tcs, List.getElem?_cons_succ, List.getElem?_cons_succ, this]
    rfl
theorem tcs_snd : ∀ (T : List (Nat × Value)) (i : Nat), i < T.length → (tcs T)[2 * i + 1]? = some (pz T i)
  | [], i, h => by simp at h
  | p :: r, 0, _ => by simp [tcs, pz]
  | p :: r, i + 1, h => by
    have := tcs_snd r i (by simpa using h)
    rw [show 2 * (i + 1) + 1 = 2 * i + 1 + 1 + 1 by omega, tcs, List.getElem?_cons_succ, List.getElem?_cons_succ, this]
    rfl
theorem tcs_set : ∀ (T : List (Nat × Value)) (i : Nat) (p : Nat × Value), ((tcs T).set (2 * i) (.int .i64 (p.1 : Nat))).set (2 * i + 1) p.2 = tcs (T.set i p)
  | [], i, p => by simp [tcs]
  | q :: r, 0, p => by simp [tcs]
  | q :: r, i + 1, p => by
    have := tcs_set r i p
    rw [show 2 * (i + 1) = 2 * i + 1 + 1 by omega, tcs, List.set_cons_succ, List.set_cons_succ, List.set_cons_succ, List.set_cons_succ, this]
    rfl
theorem pl_mem (T : List (Nat × Value)) (i : Nat) (h : i < T.length) : T[i]? = some (pl T i, pz T i) := by
  rw [List.getElem?_eq_getElem h]
  simp [pl, pz, List.getD, List.getElem?_eq_getElem h]

theorem mid_set64 (h L E : List Value) (j k : Nat) (x : Value) (hh : h.length = 10) (hL : L.length = 64) (hk : k < 64) (hj : j = 10 + k) : (h ++ (L ++ E)).set j x = h ++ (L.set k x ++ E) := by
  subst hj
  rw [List.set_append_right _ _ (by omega), List.set_append_left _ _ (by omega), hh, Nat.add_sub_cancel_left]
/-- A cache's cells: bytes, directory and room; the tiles; how many are at hand, how often one was, and was not. -/
def cc (h : List Value) (T : List (Nat × Value)) (c m s : Nat) : List Value := h ++ (tcs T ++ [.int .i64 (c : Int), .int .i64 (m : Int), .int .i64 (s : Int)])
structure CK (w : World) (g : Nat) (h : List Value) (T : List (Nat × Value)) (c m s : Nat) : Prop where
  blk : Blk w g 108 (cc h T c m s)
  hl : h.length = 10
  tl : T.length = 32
  one : ∀ p ∈ T, ∃ a n cap, p.2 = .slice a n cap
section
variable {w w' : World} {g : Nat} {h : List Value} {T : List (Nat × Value)} {c m s : Nat}
theorem CK.len (K : CK w g h T c m s) : (cc h T c m s).length = 77 := by
  unfold cc
  rw [List.length_append, List.length_append, tcs_length, K.hl, K.tl]; rfl
theorem CK.lt (K : CK w g h T c m s) : g < w.heap.size := K.blk.lt
theorem CK.head (K : CK w g h T c m s) {i : Nat} {u : Value} (hi : h[i]? = some u) : w.cell? ⟨g, i, none⟩ = some u := by
  refine K.blk.cell ?_
  have : i < h.length := (List.getElem?_eq_some_iff.1 hi).1
  unfold cc
  rw [List.getElem?_append_left this, hi]
theorem CK.end (K : CK w g h T c m s) (i : Nat) : (cc h T c m s)[74 + i]? = [Value.int .i64 (c : Int), .int .i64 (m : Int), .int .i64 (s : Int)][i]? := by
  unfold cc
  rw [List.getElem?_append_right (by rw [K.hl]; omega), List.getElem?_append_right (by rw [K.hl, tcs_length, K.tl]; omega), K.hl, tcs_length, K.tl]
  congr 1
  omega
theorem CK.cnt (K : CK w g h T c m s) : w.cell? ⟨g, 74, none⟩ = some (.int .i64 (c : Int)) := K.blk.cell (by rw [show 74 = 74 + 0 from rfl, K.end]; rfl)
theorem CK.met (K : CK w g h T c m s) : w.cell? ⟨g, 75, none⟩ = some (.int .i64 (m : Int)) := K.blk.cell (by rw [show 75 = 74 + 1 from rfl, K.end]; rfl)
theorem CK.mis (K : CK w g h T c m s) : w.cell? ⟨g, 76, none⟩ = some (.int .i64 (s : Int)) := K.blk.cell (by rw [show 76 = 74 + 2 from rfl, K.end]; rfl)
theorem CK.mid (K : CK w g h T c m s) (k : Nat) (hk : k < 64) : (cc h T c m s)[10 + k]? = (tcs T)[k]? := by
  unfold cc
  rw [List.getElem?_append_right (by rw [K.hl]; omega), K.hl, Nat.add_sub_cancel_left, List.getElem?_append_left (by rw [tcs_length, K.tl]; exact hk)]
theorem CK.place (K : CK w g h T c m s) (i : Nat) (hi : i < 32) : w.cell? ⟨g, 10 + i * 2, none⟩ = some (.int .i64 (pl T i : Nat)) :=
  K.blk.cell (by rw [K.mid _ (by omega), Nat.mul_comm, tcs_fst T i (by rw [K.tl]; exact hi)])
theorem CK.z (K : CK w g h T c m s) (i : Nat) (hi : i < 32) : w.cell? ⟨g, 10 + i * 2 + 1, none⟩ = some (pz T i) :=
  K.blk.cell (by rw [Nat.add_assoc, K.mid _ (by omega), Nat.mul_comm, tcs_snd T i (by rw [K.tl]; exact hi)])
theorem CK.free (K : CK w g h T c m s) (i : Nat) : w.frozen? ⟨g, i, none⟩ = false := K.blk.free i
theorem CK.turned {S : Nat → Prop} (K : CK w g h T c m s) (ht : Turned S w w') (hs : ¬ S g) : CK w' g h T c m s := ⟨K.blk.turned ht hs, K.hl, K.tl, K.one⟩
theorem CK.below (K : CK w g h T c m s) (hb : Below w.heap.size w w') : CK w' g h T c m s := ⟨K.blk.below hb K.lt, K.hl, K.tl, K.one⟩
theorem CK.drew (K : CK w g h T c m s) : CK w.drew g h T c m s := ⟨K.blk.drew, K.hl, K.tl, K.one⟩
theorem CK.drewN (K : CK w g h T c m s) (n : Nat) : CK (w.drewN n) g h T c m s := ⟨K.blk.drewN n, K.hl, K.tl, K.one⟩
theorem CK.setEnd (K : CK w g h T c m s) (i : Nat) (u : Value) : (cc h T c m s).set (74 + i) u = h ++ (tcs T ++ [Value.int .i64 (c : Int), .int .i64 (m : Int), .int .i64 (s : Int)].set i u) := by
  unfold cc
  rw [List.set_append_right _ _ (by rw [K.hl]; omega), List.set_append_right _ _ (by rw [K.hl, tcs_length, K.tl]; omega), K.hl, tcs_length, K.tl]
  congr 3
  omega
theorem CK.setC (K : CK w g h T c m s) (c' : Nat) : CK (w.setCell ⟨g, 74, none⟩ (.int .i64 (c' : Int))) g h T c' m s :=
  ⟨by have := K.blk.set 74 (.int .i64 (c' : Int)) (by rw [K.len]; omega); rw [show 74 = 74 + 0 from rfl, K.setEnd] at this; exact this, K.hl, K.tl, K.one⟩
theorem CK.setM (K : CK w g h T c m s) (m' : Nat) : CK (w.setCell ⟨g, 75, none⟩ (.int .i64 (m' : Int))) g h T c m' s :=
  ⟨by have := K.blk.set 75 (.int .i64 (m' : Int)) (by rw [K.len]; omega); rw [show 75 = 74 + 1 from rfl, K.setEnd] at this; exact this, K.hl, K.tl, K.one⟩
theorem CK.setS (K : CK w g h T c m s) (s' : Nat) : CK (w.setCell ⟨g, 76, none⟩ (.int .i64 (s' : Int))) g h T c m s' :=
  ⟨by have := K.blk.set 76 (.int .i64 (s' : Int)) (by rw [K.len]; omega); rw [show 76 = 74 + 2 from rfl, K.setEnd] at this; exact this, K.hl, K.tl, K.one⟩
theorem CK.setT (K : CK w g h T c m s) (i : Nat) (hi : i < 32) (p : Nat) (z : Value) (hz : ∃ a n cap, z = .slice a n cap) : CK ((w.setCell ⟨g, 10 + i * 2, none⟩ (.int .i64 (p : Int))).setCell ⟨g, 10 + i * 2 + 1, none⟩ z) g h (T.set i (p, z)) c m s := by
  have h1 := K.blk.set (10 + i * 2) (.int .i64 (p : Int)) (by rw [K.len]; omega)
  have h2 := h1.set (10 + i * 2 + 1) z (by rw [List.length_set, K.len]; omega)
  refine ⟨?_, K.hl, by rw [List.length_set, K.tl], fun q hq => by
    rcases List.mem_or_eq_of_mem_set hq with h | rfl
    · exact K.one q h
    · exact hz⟩
  have e : ((cc h T c m s).set (10 + i * 2) (.int .i64 (p : Int))).set (10 + i * 2 + 1) z = cc h (T.set i (p, z)) c m s := by
    unfold cc
    rw [mid_set64 _ _ _ _ (2 * i) _ K.hl (by rw [tcs_length, K.tl]) (by omega) (by omega), mid_set64 _ _ _ _ (2 * i + 1) _ K.hl (by rw [List.length_set, tcs_length, K.tl]) (by omega) (by omega), tcs_set T i (p, z)]
  rw [e] at h2
  exact h2
end

set_option maxRecDepth 20000 in
theorem find_any (g : Nat) (h : List Value) (T : List (Nat × Value)) (c m s n : Nat) (hc : c ≤ 32) (w : World) (K : CK w g h T c m s) :
    Calls Tryz.prog 109 #[.pointer (some ⟨g, 0, none⟩), .int .i64 n] w fun e w' => w' = w ∧
      ((∃ i, i < c ∧ pl T i = n ∧ (∀ j, j < i → pl T j ≠ n) ∧ e = .returned (.tuple #[.int .i64 i, .bool true])) ∨ ((∀ j, j < c → pl T j ≠ n) ∧ e = .returned (.tuple #[.int .i64 0, .bool false]))) := by
  have c74 := K.cnt
  go_enter Tryz.func109, Tryz.ntmps109
  go_wp2_with fail
  go_loopw [11] (fun v wx => ∃ i : Nat, i ≤ c ∧ v = .int .i64 i ∧ wx = w ∧ ∀ j, j < i → pl T j ≠ n) (fun v _ => c - (intOf v).toNat)
  case atStart => exact ⟨0, Nat.zero_le _, rfl, rfl, fun j hj => by omega⟩
  case round =>
    obtain ⟨i, hi, rfl, rfl, hno⟩ := hrel
    have HNO := Lib.hid hno
    clear hno
    by_cases hlt : i < c
    · have hp := K.place i (by omega)
      have hi32 : i < 32 := by omega
      obtain ⟨p, hpe⟩ : ∃ p, p = pl T i := ⟨_, rfl⟩
      rw [← hpe] at hp
      by_cases hpn : p = n
      · subst hpn
        have HPE := Lib.hid hpe
        clear hpe
        go_wp2_with fail
        go_ret2
        exact ⟨by trivial, .inl ⟨i, hlt, HPE.out.symm, HNO.out, rfl⟩⟩
      · have hpn' : ¬ ((p : Int) = (n : Int)) := by omega
        have HPE := Lib.hid hpe
        clear hpe
        go_wp2_with fail
        go_roundw
        case rel => exact ⟨i + 1, by omega, by go_num, by trivial, fun j hj => by
          by_cases e : j = i
          · subst e; rw [← HPE.out]; exact hpn
          · exact HNO.out j (by omega)⟩
        case measure => simp [intOf]; omega
    · obtain rfl : i = c := by omega
      go_wp2_with fail
      go_ret2
      exact ⟨by trivial, .inr ⟨HNO.out, rfl⟩⟩
end Go.Proofs.YtlkjcamjgaecgaaGreat

/-
  A cache: where another tile may stand; how often; the map; a tile goes first: the code's.
-/
namespace Go.Proofs.YtlkjcamjgaecgaaGreat
open Go Go.RowKit Go.Th

set_option maxRecDepth 20000 in
theorem free_any (g : Nat) (h : List Value) (T : List (Nat × Value)) (c m s room : Nat) (hr : h[9]? = some (.int .i64 (room : Int))) (hc : c ≤ room) (hr0 : 0 < room) (hr2 : room ≤ 32) (w : World) (K : CK w g h T c m s) :
    Calls Tryz.prog 110 #[.pointer (some ⟨g, 0, none⟩)] w fun e w' => ∃ at_ : Nat, at_ < room ∧ (c < room ∧ at_ = c ∨ c = room ∧ at_ + 1 = c) ∧ e = .returned (.int .i64 at_) ∧ CK w' g h T (at_ + 1) m s ∧ Turned (fun k => k = g) w w' := by
  have c74 := K.cnt
  have c9 := K.head hr
  have f74 := K.free 74
  have HK := Lib.hid K
  clear hr
  by_cases hlt : c < room
  · have hlt' : (c : Int) < (room : Int) := by omega
    go_enter Tryz.func110, Tryz.ntmps110
    go_wp2_with fail
    go_quiet (fail)
    go_wp2_with fail
    go_ret
    exact ⟨c, hlt, .inl ⟨hlt, rfl⟩, rfl, (HK.out.drewN _).setC (c + 1), ((Turned.refl (fun k => k = g) w).drewN _).setCell (.inl rfl) _⟩
  · obtain rfl : c = room := by omega
    obtain ⟨k, rfl⟩ : ∃ k, c = k + 1 := ⟨c - 1, by omega⟩
    go_enter Tryz.func110, Tryz.ntmps110
    go_wp2_with fail
    go_quiet (fail)
    go_wp2_with fail
    go_ret
    exact ⟨k, by omega, .inr ⟨by trivial, rfl⟩, ret_int (by omega), HK.out.drewN _, (Turned.refl (fun k => k = g) w).drewN _⟩

set_option maxRecDepth 20000 in
theorem chart10_any (g : Nat) (h : List Value) (T : List (Nat × Value)) (c m s : Nat) (W H cell : Nat) (ox oy : Int) (h1 : h[1]? = some (.int .i64 (W : Int))) (h2 : h[2]? = some (.int .i64 (H : Int))) (h3 : h[3]? = some (.slice none 0 0)) (h4 : h[4]? = some (.int .i64 (cell : Int))) (h5 : h[5]? = some (.int .i32 ox)) (h6 : h[6]? = some (.int .i32 oy)) (w : World) (K : CK w g h T c m s) :
    Calls Tryz.prog 54 #[.pointer (some ⟨g, 0, none⟩)] w fun e w' => e = .returned (.agg #[.int .i64 W, .int .i64 H, .slice none 0 0, .int .i64 cell, .int .i32 ox, .int .i32 oy]) ∧ Below w.heap.size w w' := by
  have c1 := K.head h1
  have c2 := K.head h2
  have c3 := K.head h3
  have c4 := K.head h4
  have c5 := K.head h5
  have c6 := K.head h6
  have hg := K.lt
  clear K h1 h2 h3 h4 h5 h6
  go_enter Tryz.func54, Tryz.ntmps54
  go_wp2_with fail
  refine bodyPost_ret (v := cv W H (.slice none 0 0) cell ox oy) (res_blk rfl rfl (Blk.new w 28 [.int .i64 W, .int .i64 H, .slice none 0 0, .int .i64 cell, .int .i32 ox, .int .i32 oy]) Tryz.underlying28 rfl (by kernel_rfl)) rfl ?_
  exact ⟨rfl, (Below.refl _ _).alloc (Nat.le_refl _) _⟩

/-! ### A tile goes first -/
theorem und_helds : Tryz.prog.underlying 194 = some (.slice 105) := Tryz.underlying194
theorem run_copy_two (w : World) (ty : TypeId) (g o1 o2 k d1 d2 : Nat) (t : TypeId) (cs : List Value) (K : Blk w g t cs) (h1 : o1 + 2 * k ≤ cs.length) (h2 : o2 + 2 * k ≤ cs.length) (one : ∀ u ∈ (cs.drop o2).take (2 * k), u.oneCell' = true) :
    (Builtin.copy_ #[194, 194] ty #[.slice (some ⟨g, o1, none⟩) k d1, .slice (some ⟨g, o2, none⟩) k d2]).run Tryz.prog w = .ok (goInt k) (w.setRow g (over cs o1 ((cs.drop o2).take (2 * k))).toArray) := by
  obtain ⟨ys, hys⟩ : ∃ ys, ys = (cs.drop o2).take (2 * k) := ⟨_, rfl⟩
  have hyl : ys.length = k * 2 := by rw [hys, List.length_take, List.length_drop]; omega
  rw [← hys] at one ⊢
  have hsrc : ∀ j v, ys[j]? = some v → w.cell? ((⟨g, o2, none⟩ : Addr).add j) = some v := by
    intro j v hv
    have hj : j < 2 * k := by have := (List.getElem?_eq_some_iff.1 hv).1; omega
    rw [hys, List.getElem?_take, if_pos hj, List.getElem?_drop] at hv
    rw [add_none]
    exact K.cell hv
  have hl := run_loadCells_list (P := Tryz.prog) w ⟨g, o2, none⟩ ys hsrc
  have hst := run_storeCells_at Tryz.prog g o1 t ys 0 cs.toArray w K (by simp; omega) one
  rw [hyl] at hl
  obtain ⟨i, hi, hsz⟩ : ∃ i, Tryz.prog.info? 105 = some i ∧ i.size = 2 := by
    have h : (Tryz.prog.info? 105).map (·.size) = some 2 := by kernel_rfl
    cases hq : Tryz.prog.info? 105 with
    | none => rw [hq] at h; cases h
    | some i => exact ⟨i, rfl, by rw [hq] at h; simpa using h⟩
  simp [Builtin.copy_, run_underlying und_helds, Builtin.lenOf, Builtin.firstCells, sizeOf, typeInfo, hi, hsz, hl, hst, over, splice]

theorem wp_copy_two {w : World} {o : Oper} {b : Act} {Kk : Act → World → Prop} {Q : Exit → Act → World → Prop} (d s : Operand)
    (ho : o.op = .call { callee := .builtin .copy, args := #[d, s], argTypes := #[194, 194] }) {g o1 o2 k d1 d2 : Nat} {t : TypeId} {cs : List Value}
    (hd : b.eval d = .slice (some ⟨g, o1, none⟩) k d1) (hs : b.eval s = .slice (some ⟨g, o2, none⟩) k d2) (K : Blk w g t cs) (h1 : o1 + 2 * k ≤ cs.length) (h2 : o2 + 2 * k ≤ cs.length) (one : ∀ u ∈ (cs.drop o2).take (2 * k), u.oneCell' = true)
    (h : Kk (b.put o.dst (goInt k)) (w.setRow g (over cs o1 ((cs.drop o2).take (2 * k))).toArray)) : o.wp Tryz.prog b w Kk Q := by
  have hr := run_copy_two w o.type g o1 o2 k d1 d2 t cs K h1 h2 one
  unfold Oper.wp
  simp [execOp, ho, resolve, invoke, builtin, hd, hs, hr, Result.andThen]
  exact h

theorem mem_tcs {T : List (Nat × Value)} (h : ∀ p ∈ T, ∃ a n cap, p.2 = .slice a n cap) : ∀ u ∈ tcs T, u.oneCell' = true := by
  induction T with
  | nil => intro u hu; cases hu
  | cons p r ih =>
    intro u hu
    rw [tcs] at hu
    rcases List.mem_cons.1 hu with rfl | hu
    · rfl
    · rcases List.mem_cons.1 hu with rfl | hu
      · obtain ⟨a, n, cap, e⟩ := h p List.mem_cons_self
        rw [e]; rfl
      · exact ih (fun q hq => h q (List.mem_cons_of_mem _ hq)) u hu
theorem cc_drop {h : List Value} {T : List (Nat × Value)} {c m s : Nat} (hl : h.length = 10) (tl : T.length = 32) (k : Nat) (hk : k ≤ 32) : ((cc h T c m s).drop 10).take (2 * k) = tcs (T.take k) := by
  unfold cc
  rw [List.drop_append_of_le_length (by omega), List.drop_of_length_le (by omega), List.nil_append, List.take_append_of_le_length (by rw [tcs_length]; omega), tcs_take]
theorem cc_copy {h : List Value} {T : List (Nat × Value)} {c m s : Nat} (hl : h.length = 10) (tl : T.length = 32) (k : Nat) (hk : k < 32) :
    over (cc h T c m s) 12 (((cc h T c m s).drop 10).take (2 * k)) = cc h (T.take 1 ++ (T.take k ++ T.drop (k + 1))) c m s := by
  rw [cc_drop hl tl k (by omega)]
  unfold over splice cc
  have e1 : (tcs (T.take k)).length = 2 * k := by rw [tcs_length, List.length_take]; omega
  rw [e1, List.take_append, List.take_of_length_le (by omega), hl, List.take_append_of_le_length (by rw [tcs_length]; omega), show 12 - 10 = 2 * 1 by rfl, tcs_take, List.drop_append, List.drop_of_length_le (by omega), hl,
    List.nil_append, List.drop_append_of_le_length (by rw [tcs_length]; omega), show 12 + 2 * k - 10 = 2 * (k + 1) by omega, tcs_drop]
  simp only [tcs_append, List.append_assoc]

/-- The tiles with one of them first. -/
def toFront (T : List (Nat × Value)) (k : Nat) : List (Nat × Value) := (pl T k, pz T k) :: (T.take k ++ T.drop (k + 1))
theorem toFront_eq (T : List (Nat × Value)) (k : Nat) (h : 0 < T.length) : (T.take 1 ++ (T.take k ++ T.drop (k + 1))).set 0 (pl T k, pz T k) = toFront T k := by
  cases T with
  | nil => simp at h
  | cons p r => rfl
theorem toFront_length (T : List (Nat × Value)) (k : Nat) (h : k < T.length) : (toFront T k).length = T.length := by
  unfold toFront
  rw [List.length_cons, List.length_append, List.length_take, List.length_drop]; omega

theorem pz_one {w : World} {g : Nat} {h : List Value} {T : List (Nat × Value)} {c m s : Nat} (K : CK w g h T c m s) (k : Nat) (hk : k < 32) : ∃ a n cap, pz T k = .slice a n cap := by
  have := pl_mem T k (by rw [K.tl]; exact hk)
  exact K.one _ (List.mem_of_getElem? this)
theorem CK.copied {w : World} {g : Nat} {h : List Value} {T : List (Nat × Value)} {c m s : Nat} (K : CK w g h T c m s) (k : Nat) (hk : k < 32) :
    CK (w.setRow g (over (cc h T c m s) 12 (((cc h T c m s).drop 10).take (2 * k))).toArray) g h (T.take 1 ++ (T.take k ++ T.drop (k + 1))) c m s := by
  refine ⟨?_, K.hl, ?_, ?_⟩
  · rw [cc_copy K.hl K.tl k hk]; exact K.blk.row _
  · have := K.tl
    rw [List.length_append, List.length_append, List.length_take, List.length_take, List.length_drop]; omega
  · intro p hp
    rcases List.mem_append.1 hp with hp | hp
    · exact K.one p (List.mem_of_mem_take hp)
    · rcases List.mem_append.1 hp with hp | hp
      · exact K.one p (List.mem_of_mem_take hp)
      · exact K.one p (List.mem_of_mem_drop hp)

theorem turned_setRow (w : World) (g : Nat) (ds : Array Value) : Turned (fun k => k = g) w (w.setRow g ds) := ⟨rfl, rfl, rfl, by simp [World.setRow], fun j hj hs => setRow_other w g j _ hs⟩

set_option maxRecDepth 20000 in
set_option maxHeartbeats 1600000 in
theorem first_any (g : Nat) (h : List Value) (T : List (Nat × Value)) (c m s k : Nat) (hk : k < 32) (w : World) (K : CK w g h T c m s) :
    Calls Tryz.prog 112 #[.pointer (some ⟨g, 0, none⟩), .int .i64 k] w fun e w' => e = .returned (pz T k) ∧ CK w' g h (toFront T k) c m s ∧ Turned (fun k => k = g) w w' := by
  obtain ⟨az, nz, cz, hze⟩ := pz_one K k hk
  have hp := K.place k hk
  have hz := K.z k hk
  obtain ⟨p, hpe⟩ : ∃ p, p = pl T k := ⟨_, rfl⟩
  rw [hze] at hz ⊢
  rw [← hpe] at hp
  have hg := K.lt
  have hlen := K.len
  have hin : ∀ u ∈ ((cc h T c m s).drop 10).take (2 * k), u.oneCell' = true := by
    rw [cc_drop K.hl K.tl k (by omega)]
    exact mem_tcs (fun q hq => K.one q (List.mem_of_mem_take hq))
  have HIN := Lib.hid hin
  have HK := Lib.hid K
  have HZ := Lib.hid hze
  have HP := Lib.hid hpe
  have hk1 : IntKind.i64.wrap ((k : Int) + 1) = (k : Int) + 1 := by have := i64_nat (k + 1) (by omega); simpa using this
  have hr1 : ∀ wx : World, (Instr.sliceAt 106 (.pointer (some ⟨g, 10, none⟩)) (some (.int .i64 1)) (some (.int .i64 ((k : Int) + 1))) none).run Tryz.prog wx = .ok (.slice (some ⟨g, 12, none⟩) k 31) wx := by
    intro wx
    have h1 : (1 : Int) ≤ (k : Int) + 1 := by omega
    have hal : Tryz.prog.arrayLen 106 = 32 := by kernel_rfl
    have h2 : (k : Int) + 1 ≤ ((Tryz.prog.arrayLen 106 : Nat) : Int) := by rw [hal]; omega
    have hs : (sizeOf (Tryz.prog.elem 106)).run Tryz.prog wx = .ok 2 wx := by kernel_rfl
    rw [run_sliceAt_array_lh (P := Tryz.prog) wx 106 ⟨g, 10, none⟩ Tryz.underlying106 .i64 .i64 1 ((k : Int) + 1) (by omega) h1 h2, hs, hal]
    simp [slicedAt, add_none]
  have hr2 : ∀ wx : World, (Instr.sliceAt 106 (.pointer (some ⟨g, 10, none⟩)) none (some (.int .i64 (k : Int))) none).run Tryz.prog wx = .ok (.slice (some ⟨g, 10, none⟩) k 32) wx := by
    intro wx
    have hal : Tryz.prog.arrayLen 106 = 32 := by kernel_rfl
    have h2 : (k : Int) ≤ ((Tryz.prog.arrayLen 106 : Nat) : Int) := by rw [hal]; omega
    have hs : (sizeOf (Tryz.prog.elem 106)).run Tryz.prog wx = .ok 2 wx := by kernel_rfl
    rw [run_sliceAt_array_h (P := Tryz.prog) wx 106 ⟨g, 10, none⟩ Tryz.underlying106 .i64 (k : Int) (by omega) h2, hs, hal]
    simp [slicedAt, add_none]
  clear hin hze hpe K
  go_enter Tryz.func112, Tryz.ntmps112
  go_wp2_with fail
  obtain ⟨w1, hw1⟩ : ∃ w1, w.alloc (.cells #[.int .i64 p, .slice az nz cz] 105) = w1 := ⟨_, rfl⟩
  have hB : Below w.heap.size w w1 := by rw [← hw1]; exact (Below.refl _ _).alloc (Nat.le_refl _) _
  have KO : Blk w1 w.heap.size 105 [.int .i64 p, .slice az nz cz] := by rw [← hw1]; exact Blk.new w _ _
  have K1 := HK.out.below hB
  rw [hw1]
  have HK1 := Lib.hid K1
  clear hw1 hp hz K1
  refine wp_region_held_drew (S := (fun _ : World => True)) (by kernel_rfl) (trivial) (fun hHeld => ?_)
  refine wpAnyH_take (i := 0) (v := ?v214) rfl (by kernel_rfl) (by kernel_rfl) (by kernel_rfl) (fun _ _ _ h => h) (Or.inl ⟨by rfl, ?hy214⟩) hHeld ?rest214
  case hy214 => (intro w' hSw; (try dsimp only at hSw); go_simp; (try with_reducible rfl))
  try simp only [Act.put, List.setIfInBounds_toArray, List.set_cons_zero, List.set_cons_succ, List.getElem_toArray, List.getElem_cons_zero, List.getElem_cons_succ]
  refine wpAnyH_take (i := 1) (v := ?v215) rfl (by kernel_rfl) (by kernel_rfl) (by kernel_rfl) (fun _ _ _ h => h) (Or.inl ⟨by rfl, ?hy215⟩) hHeld ?rest215
  case hy215 => (intro w' hSw; (try dsimp only at hSw); go_simp; (try with_reducible rfl))
  try simp only [Act.put, List.setIfInBounds_toArray, List.set_cons_zero, List.set_cons_succ, List.getElem_toArray, List.getElem_cons_zero, List.getElem_cons_succ]
  refine wpAnyH_take (i := 2) (v := ?v216) rfl (by kernel_rfl) (by kernel_rfl) (by kernel_rfl) (fun _ _ _ h => h) (Or.inl ⟨by rfl, ?hy216⟩) hHeld ?rest216
  case hy216 => (intro w' hSw; (try dsimp only at hSw); go_simp; (try with_reducible rfl))
  try simp only [Act.put, List.setIfInBounds_toArray, List.set_cons_zero, List.set_cons_succ, List.getElem_toArray, List.getElem_cons_zero, List.getElem_cons_succ]
  refine wpAnyH_take (i := 3) (v := ?v217) rfl (by kernel_rfl) (by kernel_rfl) (by kernel_rfl) (fun _ _ _ h => h) (Or.inl ⟨by rfl, ?hy217⟩) hHeld ?rest217
  case hy217 => (intro w' hSw; (try dsimp only at hSw); go_simp; (try with_reducible rfl))
  try simp only [Act.put, List.setIfInBounds_toArray, List.set_cons_zero, List.set_cons_succ, List.getElem_toArray, List.getElem_cons_zero, List.getElem_cons_succ]
  refine wpAnyH_take (i := 4) (v := ?v218) rfl (by kernel_rfl) (by kernel_rfl) (by kernel_rfl) (fun _ _ _ h => h) (Or.inl ⟨by rfl, ?hy218⟩) hHeld ?rest218
  case hy218 => (intro w' hSw; (try dsimp only at hSw); go_simp; (try with_reducible rfl))
  try simp only [Act.put, List.setIfInBounds_toArray, List.set_cons_zero, List.set_cons_succ, List.getElem_toArray, List.getElem_cons_zero, List.getElem_cons_succ]
  refine wpAnyH_take (i := 5) (v := ?v219) rfl (by kernel_rfl) (by kernel_rfl) (by kernel_rfl) (fun _ _ _ h => h) (Or.inl ⟨by rfl, ?hy219⟩) hHeld ?rest219
  case hy219 => (intro w' hSw; (try dsimp only at hSw); go_simp; (try with_reducible rfl))
  try simp only [Act.put, List.setIfInBounds_toArray, List.set_cons_zero, List.set_cons_succ, List.getElem_toArray, List.getElem_cons_zero, List.getElem_cons_succ]
  refine wpAnyH_take (i := 6) (v := ?v220) rfl (by kernel_rfl) (by kernel_rfl) (by kernel_rfl) (fun _ _ _ h => h) (Or.inl ⟨by rfl, ?hy220⟩) hHeld ?rest220
  case hy220 => (intro w' hSw; (try dsimp only at hSw); go_simp; (try with_reducible rfl))
  try simp only [Act.put, List.setIfInBounds_toArray, List.set_cons_zero, List.set_cons_succ, List.getElem_toArray, List.getElem_cons_zero, List.getElem_cons_succ]
  refine wpAnyH_take (i := 7) (v := ?v221) rfl (by kernel_rfl) (by kernel_rfl) (by kernel_rfl) (fun _ _ _ h => h) (Or.inl ⟨by rfl, ?hy221⟩) hHeld ?rest221
  case hy221 => (intro w' hSw; (try dsimp only at hSw); go_simp; (try with_reducible rfl))
  try simp only [Act.put, List.setIfInBounds_toArray, List.set_cons_zero, List.set_cons_succ, List.getElem_toArray, List.getElem_cons_zero, List.getElem_cons_succ]
  refine wpAnyH_take (i := 8) (v := ?v222) rfl (by kernel_rfl) (by kernel_rfl) (by kernel_rfl) (fun _ _ _ h => h) (Or.inl ⟨by rfl, ?hy222⟩) hHeld ?rest222
  case hy222 => (intro w' hSw; (try dsimp only at hSw); go_simp; (try with_reducible rfl))
  try simp only [Act.put, List.setIfInBounds_toArray, List.set_cons_zero, List.set_cons_succ, List.getElem_toArray, List.getElem_cons_zero, List.getElem_cons_succ]
  refine wpAnyH_take (i := 9) (v := ?v223) rfl (by kernel_rfl) (by kernel_rfl) (by kernel_rfl) (fun _ _ _ h => h) (Or.inl ⟨by rfl, ?hy223⟩) hHeld ?rest223
  case hy223 => (intro w' hSw; (try dsimp only at hSw); go_simp; (try with_reducible rfl))
  try simp only [Act.put, List.setIfInBounds_toArray, List.set_cons_zero, List.set_cons_succ, List.getElem_toArray, List.getElem_cons_zero, List.getElem_cons_succ]
  refine wpAnyH_take (i := 10) (v := ?v224) rfl (by kernel_rfl) (by kernel_rfl) (by kernel_rfl) (fun _ _ _ h => h) (Or.inl ⟨by rfl, ?hy224⟩) hHeld ?rest224
  case hy224 => (intro w' hSw; (try dsimp only at hSw); go_simp; (try with_reducible rfl))
  try simp only [Act.put, List.setIfInBounds_toArray, List.set_cons_zero, List.set_cons_succ, List.getElem_toArray, List.getElem_cons_zero, List.getElem_cons_succ]
  refine wpAnyH_ready (rs := [11]) (by kernel_rfl) (by simp) ?_
  refine AllReadyH.cons rfl (fun K hK => ?_) AllReadyH.nil
  rw [if_pos (by rfl)]
  refine wp_copy_two (.tmp 17) (.tmp 22) rfl (g := g) (o1 := 12) (o2 := 10) (k := k) (d1 := 31) (d2 := 32) rfl rfl HK1.out.drew.blk (by rw [hlen]; omega) (by rw [hlen]; omega) HIN.out ?_
  refine hK.out _ _ (trivial) (fun hHeld => ?_)
  clear hK K
  try simp only [Act.put, List.setIfInBounds_toArray, List.set_cons_zero, List.set_cons_succ, List.getElem_toArray, List.getElem_cons_zero, List.getElem_cons_succ]
  refine wpAnyH_done (by kernel_rfl) ?_ _
  have K2 := HK1.out.drew.copied k hk
  have hT2 := (Turned.below (S := fun k => k = g) hB).drew.trans (turned_setRow w1.drew g (over (cc h T c m s) 12 (((cc h T c m s).drop 10).take (2 * k))).toArray) (fun _ _ h => h)
  have hgw : g < w1.drew.heap.size := HK1.out.lt
  have KO2 := KO.drew.turned (turned_setRow w1.drew g (over (cc h T c m s) 12 (((cc h T c m s).drop 10).take (2 * k))).toArray) (by omega)
  obtain ⟨w2, hw2⟩ : ∃ w2, w1.drew.setRow g (over (cc h T c m s) 12 (((cc h T c m s).drop 10).take (2 * k))).toArray = w2 := ⟨_, rfl⟩
  rw [hw2] at K2 hT2 KO2 ⊢
  have o0 := KO2.cell (i := 0) rfl
  have o1 := KO2.cell (i := 1) rfl
  have k0 := K2.place 0 (by omega)
  have k1 := K2.z 0 (by omega)
  have q0 := K2.free 10
  have q1 := K2.free 11
  have hne : w.heap.size ≠ g := by omega
  have H2 := Lib.hid K2
  clear hw2 HK1 KO hB K2
  go_wp2_with fail
  go_region
  have K3 : CK ((w2.setCell ⟨g, 10, none⟩ (.int .i64 p)).setCell ⟨g, 11, none⟩ (.slice az nz cz)) g h (toFront T k) c m s := by
    have := H2.out.setT 0 (by omega) p (.slice az nz cz) ⟨_, _, _, rfl⟩
    rw [HP.out, ← HZ.out, toFront_eq T k (by rw [HK.out.tl]; omega), HZ.out, ← HP.out] at this
    exact this
  have hT3 := ((hT2.setCell (a := ⟨g, 10, none⟩) (.inl rfl) (.int .i64 p)).setCell (a := ⟨g, 11, none⟩) (.inl rfl) (.slice az nz cz)).drew
  have o1' := ((KO2.other ⟨g, 10, none⟩ (.int .i64 p) (Ne.symm hne)).other ⟨g, 11, none⟩ (.slice az nz cz) (Ne.symm hne)).drew.cell (i := 1) rfl
  obtain ⟨w3, hw3⟩ : ∃ w3, ((w2.setCell ⟨g, 10, none⟩ (.int .i64 p)).setCell ⟨g, 11, none⟩ (.slice az nz cz)) = w3 := ⟨_, rfl⟩
  rw [hw3] at K3 hT3 o1' ⊢
  clear hw3 o0 o1 k0 k1 q0 q1 KO2 hT2
  go_wp2_with fail
  go_ret
  exact ⟨rfl, K3.drew, hT3⟩
end Go.Proofs.YtlkjcamjgaecgaaGreat

/-
  Tiles at hand: which ones, behind a use: plain; a tile read, a tile used: the code's.
-/
namespace Go.Proofs.YtlkjcamjgaecgaaGreat
open Go Go.RowKit Go.Th Go.Th.Crc

/-! ### Plain -/
theorem front_take (T : List (Nat × Value)) (i c : Nat) (hi : i < c) (hc : c ≤ T.length) : (toFront T i).take c = (pl T i, pz T i) :: (T.take i ++ (T.drop (i + 1)).take (c - (i + 1))) := by
  obtain ⟨k, rfl⟩ : ∃ k, c = k + 1 := ⟨c - 1, by omega⟩
  unfold toFront
  rw [List.take_succ_cons, List.take_append, List.length_take, Nat.min_eq_left (by omega), List.take_take, Nat.min_eq_right (by omega : i ≤ k), show k + 1 - (i + 1) = k - i by omega]
theorem pl_take (T : List (Nat × Value)) (i c : Nat) (hi : i < c) (hc : c ≤ T.length) : ((T.take c).map Prod.fst)[i]? = some (pl T i) := by
  rw [List.getElem?_map, List.getElem?_take, if_pos hi, pl_mem T i (by omega)]; rfl
theorem filter_at : ∀ (L : List Nat) (i n : Nat), L.Nodup → L[i]? = some n → L.filter (fun m => !(m == n)) = L.take i ++ L.drop (i + 1)
  | [], i, n, _, h => by simp at h
  | a :: r, 0, n, hn, h => by
    have e : a = n := by simpa using h
    subst e
    rw [List.filter_cons_of_neg (by simp), filter_none r a (List.nodup_cons.1 hn).1]
    rfl
  | a :: r, i + 1, n, hn, h => by
    have h' : r[i]? = some n := by simpa using h
    have hne : a ≠ n := by
      rintro rfl
      exact (List.nodup_cons.1 hn).1 (List.mem_of_getElem? h')
    rw [List.filter_cons_of_pos (by simpa using hne), filter_at r i n (List.nodup_cons.1 hn).2 h', List.take_succ_cons, List.drop_succ_cons, List.cons_append]

/-- How many heights the n-th tile has. -/
def szT (W H n : Nat) : Nat := side W (n % cnt W) * side H (n / cnt W)
/-- Of these tiles the first c ones are at hand: those of L, in that order. -/
structure Hand (w : World) (base : Nat) (F : List Int) (W H : Nat) (T : List (Nat × Value)) (c : Nat) (L : List Nat) : Prop where
  names : L = (T.take c).map Prod.fst
  own : ∀ p ∈ T.take c, p.1 < nT W H ∧ w.ownsRow base 51 1 p.2 (szT W H p.1) (i16s (tileAt F W H p.1))
section
variable {w w' : World} {base : Nat} {F : List Int} {W H : Nat} {T : List (Nat × Value)} {c : Nat} {L : List Nat}
theorem Hand.length (h : Hand w base F W H T c L) (hc : c ≤ T.length) : L.length = c := by rw [h.names, List.length_map, List.length_take]; omega
theorem Hand.at (h : Hand w base F W H T c L) (hc : c ≤ T.length) (i : Nat) (hi : i < c) : L[i]? = some (pl T i) := by rw [h.names]; exact pl_take T i c hi hc
theorem Hand.mem (h : Hand w base F W H T c L) (hc : c ≤ T.length) (n : Nat) (hn : n ∈ L) : ∃ i, i < c ∧ pl T i = n := by
  obtain ⟨i, hi⟩ := List.getElem?_of_mem hn
  have hl : i < L.length := (List.getElem?_eq_some_iff.1 hi).1
  have := h.length hc
  refine ⟨i, by omega, ?_⟩
  rw [h.at hc i (by omega)] at hi
  simpa using hi
theorem Hand.row (h : Hand w base F W H T c L) (hc : c ≤ T.length) (i : Nat) (hi : i < c) : pl T i < nT W H ∧ w.ownsRow base 51 1 (pz T i) (szT W H (pl T i)) (i16s (tileAt F W H (pl T i))) :=
  h.own (pl T i, pz T i) (by
    have e : (T.take c)[i]? = some (pl T i, pz T i) := by rw [List.getElem?_take, if_pos hi]; exact pl_mem T i (by omega)
    exact List.mem_of_getElem? e)
theorem Hand.turned {S : Nat → Prop} (h : Hand w base F W H T c L) (ht : Turned S w w') (hs : ∀ p ∈ T.take c, ∀ k, p.2.ownBlock = some k → ¬ S k) : Hand w' base F W H T c L :=
  ⟨h.names, fun p hp => ⟨(h.own p hp).1, ht.own (h.own p hp).2 (hs p hp)⟩⟩
/-- Behind a use of one that is at hand. -/
theorem Hand.met (h : Hand w base F W H T c L) (hc : c ≤ T.length) (hn : L.Nodup) (i n room : Nat) (hi : i < c) (hp : pl T i = n) (hr : c ≤ room) : Hand w base F W H (toFront T i) c (useL room L n) := by
  have hl := h.length hc
  have hat := h.at hc i hi
  rw [hp] at hat
  have hf := filter_at L i n hn hat
  have hlen := filter_out L n hn (List.mem_of_getElem? hat)
  refine ⟨?_, ?_⟩
  · rw [front_take T i c hi hc, List.map_cons, List.map_append]
    unfold useL
    rw [List.take_of_length_le (by rw [List.length_cons]; omega), hf, h.names, ← hp]
    congr 1
    congr 1
    · rw [← List.map_take, List.take_take, Nat.min_eq_left (by omega)]
    · rw [← List.map_drop, List.drop_take]
  · intro p hp'
    rw [front_take T i c hi hc] at hp'
    refine h.own p ?_
    rcases List.mem_cons.1 hp' with rfl | hp'
    · have e : (T.take c)[i]? = some (pl T i, pz T i) := by rw [List.getElem?_take, if_pos hi]; exact pl_mem T i (by omega)
      exact List.mem_of_getElem? e
    · rcases List.mem_append.1 hp' with hp' | hp'
      · have e : T.take i = (T.take c).take i := by rw [List.take_take, Nat.min_eq_left (by omega)]
        rw [e] at hp'
        exact List.mem_of_mem_take hp'
      · have e : (T.drop (i + 1)).take (c - (i + 1)) = (T.take c).drop (i + 1) := by rw [List.drop_take]
        rw [e] at hp'
        exact List.mem_of_mem_drop hp'
/-- Behind a use of one that is not at hand. -/
theorem Hand.miss (h : Hand w base F W H T c L) (hc : c ≤ T.length) (k n room : Nat) (z : Value) (hk : k < room) (hkc : c < room ∧ k = c ∨ c = room ∧ k + 1 = c) (hr : room ≤ T.length) (hn : n ∉ L) (hnT : n < nT W H)
    (ho : w.ownsRow base 51 1 z (szT W H n) (i16s (tileAt F W H n))) : Hand w base F W H (toFront (T.set k (n, z)) k) (k + 1) (useL room L n) := by
  have hl := h.length hc
  have hkT : k < T.length := by omega
  have e1 : pl (T.set k (n, z)) k = n := by simp [pl, List.getD, List.getElem?_set_self hkT]
  have e2 : pz (T.set k (n, z)) k = z := by simp [pz, List.getD, List.getElem?_set_self hkT]
  have e3 : (T.set k (n, z)).take k = T.take k := List.take_set_of_le (Nat.le_refl _)
  have e4 := front_take (T.set k (n, z)) k (k + 1) (by omega) (by rw [List.length_set]; omega)
  rw [e1, e2, e3, Nat.sub_self, List.take_zero, List.append_nil] at e4
  have e5 : T.take k = (T.take c).take k := by rw [List.take_take, Nat.min_eq_left (by omega)]
  refine ⟨?_, ?_⟩
  · rw [e4, List.map_cons]
    unfold useL
    rw [filter_none L n hn]
    obtain ⟨r, rfl⟩ : ∃ r, room = r + 1 := ⟨room - 1, by omega⟩
    rw [List.take_succ_cons, e5, List.map_take, ← h.names]
    congr 1
    rcases hkc with ⟨h1, rfl⟩ | ⟨h1, h2⟩
    · rw [List.take_of_length_le (by omega), List.take_of_length_le (by omega)]
    · rw [show r = k by omega]
  · intro p hp
    rw [e4] at hp
    rcases List.mem_cons.1 hp with rfl | hp
    · exact ⟨hnT, ho⟩
    · rw [e5] at hp
      exact h.own p (List.mem_of_mem_take hp)
end
end Go.Proofs.YtlkjcamjgaecgaaGreat

/-
  A tile read; a tile used: the code's.
-/
namespace Go.Proofs.YtlkjcamjgaecgaaGreat
open Go Go.RowKit Go.Th Go.Th.Crc

/-- A cache's first cells. -/
def hdr (ab : Option Addr) (Lb cb W H cell : Nat) (ox oy : Int) (aA : Option Addr) (n9 cA : Nat) (aS : Option Addr) (cS room : Nat) : List Value :=
  [.slice ab Lb cb, .int .i64 W, .int .i64 H, .slice none 0 0, .int .i64 cell, .int .i32 ox, .int .i32 oy, .slice aA n9 cA, .slice aS n9 cS, .int .i64 room]

set_option maxRecDepth 20000 in
set_option maxHeartbeats 1600000 in
theorem read_go (g : Nat) (ab : Option Addr) (Lb cb W H cell : Nat) (ox oy : Int) (aA : Option Addr) (n9 cA : Nat) (aS : Option Addr) (cS room : Nat) (T : List (Nat × Value)) (c m s n sz : Nat) (Z : List Int) (w : World)
    (K : CK w g (hdr ab Lb cb W H cell ox oy aA n9 cA aS cS room) T c m s)
    (C : Hid (Calls Tryz.prog 76 #[.slice ab Lb cb, dv W H (.slice none 0 0) cell ox oy (.slice aA n9 cA) (.slice aS n9 cS), .int .i64 n] w.drew (TAns (fun zs k => k = 0 ∧ zs = Z) sz w.drew))) :
    Calls Tryz.prog 111 #[.pointer (some ⟨g, 0, none⟩), .int .i64 n] w fun e w' => ∃ a cap, e = .returned (.slice a sz cap) ∧ w'.ownsRow w.heap.size 51 1 (.slice a sz cap) sz (i16s Z) ∧ Below w.heap.size w w' := by
  have c0 := K.head (i := 0) rfl
  have c1 := K.head (i := 1) rfl
  have c2 := K.head (i := 2) rfl
  have c3 := K.head (i := 3) rfl
  have c4 := K.head (i := 4) rfl
  have c5 := K.head (i := 5) rfl
  have c6 := K.head (i := 6) rfl
  have c7 := K.head (i := 7) rfl
  have c8 := K.head (i := 8) rfl
  have hg := K.lt
  clear K
  go_enter Tryz.func111, Tryz.ntmps111
  go_wp2_with fail
  refine wp_region_held_drew (S := (fun w' : World => w'.cell? ⟨g, 0, none⟩ = some (.slice ab Lb cb) ∧ w'.cell? ⟨g, 1, none⟩ = some (.int .i64 W) ∧ w'.cell? ⟨g, 2, none⟩ = some (.int .i64 H) ∧ w'.cell? ⟨g, 3, none⟩ = some (.slice none 0 0) ∧ w'.cell? ⟨g, 4, none⟩ = some (.int .i64 cell) ∧ w'.cell? ⟨g, 5, none⟩ = some (.int .i32 ox) ∧ w'.cell? ⟨g, 6, none⟩ = some (.int .i32 oy) ∧ w'.cell? ⟨g, 7, none⟩ = some (.slice aA n9 cA) ∧ w'.cell? ⟨g, 8, none⟩ = some (.slice aS n9 cS))) (by kernel_rfl) (⟨c0, c1, c2, c3, c4, c5, c6, c7, c8⟩) (fun hHeld => ?_)
  refine wpAnyH_take (i := 0) (v := ?v226) rfl (by kernel_rfl) (by kernel_rfl) (by kernel_rfl) (fun _ _ _ h => h) (Or.inl ⟨by rfl, ?hy226⟩) hHeld ?rest226
  case hy226 => (intro w' hSw; (try dsimp only at hSw); go_simp; (try with_reducible rfl))
  try simp only [Act.put, List.setIfInBounds_toArray, List.set_cons_zero, List.set_cons_succ, List.getElem_toArray, List.getElem_cons_zero, List.getElem_cons_succ]
  refine wpAnyH_take (i := 1) (v := ?v227) rfl (by kernel_rfl) (by kernel_rfl) (by kernel_rfl) (fun _ _ _ h => h) (Or.inl ⟨by rfl, ?hy227⟩) hHeld ?rest227
  case hy227 => (intro w' hSw; (try dsimp only at hSw); go_simp; (try with_reducible rfl))
  try simp only [Act.put, List.setIfInBounds_toArray, List.set_cons_zero, List.set_cons_succ, List.getElem_toArray, List.getElem_cons_zero, List.getElem_cons_succ]
  refine wpAnyH_take (i := 2) (v := ?v228) rfl (by kernel_rfl) (by kernel_rfl) (by kernel_rfl) (fun _ _ _ h => h) (Or.inl ⟨by rfl, ?hy228⟩) hHeld ?rest228
  case hy228 => (intro w' hSw; (try dsimp only at hSw); go_simp; (try with_reducible rfl))
  try simp only [Act.put, List.setIfInBounds_toArray, List.set_cons_zero, List.set_cons_succ, List.getElem_toArray, List.getElem_cons_zero, List.getElem_cons_succ]
  refine wpAnyH_take (i := 3) (v := ?v229) rfl (by kernel_rfl) (by kernel_rfl) (by kernel_rfl) (fun _ _ _ h => h) (Or.inl ⟨by rfl, ?hy229⟩) hHeld ?rest229
  case hy229 => (intro w' hSw; (try dsimp only at hSw); go_simp; (try with_reducible rfl))
  try simp only [Act.put, List.setIfInBounds_toArray, List.set_cons_zero, List.set_cons_succ, List.getElem_toArray, List.getElem_cons_zero, List.getElem_cons_succ]
  refine wpAnyH_take (i := 4) (v := ?v230) rfl (by kernel_rfl) (by kernel_rfl) (by kernel_rfl) (fun _ _ _ h => h) (Or.inl ⟨by rfl, ?hy230⟩) hHeld ?rest230
  case hy230 => (intro w' hSw; (try dsimp only at hSw); go_simp; (try with_reducible rfl))
  try simp only [Act.put, List.setIfInBounds_toArray, List.set_cons_zero, List.set_cons_succ, List.getElem_toArray, List.getElem_cons_zero, List.getElem_cons_succ]
  refine wpAnyH_take (i := 5) (v := ?v231) rfl (by kernel_rfl) (by kernel_rfl) (by kernel_rfl) (fun _ _ _ h => h) (Or.inl ⟨by rfl, ?hy231⟩) hHeld ?rest231
  case hy231 => (intro w' hSw; (try dsimp only at hSw); go_simp; (try with_reducible rfl))
  try simp only [Act.put, List.setIfInBounds_toArray, List.set_cons_zero, List.set_cons_succ, List.getElem_toArray, List.getElem_cons_zero, List.getElem_cons_succ]
  refine wpAnyH_take (i := 6) (v := ?v232) rfl (by kernel_rfl) (by kernel_rfl) (by kernel_rfl) (fun _ _ _ h => h) (Or.inl ⟨by rfl, ?hy232⟩) hHeld ?rest232
  case hy232 => (intro w' hSw; (try dsimp only at hSw); go_simp; (try with_reducible rfl))
  try simp only [Act.put, List.setIfInBounds_toArray, List.set_cons_zero, List.set_cons_succ, List.getElem_toArray, List.getElem_cons_zero, List.getElem_cons_succ]
  refine wpAnyH_take (i := 7) (v := ?v233) rfl (by kernel_rfl) (by kernel_rfl) (by kernel_rfl) (fun _ _ _ h => h) (Or.inl ⟨by rfl, ?hy233⟩) hHeld ?rest233
  case hy233 => (intro w' hSw; (try dsimp only at hSw); go_simp; (try with_reducible rfl))
  try simp only [Act.put, List.setIfInBounds_toArray, List.set_cons_zero, List.set_cons_succ, List.getElem_toArray, List.getElem_cons_zero, List.getElem_cons_succ]
  refine wpAnyH_take (i := 8) (v := ?v234) rfl (by kernel_rfl) (by kernel_rfl) (by kernel_rfl) (fun _ _ _ h => h) (Or.inl ⟨by rfl, ?hy234⟩) hHeld ?rest234
  case hy234 => (intro w' hSw; (try dsimp only at hSw); go_simp; (try with_reducible rfl))
  try simp only [Act.put, List.setIfInBounds_toArray, List.set_cons_zero, List.set_cons_succ, List.getElem_toArray, List.getElem_cons_zero, List.getElem_cons_succ]
  refine wpAnyH_ready (rs := [9]) (by kernel_rfl) (by simp) ?_
  refine AllReadyH.cons rfl (fun K hK => ?_) AllReadyH.nil
  go_simp
  refine C.out.mono ?_
  rintro e w2 ⟨zs, k, v, rfl, ⟨rfl, rfl⟩, ⟨a, n, cap, rfl⟩, hz, hA⟩
  have ho := (hz rfl).2
  obtain ⟨a', cap', he, _, _⟩ := ownsRow_slice ho
  cases he
  clear C hz
  try go_wp2_with fail
  refine hK.out _ _ (⟨(hA.cell (p := ⟨g, 0, none⟩) hg).trans c0, (hA.cell (p := ⟨g, 1, none⟩) hg).trans c1, (hA.cell (p := ⟨g, 2, none⟩) hg).trans c2, (hA.cell (p := ⟨g, 3, none⟩) hg).trans c3, (hA.cell (p := ⟨g, 4, none⟩) hg).trans c4, (hA.cell (p := ⟨g, 5, none⟩) hg).trans c5, (hA.cell (p := ⟨g, 6, none⟩) hg).trans c6, (hA.cell (p := ⟨g, 7, none⟩) hg).trans c7, (hA.cell (p := ⟨g, 8, none⟩) hg).trans c8⟩) (fun hHeld => ?_)
  clear hK K
  try simp only [Act.put, List.setIfInBounds_toArray, List.set_cons_zero, List.set_cons_succ, List.getElem_toArray, List.getElem_cons_zero, List.getElem_cons_succ]
  refine wpAnyH_take (i := 10) (v := ?v236) rfl (by kernel_rfl) (by kernel_rfl) (by kernel_rfl) (fun _ _ _ h => h) (Or.inl ⟨by rfl, ?hy236⟩) hHeld ?rest236
  case hy236 => (intro w' hSw; (try dsimp only at hSw); go_simp; (try with_reducible rfl))
  try simp only [Act.put, List.setIfInBounds_toArray, List.set_cons_zero, List.set_cons_succ, List.getElem_toArray, List.getElem_cons_zero, List.getElem_cons_succ]
  refine wpAnyH_take (i := 11) (v := ?v237) rfl (by kernel_rfl) (by kernel_rfl) (by kernel_rfl) (fun _ _ _ h => h) (Or.inl ⟨by rfl, ?hy237⟩) hHeld ?rest237
  case hy237 => (intro w' hSw; (try dsimp only at hSw); go_simp; (try with_reducible rfl))
  try simp only [Act.put, List.setIfInBounds_toArray, List.set_cons_zero, List.set_cons_succ, List.getElem_toArray, List.getElem_cons_zero, List.getElem_cons_succ]
  refine wpAnyH_take (i := 12) (v := ?v238) rfl (by kernel_rfl) (by kernel_rfl) (by kernel_rfl) (fun _ _ _ h => h) (Or.inl ⟨by rfl, ?hy238⟩) hHeld ?rest238
  case hy238 => (intro w' hSw; (try dsimp only at hSw); go_simp; (try with_reducible rfl))
  try simp only [Act.put, List.setIfInBounds_toArray, List.set_cons_zero, List.set_cons_succ, List.getElem_toArray, List.getElem_cons_zero, List.getElem_cons_succ]
  refine wpAnyH_take (i := 13) (v := ?v239) rfl (by kernel_rfl) (by kernel_rfl) (by kernel_rfl) (fun _ _ _ h => h) (Or.inl ⟨by rfl, ?hy239⟩) hHeld ?rest239
  case hy239 => (intro w' hSw; (try dsimp only at hSw); go_simp; (try with_reducible rfl))
  try simp only [Act.put, List.setIfInBounds_toArray, List.set_cons_zero, List.set_cons_succ, List.getElem_toArray, List.getElem_cons_zero, List.getElem_cons_succ]
  refine wpAnyH_take (i := 14) (v := ?v240) rfl (by kernel_rfl) (by kernel_rfl) (by kernel_rfl) (fun _ _ _ h => h) (Or.inl ⟨by rfl, ?hy240⟩) hHeld ?rest240
  case hy240 => (intro w' hSw; (try dsimp only at hSw); go_simp; (try with_reducible rfl))
  try simp only [Act.put, List.setIfInBounds_toArray, List.set_cons_zero, List.set_cons_succ, List.getElem_toArray, List.getElem_cons_zero, List.getElem_cons_succ]
  refine wpAnyH_done (by kernel_rfl) ?_ _
  have HO := Lib.hid ho
  have HA := Lib.hid hA
  clear ho hA c0 c1 c2 c3 c4 c5 c6 c7 c8
  go_wp2_with fail
  go_ret
  exact ⟨_, _, rfl, HO.out, (Below.refl w.heap.size w).drew.trans HA.out⟩

set_option maxRecDepth 20000 in
set_option maxHeartbeats 1600000 in
theorem useMet_go (g : Nat) (h : List Value) (T : List (Nat × Value)) (c m s n i : Nat) (hc : c ≤ 32) (hi : i < c) (hm : m ≤ 1000000) (hp : pl T i = n) (hno : ∀ j, j < i → pl T j ≠ n) (w : World) (K : CK w g h T c m s) :
    Calls Tryz.prog 82 #[.pointer (some ⟨g, 0, none⟩), .int .i64 n] w fun e w' => e = .returned (pz T i) ∧ CK w' g h (toFront T i) c (m + 1) s ∧ Turned (fun k => k = g) w w' := by
  have C1 : Calls Tryz.prog 109 #[.pointer (some ⟨g, 0, none⟩), .int .i64 n] w fun e w' => w' = w ∧ e = .returned (.tuple #[.int .i64 i, .bool true]) := (find_any g h T c m s n hc w K).mono (by
    rintro e w' ⟨h1, ⟨j, hj, hpj, hnj, he⟩ | ⟨hn, _⟩⟩
    · refine ⟨h1, ?_⟩
      have : j = i := by
        rcases Nat.lt_trichotomy j i with h | h | h
        · exact absurd hpj (hno j h)
        · exact h
        · exact absurd hp (hnj i h)
      subst this
      exact he
    · exact absurd hp (hn i hi))
  have K1 := K.setM (m + 1)
  have C2 := first_any g h T c (m + 1) s i (by omega) _ K1
  have HC1 := Lib.hid C1
  have HC2 := Lib.hid C2
  have c75 := K.met
  have f75 := K.free 75
  have hm1 : (((m + 1 : Nat) : Int)) = (m : Int) + 1 := rfl
  rw [hm1] at HC2
  clear C1 C2 K1 K hp hno
  go_enter Tryz.func82, Tryz.ntmps82
  go_wp2_with fail
  refine HC1.out.mono ?_
  rintro e w1 ⟨rfl, rfl⟩
  clear HC1
  go_wp2_with fail
  refine HC2.out.mono ?_
  rintro e w2 ⟨rfl, K2, hT⟩
  have H2 := Lib.hid K2
  have HT := Lib.hid hT
  clear HC2 K2 hT
  go_wp2_with fail
  go_ret
  exact ⟨rfl, H2.out, ((Turned.refl (fun k => k = g) _).setCell (.inl rfl) _).trans HT.out (fun _ _ h => h)⟩

set_option maxRecDepth 20000 in
set_option maxHeartbeats 1600000 in
theorem useMiss_go (g : Nat) (h : List Value) (T : List (Nat × Value)) (c m s n room sz : Nat) (Z : List Int) (hr : h[9]? = some (.int .i64 (room : Int))) (hc : c ≤ room) (hr0 : 0 < room) (hr2 : room ≤ 32) (hs : s ≤ 1000000) (hno : ∀ j, j < c → pl T j ≠ n) (w : World) (K : CK w g h T c m s)
    (CR : Hid (∀ c' s' w', CK w' g h T c' m s' → Turned (fun k => k = g) w w' → Calls Tryz.prog 111 #[.pointer (some ⟨g, 0, none⟩), .int .i64 n] w' fun e w'' => ∃ a cap, e = .returned (.slice a sz cap) ∧ w''.ownsRow w'.heap.size 51 1 (.slice a sz cap) sz (i16s Z) ∧ Below w'.heap.size w' w'')) :
    Calls Tryz.prog 82 #[.pointer (some ⟨g, 0, none⟩), .int .i64 n] w fun e w' => ∃ z k, k < room ∧ (c < room ∧ k = c ∨ c = room ∧ k + 1 = c) ∧ e = .returned z ∧ CK w' g h (toFront (T.set k (n, z)) k) (k + 1) m (s + 1) ∧ w'.ownsRow w.heap.size 51 1 z sz (i16s Z) ∧ Turned (fun k => k = g) w w' := by
  have C1 : Calls Tryz.prog 109 #[.pointer (some ⟨g, 0, none⟩), .int .i64 n] w fun e w' => w' = w ∧ e = .returned (.tuple #[.int .i64 0, .bool false]) := (find_any g h T c m s n (by omega) w K).mono (by
    rintro e w' ⟨h1, ⟨j, hj, hpj, hnj, he⟩ | ⟨hn, he⟩⟩
    · exact absurd hpj (hno j hj)
    · exact ⟨h1, he⟩)
  have K1 := K.setS (s + 1)
  have hT1 : Turned (fun k => k = g) w (w.setCell ⟨g, 76, none⟩ (.int .i64 ((s + 1 : Nat) : Int))) := (Turned.refl (fun k => k = g) w).setCell (.inl rfl) _
  have C2 := free_any g h T c m (s + 1) room hr hc hr0 hr2 _ K1
  have HC1 := Lib.hid C1
  have HC2 := Lib.hid C2
  have HT1 := Lib.hid hT1
  have c76 := K.mis
  have f76 := K.free 76
  have hs1 : (((s + 1 : Nat) : Int)) = (s : Int) + 1 := rfl
  rw [hs1] at HC2 HT1
  have hg0 := K.lt
  clear C1 C2 K1 K hno hr hT1
  go_enter Tryz.func82, Tryz.ntmps82
  go_wp2_with fail
  refine HC1.out.mono ?_
  rintro e w1 ⟨rfl, rfl⟩
  clear HC1
  go_wp2_with fail
  refine HC2.out.mono ?_
  rintro e w2 ⟨k, hk, hkc, rfl, K2, hT⟩
  have hT2 := HT1.out.trans hT (fun _ _ h => h)
  have HC3 := Lib.hid (CR.out (k + 1) (s + 1) w2.drew K2.drew hT2.drew)
  have H2 := Lib.hid K2
  have HT2 := Lib.hid hT2
  have HKC := Lib.hid hkc
  have hk32 : k < 32 := by omega
  have hk32i : (k : Int) < 32 := by omega
  clear HC2 CR hT hT2 K2 hkc HT1 c76 f76
  go_wp2_with fail
  refine wp_region_held_drew (S := (fun _ : World => True)) (by kernel_rfl) (trivial) (fun hHeld => ?_)
  refine wpAnyH_take (i := 0) (v := ?v241) rfl (by kernel_rfl) (by kernel_rfl) (by kernel_rfl) (fun _ _ _ h => h) (Or.inl ⟨by rfl, ?hy241⟩) hHeld ?rest241
  case hy241 => (intro w' hSw; (try dsimp only at hSw); go_simp; (try with_reducible rfl))
  try simp only [Act.put, List.setIfInBounds_toArray, List.set_cons_zero, List.set_cons_succ, List.getElem_toArray, List.getElem_cons_zero, List.getElem_cons_succ]
  refine wpAnyH_take (i := 1) (v := ?v242) rfl (by kernel_rfl) (by kernel_rfl) (by kernel_rfl) (fun _ _ _ h => h) (Or.inl ⟨by rfl, ?hy242⟩) hHeld ?rest242
  case hy242 => (intro w' hSw; (try dsimp only at hSw); go_simp; (try with_reducible rfl))
  try simp only [Act.put, List.setIfInBounds_toArray, List.set_cons_zero, List.set_cons_succ, List.getElem_toArray, List.getElem_cons_zero, List.getElem_cons_succ]
  refine wpAnyH_take (i := 2) (v := ?v243) rfl (by kernel_rfl) (by kernel_rfl) (by kernel_rfl) (fun _ _ _ h => h) (Or.inl ⟨by rfl, ?hy243⟩) hHeld ?rest243
  case hy243 => (intro w' hSw; (try dsimp only at hSw); go_simp; (try with_reducible rfl))
  try simp only [Act.put, List.setIfInBounds_toArray, List.set_cons_zero, List.set_cons_succ, List.getElem_toArray, List.getElem_cons_zero, List.getElem_cons_succ]
  refine wpAnyH_take (i := 3) (v := ?v244) rfl (by kernel_rfl) (by kernel_rfl) (by kernel_rfl) (fun _ _ _ h => h) (Or.inl ⟨by rfl, ?hy244⟩) hHeld ?rest244
  case hy244 => (intro w' hSw; (try dsimp only at hSw); go_simp; (try with_reducible rfl))
  try simp only [Act.put, List.setIfInBounds_toArray, List.set_cons_zero, List.set_cons_succ, List.getElem_toArray, List.getElem_cons_zero, List.getElem_cons_succ]
  refine wpAnyH_take (i := 4) (v := ?v245) rfl (by kernel_rfl) (by kernel_rfl) (by kernel_rfl) (fun _ _ _ h => h) (Or.inl ⟨by rfl, ?hy245⟩) hHeld ?rest245
  case hy245 => (intro w' hSw; (try dsimp only at hSw); go_simp; (try with_reducible rfl))
  try simp only [Act.put, List.setIfInBounds_toArray, List.set_cons_zero, List.set_cons_succ, List.getElem_toArray, List.getElem_cons_zero, List.getElem_cons_succ]
  refine wpAnyH_take (i := 7) (v := ?v246) rfl (by kernel_rfl) (by kernel_rfl) (by kernel_rfl) (fun _ _ _ h => h) (Or.inl ⟨by rfl, ?hy246⟩) hHeld ?rest246
  case hy246 => (intro w' hSw; (try dsimp only at hSw); go_simp; (try with_reducible rfl))
  try simp only [Act.put, List.setIfInBounds_toArray, List.set_cons_zero, List.set_cons_succ, List.getElem_toArray, List.getElem_cons_zero, List.getElem_cons_succ]
  refine wpAnyH_take (i := 8) (v := ?v247) rfl (by kernel_rfl) (by kernel_rfl) (by kernel_rfl) (fun _ _ _ h => h) (Or.inl ⟨by rfl, ?hy247⟩) hHeld ?rest247
  case hy247 => (intro w' hSw; (try dsimp only at hSw); go_simp; (try with_reducible rfl))
  try simp only [Act.put, List.setIfInBounds_toArray, List.set_cons_zero, List.set_cons_succ, List.getElem_toArray, List.getElem_cons_zero, List.getElem_cons_succ]
  refine wpAnyH_ready (rs := [5]) (by kernel_rfl) (by simp) ?_
  refine AllReadyH.cons rfl (fun K hK => ?_) AllReadyH.nil
  go_simp
  refine HC3.out.mono ?_
  rintro e w3 ⟨a, cap, rfl, ho, hA⟩
  have K3 := H2.out.drew.below hA
  have hT3 := HT2.out.drew.trans (Turned.below (S := fun k => k = g) hA) (fun _ _ h => h)
  have q0 := K3.place k hk32
  have q1 := K3.z k hk32
  have f0 := K3.free (10 + k * 2)
  have f1 := K3.free (10 + k * 2 + 1)
  have hg3 := K3.lt
  clear HC3
  try go_wp2_with fail
  refine hK.out _ _ (trivial) (fun hHeld => ?_)
  clear hK K
  try simp only [Act.put, List.setIfInBounds_toArray, List.set_cons_zero, List.set_cons_succ, List.getElem_toArray, List.getElem_cons_zero, List.getElem_cons_succ]
  refine wpAnyH_take (i := 6) (v := ?v249) rfl (by kernel_rfl) (by kernel_rfl) (by kernel_rfl) (fun _ _ _ h => h) (Or.inl ⟨by rfl, ?hy249⟩) hHeld ?rest249
  case hy249 => (intro w' hSw; (try dsimp only at hSw); go_simp; (try with_reducible rfl))
  try simp only [Act.put, List.setIfInBounds_toArray, List.set_cons_zero, List.set_cons_succ, List.getElem_toArray, List.getElem_cons_zero, List.getElem_cons_succ]
  refine wpAnyH_take (i := 9) (v := ?v250) rfl (by kernel_rfl) (by kernel_rfl) (by kernel_rfl) (fun _ _ _ h => h) (Or.inl ⟨by rfl, ?hy250⟩) hHeld ?rest250
  case hy250 => (intro w' hSw; (try dsimp only at hSw); go_simp; (try with_reducible rfl))
  try simp only [Act.put, List.setIfInBounds_toArray, List.set_cons_zero, List.set_cons_succ, List.getElem_toArray, List.getElem_cons_zero, List.getElem_cons_succ]
  refine wpAnyH_ready (rs := [10]) (by kernel_rfl) (by simp) ?_
  refine AllReadyH.cons rfl (fun K hK => ?_) AllReadyH.nil
  go_simp
  try go_wp2_with fail
  refine hK.out _ _ (trivial) (fun hHeld => ?_)
  clear hK K
  try simp only [Act.put, List.setIfInBounds_toArray, List.set_cons_zero, List.set_cons_succ, List.getElem_toArray, List.getElem_cons_zero, List.getElem_cons_succ]
  refine wpAnyH_done (by kernel_rfl) ?_ _
  have K4 := K3.setT k hk32 n (.slice a sz cap) ⟨_, _, _, rfl⟩
  have hT34 : Turned (fun k => k = g) w3 ((w3.setCell ⟨g, 10 + k * 2, none⟩ (.int .i64 n)).setCell ⟨g, 10 + k * 2 + 1, none⟩ (.slice a sz cap)) := ((Turned.refl (fun k => k = g) w3).setCell (.inl rfl) _).setCell (.inl rfl) _
  obtain ⟨w4, hw4⟩ : ∃ w4, ((w3.setCell ⟨g, 10 + k * 2, none⟩ (.int .i64 n)).setCell ⟨g, 10 + k * 2 + 1, none⟩ (.slice a sz cap)) = w4 := ⟨_, rfl⟩
  rw [hw4] at K4 hT34 ⊢
  have hg2 : g < w2.drew.heap.size := H2.out.lt
  have hne : ∀ j, (Value.slice a sz cap).ownBlock = some j → j ≠ g := fun j hj e => by have := (ho.lt j hj).1; omega
  have ho4 := hT34.own ho hne
  have hT4 := hT3.trans hT34 (fun _ _ h => h)
  have hTl : k < T.length := by rw [H2.out.tl]; exact hk32
  have e2 : pz (T.set k (n, .slice a sz cap)) k = .slice a sz cap := by simp [pz, List.getD, List.getElem?_set_self hTl]
  have C5 := first_any g h (T.set k (n, .slice a sz cap)) (k + 1) m (s + 1) k hk32 w4 K4
  rw [e2] at C5
  have HC5 := Lib.hid C5
  have HO := Lib.hid ho4
  have HT4 := Lib.hid hT4
  have HNE := Lib.hid hne
  have hsz2 : w1.heap.size ≤ w2.drew.heap.size := HT2.out.size
  clear hw4 hT34 K3 K4 ho4 ho hT3 hT4 q0 q1 f0 f1 C5 e2 hne
  go_wp2_with fail
  refine HC5.out.mono ?_
  rintro e w5 ⟨rfl, K5, hT5⟩
  have H5 := Lib.hid K5
  have HT5 := Lib.hid hT5
  clear HC5 K5 hT5
  go_wp2_with fail
  go_ret
  exact ⟨_, k, hk, HKC.out, rfl, H5.out, ownsRow_base (HT5.out.own HO.out (fun j hj e => HNE.out j hj e)) hsz2, HT4.out.trans HT5.out (fun _ _ h => h)⟩
end Go.Proofs.YtlkjcamjgaecgaaGreat

/-
  A cache of a map: what it keeps; a tile used, whatever is at hand: the code's.
-/
namespace Go.Proofs.YtlkjcamjgaecgaaGreat
open Go Go.RowKit Go.Th Go.Th.Crc

/-- A map that may be. -/
structure MapOk (F : List Int) (W H cell : Nat) (ox oy : Int) : Prop where
  hF : isF W H = true
  hc : isC cell = true
  hl : F.length = W * H
  h16 : ∀ u ∈ F, In16 u
  h1 : In32' ox
  h2 : In32' oy
theorem short10 (F : List Int) (W H cell : Nat) (ox oy : Int) (hl : F.length = W * H) (hW : W ≤ 256) (hH : H ≤ 256) : (chartB F W H cell ox oy).length ≤ 400000 := by
  have h1 := nT_le hW hH
  have h2 := bodyTo_length F W H (nT W H) hl (Nat.le_refl _)
  rw [chartB_length]
  unfold headLen
  omega
theorem own_ne {w : World} {g : Nat} {t : TypeId} {cs : List Value} {base : Nat} {e : TypeId} {size n : Nat} {v : Value} {xs : List Value} (K : Blk w g t cs) (ho : w.ownsRow base e size v n xs) (hne : t ≠ e) : ∀ k, v.ownBlock = some k → k ≠ g := by
  rintro k hk rfl
  rcases ho.2 with ⟨h, _⟩ | ⟨g', cap, cur, h, hb, hg, _⟩
  · subst h; simp [Value.ownBlock] at hk
  · subst h
    simp [Value.ownBlock] at hk
    subst hk
    have h1 : w.heap[g']? = some (.cells cs.toArray t (0, 0)) := K
    rw [h1] at hg
    simp at hg
    exact hne hg.2

/-- What a cache of a map keeps. -/
structure CacheJ (w : World) (base g : Nat) (F : List Int) (W H cell : Nat) (ox oy : Int) (room : Nat) (L : List Nat) (m s : Nat) (ab : Option Addr) (cb : Nat) (aA : Option Addr) (cA : Nat) (aS : Option Addr) (cS : Nat) (T : List (Nat × Value)) (c : Nat) : Prop where
  ck : CK w g (hdr ab (chartB F W H cell ox oy).length cb W H cell ox oy aA (nT W H) cA aS cS room) T c m s
  le : base ≤ g
  ob : w.ownsRow base 5 1 (.slice ab (chartB F W H cell ox oy).length cb) (chartB F W H cell ox oy).length (u8s (chartB F W H cell ox oy))
  oA : w.ownsRow base 3 1 (.slice aA (nT W H) cA) (nT W H) (ints ((List.range (nT W H)).map (offs (chartB F W H cell ox oy) W H)))
  oS : w.ownsRow base 3 1 (.slice aS (nT W H) cS) (nT W H) (ints ((List.range (nT W H)).map (fun i => rd (chartB F W H cell ox oy) (18 + 6 * i + 4) 2)))
  hand : Hand w base F W H T c L
  nd : L.Nodup
  cr : c ≤ room
  lo : 4 ≤ room
  hi : room ≤ 32
def CacheI (w : World) (base g : Nat) (F : List Int) (W H cell : Nat) (ox oy : Int) (room : Nat) (L : List Nat) (m s : Nat) : Prop :=
  ∃ ab cb aA cA aS cS T c, CacheJ w base g F W H cell ox oy room L m s ab cb aA cA aS cS T c
section
variable {w w' : World} {base g : Nat} {F : List Int} {W H cell : Nat} {ox oy : Int} {room : Nat} {L : List Nat} {m s : Nat} {ab : Option Addr} {cb : Nat} {aA : Option Addr} {cA : Nat} {aS : Option Addr} {cS : Nat} {T : List (Nat × Value)} {c : Nat}
/-- Where nothing of its own is turned. -/
theorem CacheJ.turned {S : Nat → Prop} (J : CacheJ w base g F W H cell ox oy room L m s ab cb aA cA aS cS T c) (ht : Turned S w w') (hs : ∀ k, base ≤ k → ¬ S k) : CacheJ w' base g F W H cell ox oy room L m s ab cb aA cA aS cS T c :=
  ⟨J.ck.turned ht (hs g J.le), J.le, ht.own J.ob (fun k hk => hs k (J.ob.lt k hk).1), ht.own J.oA (fun k hk => hs k (J.oA.lt k hk).1), ht.own J.oS (fun k hk => hs k (J.oS.lt k hk).1),
    J.hand.turned ht (fun p hp k hk => hs k ((J.hand.own p hp).2.lt k hk).1), J.nd, J.cr, J.lo, J.hi⟩
theorem CacheI.turned {S : Nat → Prop} (J : CacheI w base g F W H cell ox oy room L m s) (ht : Turned S w w') (hs : ∀ k, base ≤ k → ¬ S k) : CacheI w' base g F W H cell ox oy room L m s := by
  obtain ⟨ab, cb, aA, cA, aS, cS, T, c, J⟩ := J
  exact ⟨ab, cb, aA, cA, aS, cS, T, c, J.turned ht hs⟩
theorem CacheI.below (J : CacheI w base g F W H cell ox oy room L m s) (hb : Below w.heap.size w w') : CacheI w' base g F W H cell ox oy room L m s :=
  J.turned (Turned.below (S := fun _ => False) hb) (fun _ _ h => h)
theorem CacheI.drew (J : CacheI w base g F W H cell ox oy room L m s) : CacheI w.drew base g F W H cell ox oy room L m s := J.turned ((Turned.refl (fun _ => False) w).drew) (fun _ _ h => h)
theorem CacheI.drewN (J : CacheI w base g F W H cell ox oy room L m s) (n : Nat) : CacheI (w.drewN n) base g F W H cell ox oy room L m s := J.turned ((Turned.refl (fun _ => False) w).drewN n) (fun _ _ h => h)
theorem CacheI.lt (J : CacheI w base g F W H cell ox oy room L m s) : g < w.heap.size := by
  obtain ⟨ab, cb, aA, cA, aS, cS, T, c, J⟩ := J
  exact J.ck.lt
theorem CacheI.le (J : CacheI w base g F W H cell ox oy room L m s) : base ≤ g := by
  obtain ⟨ab, cb, aA, cA, aS, cS, T, c, J⟩ := J
  exact J.le
theorem CacheI.len (J : CacheI w base g F W H cell ox oy room L m s) : L.length ≤ room := by
  obtain ⟨ab, cb, aA, cA, aS, cS, T, c, J⟩ := J
  rw [J.hand.length (by rw [J.ck.tl]; have := J.hi; have := J.cr; omega)]
  exact J.cr
theorem CacheI.nodup (J : CacheI w base g F W H cell ox oy room L m s) : L.Nodup := by
  obtain ⟨ab, cb, aA, cA, aS, cS, T, c, J⟩ := J
  exact J.nd
/-- Where just its block is turned. -/
theorem CacheJ.step {T' : List (Nat × Value)} {c' m' s' : Nat} {L' : List Nat} (J : CacheJ w base g F W H cell ox oy room L m s ab cb aA cA aS cS T c) (ht : Turned (fun k => k = g) w w')
    (K : CK w' g (hdr ab (chartB F W H cell ox oy).length cb W H cell ox oy aA (nT W H) cA aS cS room) T' c' m' s') (hh : Hand w' base F W H T' c' L') (hn : L'.Nodup) (hc : c' ≤ room) : CacheJ w' base g F W H cell ox oy room L' m' s' ab cb aA cA aS cS T' c' :=
  ⟨K, J.le, ht.own J.ob (own_ne J.ck.blk J.ob (by decide)), ht.own J.oA (own_ne J.ck.blk J.oA (by decide)), ht.own J.oS (own_ne J.ck.blk J.oS (by decide)), hh, hn, hc, J.lo, J.hi⟩
theorem CacheJ.handT (J : CacheJ w base g F W H cell ox oy room L m s ab cb aA cA aS cS T c) (ht : Turned (fun k => k = g) w w') : Hand w' base F W H T c L :=
  J.hand.turned ht (fun p hp k hk => own_ne J.ck.blk (J.hand.own p hp).2 (by decide) k hk)

/-- A tile read of a map's bytes. -/
theorem read10_any (O : MapOk F W H cell ox oy) (J : CacheJ w base g F W H cell ox oy room L m s ab cb aA cA aS cS T c) (n c' s' : Nat) (hn : n < nT W H) (ht : Turned (fun k => k = g) w w')
    (K : CK w' g (hdr ab (chartB F W H cell ox oy).length cb W H cell ox oy aA (nT W H) cA aS cS room) T c' m s') :
    Calls Tryz.prog 111 #[.pointer (some ⟨g, 0, none⟩), .int .i64 n] w' fun e w'' => ∃ a cap, e = .returned (.slice a (szT W H n) cap) ∧ w''.ownsRow w'.heap.size 51 1 (.slice a (szT W H n) cap) (szT W H n) (i16s (tileAt F W H n)) ∧ Below w'.heap.size w' w'' := by
  obtain ⟨i1, i2, i3, i4⟩ := isF_yes O.hF
  obtain ⟨i5, i6⟩ := isC_yes O.hc
  have hO := opens_chart (ox := ox) (oy := oy) (F := F) (W := W) (H := H) (cell := cell) O.hl (by omega) (by omega) (by omega)
  have hs := short10 F W H cell ox oy O.hl (by omega) (by omega)
  have ob := ht.own J.ob (own_ne J.ck.blk J.ob (by decide))
  have oA := ht.own J.oA (own_ne J.ck.blk J.oA (by decide))
  have oS := ht.own J.oS (own_ne J.ck.blk J.oS (by decide))
  have htb : tb (chartB F W H cell ox oy) W H n = tileB F W H n := tb_chart O.hl (by omega) (by omega) n hn
  have hok : okB (tb (chartB F W H cell ox oy) W H n) = true := by rw [htb]; exact okB_putB _
  have C := tile9_any (chartB F W H cell ox oy) W H cell _ hO rfl (by omega) (chartB_lt F W H cell ox oy) n (szT W H n) hn cell ox oy (fun zs k => k = 0 ∧ zs = tileAt F W H n)
    (fun _ a' cap' k wx hk hs => by
      rw [htb] at hk hs
      exact tget_tile F W H n O.hF O.hl O.h16 hn a' cap' k wx hk hs)
    ab cb aA cA aS cS w'.drew (Sl.of_own (w := w'.drew) ob) (Sl.of_own (w := w'.drew) oA) (Sl.of_own (w := w'.drew) oS)
  refine read_go g ab _ cb W H cell ox oy aA (nT W H) cA aS cS room T c' m s' n (szT W H n) (tileAt F W H n) w' K (Lib.hid (C.mono ?_))
  rintro e w'' ⟨zs, k, v, he, hR, h3, h4, h5⟩
  refine ⟨zs, k, v, he, ?_, h3, h4, h5⟩
  rcases hR with ⟨h, _⟩ | ⟨_, h⟩
  · rw [hok] at h; cases h
  · exact h

/-- A tile used. -/
theorem use10_any (O : MapOk F W H cell ox oy) (J : CacheI w base g F W H cell ox oy room L m s) (n : Nat) (hn : n < nT W H) (hm : m ≤ 1000000) (hs : s ≤ 1000000) :
    Calls Tryz.prog 82 #[.pointer (some ⟨g, 0, none⟩), .int .i64 n] w fun e w' => ∃ v, e = .returned v ∧ w'.ownsRow base 51 1 v (szT W H n) (i16s (tileAt F W H n)) ∧
      CacheI w' base g F W H cell ox oy room (useL room L n) (if n ∈ L then m + 1 else m) (if n ∈ L then s else s + 1) ∧ Turned (fun k => k = g) w w' := by
  have hlt := J.lt
  have hle := J.le
  obtain ⟨ab, cb, aA, cA, aS, cS, T, c, J⟩ := J
  have hT := J.ck.tl
  have hcr := J.cr
  have hhi := J.hi
  have hlo := J.lo
  by_cases hin : n ∈ L
  · obtain ⟨i, hi, hp⟩ := J.hand.mem (by omega) n hin
    have hno : ∀ j, j < i → pl T j ≠ n := by
      intro j hj e
      have h1 := J.hand.at (by omega) i hi
      have h2 := J.hand.at (by omega) j (by omega)
      rw [hp] at h1
      rw [e] at h2
      have := (List.getElem?_inj (i := i) (j := j) (by rw [J.hand.length (by omega)]; exact hi) J.nd).1 (h1.trans h2.symm)
      omega
    rw [if_pos hin, if_pos hin]
    refine (useMet_go g _ T c m s n i (by omega) hi hm hp hno w J.ck).mono ?_
    rintro e w' ⟨rfl, K, hTu⟩
    have hrow := (J.handT hTu).row (by omega) i hi
    rw [hp] at hrow
    exact ⟨_, rfl, hrow.2, ⟨ab, cb, aA, cA, aS, cS, _, c, J.step hTu K ((J.handT hTu).met (by omega) J.nd i n room hi hp hcr) (useL_nodup _ _ _ J.nd) hcr⟩, hTu⟩
  · have hno : ∀ j, j < c → pl T j ≠ n := by
      intro j hj e
      have h2 := J.hand.at (by omega) j (by omega)
      rw [e] at h2
      exact hin (List.mem_of_getElem? h2)
    rw [if_neg hin, if_neg hin]
    refine (useMiss_go g _ T c m s n room (szT W H n) (tileAt F W H n) rfl hcr (by omega) hhi hs hno w J.ck (Lib.hid (fun c' s' w' K ht => read10_any O J n c' s' hn ht K))).mono ?_
    rintro e w' ⟨z, k, hk, hkc, rfl, K, ho, hTu⟩
    have hb : base ≤ w.heap.size := by omega
    have ho' := ownsRow_base ho hb
    exact ⟨_, rfl, ho', ⟨ab, cb, aA, cA, aS, cS, _, k + 1, J.step hTu K ((J.handT hTu).miss (by omega) k n room z hk hkc (by omega) hin hn ho') (useL_nodup _ _ _ J.nd) (by omega)⟩, hTu⟩
end
end Go.Proofs.YtlkjcamjgaecgaaGreat

/-
  The height of a column and a row: the code's.
-/
namespace Go.Proofs.YtlkjcamjgaecgaaGreat
open Go Go.RowKit Go.Th Go.Th.Crc

/-- What is told of a height. -/
def hgt (z : Int) : Value := if z = -32768 then .tuple #[.int .i16 0, .int .i64 8] else .tuple #[.int .i16 z, .int .i64 0]

set_option maxRecDepth 20000 in
theorem heightOff_go (g : Nat) (h : List Value) (T : List (Nat × Value)) (c m s W H : Nat) (x y : Int) (h1 : h[1]? = some (.int .i64 (W : Int))) (h2 : h[2]? = some (.int .i64 (H : Int))) (h3 : h[3]? = some (.slice none 0 0)) (hoff : ¬ (0 ≤ x ∧ 0 ≤ y ∧ x < (W : Int) ∧ y < (H : Int))) (w : World) (K : CK w g h T c m s) :
    Calls Tryz.prog 56 #[.pointer (some ⟨g, 0, none⟩), .int .i64 x, .int .i64 y] w fun e w' => e = .returned (.tuple #[.int .i16 0, .int .i64 9]) ∧ Below w.heap.size w w' := by
  have c1 := K.head h1
  have c2 := K.head h2
  have c3 := K.head h3
  have hg := K.lt
  clear K h1 h2 h3
  by_cases a : x < 0
  · clear hoff
    go_enter Tryz.func56, Tryz.ntmps56
    go_wp2_with fail
    go_ret2
    exact ⟨rfl, (Below.refl _ _).alloc (Nat.le_refl _) _⟩
  · by_cases b : y < 0
    · clear hoff
      go_enter Tryz.func56, Tryz.ntmps56
      go_wp2_with fail
      go_ret2
      exact ⟨rfl, (Below.refl _ _).alloc (Nat.le_refl _) _⟩
    · by_cases d : (W : Int) ≤ x
      · clear hoff
        go_enter Tryz.func56, Tryz.ntmps56
        go_wp2_with fail
        go_ret2
        exact ⟨rfl, (Below.refl _ _).alloc (Nat.le_refl _) _⟩
      · have d' : (H : Int) ≤ y := by omega
        clear hoff
        go_enter Tryz.func56, Tryz.ntmps56
        go_wp2_with fail
        go_ret2
        exact ⟨rfl, (Below.refl _ _).alloc (Nat.le_refl _) _⟩

set_option maxRecDepth 20000 in
set_option maxHeartbeats 3200000 in
theorem heightIn_go (base g : Nat) (h : List Value) (T : List (Nat × Value)) (c m s W H x y X Y left top sw sh cw q n dy e1 f1 idx sz : Nat) (Z : List Int) (z : Int) (Post : World → World → Prop) (h1 : h[1]? = some (.int .i64 (W : Int))) (h2 : h[2]? = some (.int .i64 (H : Int))) (h3 : h[3]? = some (.slice none 0 0)) (hx : x < W) (hy : y < H) (hW : W ≤ 256) (hH : H ≤ 256) (w : World) (K : CK w g h T c m s)
    (hX : (x : Int) / 16 = (X : Int)) (hY : (y : Int) / 16 = (Y : Int)) (t1 : IntKind.i64.wrap ((Y : Int) * (cw : Int)) = (q : Int)) (t2 : IntKind.i64.wrap ((q : Int) + (X : Int)) = (n : Int)) (t3 : IntKind.i64.wrap ((y : Int) - (top : Int)) = (dy : Int)) (t4 : IntKind.i64.wrap ((dy : Int) * (sw : Int)) = (e1 : Int)) (t5 : IntKind.i64.wrap ((e1 : Int) + (x : Int)) = (f1 : Int)) (t6 : IntKind.i64.wrap ((f1 : Int) - (left : Int)) = (idx : Int))
    (hi : idx < sz) (hsz : sz ≤ 256) (hz : (i16s Z)[idx]? = some (.int .i16 z))
    (CB : Hid (Ans 71 #[.int .i64 W, .int .i64 H, pv X Y] (.tuple #[.int .i64 left, .int .i64 top, .int .i64 sw, .int .i64 sh])))
    (CC : Hid (Ans 83 #[.int .i64 W] (.int .i64 cw)))
    (CU : Hid (∀ wx, Below w.heap.size w wx → Calls Tryz.prog 82 #[.pointer (some ⟨g, 0, none⟩), .int .i64 n] wx fun e w' => ∃ v, e = .returned v ∧ w'.ownsRow base 51 1 v sz (i16s Z) ∧ Post wx w' ∧ Turned (fun k => k = g) wx w')) :
    Calls Tryz.prog 56 #[.pointer (some ⟨g, 0, none⟩), .int .i64 x, .int .i64 y] w fun e w' => e = .returned (hgt z) ∧ ∃ w1 w2, Below w.heap.size w w1 ∧ Post w1 w2 ∧ Turned (fun k => k = g) w1 w2 ∧ w' = w2 := by
  have c1 := K.head h1
  have c2 := K.head h2
  have c3 := K.head h3
  have hg := K.lt
  have hx0 : ¬ ((x : Int) < 0) := by omega
  have hy0 : ¬ ((y : Int) < 0) := by omega
  have hxW : ¬ ((W : Int) ≤ (x : Int)) := by omega
  have hyH : ¬ ((H : Int) ≤ (y : Int)) := by omega
  have HZ := Lib.hid hz
  have hii : (idx : Int) < (sz : Int) := by omega
  clear K h1 h2 h3 hz hx hy
  go_enter Tryz.func56, Tryz.ntmps56
  go_wp2_with fail
  obtain ⟨w2, hw2⟩ : ∃ w2, (w.alloc (.cells #[.int .i64 W, .int .i64 H, .slice none 0 0] 26)).alloc (.cells #[.int .i64 X, .int .i64 Y] 92) = w2 := ⟨_, rfl⟩
  have hB2 : Below w.heap.size w w2 := by rw [← hw2]; exact ((Below.refl _ _).alloc (Nat.le_refl _) _).alloc (by simp) _
  have K1 : Blk w2 w.heap.size 26 [.int .i64 W, .int .i64 H, .slice none 0 0] := by rw [← hw2]; exact (Blk.new w _ _).alloc _
  have K2 : Blk w2 (w.heap.size + 1) 92 [.int .i64 X, .int .i64 Y] := by
    rw [← hw2]
    have := Blk.new (w.alloc (.cells #[.int .i64 W, .int .i64 H, .slice none 0 0] 26)) 92 [.int .i64 X, .int .i64 Y]
    rw [World.size_alloc] at this
    exact this
  rw [hw2]
  clear hw2 c1 c2 c3
  refine (CB.out w2).mono ?_
  rintro e w3 ⟨rfl, hA3⟩
  clear CB
  have hB3 := hB2.trans (hA3.mono hB2.size)
  replace K1 := K1.below hA3 K1.lt
  replace K2 := K2.below hA3 K2.lt
  clear hB2 hA3
  have a0 := K1.cell (i := 0) rfl
  have d0 := K2.cell (i := 0) rfl
  have d1 := K2.cell (i := 1) rfl
  have k1lt := K1.lt
  have k2lt := K2.lt
  go_wp2_with fail
  refine wp_region_held_drew (S := (fun w' : World => w'.cell? ⟨w.heap.size, 0, none⟩ = some (.int .i64 W) ∧ w'.cell? ⟨w.heap.size + 1, 0, none⟩ = some (.int .i64 X) ∧ w'.cell? ⟨w.heap.size + 1, 1, none⟩ = some (.int .i64 Y))) (by kernel_rfl) (⟨a0, d0, d1⟩) (fun hHeld => ?_)
  refine wpAnyH_take (i := 0) (v := ?v252) rfl (by kernel_rfl) (by kernel_rfl) (by kernel_rfl) (fun _ _ _ h => h) (Or.inl ⟨by rfl, ?hy252⟩) hHeld ?rest252
  case hy252 => (intro w' hSw; (try dsimp only at hSw); go_simp; (try with_reducible rfl))
  try simp only [Act.put, List.setIfInBounds_toArray, List.set_cons_zero, List.set_cons_succ, List.getElem_toArray, List.getElem_cons_zero, List.getElem_cons_succ]
  refine wpAnyH_take (i := 1) (v := ?v253) rfl (by kernel_rfl) (by kernel_rfl) (by kernel_rfl) (fun _ _ _ h => h) (Or.inl ⟨by rfl, ?hy253⟩) hHeld ?rest253
  case hy253 => (intro w' hSw; (try dsimp only at hSw); go_simp; (try with_reducible rfl))
  try simp only [Act.put, List.setIfInBounds_toArray, List.set_cons_zero, List.set_cons_succ, List.getElem_toArray, List.getElem_cons_zero, List.getElem_cons_succ]
  refine wpAnyH_take (i := 2) (v := ?v254) rfl (by kernel_rfl) (by kernel_rfl) (by kernel_rfl) (fun _ _ _ h => h) (Or.inl ⟨by rfl, ?hy254⟩) hHeld ?rest254
  case hy254 => (intro w' hSw; (try dsimp only at hSw); go_simp; (try with_reducible rfl))
  try simp only [Act.put, List.setIfInBounds_toArray, List.set_cons_zero, List.set_cons_succ, List.getElem_toArray, List.getElem_cons_zero, List.getElem_cons_succ]
  refine wpAnyH_take (i := 3) (v := ?v255) rfl (by kernel_rfl) (by kernel_rfl) (by kernel_rfl) (fun _ _ _ h => h) (Or.inl ⟨by rfl, ?hy255⟩) hHeld ?rest255
  case hy255 => (intro w' hSw; (try dsimp only at hSw); go_simp; (try with_reducible rfl))
  try simp only [Act.put, List.setIfInBounds_toArray, List.set_cons_zero, List.set_cons_succ, List.getElem_toArray, List.getElem_cons_zero, List.getElem_cons_succ]
  refine wpAnyH_take (i := 4) (v := ?v256) rfl (by kernel_rfl) (by kernel_rfl) (by kernel_rfl) (fun _ _ _ h => h) (Or.inl ⟨by rfl, ?hy256⟩) hHeld ?rest256
  case hy256 => (intro w' hSw; (try dsimp only at hSw); go_simp; (try with_reducible rfl))
  try simp only [Act.put, List.setIfInBounds_toArray, List.set_cons_zero, List.set_cons_succ, List.getElem_toArray, List.getElem_cons_zero, List.getElem_cons_succ]
  refine wpAnyH_take (i := 7) (v := ?v257) rfl (by kernel_rfl) (by kernel_rfl) (by kernel_rfl) (fun _ _ _ h => h) (Or.inl ⟨by rfl, ?hy257⟩) hHeld ?rest257
  case hy257 => (intro w' hSw; (try dsimp only at hSw); go_simp; (try with_reducible rfl))
  try simp only [Act.put, List.setIfInBounds_toArray, List.set_cons_zero, List.set_cons_succ, List.getElem_toArray, List.getElem_cons_zero, List.getElem_cons_succ]
  refine wpAnyH_take (i := 8) (v := ?v258) rfl (by kernel_rfl) (by kernel_rfl) (by kernel_rfl) (fun _ _ _ h => h) (Or.inl ⟨by rfl, ?hy258⟩) hHeld ?rest258
  case hy258 => (intro w' hSw; (try dsimp only at hSw); go_simp; (try with_reducible rfl))
  try simp only [Act.put, List.setIfInBounds_toArray, List.set_cons_zero, List.set_cons_succ, List.getElem_toArray, List.getElem_cons_zero, List.getElem_cons_succ]
  refine wpAnyH_take (i := 11) (v := ?v259) rfl (by kernel_rfl) (by kernel_rfl) (by kernel_rfl) (fun _ _ _ h => h) (Or.inl ⟨by rfl, ?hy259⟩) hHeld ?rest259
  case hy259 => (intro w' hSw; (try dsimp only at hSw); go_simp; (try with_reducible rfl))
  try simp only [Act.put, List.setIfInBounds_toArray, List.set_cons_zero, List.set_cons_succ, List.getElem_toArray, List.getElem_cons_zero, List.getElem_cons_succ]
  refine wpAnyH_take (i := 12) (v := ?v260) rfl (by kernel_rfl) (by kernel_rfl) (by kernel_rfl) (fun _ _ _ h => h) (Or.inl ⟨by rfl, ?hy260⟩) hHeld ?rest260
  case hy260 => (intro w' hSw; (try dsimp only at hSw); go_simp; (try with_reducible rfl))
  try simp only [Act.put, List.setIfInBounds_toArray, List.set_cons_zero, List.set_cons_succ, List.getElem_toArray, List.getElem_cons_zero, List.getElem_cons_succ]
  refine wpAnyH_take (i := 13) (v := ?v261) rfl (by kernel_rfl) (by kernel_rfl) (by kernel_rfl) (fun _ _ _ h => h) (Or.inl ⟨by rfl, ?hy261⟩) hHeld ?rest261
  case hy261 => (intro w' hSw; (try dsimp only at hSw); go_simp; (try with_reducible rfl))
  try simp only [Act.put, List.setIfInBounds_toArray, List.set_cons_zero, List.set_cons_succ, List.getElem_toArray, List.getElem_cons_zero, List.getElem_cons_succ]
  refine wpAnyH_take (i := 14) (v := ?v262) rfl (by kernel_rfl) (by kernel_rfl) (by kernel_rfl) (fun _ _ _ h => h) (Or.inl ⟨by rfl, ?hy262⟩) hHeld ?rest262
  case hy262 => (intro w' hSw; (try dsimp only at hSw); go_simp; (try with_reducible rfl))
  try simp only [Act.put, List.setIfInBounds_toArray, List.set_cons_zero, List.set_cons_succ, List.getElem_toArray, List.getElem_cons_zero, List.getElem_cons_succ]
  refine wpAnyH_take (i := 15) (v := ?v263) rfl (by kernel_rfl) (by kernel_rfl) (by kernel_rfl) (fun _ _ _ h => h) (Or.inl ⟨by rfl, ?hy263⟩) hHeld ?rest263
  case hy263 => (intro w' hSw; (try dsimp only at hSw); go_simp; (try with_reducible rfl))
  try simp only [Act.put, List.setIfInBounds_toArray, List.set_cons_zero, List.set_cons_succ, List.getElem_toArray, List.getElem_cons_zero, List.getElem_cons_succ]
  refine wpAnyH_take (i := 16) (v := ?v264) rfl (by kernel_rfl) (by kernel_rfl) (by kernel_rfl) (fun _ _ _ h => h) (Or.inl ⟨by rfl, ?hy264⟩) hHeld ?rest264
  case hy264 => (intro w' hSw; (try dsimp only at hSw); go_simp; (try with_reducible rfl))
  try simp only [Act.put, List.setIfInBounds_toArray, List.set_cons_zero, List.set_cons_succ, List.getElem_toArray, List.getElem_cons_zero, List.getElem_cons_succ]
  refine wpAnyH_take (i := 17) (v := ?v265) rfl (by kernel_rfl) (by kernel_rfl) (by kernel_rfl) (fun _ _ _ h => h) (Or.inl ⟨by rfl, ?hy265⟩) hHeld ?rest265
  case hy265 => (intro w' hSw; (try dsimp only at hSw); go_simp; (try with_reducible rfl))
  try simp only [Act.put, List.setIfInBounds_toArray, List.set_cons_zero, List.set_cons_succ, List.getElem_toArray, List.getElem_cons_zero, List.getElem_cons_succ]
  refine wpAnyH_take (i := 18) (v := ?v266) rfl (by kernel_rfl) (by kernel_rfl) (by kernel_rfl) (fun _ _ _ h => h) (Or.inl ⟨by rfl, ?hy266⟩) hHeld ?rest266
  case hy266 => (intro w' hSw; (try dsimp only at hSw); go_simp; (try with_reducible rfl))
  try simp only [Act.put, List.setIfInBounds_toArray, List.set_cons_zero, List.set_cons_succ, List.getElem_toArray, List.getElem_cons_zero, List.getElem_cons_succ]
  refine wpAnyH_take (i := 19) (v := ?v267) rfl (by kernel_rfl) (by kernel_rfl) (by kernel_rfl) (fun _ _ _ h => h) (Or.inl ⟨by rfl, ?hy267⟩) hHeld ?rest267
  case hy267 => (intro w' hSw; (try dsimp only at hSw); go_simp; (try with_reducible rfl))
  try simp only [Act.put, List.setIfInBounds_toArray, List.set_cons_zero, List.set_cons_succ, List.getElem_toArray, List.getElem_cons_zero, List.getElem_cons_succ]
  refine wpAnyH_ready (rs := [5]) (by kernel_rfl) (by simp) ?_
  refine AllReadyH.cons rfl (fun K hK => ?_) AllReadyH.nil
  go_simp
  refine (CC.out _).mono ?_
  rintro e w4 ⟨rfl, hA⟩
  replace K1 := K1.drew.below hA K1.lt
  replace K2 := K2.drew.below hA K2.lt
  have hB4 := hB3.drew.trans (hA.mono hB3.size)
  clear CC hA
  try go_wp2_with fail
  refine hK.out _ _ (⟨K1.cell (i := 0) rfl, K2.cell (i := 0) rfl, K2.cell (i := 1) rfl⟩) (fun hHeld => ?_)
  clear hK K
  try simp only [Act.put, List.setIfInBounds_toArray, List.set_cons_zero, List.set_cons_succ, List.getElem_toArray, List.getElem_cons_zero, List.getElem_cons_succ]
  refine wpAnyH_take (i := 6) (v := ?v269) rfl (by kernel_rfl) (by kernel_rfl) (by kernel_rfl) (fun _ _ _ h => h) (Or.inl ⟨by rfl, ?hy269⟩) hHeld ?rest269
  case hy269 => (intro w' hSw; (try dsimp only at hSw); go_simp; (try with_reducible rfl))
  try simp only [Act.put, List.setIfInBounds_toArray, List.set_cons_zero, List.set_cons_succ, List.getElem_toArray, List.getElem_cons_zero, List.getElem_cons_succ]
  refine wpAnyH_take (i := 9) (v := ?v270) rfl (by kernel_rfl) (by kernel_rfl) (by kernel_rfl) (fun _ _ _ h => h) (Or.inl ⟨by rfl, ?hy270⟩) hHeld ?rest270
  case hy270 => (intro w' hSw; (try dsimp only at hSw); go_simp; (try with_reducible rfl))
  try simp only [Act.put, List.setIfInBounds_toArray, List.set_cons_zero, List.set_cons_succ, List.getElem_toArray, List.getElem_cons_zero, List.getElem_cons_succ]
  refine wpAnyH_ready (rs := [10]) (by kernel_rfl) (by simp) ?_
  refine AllReadyH.cons rfl (fun K hK => ?_) AllReadyH.nil
  go_simp
  refine (CU.out w4 hB4).mono ?_
  rintro e w5 ⟨v, rfl, ho, hP, hT⟩
  obtain ⟨gz, cz, rfl, hgz1, hgz2, hcz1, hcz2⟩ := ownsRow_val ho (by omega)
  have hcell := ownsRow_cell ho HZ.out
  replace K1 := K1.turned hT (by omega)
  replace K2 := K2.turned hT (by omega)
  have HP := Lib.hid hP
  have HT := Lib.hid hT
  clear CU hP hT
  try go_wp2_with fail
  refine hK.out _ _ (⟨K1.cell (i := 0) rfl, K2.cell (i := 0) rfl, K2.cell (i := 1) rfl⟩) (fun hHeld => ?_)
  clear hK K
  try simp only [Act.put, List.setIfInBounds_toArray, List.set_cons_zero, List.set_cons_succ, List.getElem_toArray, List.getElem_cons_zero, List.getElem_cons_succ]
  refine wpAnyH_take (i := 20) (v := ?v272) rfl (by kernel_rfl) (by kernel_rfl) (by kernel_rfl) (fun _ _ _ h => h) (Or.inl ⟨by rfl, ?hy272⟩) hHeld ?rest272
  case hy272 => (intro w' hSw; (try dsimp only at hSw); go_simp; (try with_reducible rfl))
  try simp only [Act.put, List.setIfInBounds_toArray, List.set_cons_zero, List.set_cons_succ, List.getElem_toArray, List.getElem_cons_zero, List.getElem_cons_succ]
  refine wpAnyH_ready (rs := [21]) (by kernel_rfl) (by simp) ?_
  refine AllReadyH.cons rfl (fun K hK => ?_) AllReadyH.nil
  go_simp
  try go_wp2_with fail
  refine hK.out _ _ (⟨K1.cell (i := 0) rfl, K2.cell (i := 0) rfl, K2.cell (i := 1) rfl⟩) (fun hHeld => ?_)
  clear hK K
  try simp only [Act.put, List.setIfInBounds_toArray, List.set_cons_zero, List.set_cons_succ, List.getElem_toArray, List.getElem_cons_zero, List.getElem_cons_succ]
  refine wpAnyH_take (i := 22) (v := ?v274) rfl (by kernel_rfl) (by kernel_rfl) (by kernel_rfl) (fun _ _ _ h => h) (Or.inl ⟨by rfl, ?hy274⟩) hHeld ?rest274
  case hy274 => (intro w' hSw; (try dsimp only at hSw); go_simp; (try with_reducible rfl))
  try simp only [Act.put, List.setIfInBounds_toArray, List.set_cons_zero, List.set_cons_succ, List.getElem_toArray, List.getElem_cons_zero, List.getElem_cons_succ]
  refine wpAnyH_done (by kernel_rfl) ?_ _
  have HB := Lib.hid hB4
  clear ho hcell a0 d0 d1 K1 K2 hB3 hB4 HZ hi t1 t2 t3 t4 t5 t6 hX hY hx0 hy0 hxW hyH hii
  by_cases hv : z = -32768
  · subst hv
    go_wp2_with fail
    go_ret2
    exact ⟨rfl, w4, w5, HB.out, HP.out, HT.out, by trivial⟩
  · have hg2 : hgt z = .tuple #[.int .i16 z, .int .i64 0] := by unfold hgt; rw [if_neg hv]
    have HG := Lib.hid hg2
    clear hg2
    go_wp2_with fail
    go_ret2
    exact ⟨by rw [HG.out]; rfl, w4, w5, HB.out, HP.out, HT.out, by trivial⟩

/-- The height of a column and a row, of which a tile is used. -/
theorem height_in (base g : Nat) (F : List Int) (W H cell : Nat) (ox oy : Int) (room : Nat) (L : List Nat) (m s x y : Nat) (O : MapOk F W H cell ox oy) (hx : x < W) (hy : y < H) (hm : m ≤ 1000000) (hs : s ≤ 1000000) (w : World) (J : CacheI w base g F W H cell ox oy room L m s) :
    Calls Tryz.prog 56 #[.pointer (some ⟨g, 0, none⟩), .int .i64 x, .int .i64 y] w fun e w' => e = .returned (hgt (F.getD (y * W + x) 0)) ∧
      CacheI w' base g F W H cell ox oy room (useL room L (y / 16 * cnt W + x / 16)) (if (y / 16 * cnt W + x / 16) ∈ L then m + 1 else m) (if (y / 16 * cnt W + x / 16) ∈ L then s else s + 1) ∧ Turned (fun k => k = g) w w' := by
  obtain ⟨i1, i2, i3, i4⟩ := isF_yes O.hF
  obtain ⟨hn, hv⟩ := tile_height F W H x y O.hl hx hy
  obtain ⟨X, hX⟩ : ∃ X, X = x / 16 := ⟨_, rfl⟩
  obtain ⟨Y, hY⟩ : ∃ Y, Y = y / 16 := ⟨_, rfl⟩
  rw [← hX, ← hY] at hn hv ⊢
  have hXc : X < cnt W := by have := cnt_ge W; omega
  have hYc : Y < cnt H := by have := cnt_ge H; omega
  have CB := box_yes W H X Y O.hF hXc hYc
  have f1 := side_fits W X hXc
  have f2 := side_fits H Y hYc
  have g1 := side_min W X hXc
  have g2 := side_min H Y hYc
  have s1 := side_le W X
  have s2 := side_le H Y
  have e1 : (Y * cnt W + X) % cnt W = X := by rw [Nat.mul_comm, Nat.mul_add_mod]; exact Nat.mod_eq_of_lt hXc
  have e2 : (Y * cnt W + X) / cnt W = Y := by rw [Nat.mul_comm, Nat.mul_add_div (by omega), Nat.div_eq_of_lt hXc]; rfl
  have hsz : szT W H (Y * cnt W + X) = side W X * side H Y := by unfold szT; rw [e1, e2]
  have hZl := tileAt_length F W H (Y * cnt W + X) O.hl hn
  rw [e1, e2] at hZl
  have hc : x % 16 < side W X := by omega
  have hr : y % 16 < side H Y := by omega
  have hidx : y % 16 * side W X + x % 16 < side W X * side H Y := by
    have := Nat.mul_le_mul_right (side W X) (Nat.succ_le_of_lt hr)
    rw [Nat.succ_mul, Nat.mul_comm (side H Y)] at this
    omega
  have hle : side W X * side H Y ≤ 16 * 16 := Nat.mul_le_mul s1 s2
  have hcw : cnt W ≤ 16 := by unfold cnt; omega
  have hq : Y * cnt W ≤ 15 * 16 := Nat.mul_le_mul (by omega) hcw
  have hd : y % 16 * side W X ≤ 15 * 16 := Nat.mul_le_mul (by omega) s1
  have HU := fun wx (hb : Below w.heap.size w wx) => (use10_any O (J.below hb) (Y * cnt W + X) hn hm hs).mono (fun e w' (h : ∃ v, e = .returned v ∧ _ ∧ _ ∧ _) => h)
  obtain ⟨ab, cb, aA, cA, aS, cS, T, c, J'⟩ := J
  obtain ⟨n, hne⟩ : ∃ n, n = Y * cnt W + X := ⟨_, rfl⟩
  obtain ⟨q, hqe⟩ : ∃ q, q = Y * cnt W := ⟨_, rfl⟩
  obtain ⟨d1, hde⟩ : ∃ d, d = y % 16 * side W X := ⟨_, rfl⟩
  obtain ⟨i, hie⟩ : ∃ i, i = y % 16 * side W X + x % 16 := ⟨_, rfl⟩
  rw [← hne] at hn hv hsz hZl HU ⊢
  rw [← hie] at hv hidx
  rw [hsz] at HU
  rw [Nat.mul_comm] at hZl
  have hz : (i16s (tileAt F W H n))[i]? = some (.int .i16 (F.getD (y * W + x) 0)) := by
    rw [i16s_at _ i (by rw [hZl]; exact hidx), ← hv, List.getD, List.getElem?_eq_getElem (by rw [hZl]; exact hidx)]; rfl
  have t0 : ((Y : Int) * ((cnt W : Nat) : Int)) = (q : Int) := by rw [hqe]; simp
  have t4 : (((y % 16 : Nat) : Int) * ((side W X : Nat) : Int)) = (d1 : Int) := by rw [hde]; simp
  refine (heightIn_go base g _ T c m s W H x y X Y (16 * X) (16 * Y) (side W X) (side H Y) (cnt W) q n (y % 16) d1 (d1 + x) i (side W X * side H Y) (tileAt F W H n) (F.getD (y * W + x) 0)
    (fun wx w' => CacheI w' base g F W H cell ox oy room (useL room L n) (if n ∈ L then m + 1 else m) (if n ∈ L then s else s + 1)) rfl rfl rfl hx hy (by omega) (by omega) w J'.ck
    (by omega) (by omega) (by rw [t0]; exact i64_nat q (by omega)) (by rw [← i64_nat n (by omega)]; congr 1; omega) (by rw [← i64_nat (y % 16) (by omega)]; congr 1; omega) (by rw [t4]; exact i64_nat d1 (by omega))
    (by rw [← i64_nat (d1 + x) (by omega)]; congr 1) (by rw [← i64_nat i (by omega)]; congr 1; omega) hidx (by omega) hz (Lib.hid CB) (Lib.hid (fun wx => ((count_go W (by omega) (by omega)) wx).mono (fun e w' ⟨a, b⟩ => ⟨a, by rw [← b]; exact Below.refl _ _⟩)))
    (Lib.hid HU)).mono ?_
  rintro e w' ⟨he, w1, w2, hB, hP, hT, rfl⟩
  exact ⟨he, hP, (Turned.below hB).trans hT (fun _ _ h => h)⟩
theorem height_off (base g : Nat) (F : List Int) (W H cell : Nat) (ox oy : Int) (room : Nat) (L : List Nat) (m s : Nat) (x y : Int) (hoff : ¬ (0 ≤ x ∧ 0 ≤ y ∧ x < (W : Int) ∧ y < (H : Int))) (w : World) (J : CacheI w base g F W H cell ox oy room L m s) :
    Calls Tryz.prog 56 #[.pointer (some ⟨g, 0, none⟩), .int .i64 x, .int .i64 y] w fun e w' => e = .returned (.tuple #[.int .i16 0, .int .i64 9]) ∧ Below w.heap.size w w' := by
  obtain ⟨ab, cb, aA, cA, aS, cS, T, c, J'⟩ := J
  exact heightOff_go g _ T c m s W H x y rfl rfl rfl hoff w J'.ck
end Go.Proofs.YtlkjcamjgaecgaaGreat
