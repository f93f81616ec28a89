/-
  Tile and Get of any bytes, of a map's bytes, and of spoilt ones: the code's.
-/
import Derived.Test.YtdknnfineommoaaChartG
set_option linter.unusedVariables false
set_option linter.unusedSimpArgs false
namespace Go.Proofs.Ytdknnfineommoaa
open Go Go.RowKit Go.Th Go.Th.Crc

theorem offs_mono {bs : List Nat} {W H i j : Nat} (h : i ≤ j) : offs bs W H i ≤ offs bs W H j := by
  induction j with
  | zero => obtain rfl : i = 0 := by omega
            exact Nat.le_refl _
  | succ j ih =>
    by_cases e : i = j + 1
    · subst e; exact Nat.le_refl _
    · have := ih (by omega)
      rw [offs]; omega
theorem tb_fits {bs : List Nat} {W H cell : Nat} (h : Opens bs W H cell) (i : Nat) (hi : i < nT W H) : offs bs W H i + rd bs (18 + 6 * i + 4) 2 ≤ bs.length := by
  have h1 : offs bs W H (i + 1) ≤ offs bs W H (nT W H) := offs_mono hi
  rw [h.last, offs] at h1
  exact h1
theorem tb_length {bs : List Nat} {W H cell : Nat} (h : Opens bs W H cell) (i : Nat) (hi : i < nT W H) : (tb bs W H i).length = rd bs (18 + 6 * i + 4) 2 := by
  have := tb_fits h i hi
  unfold tb
  rw [List.length_take, List.length_drop]; omega
theorem range_map_at (f : Nat → Nat) (n i : Nat) (h : i < n) : ((List.range n).map f)[i]? = some (f i) := by
  rw [List.getElem?_map, List.getElem?_range h]; rfl
theorem isF_opens {bs : List Nat} {W H cell : Nat} (h : Opens bs W H cell) : isF W H = true := isF_of (by have := h.wr; have := h.hr; omega)

theorem tile9_any (bs : List Nat) (W H cell0 L : Nat) (hO : Opens bs W H cell0) (hL : L = bs.length) (hL2 : L ≤ 1000000) (hb : ∀ x ∈ bs, x < 256) (i m : Nat) (hi : i < nT W H) (cell ox oy : Int) (Rz : List Int → Int → Prop)
    (CG : okB (tb bs W H i) = true → ∀ a' cap' k wx, k = (tb bs W H i).length - 4 → Sl wx 1 (.slice a' k cap') k (u8s ((tb bs W H i).take k)) → Calls Try.prog 42 #[.int .i64 (side W (i % cnt W) : Nat), .int .i64 (side H (i / cnt W) : Nat), .slice a' k cap'] wx (TAns Rz m wx))
    (a : Option Addr) (cap : Nat) (aA : Option Addr) (cA : Nat) (aS : Option Addr) (cS : Nat) (w : World) (hS : Sl w 1 (.slice a L cap) L (u8s bs))
    (hA : Sl w 1 (.slice aA (nT W H) cA) (nT W H) (ints ((List.range (nT W H)).map (offs bs W H)))) (hs : Sl w 1 (.slice aS (nT W H) cS) (nT W H) (ints ((List.range (nT W H)).map (fun i => rd bs (18 + 6 * i + 4) 2)))) :
    Calls Try.prog 14 #[.slice a L cap, dv W H (.slice none 0 0) cell ox oy (.slice aA (nT W H) cA) (.slice aS (nT W H) cS), .int .i64 i] w (TAns (fun zs c => (okB (tb bs W H i) = false ∧ c = 4) ∨ (okB (tb bs W H i) = true ∧ Rz zs c)) m w) := by
  have hF := isF_opens hO
  have hw := hO.wr
  have hh := hO.hr
  have hn := nT_le (W := W) (H := H) (by omega) (by omega)
  have hfit := tb_fits hO i hi
  have hlen := tb_length hO i hi
  obtain ⟨hX, hY, _⟩ := tile_xy W H i hi
  have hblt : ∀ x ∈ tb bs W H i, x < 256 := fun x hx => hb x (List.mem_of_mem_drop (List.mem_of_mem_take hx))
  have CP := fun wx hs' => piece9_any a L cap bs (offs bs W H i) (rd bs (18 + 6 * i + 4) 2) hL (by omega) (by omega) wx hs'
  cases hok : okB (tb bs W H i)
  · have := tile9_no W H i (nT W H) L m (rd bs (18 + 6 * i + 4) 2) (offs bs W H i) 0 0 0 0 0 0 0 cell ox oy bs (tb bs W H i) a cap aA aS cA cS _ _ Rz w hi hn hS hA hs (by simp) (by simp) (range_map_at _ _ _ hi) (range_map_at _ _ _ hi) (Lib.hid (count9_any W H hF)) (Lib.hid CP)
      (Lib.hid (fun a' cap' wx hs' => crcGet_bad (.slice a' _ cap') (tb bs W H i) wx (by rw [hlen]; exact hs') (by rw [hlen]; omega) hblt hok)) (Lib.hid hok)
    rwa [hok] at this
  · have h4 : 4 ≤ (tb bs W H i).length := by
      unfold okB at hok
      simp only [Bool.and_eq_true, decide_eq_true_eq] at hok
      exact hok.1
    have C5 := fun wx => box_yes W H (i % cnt W) (i / cnt W) hF hX hY wx
    have C3 := fun a' cap' wx (hs' : Sl wx 1 (.slice a' (rd bs (18 + 6 * i + 4) 2) cap') (rd bs (18 + 6 * i + 4) 2) (u8s (tb bs W H i))) => crcGet_yes (.slice a' _ cap') (tb bs W H i) wx (by rw [hlen]; exact hs') (by rw [hlen]; omega) hblt h4 hok
    have := tile9_yes W H i (nT W H) L m (rd bs (18 + 6 * i + 4) 2) (offs bs W H i) (side W (i % cnt W)) (side H (i / cnt W)) (i % cnt W) (i / cnt W) (16 * (i % cnt W)) (16 * (i / cnt W)) ((tb bs W H i).length - 4) cell ox oy bs (tb bs W H i) a cap aA aS cA cS _ _ Rz w hi hn hS hA hs (by simp) (by simp) (range_map_at _ _ _ hi) (range_map_at _ _ _ hi) (Lib.hid (count9_any W H hF)) (Lib.hid CP)
      (Lib.hid C3) (Lib.hid hok) (Lib.hid (place_any W i (by omega) (by omega) (by omega))) (Lib.hid C5) (Lib.hid (fun a' cap' wx hs' => CG hok a' cap' _ wx rfl hs'))
    rwa [hok] at this

/-- The heights of a tile of which there are these bytes. -/
theorem tget_tile (F : List Int) (W H i : Nat) (hF : isF W H = true) (hFl : F.length = W * H) (h16 : ∀ u ∈ F, In16 u) (hi : i < nT W H) (a' : Option Addr) (cap' k : Nat) (wx : World) (hk : k = (tileB F W H i).length - 4) (hs : Sl wx 1 (.slice a' k cap') k (u8s ((tileB F W H i).take k))) :
    Calls Try.prog 42 #[.int .i64 (side W (i % cnt W) : Nat), .int .i64 (side H (i / cnt W) : Nat), .slice a' k cap'] wx (TAns (fun zs c => c = 0 ∧ zs = tileAt F W H i) (side W (i % cnt W) * side H (i / cnt W)) wx) := by
  obtain ⟨hX, hY, _⟩ := tile_xy W H i hi
  have p1 := (side_pos W _).2 hX
  have p2 := (side_pos H _).2 hY
  have s1 := side_le W (i % cnt W)
  have s2 := side_le H (i / cnt W)
  have hAl := tileAt_length F W H i hFl hi
  rw [Nat.mul_comm] at hAl
  have e1 : tileB F W H i = putB (pack (row (deltas (side W (i % cnt W)) (tileAt F W H i)))) := rfl
  obtain ⟨L, hL⟩ : ∃ L, L = pack (row (deltas (side W (i % cnt W)) (tileAt F W H i))) := ⟨_, rfl⟩
  have hkl : k = L.length := by rw [hk, e1, ← hL, putB_length]; omega
  have et : (tileB F W H i).take k = L := by rw [e1, ← hL, hkl]; unfold putB; rw [List.take_append_of_le_length (Nat.le_refl _), List.take_length]
  rw [et] at hs
  have h16' : ∀ u ∈ tileAt F W H i, In16 u := fun u hu => h16 u (mem_tileTo hu)
  refine tget_back' _ _ _ (isT_of (by omega)) rfl _ (tileAt F W H i) hAl h16' wx ?_
  rw [← hL, ← hkl]
  exact hs
theorem tget_any9 (bs : List Nat) (W H cell i : Nat) (hO : Opens bs W H cell) (hb : ∀ x ∈ bs, x < 256) (hi : i < nT W H) (a' : Option Addr) (cap' k : Nat) (wx : World) (hk : k = (tb bs W H i).length - 4) (hs : Sl wx 1 (.slice a' k cap') k (u8s ((tb bs W H i).take k))) :
    Calls Try.prog 42 #[.int .i64 (side W (i % cnt W) : Nat), .int .i64 (side H (i / cnt W) : Nat), .slice a' k cap'] wx (TAns (fun _ _ => True) (side W (i % cnt W) * side H (i / cnt W)) wx) := by
  obtain ⟨hX, hY, _⟩ := tile_xy W H i hi
  have p1 := (side_pos W _).2 hX
  have p2 := (side_pos H _).2 hY
  have s1 := side_le W (i % cnt W)
  have s2 := side_le H (i / cnt W)
  have hl := tb_length hO i hi
  have hr := rd_lt2 bs (18 + 6 * i + 4) hb
  have hkl : ((tb bs W H i).take k).length = k := by rw [List.length_take]; omega
  refine tget_some _ _ _ (isT_of (by omega)) rfl _ ((tb bs W H i).take k) (by omega) (fun x hx => hb x (List.mem_of_mem_drop (List.mem_of_mem_take (List.mem_of_mem_take hx)))) wx ?_
  rw [hkl]
  exact hs

/-- What Open answers, as Get asks it. -/
theorem open9_yes (bs : List Nat) (W H cell L : Nat) (hO : Opens bs W H cell) (hL : L = bs.length) (hL2 : L ≤ 1000000) (hb : ∀ x ∈ bs, x < 256) (a : Option Addr) (cap : Nat) (wx : World) (hS : Sl wx 1 (.slice a L cap) L (u8s bs)) :
    Calls Try.prog 12 #[.slice a L cap] wx fun e w' => ∃ va vs, e = .returned (.tuple #[dv W H (.slice none 0 0) cell (IntKind.i32.wrap (rd bs 10 4 : Nat)) (IntKind.i32.wrap (rd bs 14 4 : Nat)) va vs, .int .i64 0]) ∧
      w'.ownsRow wx.heap.size 3 1 va (nT W H) (ints ((List.range (nT W H)).map (offs bs W H))) ∧ w'.ownsRow wx.heap.size 3 1 vs (nT W H) (ints ((List.range (nT W H)).map (fun i => rd bs (18 + 6 * i + 4) 2))) ∧ Below wx.heap.size wx w' := by
  refine (open9_any L bs a cap hL (by omega) hb wx hS).mono ?_
  rintro e w' (⟨W', H', cell', va, vs, hO', he, h1, h2, hB⟩ | ⟨hno, _⟩)
  · obtain ⟨rfl, rfl, rfl⟩ := hO.only hO'
    exact ⟨va, vs, he, h1, h2, hB⟩
  · exact absurd hO (hno W H cell)

/-- Get, where header and directory are right: by what each tile answers. -/
theorem get9_by (bs : List Nat) (W H cell L : Nat) (hO : Opens bs W H cell) (hL : L = bs.length) (hL2 : L ≤ 1000000) (hb : ∀ x ∈ bs, x < 256) (P : Nat → List Int → Prop) (Rz : Nat → List Int → Int → Prop)
    (CG : ∀ i, i < nT W H → okB (tb bs W H i) = true → ∀ a' cap' k wx, k = (tb bs W H i).length - 4 → Sl wx 1 (.slice a' k cap') k (u8s ((tb bs W H i).take k)) → Calls Try.prog 42 #[.int .i64 (side W (i % cnt W) : Nat), .int .i64 (side H (i / cnt W) : Nat), .slice a' k cap'] wx (TAns (Rz i) (side W (i % cnt W) * side H (i / cnt W)) wx))
    (HP0 : P 0 (List.replicate (W * H) 0))
    (HPn : ∀ i G zs, i < nT W H → G.length = W * H → P i G → okB (tb bs W H i) = true → Rz i zs 0 → zs.length = side W (i % cnt W) * side H (i / cnt W) → P (i + 1) (layTo G W (16 * (i % cnt W)) (16 * (i / cnt W)) (side W (i % cnt W)) zs (side H (i / cnt W))))
    (a : Option Addr) (cap : Nat) (w : World) (hS : Sl w 1 (.slice a L cap) L (u8s bs)) :
    Calls Try.prog 18 #[.slice a L cap] w fun e w' =>
      (∃ G v, P (nT W H) G ∧ G.length = W * H ∧ e = .returned (.tuple #[cv W H v cell (IntKind.i32.wrap (rd bs 10 4 : Nat)) (IntKind.i32.wrap (rd bs 14 4 : Nat)), .int .i64 0]) ∧ w'.ownsRow w.heap.size 56 1 v (W * H) (i16s G) ∧ Below w.heap.size w w') ∨
      (∃ i c zs G, i < nT W H ∧ c ≠ 0 ∧ P i G ∧ ((okB (tb bs W H i) = false ∧ c = 4) ∨ (okB (tb bs W H i) = true ∧ Rz i zs c)) ∧ e = .returned (.tuple #[cv 0 0 (.slice none 0 0) 0 0 0, .int .i64 c]) ∧ Below w.heap.size w w') := by
  have hF := isF_opens hO
  have hw := hO.wr
  have hh := hO.hr
  have hn := nT_le (W := W) (H := H) (by omega) (by omega)
  have hn1 := nT_pos (W := W) (H := H) (by omega) (by omega)
  refine get9_go W H (nT W H) (W * H) L cell _ _ bs _ _ a cap P (fun i zs c => (okB (tb bs W H i) = false ∧ c = 4) ∨ (okB (tb bs W H i) = true ∧ Rz i zs c)) (fun i => side W (i % cnt W) * side H (i / cnt W))
    (fun i G zs => layTo G W (16 * (i % cnt W)) (16 * (i / cnt W)) (side W (i % cnt W)) zs (side H (i / cnt W))) w hS (by omega) (by omega) rfl hn1 hn
    (Lib.hid (fun wx hB => open9_yes bs W H cell L hO hL hL2 hb a cap wx (hS.below hB))) (Lib.hid (fun wx => places_any W H hF wx))
    (Lib.hid (fun i hi aA cA aS cS wx h1 h2 h3 => tile9_any bs W H cell L hO hL hL2 hb i _ hi cell _ _ (Rz i) (CG i hi) a cap aA cA aS cS wx h1 h2 h3)) (Lib.hid ?_) (Lib.hid HP0) (Lib.hid ?_)
  · intro i hi g D1 G zs az cz wx hG hz ho hs
    obtain ⟨hX, hY, _⟩ := tile_xy W H i hi
    exact lay_yes W H _ _ (W * H) g (W * H) D1 G zs az _ cz hF rfl hX hY hG hz rfl wx ho hs
  · intro i G zs hi hG hP hR hz
    obtain ⟨hX, hY, _⟩ := tile_xy W H i hi
    have f1 := side_fits W _ hX
    have f2 := side_fits H _ hY
    have hR' : okB (tb bs W H i) = true ∧ Rz i zs 0 := by
      rcases hR with ⟨_, h⟩ | h
      · omega
      · exact h
    exact ⟨HPn i G zs hi hG hP hR'.1 hR'.2 hz, layTo_length G W H _ _ _ _ zs hG hz f1 f2 _ (Nat.le_refl _)⟩

/-- There and back. -/
theorem get9_back (F : List Int) (W H cell : Nat) (ox oy : Int) (hF : isF W H = true) (hc : isC cell = true) (hl : F.length = W * H) (h16 : ∀ u ∈ F, In16 u) (h1 : In32' ox) (h2 : In32' oy) (L : Nat) (hL : L = (chartB F W H cell ox oy).length) (hL2 : L ≤ 1000000)
    (a : Option Addr) (cap : Nat) (w : World) (hS : Sl w 1 (.slice a L cap) L (u8s (chartB F W H cell ox oy))) :
    Calls Try.prog 18 #[.slice a L cap] w fun e w' => ∃ v, e = .returned (.tuple #[cv W H v cell ox oy, .int .i64 0]) ∧ w'.ownsRow w.heap.size 56 1 v (W * H) (i16s F) ∧ Below w.heap.size w w' := by
  obtain ⟨i1, i2, i3, i4⟩ := isF_yes hF
  obtain ⟨i5, i6⟩ := isC_yes hc
  have hO := opens_chart (ox := ox) (oy := oy) (F := F) (W := W) (H := H) (cell := cell) hl (by omega) (by omega) (by omega)
  obtain ⟨r, hr⟩ := chartB_more F W H cell ox oy 0 (Nat.zero_le _)
  obtain ⟨_, _, _, _, r5, r6⟩ := rd_head (ox := ox) (oy := oy) (W := W) (H := H) (cell := cell) (by omega) (by omega) (by omega) hr
  have hok : ∀ i, i < nT W H → okB (tb (chartB F W H cell ox oy) W H i) = true := fun i hi => by rw [tb_chart hl (by omega) (by omega) i hi]; exact okB_putB _
  refine (get9_by (chartB F W H cell ox oy) W H cell L hO hL hL2 (chartB_lt F W H cell ox oy) (fun i G => G = mix F (laid9 W i)) (fun i zs c => c = 0 ∧ zs = tileAt F W H i) ?_ ?_ ?_ a cap w hS).mono ?_
  · intro i hi _ a' cap' k wx hk hs
    rw [tb_chart hl (by omega) (by omega) i hi] at hk hs
    exact tget_tile F W H i hF hl h16 hi a' cap' k wx hk hs
  · rw [laid9_none W (W * H) F hl]
  · rintro i G zs hi _ rfl _ ⟨_, rfl⟩ _
    exact laid9_next W H i F hl hi (by omega)
  · rintro e w' (⟨G, v, rfl, _, he, ho, hB⟩ | ⟨i, c, zs, G, hi, hc', _, hR, _⟩)
    · rw [laid9_all W H F hl (by omega)] at ho
      rw [r5, r6, u32_back h1, u32_back h2] at he
      exact ⟨v, he, ho, hB⟩
    · rcases hR with ⟨h, _⟩ | ⟨_, h, _⟩
      · rw [hok i hi] at h; cases h
      · exact absurd h hc'

/-- No map: a code. -/
theorem get9_ne (bs : List Nat) (L : Nat) (hL : L = bs.length) (hL2 : L ≤ 1000000) (hb : ∀ x ∈ bs, x < 256) (hno : ¬ Gets bs) (a : Option Addr) (cap : Nat) (w : World) (hS : Sl w 1 (.slice a L cap) L (u8s bs)) :
    Calls Try.prog 18 #[.slice a L cap] w fun e w' => ∃ c : Int, c ≠ 0 ∧ e = .returned (.tuple #[cv 0 0 (.slice none 0 0) 0 0 0, .int .i64 c]) ∧ Below w.heap.size w w' := by
  by_cases hO : ∃ W H cell, Opens bs W H cell
  · obtain ⟨W, H, cell, hO⟩ := hO
    refine (get9_by bs W H cell L hO hL hL2 hb (fun i _ => ∀ j, j < i → okB (tb bs W H j) = true) (fun _ _ _ => True) ?_ ?_ ?_ a cap w hS).mono ?_
    · intro i hi _ a' cap' k wx hk hs
      exact tget_any9 bs W H cell i hO hb hi a' cap' k wx hk hs
    · intro j hj; omega
    · intro i G zs hi _ hP hok _ _ j hj
      by_cases e : j = i
      · subst e; exact hok
      · exact hP j (by omega)
    · rintro e w' (⟨G, v, hP, _⟩ | ⟨i, c, zs, G, hi, hc', _, _, he, hB⟩)
      · exact absurd ⟨W, H, cell, hO, hP⟩ hno
      · exact ⟨c, hc', he, hB⟩
  · have hO' : ∀ W H cell, ¬ Opens bs W H cell := fun W H cell h => hO ⟨W, H, cell, h⟩
    refine (get9_no (fun _ => True) 1 L cap a w (by decide) (fun wx hB => (open9_any L bs a cap hL (by omega) hb wx (hS.below hB)).mono ?_)).mono ?_
    · rintro e w' (⟨W', H', cell', va, vs, h, _⟩ | ⟨_, c, hc, _, he, hB'⟩)
      · exact absurd h (hO' _ _ _)
      · exact ⟨c, hc, trivial, he, hB'⟩
    · rintro e w' ⟨c, hc, _, he, hB⟩
      exact ⟨c, hc, he, hB⟩

/-- A tile with a wrong sum, all ahead of it being right: ErrSum. -/
theorem get9_sum (F : List Int) (bs : List Nat) (W H cell L k : Nat) (hO : Opens bs W H cell) (hL : L = bs.length) (hL2 : L ≤ 1000000) (hb : ∀ x ∈ bs, x < 256) (hk : k < nT W H) (hl : F.length = W * H) (h16 : ∀ u ∈ F, In16 u) (hbad : okB (tb bs W H k) = false) (hgood : ∀ i, i < k → tb bs W H i = tileB F W H i)
    (a : Option Addr) (cap : Nat) (w : World) (hS : Sl w 1 (.slice a L cap) L (u8s bs)) :
    Calls Try.prog 18 #[.slice a L cap] w fun e w' => e = .returned (.tuple #[cv 0 0 (.slice none 0 0) 0 0 0, .int .i64 4]) ∧ Below w.heap.size w w' := by
  refine (get9_by bs W H cell L hO hL hL2 hb (fun i _ => i ≤ k) (fun i _ c => i < k → c = 0) ?_ (Nat.zero_le _) ?_ a cap w hS).mono ?_
  · intro i hi _ a' cap' q wx hq hs
    by_cases hik : i < k
    · rw [hgood i hik] at hq hs
      refine (tget_tile F W H i (isF_opens hO) hl h16 hi a' cap' q wx hq hs).mono ?_
      rintro e w' ⟨zs, c, v, he, ⟨rfl, _⟩, h1, h2, hB⟩
      exact ⟨zs, 0, v, he, fun _ => rfl, h1, h2, hB⟩
    · refine (tget_any9 bs W H cell i hO hb hi a' cap' q wx hq hs).mono ?_
      rintro e w' ⟨zs, c, v, he, _, h1, h2, hB⟩
      exact ⟨zs, c, v, he, fun h => absurd h hik, h1, h2, hB⟩
  · intro i G zs hi _ hP hok _ _
    by_cases e : i = k
    · subst e; rw [hbad] at hok; cases hok
    · show i + 1 ≤ k
      have : i ≤ k := hP
      omega
  · rintro e w' (⟨G, v, hP, _⟩ | ⟨i, c, zs, G, hi, hc', hP, hR, he, hB⟩)
    · have : nT W H ≤ k := hP
      omega
    · have hP' : i ≤ k := hP
      rcases hR with ⟨_, rfl⟩ | ⟨hok, h⟩
      · exact ⟨he, hB⟩
      · by_cases e' : i = k
        · subst e'; rw [hbad] at hok; cases hok
        · exact absurd (h (by omega)) hc'

/-- Sides that no field has: ErrRange. -/
theorem get9_range (bs : List Nat) (L : Nat) (hL : L = bs.length) (hL2 : L ≤ 1000000) (hb : ∀ x ∈ bs, x < 256) (h18 : 18 ≤ bs.length) (hm : rd bs 0 4 = 1296978516) (hF : isF (rd bs 4 2 : Nat) (rd bs 6 2 : Nat) = false) (a : Option Addr) (cap : Nat) (w : World) (hS : Sl w 1 (.slice a L cap) L (u8s bs)) :
    Calls Try.prog 18 #[.slice a L cap] w fun e w' => e = .returned (.tuple #[cv 0 0 (.slice none 0 0) 0 0 0, .int .i64 2]) ∧ Below w.heap.size w w' := by
  refine (get9_no (fun c => c = 2) 1 L cap a w (by decide) (fun wx hB => (open9_any L bs a cap hL (by omega) hb wx (hS.below hB)).mono ?_)).mono ?_
  · rintro e w' (⟨W', H', cell', va, vs, h, _⟩ | ⟨_, c, hc, h2, he, hB'⟩)
    · have := isF_opens h
      rw [← h.w, ← h.h, hF] at this
      cases this
    · exact ⟨c, hc, h2 ⟨h18, hm, hF⟩, he, hB'⟩
  · rintro e w' ⟨c, _, rfl, he, hB⟩
    exact ⟨he, hB⟩
end Go.Proofs.Ytdknnfineommoaa
