/-
  The law's grids, and weights.
-/
import Derived.Test.YtallbegibdlpaaaGreatPackGridR
set_option linter.unusedVariables false
set_option linter.unusedSimpArgs false
namespace Go.Th.Grid
/-- The numbers that came in, as the law takes them: one, where none is told. -/
def inAt (z : List Int) (d : Int) (i : Nat) : Int := if i < z.length then z.getD i 0 else d
/-- The law's grid: of these numbers, or of nothing else but the first one. -/
def madeL (z : List Int) (n : Nat) : List Int := if sm (tab (inAt z 1) n) = 0 then (tab (inAt z 1) n).set 0 1 else tab (inAt z 1) n
theorem madeL_length (z : List Int) (n : Nat) : (madeL z n).length = n := by unfold madeL; split <;> simp [tab_length]
theorem inAt_rng {z : List Int} {d : Int} (hz : ∀ u ∈ z, 0 ≤ u ∧ u ≤ 65535) (hd : 0 ≤ d ∧ d ≤ 65536) (i : Nat) : 0 ≤ inAt z d i ∧ inAt z d i ≤ 65536 := by
  unfold inAt
  split
  · rename_i h
    have := getD_mem (P := fun u => 0 ≤ u ∧ u ≤ 65535) hz h
    omega
  · exact hd
theorem madeL_rng {z : List Int} (hz : ∀ u ∈ z, 0 ≤ u ∧ u ≤ 65535) (n : Nat) : ∀ u ∈ madeL z n, 0 ≤ u ∧ u ≤ 65536 := by
  have h : ∀ u ∈ tab (inAt z 1) n, 0 ≤ u ∧ u ≤ 65536 := tab_mem n (fun i _ => inAt_rng hz (by omega) i)
  unfold madeL
  split
  · intro u hu
    rcases List.mem_or_eq_of_mem_set hu with hu | rfl
    · exact h u hu
    · omega
  · exact h
theorem madeL_sm {z : List Int} (hz : ∀ u ∈ z, 0 ≤ u ∧ u ≤ 65535) {n : Nat} (hn : 0 < n) : 0 < sm (madeL z n) := by
  have h := madeL_rng hz n
  have h1 := sm_ge (fun u hu => (h u hu).1)
  have h0 := sm_pos (fun u hu => (h u hu).1)
  by_cases c : sm (tab (inAt z 1) n) = 0
  · have : (1 : Int) ∈ madeL z n := by
      unfold madeL
      rw [if_pos c]
      exact List.mem_set (by rw [tab_length]; exact hn) _
    have := h1 1 this
    omega
  · have e : madeL z n = tab (inAt z 1) n := by unfold madeL; rw [if_neg c]
    rw [e] at h0 ⊢
    omega
end Go.Th.Grid
namespace Go.Proofs.YtallbegibdlpaaaGreat
open Go Go.RowKit Go.Th Go.Th.Grid Go.Th.Wide

def u16s (xs : List Int) : List Value := xs.map (.int .u16)
theorem cellu16 {W : World} {a : Option Addr} {n cap : Nat} {l : List Int} (hS : Sl W 1 (.slice a n cap) n (u16s l)) (k : Nat) (hk : k < l.length) :
    ∃ b o, a = some ⟨b, o, none⟩ ∧ b < W.heap.size ∧ W.cell? ⟨b, o + k, none⟩ = some (.int .u16 (l.getD k 0)) := by
  obtain ⟨a', c', he, _, _, _, _, h5⟩ := hS
  cases he
  obtain ⟨b, o, ea, hc⟩ := h5 k (.int .u16 l[k]) (by simp [u16s, hk])
  rw [← getD_at l k hk] at hc
  exact ⟨b, o, ea, World.block_lt_of_cell? W _ hc, hc⟩

set_option maxRecDepth 20000 in
set_option maxHeartbeats 3200000 in
theorem weights_any (x y X Y s : Int) (a al : Option Addr) (n cap k capl : Nat) (p z : List Int) (hz : z.length = k) (hn : n ≤ 65536) (hk : k ≤ 1000000) (hz0 : ∀ u ∈ z, 0 ≤ u ∧ u ≤ 65535) (w : World) (hT : Sl w 1 (.slice al k capl) k (u16s z)) :
    Calls Tryz.prog 26 #[gv x y X Y s (.slice a n cap), .slice al k capl] w fun e w' => ∃ v, e = .returned v ∧ w'.ownsRow w.heap.size 2 1 v n (i64s (tab (inAt z 65536) n)) ∧ Below w.heap.size w w' := by
  obtain ⟨f, hf⟩ : ∃ f, f = inAt z 65536 := ⟨_, rfl⟩
  rw [← hf]
  have hin : ∀ i, i < k → f i = z.getD i 0 ∧ 0 ≤ z.getD i 0 ∧ z.getD i 0 ≤ 65535 := fun i hi => by
    have := getD_mem (P := fun u => 0 ≤ u ∧ u ≤ 65535) hz0 (by rw [hz]; exact hi : i < z.length)
    exact ⟨by rw [hf]; unfold inAt; rw [if_pos (by rw [hz]; exact hi)], this.1, this.2⟩
  have hout : ∀ i, ¬ i < k → f i = 65536 := fun i hi => by rw [hf]; unfold inAt; rw [if_neg (by rw [hz]; exact hi)]
  have HIN := Lib.hid hin
  have HOUT := Lib.hid hout
  have HZ := Lib.hid hz
  have HT := Lib.hid (fun i => i64s_tab f i)
  have HTT := Lib.hid hT
  have hmy := hT.max
  clear hf hin hout hz hz0 hT
  obtain ⟨w1, hw1⟩ : ∃ w1, w.alloc (.cells #[.int .i64 x, .int .i64 y, .int .i64 X, .int .i64 Y, .int .i64 s, .slice a n cap] 28) = w1 := ⟨_, rfl⟩
  have M1 := (Mem.start w).alloc 28 (gc x y X Y s (.slice a n cap))
  rw [show w.alloc (.cells (gc x y X Y s (.slice a n cap)).toArray 28) = w1 from hw1] at M1
  have HW1 := Lib.hid hw1
  clear hw1
  go_enter Tryz.func26, Tryz.ntmps26
  ((go_upto_region 1 with fail); rw [HW1.out]; clear HW1; obtain ⟨gA, hgA⟩ : ∃ gA, gA = w.heap.size := ⟨_, rfl⟩; rw [← hgA] at M1 ⊢; clear hgA)
  have hown : w1.ownsRow w.heap.size 2 1 (.slice none 0 0) 0 (i64s (tab f 0)) := World.ownsRow_nil _ _ _ _
  go_wp2_with fail
  go_loopw [5, 6] (fun v c wx => ∃ i : Nat, i ≤ n ∧ c = .int .i64 i ∧ wx.ownsRow w.heap.size 2 1 v i (i64s (tab f i)) ∧ Mem w wx [(gA, 28, gc x y X Y s (.slice a n cap))]) (fun _ c _ => n - (intOf c).toNat)
  case atStart => exact ⟨0, Nat.zero_le _, rfl, hown, M1⟩
  case round =>
    clear hown M1
    obtain ⟨i, hi, rfl, ho, M⟩ := hrel
    have c5 := M.cell (Has.head _ _ _ _) (i := 5) rfl
    by_cases hlt : i < n
    · by_cases hik : i < k
      · obtain ⟨e1, e2, e3⟩ := HIN.out i hik
        obtain ⟨b, o, rfl, _, cu⟩ := cellu16 (HTT.out.below M.below) i (by rw [HZ.out]; exact hik)
        obtain ⟨u, hu⟩ : ∃ u, u = z.getD i 0 := ⟨_, rfl⟩
        rw [← hu] at e1 e2 e3 cu
        have HFI := Lib.hid e1
        have wu : IntKind.i64.wrap u = u := IntWalk.i64_in _ (by omega)
        have wu2 : wrap64 u = u := IntWalk.wrap64_in _ (by omega)
        clear hu e1
        go_wp2_with (at_builtin; refine wpList_app E64 rfl (.tmp 24) (.tmp 26) rfl w.heap.size rfl (ho.alloc _) rfl (Sl.one _ _ _) (by intro u hu; simp at hu; subst hu; rfl) (by unfold maxLen; omega) (by omega) (by have := M.below.size; simp; omega) ?_)
        intro v2 w3 ho3 hg3 _
        have M3 := app_mem M ((Below.refl _ _).alloc (Nat.le_refl _) _) (ho.alloc _) hg3 (Nat.le_refl _) (by simp)
        rw [← HFI.out, HT.out i] at ho3
        clear ho hg3 M c5
        go_wp2_with fail
        go_roundw
        case rel => exact ⟨i + 1, by omega, by go_num, ho3, M3⟩
        case measure => simp [intOf]; omega
      · have HFI := Lib.hid (HOUT.out i hik)
        have hik2 : ¬ ((i : Int) < (k : Int)) := by omega
        go_wp2_with (at_builtin; refine wpList_app E64 rfl (.tmp 24) (.tmp 26) rfl w.heap.size rfl (ho.alloc _) rfl (Sl.one _ _ _) (by intro u hu; simp at hu; subst hu; rfl) (by unfold maxLen; omega) (by omega) (by have := M.below.size; simp; omega) ?_)
        intro v2 w3 ho3 hg3 _
        have M3 := app_mem M ((Below.refl _ _).alloc (Nat.le_refl _) _) (ho.alloc _) hg3 (Nat.le_refl _) (by simp)
        rw [← HFI.out, HT.out i] at ho3
        clear ho hg3 M c5
        go_wp2_with fail
        go_roundw
        case rel => exact ⟨i + 1, by omega, by go_num, ho3, M3⟩
        case measure => simp [intOf]; omega
    · obtain rfl : n = i := by omega
      go_wp2_with fail
      go_ret
      exact ⟨_, rfl, ho, M.below⟩

/-- The law's Step. -/
def stepN (s : Nat) : Nat := 16 * 2 ^ (s % 9)
set_option maxRecDepth 20000 in
set_option maxHeartbeats 6400000 in
theorem made14_any (p q st x y n S k cap : Nat) (a : Option Addr) (z : List Int) (hp : p < 256) (hq : q < 256) (hst : st < 256) (hx : x = 1 + p % 8) (hy : y = 1 + q % 8) (hn : n = x * y) (hS : S = stepN st) (hz : z.length = k) (hk : k ≤ 1000000) (hz0 : ∀ u ∈ z, 0 ≤ u ∧ u ≤ 65535) (w : World) (hT : Sl w 1 (.slice a k cap) k (u16s z)) :
    Calls Tryz.prog 6 #[.int .u8 p, .int .u8 q, .slice a k cap, .int .u8 st] w fun e w' => ∃ a' cap', e = .returned (gv x y 1000 (-1000) S (.slice a' n cap')) ∧ Sl w' 1 (.slice a' n cap') n (i64s (norm (madeL z n))) ∧ Below w.heap.size w w' := by
  have hx8 : 1 ≤ x ∧ x ≤ 8 := by omega
  have hy8 : 1 ≤ y ∧ y ≤ 8 := by omega
  have hle : x * y ≤ 8 * 8 := Nat.mul_le_mul (by omega) (by omega)
  have hpos : 0 < x * y := Nat.mul_pos (by omega) (by omega)
  rw [← hn] at hle hpos
  have hmul : (x : Int) * (y : Int) = (n : Int) := by rw [hn]; simp
  have ex : (1 : Int) + (p : Int) % 8 = (x : Int) := by omega
  have ey : (1 : Int) + (q : Int) % 8 = (y : Int) := by omega
  obtain ⟨f, hf⟩ : ∃ f, f = inAt z 1 := ⟨_, rfl⟩
  have hin : ∀ i, i < k → f i = z.getD i 0 ∧ 0 ≤ z.getD i 0 ∧ z.getD i 0 ≤ 65535 := fun i hi => by
    have := getD_mem (P := fun u => 0 ≤ u ∧ u ≤ 65535) hz0 (by rw [hz]; exact hi : i < z.length)
    exact ⟨by rw [hf]; unfold inAt; rw [if_pos (by rw [hz]; exact hi)], this.1, this.2⟩
  have hout : ∀ i, ¬ i < k → f i = 1 := fun i hi => by rw [hf]; unfold inAt; rw [if_neg (by rw [hz]; exact hi)]
  have hfr : ∀ u ∈ tab f n, 0 ≤ u ∧ u ≤ 65536 := by rw [hf]; exact tab_mem n (fun i _ => inAt_rng hz0 (by omega) i)
  have hfs := sm_rng hfr
  rw [tab_length] at hfs
  have hmk : madeL z n = if sm (tab f n) = 0 then (tab f n).set 0 1 else tab f n := by rw [hf]; rfl
  have hml := madeL_length z n
  have hmr := madeL_rng hz0 n
  have hms := madeL_sm hz0 hpos
  obtain ⟨L, hL⟩ : ∃ L, L = madeL z n := ⟨_, rfl⟩
  rw [← hL] at hmk hml hmr hms ⊢
  have CN := Lib.hid (fun a' cap' wx hs => rnorm_pos (x : Int) (y : Int) 1000 (-1000) (S : Int) a' n cap' L hml (by omega) (fun u hu => ⟨(hmr u hu).1, by have := (hmr u hu).2; omega⟩) (by omega) wx hs)
  have CS := Lib.hid (fun a' cap' wx hs => refSumG_any a' n cap' (tab f n) (tab_length _ _) (sm_fits (fun u hu => (hfr u hu).1) (by omega)) wx hs)
  have HMK := Lib.hid hmk
  have HIN := Lib.hid hin
  have HOUT := Lib.hid hout
  have HZ := Lib.hid hz
  have HT := Lib.hid (fun i => i64s_tab f i)
  have HTT := Lib.hid hT
  have hmy := hT.max
  have hsr : 16 ≤ S ∧ S ≤ 4096 := by
    rw [hS]; unfold stepN
    have h9 : st % 9 < 9 := Nat.mod_lt _ (by omega)
    obtain ⟨r, hr⟩ : ∃ r, r = st % 9 := ⟨_, rfl⟩
    rw [← hr] at h9 ⊢
    match r, h9 with
    | 0, _ => decide
    | 1, _ => decide
    | 2, _ => decide
    | 3, _ => decide
    | 4, _ => decide
    | 5, _ => decide
    | 6, _ => decide
    | 7, _ => decide
    | 8, _ => decide
  have hstep : Hid (S = stepN st) := Lib.hid hS
  clear hf hin hout hz hz0 hT hmk hml hmr hms hL hfr hfs hx hy hn hS
  obtain ⟨r, hr9, hr⟩ : ∃ r : Nat, r < 9 ∧ r = st % 9 := ⟨st % 9, Nat.mod_lt _ (by omega), rfl⟩
  have er : (st : Int) % 9 = (r : Int) := by omega
  have hSr : S = 16 * 2 ^ r := by rw [hstep.out, hr]; rfl
  clear hr hstep
  have h9 : ((st : Int) % 9 = 0 ∧ S = 16) ∨ ((st : Int) % 9 = 1 ∧ S = 32) ∨ ((st : Int) % 9 = 2 ∧ S = 64) ∨ ((st : Int) % 9 = 3 ∧ S = 128) ∨ ((st : Int) % 9 = 4 ∧ S = 256) ∨ ((st : Int) % 9 = 5 ∧ S = 512) ∨ ((st : Int) % 9 = 6 ∧ S = 1024) ∨ ((st : Int) % 9 = 7 ∧ S = 2048) ∨ ((st : Int) % 9 = 8 ∧ S = 4096) := by
    rcases (by omega : r = 0 ∨ r = 1 ∨ r = 2 ∨ r = 3 ∨ r = 4 ∨ r = 5 ∨ r = 6 ∨ r = 7 ∨ r = 8) with h | h | h | h | h | h | h | h | h <;> (subst h; simp at hSr er; omega)
  have H9 := Lib.hid h9
  clear h9 er hSr hr9
  obtain ⟨w1, hw1⟩ : ∃ w1, w.alloc (.cells #[.int .i64 0, .int .i64 0, .int .i64 0, .int .i64 0, .int .i64 0, .slice none 0 0] 28) = w1 := ⟨_, rfl⟩
  have M1 := (Mem.start w).alloc 28 (gc 0 0 0 0 0 (.slice none 0 0))
  rw [show w.alloc (.cells (gc 0 0 0 0 0 (.slice none 0 0)).toArray 28) = w1 from hw1] at M1
  have HW1 := Lib.hid hw1
  clear hw1
  go_enter Tryz.func6, Tryz.ntmps6
  go_upto_region 1 with fail
  rw [HW1.out]
  clear HW1
  obtain ⟨gB, hgB⟩ : ∃ gB, gB = w.heap.size := ⟨_, rfl⟩
  rw [← hgB] at M1 ⊢
  clear hgB
  go_cut [9] from 14 (fun s9 wx => ∃ gC, s9 = .pointer (some ⟨gC, 0, none⟩) ∧ Mem w wx [(gC, 28, gc x y 1000 (-1000) S (.slice none 0 0)), (gB, 28, gc 0 0 0 0 0 (.slice none 0 0))])
  case first =>
    rcases H9.out with ⟨e9, rfl⟩ | ⟨e9, rfl⟩ | ⟨e9, rfl⟩ | ⟨e9, rfl⟩ | ⟨e9, rfl⟩ | ⟨e9, rfl⟩ | ⟨e9, rfl⟩ | ⟨e9, rfl⟩ | ⟨e9, rfl⟩
    all_goals (go_wp2_with fail; go_meet; exact ⟨_, rfl, M1.alloc _ _⟩)
  clear M1 H9
  obtain ⟨gC, rfl, M3⟩ := hcut
  have hown : wc.ownsRow w.heap.size 2 1 (.slice none 0 0) 0 (i64s (tab f 0)) := World.ownsRow_nil _ _ _ _
  go_wp2_with fail
  go_loopw [10] (fun c wx => ∃ (i : Nat) (v : Value), i ≤ n ∧ c = .int .i64 i ∧ wx.ownsRow w.heap.size 2 1 v i (i64s (tab f i)) ∧ Mem w wx [(gC, 28, gc x y 1000 (-1000) S v), (gB, 28, gc 0 0 0 0 0 (.slice none 0 0))]) (fun c _ => n - (intOf c).toNat)
  case atStart => exact ⟨0, _, Nat.zero_le _, rfl, hown, M3⟩
  case round =>
    clear hown M3
    obtain ⟨i, v, hi, rfl, ho, M⟩ := hrel
    obtain ⟨av, cv, rfl, hcv1, hcv2⟩ := ownsRow_slice ho
    obtain ⟨c0, c1, c2, c3, c4, c5⟩ := gcells (M.has (Has.head _ _ _ _))
    by_cases hlt : i < n
    · by_cases hik : i < k
      · obtain ⟨e1, e2, e3⟩ := HIN.out i hik
        obtain ⟨b, o, rfl, _, cu⟩ := cellu16 (HTT.out.below M.below) i (by rw [HZ.out]; exact hik)
        obtain ⟨u, hu⟩ : ∃ u, u = z.getD i 0 := ⟨_, rfl⟩
        rw [← hu] at e1 e2 e3 cu
        have HFI := Lib.hid e1
        have wu : IntKind.i64.wrap u = u := IntWalk.i64_in _ (by omega)
        have wu2 : wrap64 u = u := IntWalk.wrap64_in _ (by omega)
        clear hu e1
        go_wp2_with (at_builtin; refine wpList_app E64 rfl (.tmp 45) (.tmp 47) rfl w.heap.size rfl (ho.alloc _) rfl (Sl.one _ _ _) (by intro u hu; simp at hu; subst hu; rfl) (by unfold maxLen; omega) (by omega) (by have := M.below.size; simp; omega) ?_)
        intro v9 w9 ho9 hg9 _
        have M9 := app_mem M ((Below.refl _ _).alloc (Nat.le_refl _) _) (ho.alloc _) hg9 (Nat.le_refl _) (by simp)
        obtain ⟨a9, c9, rfl, _, _⟩ := ownsRow_slice ho9
        rw [← HFI.out, HT.out i] at ho9
        clear ho M hg9 c0 c1 c2 c3 c4 c5
        have hf9 := M9.free (Has.head _ _ _ _) 5
        have d5 := M9.cell (Has.head _ _ _ _) (i := 5) rfl
        have ho10 := ownsRow_setCell_other (a := ⟨gC, 5, none⟩) ho9 (fun e => gown_ne (M9.has (Has.head _ _ _ _)) ho9 (by decide) _ e rfl) (.slice a9 (i + 1) c9)
        have M10 := M9.set 5 (.slice a9 (i + 1) c9) (Upd.head _ _ _ _ _) (by simp)
        clear ho9 M9
        go_wp2_with fail
        go_roundw
        case rel => exact ⟨i + 1, _, by omega, by go_num, ho10, M10⟩
        case measure => simp [intOf]; omega
      · have HFI := Lib.hid (HOUT.out i hik)
        have hik2 : ¬ ((i : Int) < (k : Int)) := by omega
        go_wp2_with (at_builtin; refine wpList_app E64 rfl (.tmp 45) (.tmp 47) rfl w.heap.size rfl (ho.alloc _) rfl (Sl.one _ _ _) (by intro u hu; simp at hu; subst hu; rfl) (by unfold maxLen; omega) (by omega) (by have := M.below.size; simp; omega) ?_)
        intro v9 w9 ho9 hg9 _
        have M9 := app_mem M ((Below.refl _ _).alloc (Nat.le_refl _) _) (ho.alloc _) hg9 (Nat.le_refl _) (by simp)
        obtain ⟨a9, c9, rfl, _, _⟩ := ownsRow_slice ho9
        rw [← HFI.out, HT.out i] at ho9
        clear ho M hg9 c0 c1 c2 c3 c4 c5
        have hf9 := M9.free (Has.head _ _ _ _) 5
        have d5 := M9.cell (Has.head _ _ _ _) (i := 5) rfl
        have ho10 := ownsRow_setCell_other (a := ⟨gC, 5, none⟩) ho9 (fun e => gown_ne (M9.has (Has.head _ _ _ _)) ho9 (by decide) _ e rfl) (.slice a9 (i + 1) c9)
        have M10 := M9.set 5 (.slice a9 (i + 1) c9) (Upd.head _ _ _ _ _) (by simp)
        clear ho9 M9
        go_wp2_with fail
        go_roundw
        case rel => exact ⟨i + 1, _, by omega, by go_num, ho10, M10⟩
        case measure => simp [intOf]; omega
    · obtain rfl : n = i := by omega
      obtain ⟨gR, cR, he, hgR, hgR2, _, _⟩ := ownsRow_val ho (by omega)
      cases he
      have K1 := Lib.hid (CS.out (some ⟨gR, 0, none⟩) cv wr (Sl.of_own ho))
      clear CS
      by_cases hz : sm (tab f n) = 0
      · have hL := HMK.out
        rw [if_pos hz] at hL
        rw [hz] at K1
        have hc0 := own64 ho 0 (by rw [tab_length]; omega)
        obtain ⟨u0, hu0⟩ : ∃ u0, wr.cell? ⟨gR, 0, none⟩ = some (.int .i64 u0) := ⟨_, hc0⟩
        have hf0 := ownsRow_free ho 0
        have ho2 := ownsRow_set ho 0 (by omega) (.int .i64 1)
        rw [i64s_set, ← hL] at ho2
        have M2 := mem_turned M (turned_cell wr gR 0 (.int .i64 1)) (fun j hj e => by omega) (fun e he h => gown_ne (M.blk e he) ho (by simp at he; rcases he with rfl | rfl <;> simp) gR rfl h.symm)
        have HL := Lib.hid hL
        clear hL hc0 hz ho HMK
        go_wp2_with fail
        refine K1.out.mono ?_
        rintro e wx ⟨rfl, rfl⟩
        clear K1
        obtain ⟨w4, hw4⟩ : ∃ w4, wr.setCell ⟨gR, 0, none⟩ (.int .i64 1) = w4 := ⟨_, rfl⟩
        rw [hw4] at M2 ho2
        have HW4 := Lib.hid hw4
        clear hw4
        go_upto_region 11 with fail
        rw [HW4.out]
        clear HW4 c0 c1 c2 c3 c4 c5 hu0 hf0 M
        obtain ⟨c0, c1, c2, c3, c4, c5⟩ := gcells (M2.has (Has.head _ _ _ _))
        go_wp2_with fail
        refine (CN.out _ cv w4 (Sl.of_own ho2)).mono ?_
        rintro e w5 ⟨a5, cap5, rfl, ho5, hA⟩
        have M5 := M2.call hA
        clear c0 c1 c2 c3 c4 c5 M2 ho2
        obtain ⟨w6, hw6⟩ : ∃ w6, w5.alloc (.cells #[.int .i64 x, .int .i64 y, .int .i64 1000, .int .i64 (-1000), .int .i64 S, .slice a5 n cap5] 28) = w6 := ⟨_, rfl⟩
        have M6 := M5.alloc 28 (gc x y 1000 (-1000) S (.slice a5 n cap5))
        rw [show w5.alloc (.cells (gc x y 1000 (-1000) S (.slice a5 n cap5)).toArray 28) = w6 from hw6] at M6
        have ho6 := ownsRow_below ho5 (show Below w5.heap.size w5 w6 by rw [← hw6]; exact (Below.refl _ _).alloc (Nat.le_refl _) _)
        have HW6 := Lib.hid hw6
        clear hw6 ho5
        go_upto_region 12 with fail
        rw [HW6.out]
        clear HW6
        obtain ⟨gN, hgN⟩ : ∃ gN, gN = w5.heap.size := ⟨_, rfl⟩
        rw [← hgN] at M6 ⊢
        clear hgN M5
        obtain ⟨c0, c1, c2, c3, c4, c5⟩ := gcells (M6.has (Has.head _ _ _ _))
        have hz6 := M6.below.size
        go_wp2_with ((with_reducible refine (?_ : Go.wpList _ _ _ (_ :: _) _ _)); (first | go_skip | (refine wpL_stM (v := gv x y 1000 (-1000) S (.slice a5 n cap5)) M6 rfl rfl rfl rfl (wr_g _ _ _ _ _ _ _ _ _ _ _ _ _ _) (.tail _ _ _ _ _ _ _ (.tail _ _ _ _ _ _ _ (Upd.head _ _ _ _ _))) ?_; intro w7 M7 hT7)))
        ((try simp only [Exit.inBlock, Exit.then]); refine bodyPost_ret (res_cell rfl M7 rfl (.tail _ _ _ _ _ (.tail _ _ _ _ _ (Has.head _ _ _ _))) (rd_g _ _ _ _ _ _)) rfl ?_)
        have ho7 := gown_turned ho6 (M6.has (.tail _ _ _ _ _ (.tail _ _ _ _ _ (Has.head _ _ _ _)))) (by decide) hT7
        exact ⟨_, _, rfl, Sl.of_own ho7, M7.below⟩
      · have hL := HMK.out
        rw [if_neg hz] at hL
        rw [← hL] at ho
        have b0 : (sm (tab f n) == 0) = false := by simpa using hz
        obtain ⟨T, hT⟩ : ∃ T, T = sm (tab f n) := ⟨_, rfl⟩
        rw [← hT] at K1 b0
        have HL := Lib.hid hL
        have hT0 : ¬ T = 0 := by rw [hT]; exact hz
        clear hL hz hT HMK
        go_wp2_with fail
        refine K1.out.mono ?_
        rintro e wx ⟨rfl, rfl⟩
        clear K1
        go_wp2_with fail
        refine (CN.out _ cv wr (Sl.of_own ho)).mono ?_
        rintro e w5 ⟨a5, cap5, rfl, ho5, hA⟩
        have M5 := M.call hA
        clear c0 c1 c2 c3 c4 c5 M ho
        obtain ⟨w6, hw6⟩ : ∃ w6, w5.alloc (.cells #[.int .i64 x, .int .i64 y, .int .i64 1000, .int .i64 (-1000), .int .i64 S, .slice a5 n cap5] 28) = w6 := ⟨_, rfl⟩
        have M6 := M5.alloc 28 (gc x y 1000 (-1000) S (.slice a5 n cap5))
        rw [show w5.alloc (.cells (gc x y 1000 (-1000) S (.slice a5 n cap5)).toArray 28) = w6 from hw6] at M6
        have ho6 := ownsRow_below ho5 (show Below w5.heap.size w5 w6 by rw [← hw6]; exact (Below.refl _ _).alloc (Nat.le_refl _) _)
        have HW6 := Lib.hid hw6
        clear hw6 ho5
        go_upto_region 12 with fail
        rw [HW6.out]
        clear HW6
        obtain ⟨gN, hgN⟩ : ∃ gN, gN = w5.heap.size := ⟨_, rfl⟩
        rw [← hgN] at M6 ⊢
        clear hgN M5
        obtain ⟨c0, c1, c2, c3, c4, c5⟩ := gcells (M6.has (Has.head _ _ _ _))
        have hz6 := M6.below.size
        go_wp2_with ((with_reducible refine (?_ : Go.wpList _ _ _ (_ :: _) _ _)); (first | go_skip | (refine wpL_stM (v := gv x y 1000 (-1000) S (.slice a5 n cap5)) M6 rfl rfl rfl rfl (wr_g _ _ _ _ _ _ _ _ _ _ _ _ _ _) (.tail _ _ _ _ _ _ _ (.tail _ _ _ _ _ _ _ (Upd.head _ _ _ _ _))) ?_; intro w7 M7 hT7)))
        ((try simp only [Exit.inBlock, Exit.then]); refine bodyPost_ret (res_cell rfl M7 rfl (.tail _ _ _ _ _ (.tail _ _ _ _ _ (Has.head _ _ _ _))) (rd_g _ _ _ _ _ _)) rfl ?_)
        have ho7 := gown_turned ho6 (M6.has (.tail _ _ _ _ _ (.tail _ _ _ _ _ (Has.head _ _ _ _)))) (by decide) hT7
        exact ⟨_, _, rfl, Sl.of_own ho7, M7.below⟩
end Go.Proofs.YtallbegibdlpaaaGreat
