/-
  ExactDoes: the walk.
-/
import Derived.Test.YtanblpfpkohghaaDoorLaw17b
import Derived.Test.YtanblpfpkohghaaDoorLaw14m
import Derived.Test.YtanblpfpkohghaaDoorPackExcB
set_option linter.unusedVariables false
set_option linter.unusedSimpArgs false
namespace Go.Proofs.YtanblpfpkohghaaDoor
open Go Go.RowKit Go.Th Go.Th.Dig Go.Th.Ex Go.Th.Grid

/-! ### A grid that the laws make, as numbers -/
def gU (z : List Int) (n : Nat) : List Nat := (norm (madeL z n)).map Int.toNat
theorem gL_length (z : List Int) (n : Nat) : (norm (madeL z n)).length = n := by rw [norm_length, madeL_length]
theorem gU_length (z : List Int) (n : Nat) : (gU z n).length = n := by unfold gU; rw [List.length_map, gL_length]
theorem gL_rng {z : List Int} (hz : ∀ u ∈ z, 0 ≤ u ∧ u ≤ 65535) {n : Nat} (hn : 0 < n) : ∀ u ∈ norm (madeL z n), 0 ≤ u ∧ u ≤ 1073741824 := fun u hu => by
  have h := norm_rng (p := madeL z n) (fun x hx => (madeL_rng hz n x hx).1) u hu
  exact ⟨h.1, h.2 (madeL_sm hz hn)⟩
theorem gU_get {z : List Int} (hz : ∀ u ∈ z, 0 ≤ u ∧ u ≤ 65535) {n : Nat} (hn : 0 < n) (i : Nat) (hi : i < n) : (norm (madeL z n)).getD i 0 = (((gU z n).getD i 0 : Nat) : Int) := by
  have hl : i < (norm (madeL z n)).length := by rw [gL_length]; exact hi
  unfold gU
  rw [List.getD_eq_getElem?_getD, List.getD_eq_getElem?_getD, List.getElem?_map, List.getElem?_eq_getElem hl]
  have := gL_rng hz hn _ (List.getElem_mem hl)
  simp
  omega
theorem gU_lt {z : List Int} (hz : ∀ u ∈ z, 0 ≤ u ∧ u ≤ 65535) {n : Nat} (hn : 0 < n) : Lt 31 (gU z n) := by
  intro i
  unfold gU
  rw [List.getD_eq_getElem?_getD, List.getElem?_map]
  cases hq : (norm (madeL z n))[i]? with
  | none => exact Nat.pow_pos (by decide)
  | some x =>
    have := gL_rng hz hn x (List.mem_of_getElem? hq)
    show x.toNat < 2 ^ 31
    have e : (2 : Nat) ^ 31 = 2147483648 := by decide
    omega
theorem zero17 : (Tryd.prog.info? 32).map (·.zero) = some (some (fv 0 0 (.slice none 0 0))) := by kernel_rfl
theorem zero17r : (Tryd.prog.info? 36).map (·.zero) = some (some (fv 0 0 (.slice none 0 0))) := by kernel_rfl
/-- A filter is answered. -/
abbrev LAns (f : Nat) (args : Array Value) (x y : Int) (n : Nat) (us : List Nat) (w : World) : Prop := Calls Tryd.prog f args w fun e w' => ∃ a c, e = .returned (fv x y (.slice a n c)) ∧ IsV w' a n c us ∧ Below w.heap.size w w'
abbrev LAnsU (f : Nat) (args : Array Value) (x y : Int) (n : Nat) (us : List Nat) (w : World) : Prop := Calls Tryd.prog f args w fun e w' => ∃ a c, e = .returned (fv x y (.slice a n c)) ∧ IsU w' a n c us ∧ Below w.heap.size w w'
theorem lfrom (x y n : Nat) (X Y S : Int) (a : Option Addr) (cap : Nat) (p : List Int) (us : List Nat) (hp : p.length = n) (hus : us.length = n) (hpv : ∀ i, i < n → p.getD i 0 = ((us.getD i 0 : Nat) : Int)) (hl : Lt 31 us) (hn : n ≤ 4096) (w : World) (hS : Sl w 1 (.slice a n cap) n (i64s p)) :
    LAns 9 #[gv x y X Y S (.slice a n cap)] x y n us w := by
  refine (from_any17 x y X Y S a n cap p us hp hus hpv (hl.mono (by omega)) hn w hS).mono ?_
  rintro e w' ⟨a', c', h1, h2, h3⟩
  rw [hus] at h1 h2
  exact ⟨a', c', h1, h2, h3⟩
theorem lrfrom (x y n : Nat) (X Y S : Int) (a : Option Addr) (cap : Nat) (p : List Int) (us : List Nat) (hp : p.length = n) (hus : us.length = n) (hpv : ∀ i, i < n → p.getD i 0 = ((us.getD i 0 : Nat) : Int)) (hl : Lt 31 us) (hn : n ≤ 4096) (w : World) (hS : Sl w 1 (.slice a n cap) n (i64s p)) :
    LAnsU 10 #[gv x y X Y S (.slice a n cap)] x y n us w := by
  refine (rfrom_any x y X Y S a n cap p us hp hus hpv (hl.mono (k := 31) (m := 63) (by omega)) hn w hS).mono ?_
  rintro e w' ⟨a', c', h1, h2, h3⟩
  rw [hus] at h1 h2
  exact ⟨a', c', h1, h2, h3⟩
theorem OpOk.below {w w' : World} {o : OpV} (h : OpOk w o) (hB : Below w.heap.size w w') : OpOk w' o := ⟨h.k, h.q, h.X, h.Y, h.W, h.H, h.len, h.row.below hB, h.rng⟩
/-- What an act answers in any later world. -/
def Acts (w : World) (l : List OpV) : Prop := ∀ (i : Nat) (o : OpV), l[i]? = some o → ∀ (k x y m : Nat) (gs us : List Nat) (a1 a2 : Option Addr) (c1 c2 : Nat) (wx : World), Below w.heap.size w wx → k ≤ 1000 → FilOk k ⟨x, y, us⟩ → Lt k gs → Prp gs us → us.length = m → IsV wx a1 m c1 gs → IsU wx a2 m c2 us →
  Calls Tryd.prog 12 #[fv x y (.slice a1 m c1), fv x y (.slice a2 m c2), opv o] wx (ActR (k + 24) (doF ⟨x, y, us⟩ o) wx) ∧ FilOk (k + 24) (doF ⟨x, y, us⟩ o)
theorem acts_of {w : World} {l : List OpV} (hop : ∀ o ∈ l, OpOk w o) (hl : light17 l = true) : Acts w l := by
  intro i o hi k x y m gs us a1 a2 c1 c2 wx hw hk hf hg hp hm hV hU
  have ho := hop o (List.mem_of_getElem? hi)
  have hn : o.n ≤ 300 := by
    unfold light17 at hl
    rw [Bool.and_eq_true] at hl
    exact of_decide_eq_true (List.all_eq_true.1 hl.2 o (List.mem_of_getElem? hi))
  exact ⟨do_any17 o k x y a1 a2 m c1 c2 gs us hf hg hp hk hm wx (ho.below hw) (by omega) hV hU, hf.do ho.q.1 ho.W.1 ho.H.1 ho.rng⟩
theorem rcells17 {w : World} {g : Nat} {x y : Int} {v : Value} (K : Blk w g 36 (fc x y v)) : w.cell? ⟨g, 0, none⟩ = some (.int .i64 x) ∧ w.cell? ⟨g, 1, none⟩ = some (.int .i64 y) ∧ w.cell? ⟨g, 2, none⟩ = some v :=
  ⟨K.cell (i := 0) rfl, K.cell (i := 1) rfl, K.cell (i := 2) rfl⟩
theorem like_any (x y : Int) (a1 a2 : Option Addr) (m c1 c2 k : Nat) (gs us : List Nat) (hg : Lt k gs) (hu : Lt k us) (hk : k ≤ 8000) (hm : m ≤ 4096) (hp : Prp gs us) (w : World) (hV : IsV w a1 m c1 gs) (hU : IsU w a2 m c2 us) :
    Calls Tryd.prog 11 #[fv x y (.slice a1 m c1), fv x y (.slice a2 m c2)] w fun e w' => e = .returned (.int .i64 1) ∧ Below w.heap.size w w' :=
  lalike_any x y a1 a2 m c1 c2 k gs us hg hu hk hm hp.alike.1 hp.alike.2 w hV hU

set_option maxRecDepth 20000 in
set_option maxHeartbeats 12800000 in
theorem does_go (p q k ca no co x y n : Nat) (S : Int) (a ao : Option Addr) (us : List Nat) (L : List Int) (l : List OpV) (hno : l.length = no) (hno8 : no ≤ 8) (hk100 : decide (100 < (k : Int)) = false) (hus : us.length = n) (hn : n ≤ 64) (hf : FilOk 31 ⟨x, y, us⟩) (w : World)
    (CL : ∀ wx, Below w.heap.size w wx → Calls Tryd.prog 6 #[.slice ao no co] wx fun e w' => e = .returned (.int .i64 0) ∧ wx = w')
    (CM : ∀ wx, Below w.heap.size w wx → Calls Tryd.prog 8 #[.int .u8 p, .int .u8 q, .slice a k ca, .int .u8 2] wx fun e w' => ∃ a' cap', e = .returned (gv x y 1000 (-1000) S (.slice a' n cap')) ∧ Sl w' 1 (.slice a' n cap') n (i64s L) ∧ Below wx.heap.size wx w')
    (CF : ∀ wx a cap, Sl wx 1 (.slice a n cap) n (i64s L) → LAns 9 #[gv x y 1000 (-1000) S (.slice a n cap)] x y n us wx)
    (CR : ∀ wx a cap, Sl wx 1 (.slice a n cap) n (i64s L) → LAnsU 10 #[gv x y 1000 (-1000) S (.slice a n cap)] x y n us wx)
    (CW : ∀ wx, Below w.heap.size w wx → Calls Tryd.prog 7 #[] wx fun e w' => e = .returned (.bool true) ∧ Below wx.heap.size wx w')
    (CA : Acts w l) (hS : Sl w 7 (.slice ao no co) no (opcs l)) :
    Calls Tryd.prog 3 #[.int .u8 p, .int .u8 q, .slice a k ca, .slice ao no co] w fun e w' => e = .returned (.bool true) ∧ Below w.heap.size w w' := by
  have HCL := Lib.hid CL
  have HCM := Lib.hid CM
  have HCF := Lib.hid CF
  have HCR := Lib.hid CR
  have HCW := Lib.hid CW
  have HCA := Lib.hid CA
  have HS := Lib.hid hS
  have HNO := Lib.hid hno
  have HUS := Lib.hid hus
  have HF := Lib.hid hf
  have hmx := hS.max
  have M0 := Mem.start w
  clear CL CM CF CR CW CA hS hno hus hf
  go_enter Tryd.func3, Tryd.ntmps3
  go_wp2_with fail
  refine (HCL.out _ M0.below).mono ?_
  rintro e wz ⟨rfl, rfl⟩
  go_wp2_with fail
  refine (HCM.out _ M0.below).mono ?_
  rintro e w1 ⟨aG, cG, rfl, hG, hA⟩
  have M1 := M0.call hA
  have M20 := Mem.start w1
  have RG0 := Lib.hid hG
  clear hA hG M0 HCM HCL
  go_upto_region 4 with (((with_reducible refine (?_ : Go.wpList _ _ _ (_ :: _) _ _)); (first | go_skip | (refine wpL_bx M20 rfl rfl rfl rfl ?_; clear M20; intro g21 w21 M21) | (refine wpL_alc M20 rfl rfl ?_; clear M20; intro g21 w21 M21) | (refine wpL_ldc M20 rfl rfl rfl ?_) | (refine wpL_lgc M20 rfl rfl rfl ?_) | (refine wpL_stc M20 rfl rfl rfl rfl ?_; clear M20; intro w' M20) | (refine wpL_sti M20 rfl rfl rfl rfl ?_; clear M20; intro w' M20) | (refine wpL_sth M20 rfl rfl rfl rfl (wr_minus _ _ _) ?_; clear M20; intro w' M20) | (refine wpL_ldc M21 rfl rfl rfl ?_) | (refine wpL_lgc M21 rfl rfl rfl ?_) | (refine wpL_stc M21 rfl rfl rfl rfl ?_; clear M21; intro w' M21) | (refine wpL_sti M21 rfl rfl rfl rfl ?_; clear M21; intro w' M21) | (refine wpL_sth M21 rfl rfl rfl rfl (wr_minus _ _ _) ?_; clear M21; intro w' M21))))
  obtain ⟨wA, hwA⟩ : ∃ wA, wA = w' := ⟨_, rfl⟩
  rw [← hwA] at M21 ⊢
  obtain ⟨g9, hg9⟩ : ∃ g9, g9 = g21 := ⟨_, rfl⟩
  rw [← hg9] at M21 ⊢
  have K9 := Lib.hid (M21.has (Has.head _ _ _ _))
  have RG := Lib.hid (RG0.out.below M21.below)
  have HBA := Lib.hid (M1.below.trans (M21.below.mono M1.below.size))
  have M := Mem.start wA
  clear hwA hg9 M1 M21 RG0
  try simp only [Act.put, puts]
  go_cut [10, 11] from 13 (fun s10 s11 wx => ∃ (g10 g11 : Nat) (a1 : Option Addr) (c1 : Nat) (a2 : Option Addr) (c2 : Nat), s10 = .pointer (some ⟨g10, 0, none⟩) ∧ s11 = .pointer (some ⟨g11, 0, none⟩) ∧ Mem wA wx [(g11, 36, fc x y (.slice a2 n c2)), (g10, 32, fc x y (.slice a1 n c1))] ∧ IsV wx a1 n c1 us ∧ IsU wx a2 n c2 us)
  case first =>
    have M := M.drew
    replace RG := Lib.hid (RG.out.below ((Below.refl wA.heap.size wA).drew))
    refine wp_region_held_drew (S := (fun w' : World => w'.cell? ⟨g9, 0, none⟩ = some (.int .i64 x) ∧ w'.cell? ⟨g9, 1, none⟩ = some (.int .i64 y) ∧ w'.cell? ⟨g9, 2, none⟩ = some (.int .i64 1000) ∧ w'.cell? ⟨g9, 3, none⟩ = some (.int .i64 (-1000)) ∧ w'.cell? ⟨g9, 4, none⟩ = some (.int .i64 S) ∧ w'.cell? ⟨g9, 5, none⟩ = some (.slice aG n cG))) (by kernel_rfl) (gcells (K9.out.below M.below K9.out.lt)) (fun hHeld => ?_)
    refine tkT 0 ?v7001 ?hy7001 hHeld ?rest7001
    case hy7001 => (intro w' hSw; (try dsimp only at hSw); go_simp; (try with_reducible rfl))
    try simp only [Act.put, puts]
    refine tkT 2 ?v7002 ?hy7002 hHeld ?rest7002
    case hy7002 => (intro w' hSw; (try dsimp only at hSw); go_simp; (try with_reducible rfl))
    try simp only [Act.put, puts]
    refine wpAnyH_ready (rs := [1, 4, 5]) (by kernel_rfl) (by simp) ?_
    refine AllReadyH.cons rfl (fun K hK => ?_) (AllReadyH.cons rfl (fun K hK => ?_) (AllReadyH.cons rfl (fun K hK => ?_) AllReadyH.nil))
    · go_simp
      refine (HCF.out _ _ _ RG.out).mono ?_
      rintro e wc1 ⟨a1, c1, rfl, hV, hA⟩
      replace M := M.call hA
      replace RG := Lib.hid (RG.out.below hA)
      have V1 := Lib.hid hV
      clear hV
      clear hA
      try go_wp2_with fail
      clear hHeld
      refine hK.out _ _ (gcells (K9.out.below M.below K9.out.lt)) (fun hHeld => ?_)
      clear hK K
      try simp only [Act.put, puts]
      refine wpAnyH_ready (rs := [3, 4, 5]) (by kernel_rfl) (by simp) ?_
      refine AllReadyH.cons rfl (fun K hK => ?_) (AllReadyH.cons rfl (fun K hK => ?_) (AllReadyH.cons rfl (fun K hK => ?_) AllReadyH.nil))
      · go_simp
        refine (HCR.out _ _ _ RG.out).mono ?_
        rintro e wc3 ⟨a2, c2, rfl, hU, hA⟩
        replace M := M.call hA
        replace RG := Lib.hid (RG.out.below hA)
        replace V1 := Lib.hid (V1.out.below hA)
        have U2 := Lib.hid hU
        clear hU
        clear hA
        try go_wp2_with fail
        clear hHeld
        refine hK.out _ _ (gcells (K9.out.below M.below K9.out.lt)) (fun hHeld => ?_)
        clear hK K
        try simp only [Act.put, puts]
        refine wpAnyH_ready (rs := [4, 5]) (by kernel_rfl) (by simp) ?_
        refine AllReadyH.cons rfl (fun K hK => ?_) (AllReadyH.cons rfl (fun K hK => ?_) AllReadyH.nil)
        · rw [if_pos (by rfl)]
          refine wp_al (Mem.start wc3) rfl zero17 rfl ?_
          intro g10 wa4 M9
          have hA := M9.below
          replace RG := Lib.hid (RG.out.below hA)
          replace V1 := Lib.hid (V1.out.below hA)
          replace U2 := Lib.hid (U2.out.below hA)
          replace M : Mem wA wa4 [(g10, 32, [.int .i64 0, .int .i64 0, .slice none 0 0])] := Mem.join M M9
          clear hA M9
          clear hHeld
          refine hK.out _ _ (gcells (K9.out.below M.below K9.out.lt)) (fun hHeld => ?_)
          clear hK K
          try simp only [Act.put, puts]
          refine wpAnyH_ready (rs := [5]) (by kernel_rfl) (by simp) ?_
          refine AllReadyH.cons rfl (fun K hK => ?_) AllReadyH.nil
          rw [if_pos (by rfl)]
          refine wp_al (Mem.start wa4) rfl zero17r rfl ?_
          intro g11 wa5 M9
          have hA := M9.below
          replace RG := Lib.hid (RG.out.below hA)
          replace V1 := Lib.hid (V1.out.below hA)
          replace U2 := Lib.hid (U2.out.below hA)
          replace M : Mem wA wa5 [(g11, 36, [.int .i64 0, .int .i64 0, .slice none 0 0]), (g10, 32, [.int .i64 0, .int .i64 0, .slice none 0 0])] := Mem.join M M9
          clear hA M9
          clear hHeld
          refine hK.out _ _ (gcells (K9.out.below M.below K9.out.lt)) (fun hHeld => ?_)
          clear hK K
          try simp only [Act.put, puts]
          refine wpAnyH_ready (rs := [6]) (by kernel_rfl) (by simp) ?_
          refine AllReadyH.cons rfl (fun K hK => ?_) AllReadyH.nil
          rw [if_pos (by rfl)]
          refine Grid.wp_stM (v := fv x y (.slice a1 n c1)) M rfl rfl rfl (wr_fx _ _ _ _ _ _ _ _) (.tail _ _ _ _ _ _ _ (Upd.head _ _ _ _ _)) ?_
          intro wz6 Mn hTn
          replace V1 := Lib.hid (V1.out.turnedB (M.has (.tail _ _ _ _ _ (Has.head _ _ _ _))) (by decide) (noPart_f _ _ _ _ _) hTn)
          replace U2 := Lib.hid (U2.out.turnedB (M.has (.tail _ _ _ _ _ (Has.head _ _ _ _))) (by decide) (by decide) hTn)
          replace M := Mn
          clear hTn hHeld Mn
          refine hK.out _ _ (gcells (K9.out.below M.below K9.out.lt)) (fun hHeld => ?_)
          clear hK K
          try simp only [Act.put, puts]
          refine wpAnyH_ready (rs := [7]) (by kernel_rfl) (by simp) ?_
          refine AllReadyH.cons rfl (fun K hK => ?_) AllReadyH.nil
          rw [if_pos (by rfl)]
          refine Grid.wp_stM (v := fv x y (.slice a2 n c2)) M rfl rfl rfl (wr_f _ _ _ _ _ _ _ _) (Upd.head _ _ _ _ _) ?_
          intro wz7 Mn hTn
          replace V1 := Lib.hid (V1.out.turnedB (M.has (Has.head _ _ _ _)) (by decide) (noPart_f _ _ _ _ _) hTn)
          replace U2 := Lib.hid (U2.out.turnedB (M.has (Has.head _ _ _ _)) (by decide) (by decide) hTn)
          replace M := Mn
          clear hTn hHeld Mn
          refine hK.out _ _ (gcells (K9.out.below M.below K9.out.lt)) (fun hHeld => ?_)
          clear hK K
          try simp only [Act.put, puts]
          refine wpAnyH_done (by kernel_rfl) ?_ _
          go_wp2_with fail
          go_meet
          exact ⟨g10, g11, a1, c1, a2, c2, rfl, rfl, Mem.perm17 M (List.Perm.refl _), V1.out, U2.out⟩
        · rw [if_pos (by rfl)]
          refine wp_al (Mem.start wc3) rfl zero17r rfl ?_
          intro g11 wa5 M9
          have hA := M9.below
          replace RG := Lib.hid (RG.out.below hA)
          replace V1 := Lib.hid (V1.out.below hA)
          replace U2 := Lib.hid (U2.out.below hA)
          replace M : Mem wA wa5 [(g11, 36, [.int .i64 0, .int .i64 0, .slice none 0 0])] := Mem.join M M9
          clear hA M9
          clear hHeld
          refine hK.out _ _ (gcells (K9.out.below M.below K9.out.lt)) (fun hHeld => ?_)
          clear hK K
          try simp only [Act.put, puts]
          refine wpAnyH_ready (rs := [4]) (by kernel_rfl) (by simp) ?_
          refine AllReadyH.cons rfl (fun K hK => ?_) AllReadyH.nil
          rw [if_pos (by rfl)]
          refine wp_al (Mem.start wa5) rfl zero17 rfl ?_
          intro g10 wa4 M9
          have hA := M9.below
          replace RG := Lib.hid (RG.out.below hA)
          replace V1 := Lib.hid (V1.out.below hA)
          replace U2 := Lib.hid (U2.out.below hA)
          replace M : Mem wA wa4 [(g10, 32, [.int .i64 0, .int .i64 0, .slice none 0 0]), (g11, 36, [.int .i64 0, .int .i64 0, .slice none 0 0])] := Mem.join M M9
          clear hA M9
          clear hHeld
          refine hK.out _ _ (gcells (K9.out.below M.below K9.out.lt)) (fun hHeld => ?_)
          clear hK K
          try simp only [Act.put, puts]
          refine wpAnyH_ready (rs := [6]) (by kernel_rfl) (by simp) ?_
          refine AllReadyH.cons rfl (fun K hK => ?_) AllReadyH.nil
          rw [if_pos (by rfl)]
          refine Grid.wp_stM (v := fv x y (.slice a1 n c1)) M rfl rfl rfl (wr_fx _ _ _ _ _ _ _ _) (Upd.head _ _ _ _ _) ?_
          intro wz6 Mn hTn
          replace V1 := Lib.hid (V1.out.turnedB (M.has (Has.head _ _ _ _)) (by decide) (noPart_f _ _ _ _ _) hTn)
          replace U2 := Lib.hid (U2.out.turnedB (M.has (Has.head _ _ _ _)) (by decide) (by decide) hTn)
          replace M := Mn
          clear hTn hHeld Mn
          refine hK.out _ _ (gcells (K9.out.below M.below K9.out.lt)) (fun hHeld => ?_)
          clear hK K
          try simp only [Act.put, puts]
          refine wpAnyH_ready (rs := [7]) (by kernel_rfl) (by simp) ?_
          refine AllReadyH.cons rfl (fun K hK => ?_) AllReadyH.nil
          rw [if_pos (by rfl)]
          refine Grid.wp_stM (v := fv x y (.slice a2 n c2)) M rfl rfl rfl (wr_f _ _ _ _ _ _ _ _) (.tail _ _ _ _ _ _ _ (Upd.head _ _ _ _ _)) ?_
          intro wz7 Mn hTn
          replace V1 := Lib.hid (V1.out.turnedB (M.has (.tail _ _ _ _ _ (Has.head _ _ _ _))) (by decide) (noPart_f _ _ _ _ _) hTn)
          replace U2 := Lib.hid (U2.out.turnedB (M.has (.tail _ _ _ _ _ (Has.head _ _ _ _))) (by decide) (by decide) hTn)
          replace M := Mn
          clear hTn hHeld Mn
          refine hK.out _ _ (gcells (K9.out.below M.below K9.out.lt)) (fun hHeld => ?_)
          clear hK K
          try simp only [Act.put, puts]
          refine wpAnyH_done (by kernel_rfl) ?_ _
          go_wp2_with fail
          go_meet
          exact ⟨g10, g11, a1, c1, a2, c2, rfl, rfl, Mem.perm17 M (List.Perm.swap _ _ _), V1.out, U2.out⟩
      · rw [if_pos (by rfl)]
        refine wp_al (Mem.start wc1) rfl zero17 rfl ?_
        intro g10 wa4 M9
        have hA := M9.below
        replace RG := Lib.hid (RG.out.below hA)
        replace V1 := Lib.hid (V1.out.below hA)
        replace M : Mem wA wa4 [(g10, 32, [.int .i64 0, .int .i64 0, .slice none 0 0])] := Mem.join M M9
        clear hA M9
        clear hHeld
        refine hK.out _ _ (gcells (K9.out.below M.below K9.out.lt)) (fun hHeld => ?_)
        clear hK K
        try simp only [Act.put, puts]
        refine wpAnyH_ready (rs := [3, 5]) (by kernel_rfl) (by simp) ?_
        refine AllReadyH.cons rfl (fun K hK => ?_) (AllReadyH.cons rfl (fun K hK => ?_) AllReadyH.nil)
        · go_simp
          refine (HCR.out _ _ _ RG.out).mono ?_
          rintro e wc3 ⟨a2, c2, rfl, hU, hA⟩
          replace M := M.call hA
          replace RG := Lib.hid (RG.out.below hA)
          replace V1 := Lib.hid (V1.out.below hA)
          have U2 := Lib.hid hU
          clear hU
          clear hA
          try go_wp2_with fail
          clear hHeld
          refine hK.out _ _ (gcells (K9.out.below M.below K9.out.lt)) (fun hHeld => ?_)
          clear hK K
          try simp only [Act.put, puts]
          refine wpAnyH_ready (rs := [5]) (by kernel_rfl) (by simp) ?_
          refine AllReadyH.cons rfl (fun K hK => ?_) AllReadyH.nil
          rw [if_pos (by rfl)]
          refine wp_al (Mem.start wc3) rfl zero17r rfl ?_
          intro g11 wa5 M9
          have hA := M9.below
          replace RG := Lib.hid (RG.out.below hA)
          replace V1 := Lib.hid (V1.out.below hA)
          replace U2 := Lib.hid (U2.out.below hA)
          replace M : Mem wA wa5 [(g11, 36, [.int .i64 0, .int .i64 0, .slice none 0 0]), (g10, 32, [.int .i64 0, .int .i64 0, .slice none 0 0])] := Mem.join M M9
          clear hA M9
          clear hHeld
          refine hK.out _ _ (gcells (K9.out.below M.below K9.out.lt)) (fun hHeld => ?_)
          clear hK K
          try simp only [Act.put, puts]
          refine wpAnyH_ready (rs := [6]) (by kernel_rfl) (by simp) ?_
          refine AllReadyH.cons rfl (fun K hK => ?_) AllReadyH.nil
          rw [if_pos (by rfl)]
          refine Grid.wp_stM (v := fv x y (.slice a1 n c1)) M rfl rfl rfl (wr_fx _ _ _ _ _ _ _ _) (.tail _ _ _ _ _ _ _ (Upd.head _ _ _ _ _)) ?_
          intro wz6 Mn hTn
          replace V1 := Lib.hid (V1.out.turnedB (M.has (.tail _ _ _ _ _ (Has.head _ _ _ _))) (by decide) (noPart_f _ _ _ _ _) hTn)
          replace U2 := Lib.hid (U2.out.turnedB (M.has (.tail _ _ _ _ _ (Has.head _ _ _ _))) (by decide) (by decide) hTn)
          replace M := Mn
          clear hTn hHeld Mn
          refine hK.out _ _ (gcells (K9.out.below M.below K9.out.lt)) (fun hHeld => ?_)
          clear hK K
          try simp only [Act.put, puts]
          refine wpAnyH_ready (rs := [7]) (by kernel_rfl) (by simp) ?_
          refine AllReadyH.cons rfl (fun K hK => ?_) AllReadyH.nil
          rw [if_pos (by rfl)]
          refine Grid.wp_stM (v := fv x y (.slice a2 n c2)) M rfl rfl rfl (wr_f _ _ _ _ _ _ _ _) (Upd.head _ _ _ _ _) ?_
          intro wz7 Mn hTn
          replace V1 := Lib.hid (V1.out.turnedB (M.has (Has.head _ _ _ _)) (by decide) (noPart_f _ _ _ _ _) hTn)
          replace U2 := Lib.hid (U2.out.turnedB (M.has (Has.head _ _ _ _)) (by decide) (by decide) hTn)
          replace M := Mn
          clear hTn hHeld Mn
          refine hK.out _ _ (gcells (K9.out.below M.below K9.out.lt)) (fun hHeld => ?_)
          clear hK K
          try simp only [Act.put, puts]
          refine wpAnyH_done (by kernel_rfl) ?_ _
          go_wp2_with fail
          go_meet
          exact ⟨g10, g11, a1, c1, a2, c2, rfl, rfl, Mem.perm17 M (List.Perm.refl _), V1.out, U2.out⟩
        · rw [if_pos (by rfl)]
          refine wp_al (Mem.start wa4) rfl zero17r rfl ?_
          intro g11 wa5 M9
          have hA := M9.below
          replace RG := Lib.hid (RG.out.below hA)
          replace V1 := Lib.hid (V1.out.below hA)
          replace M : Mem wA wa5 [(g11, 36, [.int .i64 0, .int .i64 0, .slice none 0 0]), (g10, 32, [.int .i64 0, .int .i64 0, .slice none 0 0])] := Mem.join M M9
          clear hA M9
          clear hHeld
          refine hK.out _ _ (gcells (K9.out.below M.below K9.out.lt)) (fun hHeld => ?_)
          clear hK K
          try simp only [Act.put, puts]
          refine wpAnyH_ready (rs := [3]) (by kernel_rfl) (by simp) ?_
          refine AllReadyH.cons rfl (fun K hK => ?_) AllReadyH.nil
          go_simp
          refine (HCR.out _ _ _ RG.out).mono ?_
          rintro e wc3 ⟨a2, c2, rfl, hU, hA⟩
          replace M := M.call hA
          replace RG := Lib.hid (RG.out.below hA)
          replace V1 := Lib.hid (V1.out.below hA)
          have U2 := Lib.hid hU
          clear hU
          clear hA
          try go_wp2_with fail
          clear hHeld
          refine hK.out _ _ (gcells (K9.out.below M.below K9.out.lt)) (fun hHeld => ?_)
          clear hK K
          try simp only [Act.put, puts]
          refine wpAnyH_ready (rs := [6]) (by kernel_rfl) (by simp) ?_
          refine AllReadyH.cons rfl (fun K hK => ?_) AllReadyH.nil
          rw [if_pos (by rfl)]
          refine Grid.wp_stM (v := fv x y (.slice a1 n c1)) M rfl rfl rfl (wr_fx _ _ _ _ _ _ _ _) (.tail _ _ _ _ _ _ _ (Upd.head _ _ _ _ _)) ?_
          intro wz6 Mn hTn
          replace V1 := Lib.hid (V1.out.turnedB (M.has (.tail _ _ _ _ _ (Has.head _ _ _ _))) (by decide) (noPart_f _ _ _ _ _) hTn)
          replace U2 := Lib.hid (U2.out.turnedB (M.has (.tail _ _ _ _ _ (Has.head _ _ _ _))) (by decide) (by decide) hTn)
          replace M := Mn
          clear hTn hHeld Mn
          refine hK.out _ _ (gcells (K9.out.below M.below K9.out.lt)) (fun hHeld => ?_)
          clear hK K
          try simp only [Act.put, puts]
          refine wpAnyH_ready (rs := [7]) (by kernel_rfl) (by simp) ?_
          refine AllReadyH.cons rfl (fun K hK => ?_) AllReadyH.nil
          rw [if_pos (by rfl)]
          refine Grid.wp_stM (v := fv x y (.slice a2 n c2)) M rfl rfl rfl (wr_f _ _ _ _ _ _ _ _) (Upd.head _ _ _ _ _) ?_
          intro wz7 Mn hTn
          replace V1 := Lib.hid (V1.out.turnedB (M.has (Has.head _ _ _ _)) (by decide) (noPart_f _ _ _ _ _) hTn)
          replace U2 := Lib.hid (U2.out.turnedB (M.has (Has.head _ _ _ _)) (by decide) (by decide) hTn)
          replace M := Mn
          clear hTn hHeld Mn
          refine hK.out _ _ (gcells (K9.out.below M.below K9.out.lt)) (fun hHeld => ?_)
          clear hK K
          try simp only [Act.put, puts]
          refine wpAnyH_done (by kernel_rfl) ?_ _
          go_wp2_with fail
          go_meet
          exact ⟨g10, g11, a1, c1, a2, c2, rfl, rfl, Mem.perm17 M (List.Perm.refl _), V1.out, U2.out⟩
      · rw [if_pos (by rfl)]
        refine wp_al (Mem.start wc1) rfl zero17r rfl ?_
        intro g11 wa5 M9
        have hA := M9.below
        replace RG := Lib.hid (RG.out.below hA)
        replace V1 := Lib.hid (V1.out.below hA)
        replace M : Mem wA wa5 [(g11, 36, [.int .i64 0, .int .i64 0, .slice none 0 0])] := Mem.join M M9
        clear hA M9
        clear hHeld
        refine hK.out _ _ (gcells (K9.out.below M.below K9.out.lt)) (fun hHeld => ?_)
        clear hK K
        try simp only [Act.put, puts]
        refine wpAnyH_ready (rs := [3, 4]) (by kernel_rfl) (by simp) ?_
        refine AllReadyH.cons rfl (fun K hK => ?_) (AllReadyH.cons rfl (fun K hK => ?_) AllReadyH.nil)
        · go_simp
          refine (HCR.out _ _ _ RG.out).mono ?_
          rintro e wc3 ⟨a2, c2, rfl, hU, hA⟩
          replace M := M.call hA
          replace RG := Lib.hid (RG.out.below hA)
          replace V1 := Lib.hid (V1.out.below hA)
          have U2 := Lib.hid hU
          clear hU
          clear hA
          try go_wp2_with fail
          clear hHeld
          refine hK.out _ _ (gcells (K9.out.below M.below K9.out.lt)) (fun hHeld => ?_)
          clear hK K
          try simp only [Act.put, puts]
          refine wpAnyH_ready (rs := [4]) (by kernel_rfl) (by simp) ?_
          refine AllReadyH.cons rfl (fun K hK => ?_) AllReadyH.nil
          rw [if_pos (by rfl)]
          refine wp_al (Mem.start wc3) rfl zero17 rfl ?_
          intro g10 wa4 M9
          have hA := M9.below
          replace RG := Lib.hid (RG.out.below hA)
          replace V1 := Lib.hid (V1.out.below hA)
          replace U2 := Lib.hid (U2.out.below hA)
          replace M : Mem wA wa4 [(g10, 32, [.int .i64 0, .int .i64 0, .slice none 0 0]), (g11, 36, [.int .i64 0, .int .i64 0, .slice none 0 0])] := Mem.join M M9
          clear hA M9
          clear hHeld
          refine hK.out _ _ (gcells (K9.out.below M.below K9.out.lt)) (fun hHeld => ?_)
          clear hK K
          try simp only [Act.put, puts]
          refine wpAnyH_ready (rs := [6]) (by kernel_rfl) (by simp) ?_
          refine AllReadyH.cons rfl (fun K hK => ?_) AllReadyH.nil
          rw [if_pos (by rfl)]
          refine Grid.wp_stM (v := fv x y (.slice a1 n c1)) M rfl rfl rfl (wr_fx _ _ _ _ _ _ _ _) (Upd.head _ _ _ _ _) ?_
          intro wz6 Mn hTn
          replace V1 := Lib.hid (V1.out.turnedB (M.has (Has.head _ _ _ _)) (by decide) (noPart_f _ _ _ _ _) hTn)
          replace U2 := Lib.hid (U2.out.turnedB (M.has (Has.head _ _ _ _)) (by decide) (by decide) hTn)
          replace M := Mn
          clear hTn hHeld Mn
          refine hK.out _ _ (gcells (K9.out.below M.below K9.out.lt)) (fun hHeld => ?_)
          clear hK K
          try simp only [Act.put, puts]
          refine wpAnyH_ready (rs := [7]) (by kernel_rfl) (by simp) ?_
          refine AllReadyH.cons rfl (fun K hK => ?_) AllReadyH.nil
          rw [if_pos (by rfl)]
          refine Grid.wp_stM (v := fv x y (.slice a2 n c2)) M rfl rfl rfl (wr_f _ _ _ _ _ _ _ _) (.tail _ _ _ _ _ _ _ (Upd.head _ _ _ _ _)) ?_
          intro wz7 Mn hTn
          replace V1 := Lib.hid (V1.out.turnedB (M.has (.tail _ _ _ _ _ (Has.head _ _ _ _))) (by decide) (noPart_f _ _ _ _ _) hTn)
          replace U2 := Lib.hid (U2.out.turnedB (M.has (.tail _ _ _ _ _ (Has.head _ _ _ _))) (by decide) (by decide) hTn)
          replace M := Mn
          clear hTn hHeld Mn
          refine hK.out _ _ (gcells (K9.out.below M.below K9.out.lt)) (fun hHeld => ?_)
          clear hK K
          try simp only [Act.put, puts]
          refine wpAnyH_done (by kernel_rfl) ?_ _
          go_wp2_with fail
          go_meet
          exact ⟨g10, g11, a1, c1, a2, c2, rfl, rfl, Mem.perm17 M (List.Perm.swap _ _ _), V1.out, U2.out⟩
        · rw [if_pos (by rfl)]
          refine wp_al (Mem.start wa5) rfl zero17 rfl ?_
          intro g10 wa4 M9
          have hA := M9.below
          replace RG := Lib.hid (RG.out.below hA)
          replace V1 := Lib.hid (V1.out.below hA)
          replace M : Mem wA wa4 [(g10, 32, [.int .i64 0, .int .i64 0, .slice none 0 0]), (g11, 36, [.int .i64 0, .int .i64 0, .slice none 0 0])] := Mem.join M M9
          clear hA M9
          clear hHeld
          refine hK.out _ _ (gcells (K9.out.below M.below K9.out.lt)) (fun hHeld => ?_)
          clear hK K
          try simp only [Act.put, puts]
          refine wpAnyH_ready (rs := [3]) (by kernel_rfl) (by simp) ?_
          refine AllReadyH.cons rfl (fun K hK => ?_) AllReadyH.nil
          go_simp
          refine (HCR.out _ _ _ RG.out).mono ?_
          rintro e wc3 ⟨a2, c2, rfl, hU, hA⟩
          replace M := M.call hA
          replace RG := Lib.hid (RG.out.below hA)
          replace V1 := Lib.hid (V1.out.below hA)
          have U2 := Lib.hid hU
          clear hU
          clear hA
          try go_wp2_with fail
          clear hHeld
          refine hK.out _ _ (gcells (K9.out.below M.below K9.out.lt)) (fun hHeld => ?_)
          clear hK K
          try simp only [Act.put, puts]
          refine wpAnyH_ready (rs := [6]) (by kernel_rfl) (by simp) ?_
          refine AllReadyH.cons rfl (fun K hK => ?_) AllReadyH.nil
          rw [if_pos (by rfl)]
          refine Grid.wp_stM (v := fv x y (.slice a1 n c1)) M rfl rfl rfl (wr_fx _ _ _ _ _ _ _ _) (Upd.head _ _ _ _ _) ?_
          intro wz6 Mn hTn
          replace V1 := Lib.hid (V1.out.turnedB (M.has (Has.head _ _ _ _)) (by decide) (noPart_f _ _ _ _ _) hTn)
          replace U2 := Lib.hid (U2.out.turnedB (M.has (Has.head _ _ _ _)) (by decide) (by decide) hTn)
          replace M := Mn
          clear hTn hHeld Mn
          refine hK.out _ _ (gcells (K9.out.below M.below K9.out.lt)) (fun hHeld => ?_)
          clear hK K
          try simp only [Act.put, puts]
          refine wpAnyH_ready (rs := [7]) (by kernel_rfl) (by simp) ?_
          refine AllReadyH.cons rfl (fun K hK => ?_) AllReadyH.nil
          rw [if_pos (by rfl)]
          refine Grid.wp_stM (v := fv x y (.slice a2 n c2)) M rfl rfl rfl (wr_f _ _ _ _ _ _ _ _) (.tail _ _ _ _ _ _ _ (Upd.head _ _ _ _ _)) ?_
          intro wz7 Mn hTn
          replace V1 := Lib.hid (V1.out.turnedB (M.has (.tail _ _ _ _ _ (Has.head _ _ _ _))) (by decide) (noPart_f _ _ _ _ _) hTn)
          replace U2 := Lib.hid (U2.out.turnedB (M.has (.tail _ _ _ _ _ (Has.head _ _ _ _))) (by decide) (by decide) hTn)
          replace M := Mn
          clear hTn hHeld Mn
          refine hK.out _ _ (gcells (K9.out.below M.below K9.out.lt)) (fun hHeld => ?_)
          clear hK K
          try simp only [Act.put, puts]
          refine wpAnyH_done (by kernel_rfl) ?_ _
          go_wp2_with fail
          go_meet
          exact ⟨g10, g11, a1, c1, a2, c2, rfl, rfl, Mem.perm17 M (List.Perm.swap _ _ _), V1.out, U2.out⟩
    · rw [if_pos (by rfl)]
      refine wp_al (Mem.start wA.drew) rfl zero17 rfl ?_
      intro g10 wa4 M9
      have hA := M9.below
      replace RG := Lib.hid (RG.out.below hA)
      replace M : Mem wA wa4 [(g10, 32, [.int .i64 0, .int .i64 0, .slice none 0 0])] := Mem.join M M9
      clear hA M9
      clear hHeld
      refine hK.out _ _ (gcells (K9.out.below M.below K9.out.lt)) (fun hHeld => ?_)
      clear hK K
      try simp only [Act.put, puts]
      refine wpAnyH_ready (rs := [1, 5]) (by kernel_rfl) (by simp) ?_
      refine AllReadyH.cons rfl (fun K hK => ?_) (AllReadyH.cons rfl (fun K hK => ?_) AllReadyH.nil)
      · go_simp
        refine (HCF.out _ _ _ RG.out).mono ?_
        rintro e wc1 ⟨a1, c1, rfl, hV, hA⟩
        replace M := M.call hA
        replace RG := Lib.hid (RG.out.below hA)
        have V1 := Lib.hid hV
        clear hV
        clear hA
        try go_wp2_with fail
        clear hHeld
        refine hK.out _ _ (gcells (K9.out.below M.below K9.out.lt)) (fun hHeld => ?_)
        clear hK K
        try simp only [Act.put, puts]
        refine wpAnyH_ready (rs := [3, 5]) (by kernel_rfl) (by simp) ?_
        refine AllReadyH.cons rfl (fun K hK => ?_) (AllReadyH.cons rfl (fun K hK => ?_) AllReadyH.nil)
        · go_simp
          refine (HCR.out _ _ _ RG.out).mono ?_
          rintro e wc3 ⟨a2, c2, rfl, hU, hA⟩
          replace M := M.call hA
          replace RG := Lib.hid (RG.out.below hA)
          replace V1 := Lib.hid (V1.out.below hA)
          have U2 := Lib.hid hU
          clear hU
          clear hA
          try go_wp2_with fail
          clear hHeld
          refine hK.out _ _ (gcells (K9.out.below M.below K9.out.lt)) (fun hHeld => ?_)
          clear hK K
          try simp only [Act.put, puts]
          refine wpAnyH_ready (rs := [5]) (by kernel_rfl) (by simp) ?_
          refine AllReadyH.cons rfl (fun K hK => ?_) AllReadyH.nil
          rw [if_pos (by rfl)]
          refine wp_al (Mem.start wc3) rfl zero17r rfl ?_
          intro g11 wa5 M9
          have hA := M9.below
          replace RG := Lib.hid (RG.out.below hA)
          replace V1 := Lib.hid (V1.out.below hA)
          replace U2 := Lib.hid (U2.out.below hA)
          replace M : Mem wA wa5 [(g11, 36, [.int .i64 0, .int .i64 0, .slice none 0 0]), (g10, 32, [.int .i64 0, .int .i64 0, .slice none 0 0])] := Mem.join M M9
          clear hA M9
          clear hHeld
          refine hK.out _ _ (gcells (K9.out.below M.below K9.out.lt)) (fun hHeld => ?_)
          clear hK K
          try simp only [Act.put, puts]
          refine wpAnyH_ready (rs := [6]) (by kernel_rfl) (by simp) ?_
          refine AllReadyH.cons rfl (fun K hK => ?_) AllReadyH.nil
          rw [if_pos (by rfl)]
          refine Grid.wp_stM (v := fv x y (.slice a1 n c1)) M rfl rfl rfl (wr_fx _ _ _ _ _ _ _ _) (.tail _ _ _ _ _ _ _ (Upd.head _ _ _ _ _)) ?_
          intro wz6 Mn hTn
          replace V1 := Lib.hid (V1.out.turnedB (M.has (.tail _ _ _ _ _ (Has.head _ _ _ _))) (by decide) (noPart_f _ _ _ _ _) hTn)
          replace U2 := Lib.hid (U2.out.turnedB (M.has (.tail _ _ _ _ _ (Has.head _ _ _ _))) (by decide) (by decide) hTn)
          replace M := Mn
          clear hTn hHeld Mn
          refine hK.out _ _ (gcells (K9.out.below M.below K9.out.lt)) (fun hHeld => ?_)
          clear hK K
          try simp only [Act.put, puts]
          refine wpAnyH_ready (rs := [7]) (by kernel_rfl) (by simp) ?_
          refine AllReadyH.cons rfl (fun K hK => ?_) AllReadyH.nil
          rw [if_pos (by rfl)]
          refine Grid.wp_stM (v := fv x y (.slice a2 n c2)) M rfl rfl rfl (wr_f _ _ _ _ _ _ _ _) (Upd.head _ _ _ _ _) ?_
          intro wz7 Mn hTn
          replace V1 := Lib.hid (V1.out.turnedB (M.has (Has.head _ _ _ _)) (by decide) (noPart_f _ _ _ _ _) hTn)
          replace U2 := Lib.hid (U2.out.turnedB (M.has (Has.head _ _ _ _)) (by decide) (by decide) hTn)
          replace M := Mn
          clear hTn hHeld Mn
          refine hK.out _ _ (gcells (K9.out.below M.below K9.out.lt)) (fun hHeld => ?_)
          clear hK K
          try simp only [Act.put, puts]
          refine wpAnyH_done (by kernel_rfl) ?_ _
          go_wp2_with fail
          go_meet
          exact ⟨g10, g11, a1, c1, a2, c2, rfl, rfl, Mem.perm17 M (List.Perm.refl _), V1.out, U2.out⟩
        · rw [if_pos (by rfl)]
          refine wp_al (Mem.start wc1) rfl zero17r rfl ?_
          intro g11 wa5 M9
          have hA := M9.below
          replace RG := Lib.hid (RG.out.below hA)
          replace V1 := Lib.hid (V1.out.below hA)
          replace M : Mem wA wa5 [(g11, 36, [.int .i64 0, .int .i64 0, .slice none 0 0]), (g10, 32, [.int .i64 0, .int .i64 0, .slice none 0 0])] := Mem.join M M9
          clear hA M9
          clear hHeld
          refine hK.out _ _ (gcells (K9.out.below M.below K9.out.lt)) (fun hHeld => ?_)
          clear hK K
          try simp only [Act.put, puts]
          refine wpAnyH_ready (rs := [3]) (by kernel_rfl) (by simp) ?_
          refine AllReadyH.cons rfl (fun K hK => ?_) AllReadyH.nil
          go_simp
          refine (HCR.out _ _ _ RG.out).mono ?_
          rintro e wc3 ⟨a2, c2, rfl, hU, hA⟩
          replace M := M.call hA
          replace RG := Lib.hid (RG.out.below hA)
          replace V1 := Lib.hid (V1.out.below hA)
          have U2 := Lib.hid hU
          clear hU
          clear hA
          try go_wp2_with fail
          clear hHeld
          refine hK.out _ _ (gcells (K9.out.below M.below K9.out.lt)) (fun hHeld => ?_)
          clear hK K
          try simp only [Act.put, puts]
          refine wpAnyH_ready (rs := [6]) (by kernel_rfl) (by simp) ?_
          refine AllReadyH.cons rfl (fun K hK => ?_) AllReadyH.nil
          rw [if_pos (by rfl)]
          refine Grid.wp_stM (v := fv x y (.slice a1 n c1)) M rfl rfl rfl (wr_fx _ _ _ _ _ _ _ _) (.tail _ _ _ _ _ _ _ (Upd.head _ _ _ _ _)) ?_
          intro wz6 Mn hTn
          replace V1 := Lib.hid (V1.out.turnedB (M.has (.tail _ _ _ _ _ (Has.head _ _ _ _))) (by decide) (noPart_f _ _ _ _ _) hTn)
          replace U2 := Lib.hid (U2.out.turnedB (M.has (.tail _ _ _ _ _ (Has.head _ _ _ _))) (by decide) (by decide) hTn)
          replace M := Mn
          clear hTn hHeld Mn
          refine hK.out _ _ (gcells (K9.out.below M.below K9.out.lt)) (fun hHeld => ?_)
          clear hK K
          try simp only [Act.put, puts]
          refine wpAnyH_ready (rs := [7]) (by kernel_rfl) (by simp) ?_
          refine AllReadyH.cons rfl (fun K hK => ?_) AllReadyH.nil
          rw [if_pos (by rfl)]
          refine Grid.wp_stM (v := fv x y (.slice a2 n c2)) M rfl rfl rfl (wr_f _ _ _ _ _ _ _ _) (Upd.head _ _ _ _ _) ?_
          intro wz7 Mn hTn
          replace V1 := Lib.hid (V1.out.turnedB (M.has (Has.head _ _ _ _)) (by decide) (noPart_f _ _ _ _ _) hTn)
          replace U2 := Lib.hid (U2.out.turnedB (M.has (Has.head _ _ _ _)) (by decide) (by decide) hTn)
          replace M := Mn
          clear hTn hHeld Mn
          refine hK.out _ _ (gcells (K9.out.below M.below K9.out.lt)) (fun hHeld => ?_)
          clear hK K
          try simp only [Act.put, puts]
          refine wpAnyH_done (by kernel_rfl) ?_ _
          go_wp2_with fail
          go_meet
          exact ⟨g10, g11, a1, c1, a2, c2, rfl, rfl, Mem.perm17 M (List.Perm.refl _), V1.out, U2.out⟩
      · rw [if_pos (by rfl)]
        refine wp_al (Mem.start wa4) rfl zero17r rfl ?_
        intro g11 wa5 M9
        have hA := M9.below
        replace RG := Lib.hid (RG.out.below hA)
        replace M : Mem wA wa5 [(g11, 36, [.int .i64 0, .int .i64 0, .slice none 0 0]), (g10, 32, [.int .i64 0, .int .i64 0, .slice none 0 0])] := Mem.join M M9
        clear hA M9
        clear hHeld
        refine hK.out _ _ (gcells (K9.out.below M.below K9.out.lt)) (fun hHeld => ?_)
        clear hK K
        try simp only [Act.put, puts]
        refine wpAnyH_ready (rs := [1]) (by kernel_rfl) (by simp) ?_
        refine AllReadyH.cons rfl (fun K hK => ?_) AllReadyH.nil
        go_simp
        refine (HCF.out _ _ _ RG.out).mono ?_
        rintro e wc1 ⟨a1, c1, rfl, hV, hA⟩
        replace M := M.call hA
        replace RG := Lib.hid (RG.out.below hA)
        have V1 := Lib.hid hV
        clear hV
        clear hA
        try go_wp2_with fail
        clear hHeld
        refine hK.out _ _ (gcells (K9.out.below M.below K9.out.lt)) (fun hHeld => ?_)
        clear hK K
        try simp only [Act.put, puts]
        refine wpAnyH_ready (rs := [3]) (by kernel_rfl) (by simp) ?_
        refine AllReadyH.cons rfl (fun K hK => ?_) AllReadyH.nil
        go_simp
        refine (HCR.out _ _ _ RG.out).mono ?_
        rintro e wc3 ⟨a2, c2, rfl, hU, hA⟩
        replace M := M.call hA
        replace RG := Lib.hid (RG.out.below hA)
        replace V1 := Lib.hid (V1.out.below hA)
        have U2 := Lib.hid hU
        clear hU
        clear hA
        try go_wp2_with fail
        clear hHeld
        refine hK.out _ _ (gcells (K9.out.below M.below K9.out.lt)) (fun hHeld => ?_)
        clear hK K
        try simp only [Act.put, puts]
        refine wpAnyH_ready (rs := [6]) (by kernel_rfl) (by simp) ?_
        refine AllReadyH.cons rfl (fun K hK => ?_) AllReadyH.nil
        rw [if_pos (by rfl)]
        refine Grid.wp_stM (v := fv x y (.slice a1 n c1)) M rfl rfl rfl (wr_fx _ _ _ _ _ _ _ _) (.tail _ _ _ _ _ _ _ (Upd.head _ _ _ _ _)) ?_
        intro wz6 Mn hTn
        replace V1 := Lib.hid (V1.out.turnedB (M.has (.tail _ _ _ _ _ (Has.head _ _ _ _))) (by decide) (noPart_f _ _ _ _ _) hTn)
        replace U2 := Lib.hid (U2.out.turnedB (M.has (.tail _ _ _ _ _ (Has.head _ _ _ _))) (by decide) (by decide) hTn)
        replace M := Mn
        clear hTn hHeld Mn
        refine hK.out _ _ (gcells (K9.out.below M.below K9.out.lt)) (fun hHeld => ?_)
        clear hK K
        try simp only [Act.put, puts]
        refine wpAnyH_ready (rs := [7]) (by kernel_rfl) (by simp) ?_
        refine AllReadyH.cons rfl (fun K hK => ?_) AllReadyH.nil
        rw [if_pos (by rfl)]
        refine Grid.wp_stM (v := fv x y (.slice a2 n c2)) M rfl rfl rfl (wr_f _ _ _ _ _ _ _ _) (Upd.head _ _ _ _ _) ?_
        intro wz7 Mn hTn
        replace V1 := Lib.hid (V1.out.turnedB (M.has (Has.head _ _ _ _)) (by decide) (noPart_f _ _ _ _ _) hTn)
        replace U2 := Lib.hid (U2.out.turnedB (M.has (Has.head _ _ _ _)) (by decide) (by decide) hTn)
        replace M := Mn
        clear hTn hHeld Mn
        refine hK.out _ _ (gcells (K9.out.below M.below K9.out.lt)) (fun hHeld => ?_)
        clear hK K
        try simp only [Act.put, puts]
        refine wpAnyH_done (by kernel_rfl) ?_ _
        go_wp2_with fail
        go_meet
        exact ⟨g10, g11, a1, c1, a2, c2, rfl, rfl, Mem.perm17 M (List.Perm.refl _), V1.out, U2.out⟩
    · rw [if_pos (by rfl)]
      refine wp_al (Mem.start wA.drew) rfl zero17r rfl ?_
      intro g11 wa5 M9
      have hA := M9.below
      replace RG := Lib.hid (RG.out.below hA)
      replace M : Mem wA wa5 [(g11, 36, [.int .i64 0, .int .i64 0, .slice none 0 0])] := Mem.join M M9
      clear hA M9
      clear hHeld
      refine hK.out _ _ (gcells (K9.out.below M.below K9.out.lt)) (fun hHeld => ?_)
      clear hK K
      try simp only [Act.put, puts]
      refine wpAnyH_ready (rs := [1, 4]) (by kernel_rfl) (by simp) ?_
      refine AllReadyH.cons rfl (fun K hK => ?_) (AllReadyH.cons rfl (fun K hK => ?_) AllReadyH.nil)
      · go_simp
        refine (HCF.out _ _ _ RG.out).mono ?_
        rintro e wc1 ⟨a1, c1, rfl, hV, hA⟩
        replace M := M.call hA
        replace RG := Lib.hid (RG.out.below hA)
        have V1 := Lib.hid hV
        clear hV
        clear hA
        try go_wp2_with fail
        clear hHeld
        refine hK.out _ _ (gcells (K9.out.below M.below K9.out.lt)) (fun hHeld => ?_)
        clear hK K
        try simp only [Act.put, puts]
        refine wpAnyH_ready (rs := [3, 4]) (by kernel_rfl) (by simp) ?_
        refine AllReadyH.cons rfl (fun K hK => ?_) (AllReadyH.cons rfl (fun K hK => ?_) AllReadyH.nil)
        · go_simp
          refine (HCR.out _ _ _ RG.out).mono ?_
          rintro e wc3 ⟨a2, c2, rfl, hU, hA⟩
          replace M := M.call hA
          replace RG := Lib.hid (RG.out.below hA)
          replace V1 := Lib.hid (V1.out.below hA)
          have U2 := Lib.hid hU
          clear hU
          clear hA
          try go_wp2_with fail
          clear hHeld
          refine hK.out _ _ (gcells (K9.out.below M.below K9.out.lt)) (fun hHeld => ?_)
          clear hK K
          try simp only [Act.put, puts]
          refine wpAnyH_ready (rs := [4]) (by kernel_rfl) (by simp) ?_
          refine AllReadyH.cons rfl (fun K hK => ?_) AllReadyH.nil
          rw [if_pos (by rfl)]
          refine wp_al (Mem.start wc3) rfl zero17 rfl ?_
          intro g10 wa4 M9
          have hA := M9.below
          replace RG := Lib.hid (RG.out.below hA)
          replace V1 := Lib.hid (V1.out.below hA)
          replace U2 := Lib.hid (U2.out.below hA)
          replace M : Mem wA wa4 [(g10, 32, [.int .i64 0, .int .i64 0, .slice none 0 0]), (g11, 36, [.int .i64 0, .int .i64 0, .slice none 0 0])] := Mem.join M M9
          clear hA M9
          clear hHeld
          refine hK.out _ _ (gcells (K9.out.below M.below K9.out.lt)) (fun hHeld => ?_)
          clear hK K
          try simp only [Act.put, puts]
          refine wpAnyH_ready (rs := [6]) (by kernel_rfl) (by simp) ?_
          refine AllReadyH.cons rfl (fun K hK => ?_) AllReadyH.nil
          rw [if_pos (by rfl)]
          refine Grid.wp_stM (v := fv x y (.slice a1 n c1)) M rfl rfl rfl (wr_fx _ _ _ _ _ _ _ _) (Upd.head _ _ _ _ _) ?_
          intro wz6 Mn hTn
          replace V1 := Lib.hid (V1.out.turnedB (M.has (Has.head _ _ _ _)) (by decide) (noPart_f _ _ _ _ _) hTn)
          replace U2 := Lib.hid (U2.out.turnedB (M.has (Has.head _ _ _ _)) (by decide) (by decide) hTn)
          replace M := Mn
          clear hTn hHeld Mn
          refine hK.out _ _ (gcells (K9.out.below M.below K9.out.lt)) (fun hHeld => ?_)
          clear hK K
          try simp only [Act.put, puts]
          refine wpAnyH_ready (rs := [7]) (by kernel_rfl) (by simp) ?_
          refine AllReadyH.cons rfl (fun K hK => ?_) AllReadyH.nil
          rw [if_pos (by rfl)]
          refine Grid.wp_stM (v := fv x y (.slice a2 n c2)) M rfl rfl rfl (wr_f _ _ _ _ _ _ _ _) (.tail _ _ _ _ _ _ _ (Upd.head _ _ _ _ _)) ?_
          intro wz7 Mn hTn
          replace V1 := Lib.hid (V1.out.turnedB (M.has (.tail _ _ _ _ _ (Has.head _ _ _ _))) (by decide) (noPart_f _ _ _ _ _) hTn)
          replace U2 := Lib.hid (U2.out.turnedB (M.has (.tail _ _ _ _ _ (Has.head _ _ _ _))) (by decide) (by decide) hTn)
          replace M := Mn
          clear hTn hHeld Mn
          refine hK.out _ _ (gcells (K9.out.below M.below K9.out.lt)) (fun hHeld => ?_)
          clear hK K
          try simp only [Act.put, puts]
          refine wpAnyH_done (by kernel_rfl) ?_ _
          go_wp2_with fail
          go_meet
          exact ⟨g10, g11, a1, c1, a2, c2, rfl, rfl, Mem.perm17 M (List.Perm.swap _ _ _), V1.out, U2.out⟩
        · rw [if_pos (by rfl)]
          refine wp_al (Mem.start wc1) rfl zero17 rfl ?_
          intro g10 wa4 M9
          have hA := M9.below
          replace RG := Lib.hid (RG.out.below hA)
          replace V1 := Lib.hid (V1.out.below hA)
          replace M : Mem wA wa4 [(g10, 32, [.int .i64 0, .int .i64 0, .slice none 0 0]), (g11, 36, [.int .i64 0, .int .i64 0, .slice none 0 0])] := Mem.join M M9
          clear hA M9
          clear hHeld
          refine hK.out _ _ (gcells (K9.out.below M.below K9.out.lt)) (fun hHeld => ?_)
          clear hK K
          try simp only [Act.put, puts]
          refine wpAnyH_ready (rs := [3]) (by kernel_rfl) (by simp) ?_
          refine AllReadyH.cons rfl (fun K hK => ?_) AllReadyH.nil
          go_simp
          refine (HCR.out _ _ _ RG.out).mono ?_
          rintro e wc3 ⟨a2, c2, rfl, hU, hA⟩
          replace M := M.call hA
          replace RG := Lib.hid (RG.out.below hA)
          replace V1 := Lib.hid (V1.out.below hA)
          have U2 := Lib.hid hU
          clear hU
          clear hA
          try go_wp2_with fail
          clear hHeld
          refine hK.out _ _ (gcells (K9.out.below M.below K9.out.lt)) (fun hHeld => ?_)
          clear hK K
          try simp only [Act.put, puts]
          refine wpAnyH_ready (rs := [6]) (by kernel_rfl) (by simp) ?_
          refine AllReadyH.cons rfl (fun K hK => ?_) AllReadyH.nil
          rw [if_pos (by rfl)]
          refine Grid.wp_stM (v := fv x y (.slice a1 n c1)) M rfl rfl rfl (wr_fx _ _ _ _ _ _ _ _) (Upd.head _ _ _ _ _) ?_
          intro wz6 Mn hTn
          replace V1 := Lib.hid (V1.out.turnedB (M.has (Has.head _ _ _ _)) (by decide) (noPart_f _ _ _ _ _) hTn)
          replace U2 := Lib.hid (U2.out.turnedB (M.has (Has.head _ _ _ _)) (by decide) (by decide) hTn)
          replace M := Mn
          clear hTn hHeld Mn
          refine hK.out _ _ (gcells (K9.out.below M.below K9.out.lt)) (fun hHeld => ?_)
          clear hK K
          try simp only [Act.put, puts]
          refine wpAnyH_ready (rs := [7]) (by kernel_rfl) (by simp) ?_
          refine AllReadyH.cons rfl (fun K hK => ?_) AllReadyH.nil
          rw [if_pos (by rfl)]
          refine Grid.wp_stM (v := fv x y (.slice a2 n c2)) M rfl rfl rfl (wr_f _ _ _ _ _ _ _ _) (.tail _ _ _ _ _ _ _ (Upd.head _ _ _ _ _)) ?_
          intro wz7 Mn hTn
          replace V1 := Lib.hid (V1.out.turnedB (M.has (.tail _ _ _ _ _ (Has.head _ _ _ _))) (by decide) (noPart_f _ _ _ _ _) hTn)
          replace U2 := Lib.hid (U2.out.turnedB (M.has (.tail _ _ _ _ _ (Has.head _ _ _ _))) (by decide) (by decide) hTn)
          replace M := Mn
          clear hTn hHeld Mn
          refine hK.out _ _ (gcells (K9.out.below M.below K9.out.lt)) (fun hHeld => ?_)
          clear hK K
          try simp only [Act.put, puts]
          refine wpAnyH_done (by kernel_rfl) ?_ _
          go_wp2_with fail
          go_meet
          exact ⟨g10, g11, a1, c1, a2, c2, rfl, rfl, Mem.perm17 M (List.Perm.swap _ _ _), V1.out, U2.out⟩
      · rw [if_pos (by rfl)]
        refine wp_al (Mem.start wa5) rfl zero17 rfl ?_
        intro g10 wa4 M9
        have hA := M9.below
        replace RG := Lib.hid (RG.out.below hA)
        replace M : Mem wA wa4 [(g10, 32, [.int .i64 0, .int .i64 0, .slice none 0 0]), (g11, 36, [.int .i64 0, .int .i64 0, .slice none 0 0])] := Mem.join M M9
        clear hA M9
        clear hHeld
        refine hK.out _ _ (gcells (K9.out.below M.below K9.out.lt)) (fun hHeld => ?_)
        clear hK K
        try simp only [Act.put, puts]
        refine wpAnyH_ready (rs := [1]) (by kernel_rfl) (by simp) ?_
        refine AllReadyH.cons rfl (fun K hK => ?_) AllReadyH.nil
        go_simp
        refine (HCF.out _ _ _ RG.out).mono ?_
        rintro e wc1 ⟨a1, c1, rfl, hV, hA⟩
        replace M := M.call hA
        replace RG := Lib.hid (RG.out.below hA)
        have V1 := Lib.hid hV
        clear hV
        clear hA
        try go_wp2_with fail
        clear hHeld
        refine hK.out _ _ (gcells (K9.out.below M.below K9.out.lt)) (fun hHeld => ?_)
        clear hK K
        try simp only [Act.put, puts]
        refine wpAnyH_ready (rs := [3]) (by kernel_rfl) (by simp) ?_
        refine AllReadyH.cons rfl (fun K hK => ?_) AllReadyH.nil
        go_simp
        refine (HCR.out _ _ _ RG.out).mono ?_
        rintro e wc3 ⟨a2, c2, rfl, hU, hA⟩
        replace M := M.call hA
        replace RG := Lib.hid (RG.out.below hA)
        replace V1 := Lib.hid (V1.out.below hA)
        have U2 := Lib.hid hU
        clear hU
        clear hA
        try go_wp2_with fail
        clear hHeld
        refine hK.out _ _ (gcells (K9.out.below M.below K9.out.lt)) (fun hHeld => ?_)
        clear hK K
        try simp only [Act.put, puts]
        refine wpAnyH_ready (rs := [6]) (by kernel_rfl) (by simp) ?_
        refine AllReadyH.cons rfl (fun K hK => ?_) AllReadyH.nil
        rw [if_pos (by rfl)]
        refine Grid.wp_stM (v := fv x y (.slice a1 n c1)) M rfl rfl rfl (wr_fx _ _ _ _ _ _ _ _) (Upd.head _ _ _ _ _) ?_
        intro wz6 Mn hTn
        replace V1 := Lib.hid (V1.out.turnedB (M.has (Has.head _ _ _ _)) (by decide) (noPart_f _ _ _ _ _) hTn)
        replace U2 := Lib.hid (U2.out.turnedB (M.has (Has.head _ _ _ _)) (by decide) (by decide) hTn)
        replace M := Mn
        clear hTn hHeld Mn
        refine hK.out _ _ (gcells (K9.out.below M.below K9.out.lt)) (fun hHeld => ?_)
        clear hK K
        try simp only [Act.put, puts]
        refine wpAnyH_ready (rs := [7]) (by kernel_rfl) (by simp) ?_
        refine AllReadyH.cons rfl (fun K hK => ?_) AllReadyH.nil
        rw [if_pos (by rfl)]
        refine Grid.wp_stM (v := fv x y (.slice a2 n c2)) M rfl rfl rfl (wr_f _ _ _ _ _ _ _ _) (.tail _ _ _ _ _ _ _ (Upd.head _ _ _ _ _)) ?_
        intro wz7 Mn hTn
        replace V1 := Lib.hid (V1.out.turnedB (M.has (.tail _ _ _ _ _ (Has.head _ _ _ _))) (by decide) (noPart_f _ _ _ _ _) hTn)
        replace U2 := Lib.hid (U2.out.turnedB (M.has (.tail _ _ _ _ _ (Has.head _ _ _ _))) (by decide) (by decide) hTn)
        replace M := Mn
        clear hTn hHeld Mn
        refine hK.out _ _ (gcells (K9.out.below M.below K9.out.lt)) (fun hHeld => ?_)
        clear hK K
        try simp only [Act.put, puts]
        refine wpAnyH_done (by kernel_rfl) ?_ _
        go_wp2_with fail
        go_meet
        exact ⟨g10, g11, a1, c1, a2, c2, rfl, rfl, Mem.perm17 M (List.Perm.swap _ _ _), V1.out, U2.out⟩
  clear M
  obtain ⟨g10, g11, a1, c1, a2, c2, rfl, rfl, M30, hV, hU⟩ := hcut
  have HV := Lib.hid hV
  have HU := Lib.hid hU
  clear hV hU RG HCF HCR
  try simp only [Exit.then, Exit.inBlock]
  go_wp2_with ((with_reducible refine (?_ : Go.wpList _ _ _ (_ :: _) _ _)); (first | go_skip | (refine wpL_ldc M30 rfl rfl rfl ?_) | (refine wpL_lgc M30 rfl rfl rfl ?_) | (refine wpL_stc M30 rfl rfl rfl rfl ?_; clear M30; intro w' M30) | (refine wpL_sti M30 rfl rfl rfl rfl ?_; clear M30; intro w' M30) | (refine wpL_sth M30 rfl rfl rfl rfl (wr_minus _ _ _) ?_; clear M30; intro w' M30)))
  refine (like_any x y a1 a2 n c1 c2 31 us us HF.out.lt HF.out.lt (by omega) (by omega) (Prp.refl _) _ HV.out HU.out).mono ?_
  rintro e w31 ⟨rfl, hA⟩
  have M31 := M30.call hA
  have HI : Hid (∃ (a1 : Option Addr) (c1 : Nat) (a2 : Option Addr) (c2 m fx fy : Nat) (gs vs : List Nat), FilOk (31 + 24 * 0) ⟨fx, fy, vs⟩ ∧ Lt (31 + 24 * 0) gs ∧ Prp gs vs ∧ vs.length = m ∧ IsV w31 a1 m c1 gs ∧ IsU w31 a2 m c2 vs ∧ Mem wA w31 [(g11, 36, fc fx fy (.slice a2 m c2)), (g10, 32, fc fx fy (.slice a1 m c1))]) :=
    Lib.hid ⟨a1, c1, a2, c2, n, x, y, us, us, HF.out, HF.out.lt, Prp.refl _, HUS.out, HV.out.below hA, HU.out.below hA, M31⟩
  clear M30 M31 HV HU hA
  go_wp2_with fail
  go_loopw [12] (fun i wr => ∃ (k : Nat), k ≤ no ∧ i = .int .i64 k ∧ Hid (∃ (a1 : Option Addr) (c1 : Nat) (a2 : Option Addr) (c2 m fx fy : Nat) (gs vs : List Nat), FilOk (31 + 24 * k) ⟨fx, fy, vs⟩ ∧ Lt (31 + 24 * k) gs ∧ Prp gs vs ∧ vs.length = m ∧ IsV wr a1 m c1 gs ∧ IsU wr a2 m c2 vs ∧ Mem wA wr [(g11, 36, fc fx fy (.slice a2 m c2)), (g10, 32, fc fx fy (.slice a1 m c1))])) (fun i _ => no - (intOf i).toNat)
  case atStart => exact ⟨0, Nat.zero_le _, rfl, HI⟩
  case round =>
    clear HI
    obtain ⟨i, hi, rfl, HI⟩ := hrel
    by_cases hlt : i < no
    · obtain ⟨a1, c1, a2, c2, m, fx, fy, gs, vs, hF, hG, hP, hm, hV, hU, M⟩ := HI.out
      obtain ⟨o, ho⟩ : ∃ o, l[i]? = some o := ⟨_, List.getElem?_eq_getElem (by rw [HNO.out]; exact hlt)⟩
      obtain ⟨C, hF2⟩ := HCA.out i o ho (31 + 24 * i) fx fy m gs vs a1 a2 c1 c2 wr.drew (HBA.out.trans (M.drew.below.mono HBA.out.size)) (by omega) hF hG hP hm (hV.below ((Below.refl wr.heap.size wr).drew)) (hU.below ((Below.refl wr.heap.size wr).drew))
      obtain ⟨b, p0, rfl, hb, hco⟩ := cell_ops HS.out i o ho
      obtain ⟨f2, hf2⟩ : ∃ f2, f2 = doF ⟨fx, fy, vs⟩ o := ⟨_, rfl⟩
      rw [← hf2] at C hF2
      obtain ⟨ok, oq, oa, on, oc, zs, X, Y, W, H⟩ := o
      have q0 := hco 0 _ rfl
      have q1 := hco 1 _ rfl
      have q2 := hco 2 _ rfl
      have q3 := hco 3 _ rfl
      have q4 := hco 4 _ rfl
      have q5 := hco 5 _ rfl
      have q6 := hco 6 _ rfl
      simp only [Nat.add_zero] at q0
      have HQ := Lib.hid (And.intro q0 (And.intro q1 (And.intro q2 (And.intro q3 (And.intro q4 (And.intro q5 q6))))))
      have HQW : ∀ wx, Below w.heap.size w wx → _ := fun wx hx => HQ.out.imp (fun h => (hx.cell (p := ⟨b, p0 + i * 7, none⟩) hb).trans h) (fun h => h.imp (fun h => (hx.cell (p := ⟨b, p0 + i * 7 + 1, none⟩) hb).trans h) (fun h => h.imp (fun h => (hx.cell (p := ⟨b, p0 + i * 7 + 2, none⟩) hb).trans h) (fun h => h.imp (fun h => (hx.cell (p := ⟨b, p0 + i * 7 + 3, none⟩) hb).trans h) (fun h => h.imp (fun h => (hx.cell (p := ⟨b, p0 + i * 7 + 4, none⟩) hb).trans h) (fun h => h.imp (fun h => (hx.cell (p := ⟨b, p0 + i * 7 + 5, none⟩) hb).trans h) (fun h => (hx.cell (p := ⟨b, p0 + i * 7 + 6, none⟩) hb).trans h))))))
      have HQW := Lib.hid HQW
      have HC := Lib.hid C
      have HF2 := Lib.hid hF2
      clear q0 q1 q2 q3 q4 q5 q6 hco HQ C hF2 hf2 hF hG hP hm hV hU HI ho
      go_wp2_with fail
      refine wp_region_N_drew (S := (fun w' : World => (w'.cell? ⟨g10, 0, none⟩ = some (.int .i64 fx) ∧ w'.cell? ⟨g10, 1, none⟩ = some (.int .i64 fy) ∧ w'.cell? ⟨g10, 2, none⟩ = some (.slice a1 m c1)) ∧ (w'.cell? ⟨g11, 0, none⟩ = some (.int .i64 fx) ∧ w'.cell? ⟨g11, 1, none⟩ = some (.int .i64 fy) ∧ w'.cell? ⟨g11, 2, none⟩ = some (.slice a2 m c2)) ∧ w'.cell? ⟨b, p0 + i * 7, none⟩ = some (.int .u8 ok) ∧ w'.cell? ⟨b, p0 + i * 7 + 1, none⟩ = some (.int .u8 oq) ∧ w'.cell? ⟨b, p0 + i * 7 + 2, none⟩ = some (.slice oa on oc) ∧ w'.cell? ⟨b, p0 + i * 7 + 3, none⟩ = some (.int .i8 X) ∧ w'.cell? ⟨b, p0 + i * 7 + 4, none⟩ = some (.int .i8 Y) ∧ w'.cell? ⟨b, p0 + i * 7 + 5, none⟩ = some (.int .u8 W) ∧ w'.cell? ⟨b, p0 + i * 7 + 6, none⟩ = some (.int .u8 H))) 10 (by kernel_rfl) ?_
      have hHeld : (fun w' : World => (w'.cell? ⟨g10, 0, none⟩ = some (.int .i64 fx) ∧ w'.cell? ⟨g10, 1, none⟩ = some (.int .i64 fy) ∧ w'.cell? ⟨g10, 2, none⟩ = some (.slice a1 m c1)) ∧ (w'.cell? ⟨g11, 0, none⟩ = some (.int .i64 fx) ∧ w'.cell? ⟨g11, 1, none⟩ = some (.int .i64 fy) ∧ w'.cell? ⟨g11, 2, none⟩ = some (.slice a2 m c2)) ∧ w'.cell? ⟨b, p0 + i * 7, none⟩ = some (.int .u8 ok) ∧ w'.cell? ⟨b, p0 + i * 7 + 1, none⟩ = some (.int .u8 oq) ∧ w'.cell? ⟨b, p0 + i * 7 + 2, none⟩ = some (.slice oa on oc) ∧ w'.cell? ⟨b, p0 + i * 7 + 3, none⟩ = some (.int .i8 X) ∧ w'.cell? ⟨b, p0 + i * 7 + 4, none⟩ = some (.int .i8 Y) ∧ w'.cell? ⟨b, p0 + i * 7 + 5, none⟩ = some (.int .u8 W) ∧ w'.cell? ⟨b, p0 + i * 7 + 6, none⟩ = some (.int .u8 H)) wr.drew := ⟨fcells (M.drew.has (.tail _ _ _ _ _ (Has.head _ _ _ _))), rcells17 (M.drew.has (Has.head _ _ _ _)), HQW.out _ (HBA.out.trans (M.drew.below.mono HBA.out.size))⟩
      refine wpAnyN_takeY (i := 2) (v := ?v1) rfl (by kernel_rfl) (by kernel_rfl) (by kernel_rfl) (fun _ _ _ h => h) rfl (Or.inl ⟨by rfl, ?hy1⟩) (fun _ => hHeld) ?rest1
      case hy1 => (intro w' _; go_simp; (try with_reducible rfl))
      try simp only [Act.put, puts]
      refine wpAnyN_takeY (i := 3) (v := ?v2) rfl (by kernel_rfl) (by kernel_rfl) (by kernel_rfl) (fun _ _ _ h => h) rfl (Or.inl ⟨by rfl, ?hy2⟩) (fun _ => hHeld) ?rest2
      case hy2 => (intro w' _; go_simp; (try with_reducible rfl))
      try simp only [Act.put, puts]
      refine wpAnyN_take (i := 0) (v := ?v3) rfl (by kernel_rfl) (by kernel_rfl) (by kernel_rfl) (fun _ _ _ h => h) rfl (by kernel_rfl) (by kernel_rfl) (Or.inl ⟨by rfl, ?hy3⟩) hHeld ?rest3
      case hy3 => (intro w' hSw; (try dsimp only at hSw); go_simp; (try with_reducible rfl))
      try simp only [Act.put, puts]
      refine wpAnyN_take (i := 1) (v := ?v4) rfl (by kernel_rfl) (by kernel_rfl) (by kernel_rfl) (fun _ _ _ h => h) rfl (by kernel_rfl) (by kernel_rfl) (Or.inl ⟨by rfl, ?hy4⟩) hHeld ?rest4
      case hy4 => (intro w' hSw; (try dsimp only at hSw); go_simp; (try with_reducible rfl))
      try simp only [Act.put, puts]
      refine wpAnyN_takeY (i := 4) (v := ?v5) rfl (by kernel_rfl) (by kernel_rfl) (by kernel_rfl) (fun _ _ _ h => h) rfl (Or.inl ⟨by rfl, ?hy5⟩) (fun _ => hHeld) ?rest5
      case hy5 => (intro w' _; go_simp; (try with_reducible rfl))
      try simp only [Act.put, puts]
      refine wpAnyN_take (i := 5) (v := ?v6) rfl (by kernel_rfl) (by kernel_rfl) (by kernel_rfl) (fun _ _ _ h => h) rfl (by kernel_rfl) (by kernel_rfl) (Or.inl ⟨by rfl, ?hy6⟩) hHeld ?rest6
      case hy6 => (intro w' hSw; (try dsimp only at hSw); go_simp; (try with_reducible rfl))
      try simp only [Act.put, puts]
      refine wpAnyN_ready (rs := [6]) (by kernel_rfl) (by simp) ?_
      refine AllReadyN.cons rfl (fun K hK => ?_) AllReadyN.nil
      go_simp
      refine HC.out.mono ?_
      rintro e w6 ⟨b1, e1, b2, e2, gs2, rfl, hV, hP, hG, hU, hA⟩
      have M6 := M.drew.call hA
      have HV := Lib.hid hV
      have HU := Lib.hid hU
      have HP := Lib.hid hP
      have HG := Lib.hid hG
      clear hV hU hP hG hA
      try go_wp2_with fail
      replace hHeld : (fun w' : World => (w'.cell? ⟨g10, 0, none⟩ = some (.int .i64 fx) ∧ w'.cell? ⟨g10, 1, none⟩ = some (.int .i64 fy) ∧ w'.cell? ⟨g10, 2, none⟩ = some (.slice a1 m c1)) ∧ (w'.cell? ⟨g11, 0, none⟩ = some (.int .i64 fx) ∧ w'.cell? ⟨g11, 1, none⟩ = some (.int .i64 fy) ∧ w'.cell? ⟨g11, 2, none⟩ = some (.slice a2 m c2)) ∧ w'.cell? ⟨b, p0 + i * 7, none⟩ = some (.int .u8 ok) ∧ w'.cell? ⟨b, p0 + i * 7 + 1, none⟩ = some (.int .u8 oq) ∧ w'.cell? ⟨b, p0 + i * 7 + 2, none⟩ = some (.slice oa on oc) ∧ w'.cell? ⟨b, p0 + i * 7 + 3, none⟩ = some (.int .i8 X) ∧ w'.cell? ⟨b, p0 + i * 7 + 4, none⟩ = some (.int .i8 Y) ∧ w'.cell? ⟨b, p0 + i * 7 + 5, none⟩ = some (.int .u8 W) ∧ w'.cell? ⟨b, p0 + i * 7 + 6, none⟩ = some (.int .u8 H)) _ := ⟨fcells (M6.has (.tail _ _ _ _ _ (Has.head _ _ _ _))), rcells17 (M6.has (Has.head _ _ _ _)), HQW.out _ (HBA.out.trans (M6.below.mono HBA.out.size))⟩
      refine hK.out _ _ (fun _ => hHeld) ?_
      clear hK K
      try simp only [Act.put, puts]
      refine wpAnyN_takeY (i := 7) (v := ?v8) rfl (by kernel_rfl) (by kernel_rfl) (by kernel_rfl) (fun _ _ _ h => h) rfl (Or.inl ⟨by rfl, ?hy8⟩) (fun _ => hHeld) ?rest8
      case hy8 => (intro w' _; go_simp; (try with_reducible rfl))
      try simp only [Act.put, puts]
      refine wpAnyN_takeY (i := 8) (v := ?v9) rfl (by kernel_rfl) (by kernel_rfl) (by kernel_rfl) (fun _ _ _ h => h) rfl (Or.inl ⟨by rfl, ?hy9⟩) (fun _ => hHeld) ?rest9
      case hy9 => (intro w' _; go_simp; (try with_reducible rfl))
      try simp only [Act.put, puts]
      refine wpAnyN_takeY (i := 9) (v := ?v10) rfl (by kernel_rfl) (by kernel_rfl) (by kernel_rfl) (fun _ _ _ h => h) rfl (Or.inl ⟨by rfl, ?hy10⟩) (fun _ => hHeld) ?rest10
      case hy10 => (intro w' _; go_simp; (try with_reducible rfl))
      try simp only [Act.put, puts]
      refine wpAnyN_ready (rs := [10]) (by kernel_rfl) (by simp) ?_
      refine AllReadyN.cons rfl (fun K hK => ?_) AllReadyN.nil
      rw [if_pos (by rfl)]
      refine Grid.wp_stM (v := fv f2.x f2.y (.slice b1 f2.us.length e1)) M6 rfl rfl rfl (wr_fx _ _ _ _ _ _ _ _) (.tail _ _ _ _ _ _ _ (Upd.head _ _ _ _ _)) ?_
      intro w7 M7 hT7
      have HV7 := Lib.hid (HV.out.turnedB (M6.has (.tail _ _ _ _ _ (Has.head _ _ _ _))) (by decide) (noPart_f _ _ _ _ _) hT7)
      have HU7 := Lib.hid (HU.out.turnedB (M6.has (.tail _ _ _ _ _ (Has.head _ _ _ _))) (by decide) (by decide) hT7)
      refine hK.out _ _ (fun h => by have h' : (true : Bool) = false := h; cases h') ?_
      clear hK K
      try simp only [Act.put, puts]
      refine wpAnyN_ready (rs := [11]) (by kernel_rfl) (by simp) ?_
      refine AllReadyN.cons rfl (fun K hK => ?_) AllReadyN.nil
      rw [if_pos (by rfl)]
      refine Grid.wp_stM (v := fv f2.x f2.y (.slice b2 f2.us.length e2)) M7 rfl rfl rfl (wr_f _ _ _ _ _ _ _ _) (Upd.head _ _ _ _ _) ?_
      intro w8 M8 hT8
      have HV8 := Lib.hid (HV7.out.turnedB (M7.has (Has.head _ _ _ _)) (by decide) (noPart_f _ _ _ _ _) hT8)
      have HU8 := Lib.hid (HU7.out.turnedB (M7.has (Has.head _ _ _ _)) (by decide) (by decide) hT8)
      refine hK.out _ _ (fun h => by have h' : (true : Bool) = false := h; cases h') ?_
      clear hK K
      try simp only [Act.put, puts]
      refine wpAnyN_done (by kernel_rfl) ?_ _
      obtain ⟨m2, hm2⟩ : ∃ m2, m2 = f2.us.length := ⟨_, rfl⟩
      rw [← hm2] at HV8 HU8 M8 ⊢
      have HM2 := Lib.hid hm2
      clear M M6 M7 hT7 hT8 HV HV7 HU HU7 HC hm2
      go_wp2_with ((with_reducible refine (?_ : Go.wpList _ _ _ (_ :: _) _ _)); (first | go_skip | (refine wpL_ldc M8 rfl rfl rfl ?_) | (refine wpL_lgc M8 rfl rfl rfl ?_) | (refine wpL_stc M8 rfl rfl rfl rfl ?_; clear M8; intro w' M8) | (refine wpL_sti M8 rfl rfl rfl rfl ?_; clear M8; intro w' M8) | (refine wpL_sth M8 rfl rfl rfl rfl (wr_minus _ _ _) ?_; clear M8; intro w' M8)))
      refine (like_any f2.x f2.y b1 b2 m2 e1 e2 (31 + 24 * i + 24) gs2 f2.us HG.out HF2.out.lt (by omega) (by
        have h := HF2.out
        have h2 : f2.x * f2.y ≤ 8 * 8 := Nat.mul_le_mul h.x8 h.y8
        rw [HM2.out, h.len]; omega) HP.out _ HV8.out HU8.out).mono ?_
      rintro e w9 ⟨rfl, hA⟩
      have M9 := M8.call hA
      have HI : Hid (∃ (a1 : Option Addr) (c1 : Nat) (a2 : Option Addr) (c2 m fx fy : Nat) (gs vs : List Nat), FilOk (31 + 24 * (i + 1)) ⟨fx, fy, vs⟩ ∧ Lt (31 + 24 * (i + 1)) gs ∧ Prp gs vs ∧ vs.length = m ∧ IsV w9 a1 m c1 gs ∧ IsU w9 a2 m c2 vs ∧ Mem wA w9 [(g11, 36, fc fx fy (.slice a2 m c2)), (g10, 32, fc fx fy (.slice a1 m c1))]) :=
        Lib.hid ⟨b1, e1, b2, e2, m2, f2.x, f2.y, gs2, f2.us, by rw [show 31 + 24 * (i + 1) = 31 + 24 * i + 24 by omega]; exact HF2.out, by rw [show 31 + 24 * (i + 1) = 31 + 24 * i + 24 by omega]; exact HG.out, HP.out, HM2.out.symm, HV8.out.below hA, HU8.out.below hA, M9⟩
      clear M8 M9 HV8 HU8 HF2 HG HP HM2 hA
      go_wp2_with fail
      go_roundw
      case rel => exact ⟨i + 1, by omega, by go_num, HI⟩
      case measure => simp [intOf]; omega
    · obtain rfl : i = no := by omega
      obtain ⟨a1, c1, a2, c2, m, fx, fy, gs, vs, _, _, _, _, _, _, M⟩ := HI.out
      clear HI
      go_wp2_with fail
      refine (HCW.out _ (HBA.out.trans (M.below.mono HBA.out.size))).mono ?_
      rintro e w9 ⟨rfl, hA⟩
      have M9 := M.call hA
      go_wp2_with fail
      go_ret
      exact ⟨rfl, HBA.out.trans (M9.below.mono HBA.out.size)⟩
end Go.Proofs.YtanblpfpkohghaaDoor
