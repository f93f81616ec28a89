/-
  The three laws, whatever comes in.
-/
import Derived.Test.YtanblpfpkohghaaDoorLaw17a
import Derived.Test.YtanblpfpkohghaaDoorLaw17c
import Derived.Test.YtanblpfpkohghaaDoorLaw17d
import Derived.Test.YtanblpfpkohghaaDoorLaw17e
set_option linter.unusedVariables false
set_option linter.unusedSimpArgs false
namespace Go.Proofs.YtanblpfpkohghaaDoor
open Go Go.RowKit Go.Th Go.Th.Dig Go.Th.Ex Go.Th.Grid

theorem works_in {w : World} (CD : Dbt w) : ∀ wx, Below w.heap.size w wx → Calls Tryd.prog 7 #[] wx fun e w' => e = .returned (.bool true) ∧ Below wx.heap.size wx w' := fun wx hx => works_any17 wx (CD.below hx)
theorem sm_sum : ∀ {l : List Int}, (∀ u ∈ l, 0 ≤ u) → (((l.map Int.toNat).sum : Nat) : Int) = sm l
  | [], _ => rfl
  | u :: r, h => by
    have ih := sm_sum (l := r) (fun v hv => h v (List.mem_cons_of_mem _ hv))
    have hu := h u (List.mem_cons_self ..)
    rw [List.map_cons, List.sum_cons]
    show _ = u + sm r
    omega
/-- What is wanted of a grid that the laws make. -/
structure MadeU (L : List Int) (us : List Nat) (n : Nat) : Prop where
  ll : L.length = n
  ul : us.length = n
  get : ∀ i, i < n → L.getD i 0 = ((us.getD i 0 : Nat) : Int)
  lt : Lt 31 us
  pos : us.sum ≠ 0
theorem madeU (z : List Int) (hz : ∀ u ∈ z, 0 ≤ u ∧ u ≤ 65535) {n : Nat} (hn : 0 < n) (hs : 0 < sm (norm (madeL z n))) : MadeU (norm (madeL z n)) (gU z n) n :=
  ⟨gL_length z n, gU_length z n, gU_get hz hn, gU_lt hz hn, by
    have h := sm_sum (l := norm (madeL z n)) (fun u hu => (gL_rng hz hn u hu).1)
    unfold gU
    omega⟩
theorem sm_made {z : List Int} (hz : ∀ u ∈ z, 0 ≤ u ∧ u ≤ 65535) (p q : Nat) : 0 < sm (norm (madeL z ((1 + p % 8) * (1 + q % 8)))) := by
  obtain ⟨x, hx⟩ : ∃ x, x = 1 + p % 8 := ⟨_, rfl⟩
  obtain ⟨y, hy⟩ : ∃ y, y = 1 + q % 8 := ⟨_, rfl⟩
  have hx8 : 1 ≤ x ∧ x ≤ 8 := by omega
  have hy8 : 1 ≤ y ∧ y ≤ 8 := by omega
  rw [← hx, ← hy]
  obtain ⟨n, hn⟩ : ∃ n, n = x * y := ⟨_, rfl⟩
  rw [← hn]
  have hpos : 0 < x * y := Nat.mul_pos (by omega) (by omega)
  have hle : x * y ≤ 8 * 8 := Nat.mul_le_mul hx8.2 hy8.2
  have hl : (norm (madeL z n)).length = n := by rw [norm_length, madeL_length]
  have hs := madeL_sm hz (n := n) (by omega)
  have hc : chk x y 64 (norm (madeL z n)) = 0 := chk_norm (sidesG_iff.2 ⟨by omega, by omega, by omega⟩) (by rw [madeL_length, hn]; simp) (fun u hu => (madeL_rng hz n u hu).1) (by omega)
  obtain ⟨_, _, h3, h4, h5⟩ := chk_ok hc
  rw [hl] at h4
  omega
theorem made_in (p q k ca : Nat) (a : Option Addr) (z : List Int) (hp : p < 256) (hq : q < 256) (hz : z.length = k) (hk : k ≤ 1000000) (hz0 : ∀ u ∈ z, 0 ≤ u ∧ u ≤ 65535) (w : World) (hT : Sl w 1 (.slice a k ca) k (u16s z)) :
    ∀ wx, Below w.heap.size w wx → Calls Tryd.prog 8 #[.int .u8 p, .int .u8 q, .slice a k ca, .int .u8 2] wx fun e w' => ∃ a' cap', e = .returned (gv ((1 + p % 8 : Nat) : Int) ((1 + q % 8 : Nat) : Int) 1000 (-1000) ((stepN 2 : Nat) : Int) (.slice a' ((1 + p % 8) * (1 + q % 8)) cap')) ∧ Sl w' 1 (.slice a' ((1 + p % 8) * (1 + q % 8)) cap') ((1 + p % 8) * (1 + q % 8)) (i64s (norm (madeL z ((1 + p % 8) * (1 + q % 8))))) ∧ Below wx.heap.size wx w' :=
  fun wx hx => made14_any p q 2 _ _ _ _ k ca a z hp hq (by decide) rfl rfl rfl rfl hz hk hz0 wx (hT.below hx)
theorem from_in {L : List Int} {us : List Nat} {n : Nat} (h : MadeU L us n) (hn : n ≤ 4096) (x y : Nat) (S : Int) : ∀ wx a cap, Sl wx 1 (.slice a n cap) n (i64s L) → LAns 9 #[gv x y 1000 (-1000) S (.slice a n cap)] x y n us wx :=
  fun wx a cap hS => lfrom x y n 1000 (-1000) S a cap L us h.ll h.ul h.get h.lt hn wx hS
theorem rfrom_in {L : List Int} {us : List Nat} {n : Nat} (h : MadeU L us n) (hn : n ≤ 4096) (x y : Nat) (S : Int) : ∀ wx a cap, Sl wx 1 (.slice a n cap) n (i64s L) → LAnsU 10 #[gv x y 1000 (-1000) S (.slice a n cap)] x y n us wx :=
  fun wx a cap hS => lrfrom x y n 1000 (-1000) S a cap L us h.ll h.ul h.get h.lt hn wx hS
theorem over_in {L : List Int} {us : List Nat} {n : Nat} (h : MadeU L us n) (hn : n ≤ 1000) (x y : Nat) (S b : Int) (hb : b < 9223372036854775808) {k : Nat} {gs : List Nat} (hk : k ≤ 7000) (hg : Lt k gs) (R : Bool) (hR : overN us gs b = R) :
    ∀ wx aG cG a1 c1, Sl wx 1 (.slice aG n cG) n (i64s L) → IsV wx a1 n c1 gs → Calls Tryd.prog 13 #[gv x y 1000 (-1000) S (.slice aG n cG), fv x y (.slice a1 n c1), .int .i64 b] wx fun e w' => e = .returned (.bool R) ∧ Below wx.heap.size wx w' := by
  subst hR
  exact fun wx aG cG a1 c1 hS hV => over_any17 x y 1000 (-1000) S x y b aG a1 n cG c1 k L us gs h.ll h.ul h.get (h.lt.mono (by omega)) hg hk hn hb wx hS hV
theorem rover_in {L : List Int} {us : List Nat} {n : Nat} (h : MadeU L us n) (hn : n ≤ 1000) (x y : Nat) (S b : Int) (hb : b < 9223372036854775808) {k : Nat} {vs : List Nat} (hk : k ≤ 6000) (hg : Lt k vs) (R : Bool) (hR : overN us vs b = R) :
    ∀ wx aG cG a2 c2, Sl wx 1 (.slice aG n cG) n (i64s L) → IsU wx a2 n c2 vs → Calls Tryd.prog 14 #[gv x y 1000 (-1000) S (.slice aG n cG), fv x y (.slice a2 n c2), .int .i64 b] wx fun e w' => e = .returned (.bool R) ∧ Below wx.heap.size wx w' := by
  subst hR
  exact fun wx aG cG a2 c2 hS hV => rover_any x y x y 1000 (-1000) S b aG a2 n cG c2 (k + 63) L us vs h.ll h.ul h.get (h.lt.mono (by omega)) (hg.mono (by omega)) (by omega) (by omega) (by omega) hb wx hS hV
theorem filOk_made {L : List Int} {us : List Nat} (p q : Nat) (h : MadeU L us ((1 + p % 8) * (1 + q % 8))) : FilOk 31 ⟨1 + p % 8, 1 + q % 8, us⟩ :=
  ⟨by show 1 ≤ 1 + p % 8; omega, by show 1 + p % 8 ≤ 8; omega, by show 1 ≤ 1 + q % 8; omega, by show 1 + q % 8 ≤ 8; omega, h.ul, h.lt⟩
theorem n64 (p q : Nat) : (1 + p % 8) * (1 + q % 8) ≤ 64 ∧ 0 < (1 + p % 8) * (1 + q % 8) := by
  have h : (1 + p % 8) * (1 + q % 8) ≤ 8 * 8 := Nat.mul_le_mul (by omega) (by omega)
  exact ⟨by omega, Nat.mul_pos (by omega) (by omega)⟩
theorem light_in (ao : Option Addr) (no co : Nat) (l : List OpV) (hl : l.length = no) (w : World) (hS : Sl w 7 (.slice ao no co) no (opcs l)) (B : Int) (hB : (if light17 l then (0 : Int) else 1) = B) :
    ∀ wx, Below w.heap.size w wx → Calls Tryd.prog 6 #[.slice ao no co] wx fun e w' => e = .returned (.int .i64 B) ∧ wx = w' := by
  subst hB
  intro wx hx
  have h := light17_any ao no co l hl wx (hS.below hx)
  exact h.mono fun e w' r => by
    obtain ⟨r1, r2⟩ := r
    refine ⟨?_, r2⟩
    rw [r1]

set_option maxRecDepth 20000 in
set_option maxHeartbeats 3200000 in
theorem does_big (p q k ca no co : Nat) (a ao : Option Addr) (hk : decide (100 < (k : Int)) = true) (w : World) (CW : ∀ wx, Below w.heap.size w wx → Calls Tryd.prog 7 #[] wx fun e w' => e = .returned (.bool true) ∧ Below wx.heap.size wx w') :
    Calls Tryd.prog 3 #[.int .u8 p, .int .u8 q, .slice a k ca, .slice ao no co] w fun e w' => e = .returned (.bool true) ∧ Below w.heap.size w w' := by
  have HCW := Lib.hid CW
  have M0 := Mem.start w
  clear CW
  go_enter Tryd.func3, Tryd.ntmps3
  go_wp2_with fail
  refine (HCW.out _ M0.below).mono ?_
  rintro e w1 ⟨rfl, hA⟩
  go_wp2_with fail
  go_ret
  exact ⟨rfl, hA⟩
set_option maxRecDepth 20000 in
set_option maxHeartbeats 3200000 in
theorem does_heavy (p q k ca no co : Nat) (a ao : Option Addr) (hk : decide (100 < (k : Int)) = false) (w : World) (CL : ∀ wx, Below w.heap.size w wx → Calls Tryd.prog 6 #[.slice ao no co] wx fun e w' => e = .returned (.int .i64 1) ∧ wx = w')
    (CW : ∀ wx, Below w.heap.size w wx → Calls Tryd.prog 7 #[] wx fun e w' => e = .returned (.bool true) ∧ Below wx.heap.size wx w') :
    Calls Tryd.prog 3 #[.int .u8 p, .int .u8 q, .slice a k ca, .slice ao no co] w fun e w' => e = .returned (.bool true) ∧ Below w.heap.size w w' := by
  have HCW := Lib.hid CW
  have HCL := Lib.hid CL
  have M0 := Mem.start w
  clear CW CL
  go_enter Tryd.func3, Tryd.ntmps3
  go_wp2_with fail
  refine (HCL.out _ M0.below).mono ?_
  rintro e wz ⟨rfl, rfl⟩
  go_wp2_with fail
  refine (HCW.out _ M0.below).mono ?_
  rintro e w1 ⟨rfl, hA⟩
  go_wp2_with fail
  go_ret
  exact ⟨rfl, hA⟩
theorem exactDoes_any (p q k ca no co : Nat) (a ao : Option Addr) (z : List Int) (l : List OpV) (hp : p < 256) (hq : q < 256) (hz : z.length = k) (hz0 : ∀ u ∈ z, 0 ≤ u ∧ u ≤ 65535) (hl : l.length = no) (w : World) (CD : Dbt w) (hT : Sl w 1 (.slice a k ca) k (u16s z)) (hS : Sl w 7 (.slice ao no co) no (opcs l)) (hop : ∀ o ∈ l, OpOk w o) :
    Calls Tryd.prog 3 #[.int .u8 p, .int .u8 q, .slice a k ca, .slice ao no co] w fun e w' => e = .returned (.bool true) ∧ Below w.heap.size w w' := by
  by_cases hk : 100 < k
  · exact does_big p q k ca no co a ao (decide_eq_true (by omega)) w (works_in CD)
  have hk0 : decide (100 < (k : Int)) = false := decide_eq_false (by omega)
  cases hlt : light17 l with
  | false => exact does_heavy p q k ca no co a ao hk0 w (light_in ao no co l hl w hS 1 (by rw [hlt]; rfl)) (works_in CD)
  | true =>
    obtain ⟨h64, h0⟩ := n64 p q
    have hM := madeU z hz0 h0 (sm_made hz0 p q)
    have h8 : no ≤ 8 := by
      unfold light17 at hlt
      rw [Bool.and_eq_true] at hlt
      have := of_decide_eq_true hlt.1
      omega
    exact does_go p q k ca no co _ _ _ _ a ao (gU z _) _ l hl h8 hk0 hM.ul h64 (filOk_made p q hM) w (light_in ao no co l hl w hS 0 (by rw [hlt]; rfl)) (made_in p q k ca a z hp hq hz (by omega) hz0 w hT)
      (from_in hM (by omega) _ _ _) (rfrom_in hM (by omega) _ _ _) (works_in CD) (acts_of hop hlt) hS

set_option maxRecDepth 20000 in
set_option maxHeartbeats 3200000 in
theorem over_big1 (p q k ca km cm no co : Nat) (b : Int) (a am ao : Option Addr) (hk : decide (100 < (k : Int)) = true) (w : World) (CW : ∀ wx, Below w.heap.size w wx → Calls Tryd.prog 7 #[] wx fun e w' => e = .returned (.bool true) ∧ Below wx.heap.size wx w') :
    Calls Tryd.prog 4 #[.int .u8 p, .int .u8 q, .slice a k ca, .slice am km cm, .slice ao no co, .int .i64 b] w fun e w' => e = .returned (.bool true) ∧ Below w.heap.size w w' := by
  have HCW := Lib.hid CW
  have M0 := Mem.start w
  clear CW
  go_enter Tryd.func4, Tryd.ntmps4
  go_wp2_with fail
  refine (HCW.out _ M0.below).mono ?_
  rintro e w1 ⟨rfl, hA⟩
  go_wp2_with fail
  go_ret
  exact ⟨rfl, hA⟩
set_option maxRecDepth 20000 in
set_option maxHeartbeats 3200000 in
theorem over_big2 (p q k ca km cm no co : Nat) (b : Int) (a am ao : Option Addr) (hk : decide (100 < (k : Int)) = false) (hkm : decide (100 < (km : Int)) = true) (w : World) (CW : ∀ wx, Below w.heap.size w wx → Calls Tryd.prog 7 #[] wx fun e w' => e = .returned (.bool true) ∧ Below wx.heap.size wx w') :
    Calls Tryd.prog 4 #[.int .u8 p, .int .u8 q, .slice a k ca, .slice am km cm, .slice ao no co, .int .i64 b] w fun e w' => e = .returned (.bool true) ∧ Below w.heap.size w w' := by
  have HCW := Lib.hid CW
  have M0 := Mem.start w
  clear CW
  go_enter Tryd.func4, Tryd.ntmps4
  go_wp2_with fail
  refine (HCW.out _ M0.below).mono ?_
  rintro e w1 ⟨rfl, hA⟩
  go_wp2_with fail
  go_ret
  exact ⟨rfl, hA⟩
set_option maxRecDepth 20000 in
set_option maxHeartbeats 3200000 in
theorem over_heavy (p q k ca km cm no co : Nat) (b : Int) (a am ao : Option Addr) (hk : decide (100 < (k : Int)) = false) (hkm : decide (100 < (km : Int)) = false) (w : World) (CL : ∀ wx, Below w.heap.size w wx → Calls Tryd.prog 6 #[.slice ao no co] wx fun e w' => e = .returned (.int .i64 1) ∧ wx = w')
    (CW : ∀ wx, Below w.heap.size w wx → Calls Tryd.prog 7 #[] wx fun e w' => e = .returned (.bool true) ∧ Below wx.heap.size wx w') :
    Calls Tryd.prog 4 #[.int .u8 p, .int .u8 q, .slice a k ca, .slice am km cm, .slice ao no co, .int .i64 b] w fun e w' => e = .returned (.bool true) ∧ Below w.heap.size w w' := by
  have HCW := Lib.hid CW
  have HCL := Lib.hid CL
  have M0 := Mem.start w
  clear CW CL
  go_enter Tryd.func4, Tryd.ntmps4
  go_wp2_with fail
  refine (HCL.out _ M0.below).mono ?_
  rintro e wz ⟨rfl, rfl⟩
  go_wp2_with fail
  refine (HCW.out _ M0.below).mono ?_
  rintro e w1 ⟨rfl, hA⟩
  go_wp2_with fail
  go_ret
  exact ⟨rfl, hA⟩
theorem exactOver_any (p q k ca km cm no co : Nat) (b : Int) (a am ao : Option Addr) (z zm : List Int) (l : List OpV) (hp : p < 256) (hq : q < 256) (hz : z.length = k) (hz0 : ∀ u ∈ z, 0 ≤ u ∧ u ≤ 65535) (hzm : zm.length = km) (hzm0 : ∀ u ∈ zm, 0 ≤ u ∧ u ≤ 65535) (hl : l.length = no) (hb : b < 9223372036854775808) (w : World) (CD : Dbt w)
    (hT : Sl w 1 (.slice a k ca) k (u16s z)) (hTm : Sl w 1 (.slice am km cm) km (u16s zm)) (hS : Sl w 7 (.slice ao no co) no (opcs l)) (hop : ∀ o ∈ l, OpOk w o) :
    Calls Tryd.prog 4 #[.int .u8 p, .int .u8 q, .slice a k ca, .slice am km cm, .slice ao no co, .int .i64 b] w fun e w' => e = .returned (.bool true) ∧ Below w.heap.size w w' := by
  by_cases hk : 100 < k
  · exact over_big1 p q k ca km cm no co b a am ao (decide_eq_true (by omega)) w (works_in CD)
  have hk0 : decide (100 < (k : Int)) = false := decide_eq_false (by omega)
  by_cases hkm : 100 < km
  · exact over_big2 p q k ca km cm no co b a am ao hk0 (decide_eq_true (by omega)) w (works_in CD)
  have hkm0 : decide (100 < (km : Int)) = false := decide_eq_false (by omega)
  cases hlt : light17 l with
  | false => exact over_heavy p q k ca km cm no co b a am ao hk0 hkm0 w (light_in ao no co l hl w hS 1 (by rw [hlt]; rfl)) (works_in CD)
  | true =>
    obtain ⟨h64, h0⟩ := n64 p q
    have hM := madeU z hz0 h0 (sm_made hz0 p q)
    have hMm := madeU zm hzm0 h0 (sm_made hzm0 p q)
    have h8 : no ≤ 8 := by
      unfold light17 at hlt
      rw [Bool.and_eq_true] at hlt
      have := of_decide_eq_true hlt.1
      omega
    refine over_law p q k ca km cm no co _ _ _ _ b a am ao (gU z _) (gU zm _) _ _ l true hl h8 hk0 hkm0 hM.ul (filOk_made p q hM) (fun o ho => (hop o ho).k) w (light_in ao no co l hl w hS 0 (by rw [hlt]; rfl)) (made_in p q km cm am zm hp hq hzm (by omega) hzm0 w hTm) (made_in p q k ca a z hp hq hz (by omega) hz0 w hT)
      (from_in hM (by omega) _ _ _) (from_in hMm (by omega) _ _ _) (rfrom_in hM (by omega) _ _ _) (works_in CD) (acts_of hop hlt) hS ?_ (over_in hMm (by omega) _ _ _ 0 (by omega) (by omega) hMm.lt false (over_self hMm.pos))
    intro k2 gs vs hk2 hg hv hp2 hvl
    exact ⟨overN (gU zm _) vs b, over_in hMm (by omega) _ _ _ b hb (by omega) hg _ (over_prp _ hp2 b), rover_in hMm (by omega) _ _ _ b hb (by omega) hv _ rfl, over_in hMm (by omega) _ _ _ 1099511627776 (by omega) (by omega) hg false (over_one (by rw [hMm.ul, hp2.1, hvl]))⟩

set_option maxRecDepth 20000 in
set_option maxHeartbeats 3200000 in
theorem tri_big0 (p q k ca km cm kn cn : Nat) (b c : Int) (a am an : Option Addr) (h0 : decide (100 < (k : Int)) = true) (w : World) (CW : ∀ wx, Below w.heap.size w wx → Calls Tryd.prog 7 #[] wx fun e w' => e = .returned (.bool true) ∧ Below wx.heap.size wx w') :
    Calls Tryd.prog 5 #[.int .u8 p, .int .u8 q, .slice a k ca, .slice am km cm, .slice an kn cn, .int .i64 b, .int .i64 c] w fun e w' => e = .returned (.bool true) ∧ Below w.heap.size w w' := by
  have HCW := Lib.hid CW
  have M0 := Mem.start w
  clear CW
  go_enter Tryd.func5, Tryd.ntmps5
  go_wp2_with fail
  refine (HCW.out _ M0.below).mono ?_
  rintro e w1 ⟨rfl, hA⟩
  go_wp2_with fail
  go_ret
  exact ⟨rfl, hA⟩
set_option maxRecDepth 20000 in
set_option maxHeartbeats 3200000 in
theorem tri_big1 (p q k ca km cm kn cn : Nat) (b c : Int) (a am an : Option Addr) (h0 : decide (100 < (k : Int)) = false) (h1 : decide (100 < (km : Int)) = true) (w : World) (CW : ∀ wx, Below w.heap.size w wx → Calls Tryd.prog 7 #[] wx fun e w' => e = .returned (.bool true) ∧ Below wx.heap.size wx w') :
    Calls Tryd.prog 5 #[.int .u8 p, .int .u8 q, .slice a k ca, .slice am km cm, .slice an kn cn, .int .i64 b, .int .i64 c] w fun e w' => e = .returned (.bool true) ∧ Below w.heap.size w w' := by
  have HCW := Lib.hid CW
  have M0 := Mem.start w
  clear CW
  go_enter Tryd.func5, Tryd.ntmps5
  go_wp2_with fail
  refine (HCW.out _ M0.below).mono ?_
  rintro e w1 ⟨rfl, hA⟩
  go_wp2_with fail
  go_ret
  exact ⟨rfl, hA⟩
set_option maxRecDepth 20000 in
set_option maxHeartbeats 3200000 in
theorem tri_big2 (p q k ca km cm kn cn : Nat) (b c : Int) (a am an : Option Addr) (h0 : decide (100 < (k : Int)) = false) (h1 : decide (100 < (km : Int)) = false) (h2 : decide (100 < (kn : Int)) = true) (w : World) (CW : ∀ wx, Below w.heap.size w wx → Calls Tryd.prog 7 #[] wx fun e w' => e = .returned (.bool true) ∧ Below wx.heap.size wx w') :
    Calls Tryd.prog 5 #[.int .u8 p, .int .u8 q, .slice a k ca, .slice am km cm, .slice an kn cn, .int .i64 b, .int .i64 c] w fun e w' => e = .returned (.bool true) ∧ Below w.heap.size w w' := by
  have HCW := Lib.hid CW
  have M0 := Mem.start w
  clear CW
  go_enter Tryd.func5, Tryd.ntmps5
  go_wp2_with fail
  refine (HCW.out _ M0.below).mono ?_
  rintro e w1 ⟨rfl, hA⟩
  go_wp2_with fail
  go_ret
  exact ⟨rfl, hA⟩
set_option maxRecDepth 20000 in
set_option maxHeartbeats 3200000 in
theorem tri_big3 (p q k ca km cm kn cn : Nat) (b c : Int) (a am an : Option Addr) (h0 : decide (100 < (k : Int)) = false) (h1 : decide (100 < (km : Int)) = false) (h2 : decide (100 < (kn : Int)) = false) (h3 : decide (b < 0) = true) (w : World) (CW : ∀ wx, Below w.heap.size w wx → Calls Tryd.prog 7 #[] wx fun e w' => e = .returned (.bool true) ∧ Below wx.heap.size wx w') :
    Calls Tryd.prog 5 #[.int .u8 p, .int .u8 q, .slice a k ca, .slice am km cm, .slice an kn cn, .int .i64 b, .int .i64 c] w fun e w' => e = .returned (.bool true) ∧ Below w.heap.size w w' := by
  have HCW := Lib.hid CW
  have M0 := Mem.start w
  clear CW
  go_enter Tryd.func5, Tryd.ntmps5
  go_wp2_with fail
  refine (HCW.out _ M0.below).mono ?_
  rintro e w1 ⟨rfl, hA⟩
  go_wp2_with fail
  go_ret
  exact ⟨rfl, hA⟩
set_option maxRecDepth 20000 in
set_option maxHeartbeats 3200000 in
theorem tri_big4 (p q k ca km cm kn cn : Nat) (b c : Int) (a am an : Option Addr) (h0 : decide (100 < (k : Int)) = false) (h1 : decide (100 < (km : Int)) = false) (h2 : decide (100 < (kn : Int)) = false) (h3 : decide (b < 0) = false) (h4 : decide (c < 0) = true) (w : World) (CW : ∀ wx, Below w.heap.size w wx → Calls Tryd.prog 7 #[] wx fun e w' => e = .returned (.bool true) ∧ Below wx.heap.size wx w') :
    Calls Tryd.prog 5 #[.int .u8 p, .int .u8 q, .slice a k ca, .slice am km cm, .slice an kn cn, .int .i64 b, .int .i64 c] w fun e w' => e = .returned (.bool true) ∧ Below w.heap.size w w' := by
  have HCW := Lib.hid CW
  have M0 := Mem.start w
  clear CW
  go_enter Tryd.func5, Tryd.ntmps5
  go_wp2_with fail
  refine (HCW.out _ M0.below).mono ?_
  rintro e w1 ⟨rfl, hA⟩
  go_wp2_with fail
  go_ret
  exact ⟨rfl, hA⟩
set_option maxRecDepth 20000 in
set_option maxHeartbeats 3200000 in
theorem tri_big5 (p q k ca km cm kn cn : Nat) (b c : Int) (a am an : Option Addr) (h0 : decide (100 < (k : Int)) = false) (h1 : decide (100 < (km : Int)) = false) (h2 : decide (100 < (kn : Int)) = false) (h3 : decide (b < 0) = false) (h4 : decide (c < 0) = false) (h5 : decide (1099511627776 < b) = true) (w : World) (CW : ∀ wx, Below w.heap.size w wx → Calls Tryd.prog 7 #[] wx fun e w' => e = .returned (.bool true) ∧ Below wx.heap.size wx w') :
    Calls Tryd.prog 5 #[.int .u8 p, .int .u8 q, .slice a k ca, .slice am km cm, .slice an kn cn, .int .i64 b, .int .i64 c] w fun e w' => e = .returned (.bool true) ∧ Below w.heap.size w w' := by
  have HCW := Lib.hid CW
  have M0 := Mem.start w
  clear CW
  go_enter Tryd.func5, Tryd.ntmps5
  go_wp2_with fail
  refine (HCW.out _ M0.below).mono ?_
  rintro e w1 ⟨rfl, hA⟩
  go_wp2_with fail
  go_ret
  exact ⟨rfl, hA⟩
set_option maxRecDepth 20000 in
set_option maxHeartbeats 3200000 in
theorem tri_big6 (p q k ca km cm kn cn : Nat) (b c : Int) (a am an : Option Addr) (h0 : decide (100 < (k : Int)) = false) (h1 : decide (100 < (km : Int)) = false) (h2 : decide (100 < (kn : Int)) = false) (h3 : decide (b < 0) = false) (h4 : decide (c < 0) = false) (h5 : decide (1099511627776 < b) = false) (h6 : decide (1099511627776 < c) = true) (w : World) (CW : ∀ wx, Below w.heap.size w wx → Calls Tryd.prog 7 #[] wx fun e w' => e = .returned (.bool true) ∧ Below wx.heap.size wx w') :
    Calls Tryd.prog 5 #[.int .u8 p, .int .u8 q, .slice a k ca, .slice am km cm, .slice an kn cn, .int .i64 b, .int .i64 c] w fun e w' => e = .returned (.bool true) ∧ Below w.heap.size w w' := by
  have HCW := Lib.hid CW
  have M0 := Mem.start w
  clear CW
  go_enter Tryd.func5, Tryd.ntmps5
  go_wp2_with fail
  refine (HCW.out _ M0.below).mono ?_
  rintro e w1 ⟨rfl, hA⟩
  go_wp2_with fail
  go_ret
  exact ⟨rfl, hA⟩
theorem exactTriangle_any (p q k ca km cm kn cn : Nat) (b c : Int) (a am an : Option Addr) (z zm zn : List Int) (hp : p < 256) (hq : q < 256) (hz : z.length = k) (hz0 : ∀ u ∈ z, 0 ≤ u ∧ u ≤ 65535) (hzm : zm.length = km) (hzm0 : ∀ u ∈ zm, 0 ≤ u ∧ u ≤ 65535) (hzn : zn.length = kn) (hzn0 : ∀ u ∈ zn, 0 ≤ u ∧ u ≤ 65535) (w : World) (CD : Dbt w)
    (hT : Sl w 1 (.slice a k ca) k (u16s z)) (hTm : Sl w 1 (.slice am km cm) km (u16s zm)) (hTn : Sl w 1 (.slice an kn cn) kn (u16s zn)) :
    Calls Tryd.prog 5 #[.int .u8 p, .int .u8 q, .slice a k ca, .slice am km cm, .slice an kn cn, .int .i64 b, .int .i64 c] w fun e w' => e = .returned (.bool true) ∧ Below w.heap.size w w' := by
  by_cases t0 : 100 < (k : Int)
  · exact tri_big0 p q k ca km cm kn cn b c a am an (decide_eq_true t0) w (works_in CD)
  by_cases t1 : 100 < (km : Int)
  · exact tri_big1 p q k ca km cm kn cn b c a am an (decide_eq_false t0) (decide_eq_true t1) w (works_in CD)
  by_cases t2 : 100 < (kn : Int)
  · exact tri_big2 p q k ca km cm kn cn b c a am an (decide_eq_false t0) (decide_eq_false t1) (decide_eq_true t2) w (works_in CD)
  by_cases t3 : b < 0
  · exact tri_big3 p q k ca km cm kn cn b c a am an (decide_eq_false t0) (decide_eq_false t1) (decide_eq_false t2) (decide_eq_true t3) w (works_in CD)
  by_cases t4 : c < 0
  · exact tri_big4 p q k ca km cm kn cn b c a am an (decide_eq_false t0) (decide_eq_false t1) (decide_eq_false t2) (decide_eq_false t3) (decide_eq_true t4) w (works_in CD)
  by_cases t5 : 1099511627776 < b
  · exact tri_big5 p q k ca km cm kn cn b c a am an (decide_eq_false t0) (decide_eq_false t1) (decide_eq_false t2) (decide_eq_false t3) (decide_eq_false t4) (decide_eq_true t5) w (works_in CD)
  by_cases t6 : 1099511627776 < c
  · exact tri_big6 p q k ca km cm kn cn b c a am an (decide_eq_false t0) (decide_eq_false t1) (decide_eq_false t2) (decide_eq_false t3) (decide_eq_false t4) (decide_eq_false t5) (decide_eq_true t6) w (works_in CD)
  obtain ⟨h64, h0⟩ := n64 p q
  have hX := madeU z hz0 h0 (sm_made hz0 p q)
  have hY := madeU zm hzm0 h0 (sm_made hzm0 p q)
  have hZ := madeU zn hzn0 h0 (sm_made hzn0 p q)
  obtain ⟨B1, hB1⟩ : ∃ B1, overN (gU z ((1 + p % 8) * (1 + q % 8))) (gU zm ((1 + p % 8) * (1 + q % 8))) b = B1 := ⟨_, rfl⟩
  obtain ⟨B2, hB2⟩ : ∃ B2, overN (gU zm ((1 + p % 8) * (1 + q % 8))) (gU zn ((1 + p % 8) * (1 + q % 8))) c = B2 := ⟨_, rfl⟩
  exact triangle_go p q k ca km cm kn cn _ _ _ _ b c (b + c) a am an _ _ _ _ _ _ B1 B2 (decide_eq_false t0) (decide_eq_false t1) (decide_eq_false t2) (decide_eq_false t3) (decide_eq_false t4) (decide_eq_false t5) (decide_eq_false t6) (IntWalk.i64_in _ (by omega)) w
    (made_in p q k ca a z hp hq hz (by omega) hz0 w hT) (made_in p q km cm am zm hp hq hzm (by omega) hzm0 w hTm) (made_in p q kn cn an zn hp hq hzn (by omega) hzn0 w hTn)
    (from_in hX (by omega) _ _ _) (from_in hY (by omega) _ _ _) (from_in hZ (by omega) _ _ _)
    (over_in hX (by omega) _ _ _ b (by omega) (by omega) hY.lt B1 hB1)
    (over_in hY (by omega) _ _ _ b (by omega) (by omega) hX.lt B1 (by rw [← hB1]; exact over_comm (by rw [hX.ul, hY.ul]) b))
    (over_in hY (by omega) _ _ _ c (by omega) (by omega) hZ.lt B2 hB2)
    (fun e1 e2 => over_in hX (by omega) _ _ _ (b + c) (by omega) (by omega) hZ.lt false (over_tri (by rw [hX.ul, hY.ul]) (by rw [hY.ul, hZ.ul]) hX.pos hY.pos hZ.pos (by omega) (by omega) (by rw [hB1, e1]) (by rw [hB2, e2])))
    (works_in CD)
end Go.Proofs.YtanblpfpkohghaaDoor
