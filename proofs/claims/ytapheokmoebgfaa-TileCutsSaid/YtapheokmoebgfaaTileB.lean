/-
  A tile's heights as bytes: the code's, and the reference's.
-/
import Derived.Test.YtapheokmoebgfaaTileA
import Derived.Test.YtapheokmoebgfaaRiceT
import Derived.Test.YtapheokmoebgfaaRefBits
import Derived.OwnWalk
import Derived.Laws.OwnMore
set_option linter.unusedVariables false
set_option linter.unusedSimpArgs false
namespace Go.Th
open Go Go.RowKit

/-- A slice of noughts is made. -/
theorem wpList_mk {P : Program} {w : World} {ops : Array Oper} {rest : List Oper} {o : Oper} {a : Act} {Q : Exit → Act → World → Prop} {t e : TypeId} {z : Value} {bytes : Nat}
    (hU : P.underlying t = some (.slice e)) (hI : (P.info? e).map (fun i => (i.zero, i.size, i.bytes)) = some (some z, 1, bytes)) (hz : z.cells = #[z])
    (hg : o.guard = none) (l c : Operand) (hop : o.op = Op.makeSlice t l c) (base n : Nat) (kl kc : IntKind) (hl : a.eval l = .int kl (n : Int)) (hc : a.eval c = .int kc (n : Int))
    (b2 : bytes * n ≤ 281474976710656) (b3 : n ≤ maxLen) (b4 : base ≤ w.heap.size)
    (hK : ∀ w', w'.ownsRow base e 1 (.slice (some ⟨w.heap.size, 0, none⟩) n n) n (List.replicate n z) → w.grownBy w' none → wpList P ops Q rest (a.put o.dst (.slice (some ⟨w.heap.size, 0, none⟩) n n)) w') : wpList P ops Q (o :: rest) a w := by
  obtain ⟨i, hi, h1, h2, h3⟩ := info_parts hI
  refine wpList_make_full w hg l c t hop base e i z 1 hU hi h1 h2 kl kc n n n hl hc rfl rfl (by rw [h3]; exact b2) b3 b4 fun w' h hg => ?_
  rw [hz, Nat.mul_one, toList_madeCells_one] at h
  exact hK w' h hg
theorem set_next {α : Type} (X : List α) (k i : Nat) (u v : α) (hi : X.length = i) : (X ++ List.replicate (k + 1) u).set i v = (X ++ [v]) ++ List.replicate k u := by
  subst hi
  rw [List.set_append_right _ _ (Nat.le_refl _), Nat.sub_self, List.replicate_succ, List.set_cons_zero, List.append_assoc]; rfl
theorem grown_below {w w' : World} (h : w.grownBy w' none) : Below w.heap.size w w' := (Below.refl _ _).grown h (Nat.le_refl _) (fun j hj => by cases hj)
end Go.Th
namespace Go.Proofs.Ytapheokmoebgfaa
open Go Go.RowKit Go.Th

theorem tput_bad (w h : Int) (a : Option Addr) (n cap : Nat) (W : World) (hS : n ≤ 1000000) (H : isT w h = false ∨ (isT w h = true ∧ ((n : Int) = w * h) = False)) :
    Calls Try.prog 7 #[.int .i64 w, .int .i64 h, .slice a n cap] W fun e w' => e = .returned (.tuple #[.slice none 0 0, .int .i64 5]) ∧ W = w' := by
  have C1 := isTile_go w h
  rcases H with e | ⟨e, hn⟩
  · rw [e] at C1
    have C1 := Lib.hid C1
    clear e
    go_enter Try.func7, Try.ntmps7
    go_wp2_with fail
    refine (C1.out _).mono ?_
    rintro e wx ⟨rfl, rfl⟩
    go_wp2_with fail
    go_ret2
    exact ⟨rfl, rfl⟩
  · obtain ⟨h1, h2, h3, h4⟩ := isT_yes e
    rw [e] at C1
    have C1 := Lib.hid C1
    obtain ⟨x, rfl⟩ := Int.eq_ofNat_of_zero_le (by omega : 0 ≤ w)
    obtain ⟨y, rfl⟩ := Int.eq_ofNat_of_zero_le (by omega : 0 ≤ h)
    have hle : x * y ≤ 16 * 16 := Nat.mul_le_mul (by omega) (by omega)
    obtain ⟨p, hp⟩ : ∃ p, p = x * y := ⟨_, rfl⟩
    have hm : (x : Int) * (y : Int) = (p : Int) := by rw [hp]; simp
    rw [← hp] at hle
    rw [hm] at hn
    have hnp : n ≠ p := fun e => by rw [e] at hn; simp at hn
    have hq : ((n : Int) != (p : Int)) = true := by simp; omega
    clear hp e hn
    go_enter Try.func7, Try.ntmps7
    go_wp2_with fail
    refine (C1.out _).mono ?_
    rintro e wx ⟨rfl, rfl⟩
    go_wp2_with fail
    go_ret2
    exact ⟨rfl, rfl⟩

set_option maxRecDepth 20000 in
set_option maxHeartbeats 3200000 in
theorem tput_any (x y n : Nat) (a : Option Addr) (cap : Nat) (z : List Int) (hz : z.length = n) (hn : n = x * y) (h16 : ∀ v ∈ z, In16 v) (hT : isT x y = true) (w : World) (hS : Sl w 1 (.slice a n cap) n (i16s z)) :
    Calls Try.prog 7 #[.int .i64 x, .int .i64 y, .slice a n cap] w fun e w' => ∃ v, e = .returned (.tuple #[v, .int .i64 0]) ∧ w'.ownsRow w.heap.size 5 1 v (pack (row (deltas x z))).length (u8s (pack (row (deltas x z)))) ∧ Below w.heap.size w w' := by
  have C1 := isTile_go x y
  obtain ⟨h1, h2, h3, h4⟩ := isT_yes hT
  have hle : x * y ≤ 16 * 16 := Nat.mul_le_mul (by omega) (by omega)
  have hm : (x : Int) * (y : Int) = (n : Int) := by rw [hn]; simp
  rw [← hn] at hle
  rw [hT] at C1
  have C1 := Lib.hid C1
  have hx1 : 0 < x := by omega
  have hx2 : x ≤ 1000 := by omega
  have CB := Lib.hid (fun i hi wx hs => beside_go a n cap x i z hz hx1 hx2 hi h16 wx hs)
  have hdl := deltas_length x z
  have hdr := deltas_room h16 x
  obtain ⟨D, hD⟩ : ∃ D, D = deltas x z := ⟨_, rfl⟩
  have hstep : ∀ i, i < n → D.take (i + 1) = D.take i ++ [z.getD i 0 - bes x z i] := fun i hi => by rw [hD]; exact deltas_take x z i (by omega)
  have hb16 : ∀ i, In16 (bes x z i) := fun i => bes_in16 h16 x i
  have hg16 : ∀ i, In16 (z.getD i 0) := fun i => getD_in16 h16 i
  rw [← hD] at hdl hdr ⊢
  obtain ⟨L, hL⟩ : ∃ L, L = row D := ⟨_, rfl⟩
  rw [← hL]
  have HL := Lib.hid hL; clear hL
  have HD := Lib.hid hdl
  have HR := Lib.hid hdr
  have HST := Lib.hid hstep
  have HB16 := Lib.hid hb16
  have HG16 := Lib.hid hg16
  have HS := Lib.hid hS
  have HZ := Lib.hid hz
  have hnn : ((n : Int) != (n : Int)) = false := by simp
  have hmx := hS.max
  clear hD hdl hdr hstep hb16 hg16 hS hz hn h16 hT
  go_enter Try.func7, Try.ntmps7
  go_wp2_with fail
  refine (C1.out _).mono ?_
  rintro e wx ⟨rfl, rfl⟩
  clear C1
  go_wp2_with (refine wpList_mk (t := 50) (e := 21) (z := .int .i32 0) (bytes := 4) Try.underlying50 (by kernel_rfl) rfl rfl _ _ rfl w.heap.size n _ _ rfl rfl (by omega) (by unfold maxLen; omega) (Nat.le_refl _) ?_)
  intro w1 ho1 hg1
  have hB1 := grown_below hg1
  clear hg1
  go_wp2_with fail
  go_loopw [29] (fun c wx => ∃ i : Nat, i ≤ n ∧ c = .int .i64 i ∧ wx.ownsRow w.heap.size 21 1 (.slice (some ⟨w.heap.size, 0, none⟩) n n) n (i32s (D.take i) ++ List.replicate (n - i) (.int .i32 0)) ∧ Below w.heap.size w wx) (fun c _ => n - (intOf c).toNat)
  case atStart => exact ⟨0, Nat.zero_le _, rfl, by simpa [i32s] using ho1, hB1⟩
  case round =>
    clear ho1 hB1
    obtain ⟨i, hi, rfl, ho, hB⟩ := hrel
    have hsz := hB.size
    by_cases hlt : i < n
    · obtain ⟨b, o, rfl, hbl, hc⟩ := cell_i16D HS.out i (by rw [HZ.out]; exact hlt)
      have hc' := (hB.cell (p := ⟨b, o + i, none⟩) hbl).trans hc
      have hts := HST.out i hlt
      have hC := Lib.hid (CB.out i hlt wr (HS.out.below hB))
      obtain ⟨g1, g2⟩ := in16_def (HG16.out i)
      obtain ⟨b1, b2⟩ := in16_def (HB16.out i)
      obtain ⟨u, hu⟩ : ∃ u, u = z.getD i 0 := ⟨_, rfl⟩
      obtain ⟨s, hs⟩ : ∃ s, s = bes x z i := ⟨_, rfl⟩
      rw [← hu] at hc' hts g1 g2
      rw [← hs] at hts hC b1 b2
      clear hu hs hc
      have hil : (i32s (D.take i)).length = i := by rw [i32s_length, List.length_take, HD.out, HZ.out]; omega
      have hnxt := set_next (i32s (D.take i)) (n - (i + 1)) i (.int .i32 0) (.int .i32 (u - s)) hil
      rw [show n - (i + 1) + 1 = n - i by omega, ← i32s_snoc, ← hts] at hnxt
      have hcell : wr.cell? ⟨w.heap.size, i, none⟩ = some (.int .i32 0) := by
        refine ownsRow_cell ho ?_
        rw [List.getElem?_append_right (by omega), hil, Nat.sub_self, List.getElem?_replicate, if_pos (by omega)]
      have hfree := ownsRow_free ho i
      have HN := Lib.hid hnxt
      have HIL := Lib.hid hil
      clear hnxt hts hil
      go_wp2_with fail
      refine hC.out.mono ?_
      rintro e wx ⟨rfl, rfl⟩
      clear hC
      go_wp2_with fail
      go_roundw
      case rel =>
        refine ⟨i + 1, by omega, by go_num, ?_, hB.setCell (Nat.le_refl _) _⟩
        have := ownsRow_set ho i hlt (.int .i32 (u - s))
        rwa [HN.out] at this
      case measure => simp [intOf]; omega
    · obtain rfl : i = n := by omega
      rw [Nat.sub_self, List.replicate_zero, List.append_nil, List.take_of_length_le (by rw [HD.out, HZ.out]; exact Nat.le_refl _)] at ho
      obtain ⟨xs, hxs⟩ := exists_i32 D (fun v hv => rm_32 (HR.out v hv))
      have hxl : i = xs.length := by have := congrArg List.length hxs; rw [List.length_map, HD.out, HZ.out] at this; omega
      have hrl := row_length D
      have hsl := sizes_le D (best D) (best_le D)
      have CROW := fun pb base v wx h hb hs hA => row_any (some ⟨w.heap.size, 0, none⟩) i i xs hxl (by omega) pb 0 base v [] wx h (by simp) hb hs hA
      rw [hxs] at CROW
      have hll : (row D).length ≤ 70000 := by rw [hrl]; rw [HD.out, HZ.out] at hsl; omega
      rw [← HL.out] at CROW hll
      have CROW := Lib.hid CROW
      have hob := (ho.lt w.heap.size (by simp [Value.ownBlock])).2
      clear hxs hxl hrl hsl
      have hV3 := winv_new wr
      have hA3 : Below wr.heap.size wr (wr.alloc (.cells #[.slice none 0 0, .int .i64 0] 53)) := (Below.refl _ _).alloc (Nat.le_refl _) _
      go_wp2_with fail
      obtain ⟨w3, hw3⟩ : ∃ w3, wr.alloc (.cells #[.slice none 0 0, .int .i64 0] 53) = w3 := ⟨_, rfl⟩
      rw [hw3] at hV3 hA3 ⊢
      clear hw3
      replace ho := ownsRow_below ho hA3
      have hB3 := hB.trans (hA3.mono hB.size)
      have hz3 := hA3.size
      have hVl := hV3.lt
      obtain ⟨A, hA⟩ : ∃ A, wr.heap.size = A := ⟨_, rfl⟩
      rw [hA] at hV3 hz3 hVl hob hsz ⊢
      clear hA hA3 hB
      refine (CROW.out A A _ w3 hV3 hz3 (Sl.of_own ho) (fun p hp h0 => by cases hp; exact ⟨hob, by simp; omega⟩)).mono ?_
      rintro e w4 ⟨rfl, v4, hV4, hG4⟩
      rw [List.nil_append] at hV4
      have hB4 := hG4.turned.old hB3 hB3.size (by
        rintro q hq (e | e)
        · omega
        · simp [Value.ownBlock] at e)
      clear hV3 hG4 hB3 CROW ho
      have C7 := Lib.hid (bytes_any _ _ _ _ _ _ hV4 (by omega))
      go_wp2_with fail
      refine C7.out.mono ?_
      rintro e w6 ⟨v6, rfl, ho6, hA6⟩
      clear C7
      go_wp2_with fail
      go_ret2
      exact ⟨v6, rfl, ownsRow_base ho6 hB4.size, hB4.trans (hA6.mono hB4.size)⟩
end Go.Proofs.Ytapheokmoebgfaa
