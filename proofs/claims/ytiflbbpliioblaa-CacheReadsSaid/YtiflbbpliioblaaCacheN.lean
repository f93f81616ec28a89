/-
  A new cache: of a map's bytes, and of any; the law's words on a cache: the code's, and the reference's.
-/
import Derived.Test.YtiflbbpliioblaaCacheH
set_option linter.unusedVariables false
set_option linter.unusedSimpArgs false
namespace Go.Proofs.Ytiflbbpliioblaa
open Go Go.RowKit Go.Th Go.Th.Crc

/-- A copy of bytes. -/
theorem clone8_any (vx : Value) (bs : List Nat) (w : World) (h : Sl w 1 vx bs.length (u8s bs)) (hl : bs.length ≤ 140737488355328) :
    Calls Try.prog 34 #[vx] w fun e w' => ∃ v, e = .returned v ∧ w'.ownsRow w.heap.size 5 1 v bs.length (u8s bs) ∧ Below w.heap.size w w' := by
  have hs := h
  obtain ⟨a, cap, rfl, h1, h2, h3, h4, h5⟩ := h
  cases a with
  | none =>
    obtain ⟨h0, rfl⟩ := h4 rfl
    have hnil : bs = [] := List.eq_nil_of_length_eq_zero h0
    subst hnil
    have hq : ∀ wx : World, (binOp .eql 52 (.slice none 0 0) (.slice none 0 0)).run Try.prog wx = .ok (.bool true) wx := fun wx => Lib.run_eql_slice_nil wx 52 5 none _ _ 0 0 Try.underlying52
    go_enter Try.func34, Try.ntmps34
    go_wp2
    go_ret
    exact ⟨_, rfl, World.ownsRow_nil _ _ _ _, Below.refl _ _⟩
  | some ad =>
    have hx : Sl (w.alloc (.cells #[] 5)) 1 (.slice (some ad) bs.length cap) bs.length (u8s bs) := hs.below ((Below.refl _ _).alloc (Nat.le_refl _) _)
    have hown := World.ownsRow_made (base := w.heap.size) (e := 5) (size := 1) w #[] 0 (Nat.le_refl _) (Nat.zero_le _) rfl
    have hq : ∀ wx : World, (binOp .eql 52 (.slice (some ad) bs.length cap) (.slice none 0 0)).run Try.prog wx = .ok (.bool false) wx := fun wx => Lib.run_eql_slice_nil wx 52 5 (some ad) _ _ 0 0 Try.underlying52
    go_enter Try.func34, Try.ntmps34
    go_wp2_with (at_builtin; refine wpList_app Eu8 rfl (.tmp 5) (.tmp 6) rfl w.heap.size rfl hown rfl hx (oneCell_u8s _) (by unfold maxLen; omega) (by omega) (by simp) ?_)
    intro v' w' hown' hgrow _
    go_wp2
    go_ret
    exact ⟨_, rfl, by simpa using hown', ((Below.refl _ _).alloc (Nat.le_refl _) _).grown hgrow (by simp) (fun k hk => by simp [Value.ownBlock] at hk; omega)⟩

/-- Of a map's bytes. -/
theorem new_map (F : List Int) (W H cell : Nat) (ox oy : Int) (O : MapOk F W H cell ox oy) (room : Nat) (hr : 4 ≤ room) (hr2 : room ≤ 32) (n : Nat) (hn : n = (chartB F W H cell ox oy).length) (a : Option Addr) (cap : Nat) (w : World) (hS : Sl w 1 (.slice a n cap) n (u8s (chartB F W H cell ox oy))) :
    Calls Try.prog 18 #[.slice a n cap, .int .i64 room] w fun e w' => ∃ g, e = .returned (.tuple #[.pointer (some ⟨g, 0, none⟩), .int .i64 0]) ∧ CacheI w' w.heap.size g F W H cell ox oy room [] 0 0 ∧ Below w.heap.size w w' := by
  subst hn
  obtain ⟨i1, i2, i3, i4⟩ := isF_yes O.hF
  obtain ⟨i5, i6⟩ := isC_yes O.hc
  have hO := opens_chart (ox := ox) (oy := oy) (F := F) (W := W) (H := H) (cell := cell) O.hl (by omega) (by omega) (by omega)
  have hs := short10 F W H cell ox oy O.hl (by omega) (by omega)
  obtain ⟨r, hr'⟩ := chartB_more F W H cell ox oy 0 (Nat.zero_le _)
  obtain ⟨_, _, _, _, r5, r6⟩ := rd_head (ox := ox) (oy := oy) (W := W) (H := H) (cell := cell) (by omega) (by omega) (by omega) hr'
  refine (new_go a _ cap room (fun c => c = 0) (fun W1 H1 cell1 ox1 oy1 n9 A S => W1 = W ∧ H1 = H ∧ cell1 = cell ∧ ox1 = ox ∧ oy1 = oy ∧ n9 = nT W H ∧ A = (List.range (nT W H)).map (offs (chartB F W H cell ox oy) W H) ∧ S = (List.range (nT W H)).map (fun i => rd (chartB F W H cell ox oy) (18 + 6 * i + 4) 2)) (chartB F W H cell ox oy) hr hr2 w
    (Lib.hid ((get9_back F W H cell ox oy O.hF O.hc O.hl O.h16 O.h1 O.h2 _ rfl (by omega) a cap w hS).mono ?_)) (Lib.hid (fun _ wx hb => (open9_yes _ W H cell _ hO rfl (by omega) (chartB_lt F W H cell ox oy) a cap wx (hS.below hb)).mono ?_)) (Lib.hid (fun wx hb => clone8_any _ _ wx (hS.below hb) (by omega)))).mono ?_
  · rintro e w' ⟨v, he, ho, hB⟩
    obtain ⟨a', cap', hv, _, _⟩ := ownsRow_slice ho
    exact ⟨0, W, H, v, cell, ox, oy, he, rfl, ⟨a', _, cap', hv⟩, hB⟩
  · rintro e w' ⟨va, vs, he, h1, h2, hB⟩
    rw [r5, r6, u32_back O.h1, u32_back O.h2] at he
    exact ⟨W, H, cell, ox, oy, nT W H, _, _, va, vs, ⟨rfl, rfl, rfl, rfl, rfl, rfl, rfl, rfl⟩, he, h1, h2, hB⟩
  · rintro e w' (⟨c, h0, h1, _⟩ | ⟨_, W1, H1, cell1, ox1, oy1, n9, A, S, g, ab, cb, aA, cA, aS, cS, ⟨rfl, rfl, rfl, rfl, rfl, rfl, rfl, rfl⟩, he, K, hg, q1, q2, q3, hB⟩)
    · exact absurd h0 h1
    · exact ⟨g, he, ⟨ab, cb, aA, cA, aS, cS, T0, 0, K, hg, q1, q2, q3, ⟨rfl, fun p hp => by simp at hp⟩, List.nodup_nil, by omega, hr, hr2⟩, hB⟩

/-- Of any bytes: Get's code. -/
theorem new_any (bs : List Nat) (n : Nat) (hn : n = bs.length) (hn2 : n ≤ 1000000) (hb : ∀ x ∈ bs, x < 256) (room : Nat) (hr : 4 ≤ room) (hr2 : room ≤ 32) (a : Option Addr) (cap : Nat) (w : World) (hS : Sl w 1 (.slice a n cap) n (u8s bs)) :
    Calls Try.prog 18 #[.slice a n cap, .int .i64 room] w fun e w' => ∃ (c : Int) (v : Option Addr), GetC bs c ∧ (c = 0 ↔ v.isSome = true) ∧ e = .returned (.tuple #[.pointer v, .int .i64 c]) ∧ Below w.heap.size w w' := by
  subst hn
  refine (new_go a _ cap room (fun c => GetC bs c ∧ (c = 0 → ∃ W H cell, Opens bs W H cell)) (fun _ _ _ _ _ _ _ _ => True) bs hr hr2 w
    (Lib.hid ((get9_code bs _ rfl hn2 hb a cap w hS).mono ?_)) (Lib.hid (fun h0 wx hb' => ?_)) (Lib.hid (fun wx hb => clone8_any _ _ wx (hS.below hb) (by omega)))).mono ?_
  · rintro e w' ⟨c, W, H, v, cell, ox, oy, he, h1, h2, h3, hB⟩
    exact ⟨c, W, H, v, cell, ox, oy, he, ⟨h1, h2⟩, h3, hB⟩
  · obtain ⟨W, H, cell, hO⟩ := h0.2 rfl
    refine (open9_yes _ W H cell _ hO rfl hn2 hb a cap wx (hS.below hb')).mono ?_
    rintro e w' ⟨va, vs, he, h1, h2, hB⟩
    exact ⟨W, H, cell, _, _, nT W H, _, _, va, vs, trivial, he, h1, h2, hB⟩
  · rintro e w' (⟨c, h0, h1, he, hB⟩ | ⟨h0, W1, H1, cell1, ox1, oy1, n9, A, S, g, ab, cb, aA, cA, aS, cS, _, he, K, hg, q1, q2, q3, hB⟩)
    · exact ⟨c, none, h0.1, ⟨fun h => absurd h h1, fun h => by cases h⟩, he, hB⟩
    · exact ⟨0, some ⟨g, 0, none⟩, h0.1, ⟨fun _ => rfl, fun _ => rfl⟩, he, hB⟩
end Go.Proofs.Ytiflbbpliioblaa
