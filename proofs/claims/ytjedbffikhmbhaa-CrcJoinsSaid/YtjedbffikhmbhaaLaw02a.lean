/-
  CrcSums', CrcJoins' walks.
-/
import Derived.Test.YtjedbffikhmbhaaCrcE
namespace Go.Proofs.Ytjedbffikhmbhaa
open Go Go.RowKit Go.Th Go.Th.Crc

set_option maxHeartbeats 800000 in
theorem crcSums_any (a : Option Addr) (n cap : Nat) (bs : List Nat) (w : World) (h : Sl w 1 (.slice a n cap) n (u8s bs)) (hn : n = bs.length) (hb : ∀ x ∈ bs, x < 256) (hmax : n ≤ 9223372036854775807) :
    Calls Try.prog 3 #[.slice a n cap] w fun e w' => e = .returned (.bool true) ∧ Below w.heap.size w w' := by
  by_cases hbig : 2000 < n
  · have hb' : (2000 : Int) < (n : Int) := by omega
    clear hn
    go_enter Try.func3, Try.ntmps3
    go_wp2_with (go_at_call 7; refine (works_any _).mono ?_; rintro e w1 ⟨rfl, hB⟩)
    go_ret
    exact ⟨rfl, hB⟩
  have hb' : ¬ ((2000 : Int) < (n : Int)) := by omega
  subst hn
  have HB := Lib.hid hb; clear hb
  go_enter Try.func3, Try.ntmps3
  go_wp2_with fail
  refine (crcSum_any _ bs _ h (by omega) HB.out).mono ?_
  rintro e w1 ⟨rfl, rfl⟩
  go_wp2_with fail
  refine (refSum_any _ bs _ h (by omega) HB.out).mono ?_
  rintro e w1 ⟨rfl, rfl⟩
  have he : (((sumB bs : Nat) : Int) == ((sumB bs : Nat) : Int)) = true := by simp
  go_wp2_with fail
  refine (works_any _).mono ?_
  rintro e w1 ⟨rfl, hB⟩
  go_wp2
  go_ret
  exact ⟨rfl, hB⟩

set_option maxHeartbeats 1600000 in
theorem crcJoins_any (a : Option Addr) (n cap : Nat) (xs : List Nat) (b : Option Addr) (m cap' : Nat) (ys : List Nat) (x p q : Nat) (w : World) (h : Sl w 1 (.slice a n cap) n (u8s xs)) (hn : n = xs.length) (hb : ∀ x ∈ xs, x < 256) (hmax : n ≤ 9223372036854775807)
    (h2 : Sl w 1 (.slice b m cap') m (u8s ys)) (hn2 : m = ys.length) (hb2 : ∀ x ∈ ys, x < 256) (hmax2 : m ≤ 9223372036854775807) (hx : x < 4294967296) (hp : p < 65536) (hq : q < 65536) :
    Calls Try.prog 4 #[.slice a n cap, .slice b m cap', .int .u32 x, .int .u16 p, .int .u16 q] w fun e w' => e = .returned (.bool true) ∧ Below w.heap.size w w' := by
  by_cases hbig : 1000 < n
  · have hb' : (1000 : Int) < (n : Int) := by omega
    clear hn hn2
    go_enter Try.func4, Try.ntmps4
    go_wp2_with (go_at_call 7; refine (works_any _).mono ?_; rintro e w1 ⟨rfl, hB⟩)
    go_ret
    exact ⟨rfl, hB⟩
  have hb1 : ¬ ((1000 : Int) < (n : Int)) := by omega
  by_cases hbig : 1000 < m
  · have hb' : (1000 : Int) < (m : Int) := by omega
    clear hn hn2
    go_enter Try.func4, Try.ntmps4
    go_wp2_with (go_at_call 7; refine (works_any _).mono ?_; rintro e w1 ⟨rfl, hB⟩)
    go_ret
    exact ⟨rfl, hB⟩
  have hb3 : ¬ ((1000 : Int) < (m : Int)) := by omega
  subst hn hn2
  have HB := Lib.hid hb; clear hb
  have HB2 := Lib.hid hb2; clear hb2
  have hall : ∀ z ∈ xs ++ ys, z < 256 := fun z hz => by
    rcases List.mem_append.1 hz with h | h
    · exact HB.out z h
    · exact HB2.out z h
  have HA := Lib.hid hall; clear hall
  go_enter Try.func4, Try.ntmps4
  go_wp2_with (at_builtin; refine wpList_app Eu8 rfl (.tmp 21) (.tmp 22) rfl w.heap.size rfl (World.ownsRow_nil _ _ _ _) rfl h (oneCell_u8s _) (by unfold maxLen; omega) (by omega) (Nat.le_refl _) ?_)
  intro v1 w1 ho1 hg1 _
  have hB1 : Below w.heap.size w w1 := (Below.refl _ _).grown hg1 (Nat.le_refl _) (fun k hk => by simp [Value.ownBlock] at hk)
  clear hg1
  have hsz1 := hB1.size
  have s2 := h2.below hB1
  go_wp2_with (at_builtin; refine wpList_app Eu8 rfl (.tmp 23) (.tmp 24) rfl w.heap.size rfl ho1 rfl s2 (oneCell_u8s _) (by unfold maxLen; omega) (by omega) hsz1 ?_)
  intro v2 w2 ho2 hg2 _
  have hB2 : Below w.heap.size w w2 := hB1.grown hg2 hsz1 (fun k hk => (ho1.lt k hk).1)
  clear hg2 hB1 ho1 s2
  have sa := h.below hB2
  have sb := h2.below hB2
  have sc : Sl w2 1 v2 (xs ++ ys).length (u8s (xs ++ ys)) := by
    rw [List.length_append, show u8s (xs ++ ys) = u8s xs ++ u8s ys by simp [u8s]]
    exact Sl.of_own ho2
  have hlen : (xs ++ ys).length ≤ 2000 := by rw [List.length_append]; omega
  have hj := sumB_append xs ys HB.out HB2.out
  obtain ⟨zs, hzs⟩ : ∃ zs, zs = xs ++ ys := ⟨_, rfl⟩
  rw [← hzs] at sc HA hlen hj
  have HJ := Lib.hid hj; clear hj hzs
  obtain ⟨a2, c2, rfl⟩ := sl_slice sc
  go_wp2_with fail
  refine (crcSum_any _ xs _ sa (by omega) HB.out).mono ?_
  rintro e w3 ⟨rfl, rfl⟩
  go_wp2_with fail
  refine (crcSum_any _ ys _ sb (by omega) HB2.out).mono ?_
  rintro e w3 ⟨rfl, rfl⟩
  go_wp2_with fail
  have C1 := join_any (sumB xs) (sumB ys) ys.length w2 (sumB_lt _) (sumB_lt _) (by omega)
  rw [Int.toNat_natCast, HJ.out] at C1
  refine C1.mono ?_
  rintro e w3 ⟨rfl, hB3⟩
  have hB := hB2.trans (hB3.mono hB2.size)
  have sc3 := sc.below hB3
  clear C1 hB2 hB3 sa sb sc ho2
  go_wp2_with fail
  refine (refSum_any _ zs _ sc3 (by omega) HA.out).mono ?_
  rintro e w4 ⟨rfl, rfl⟩
  have he : (((sumB zs : Nat) : Int) == ((sumB zs : Nat) : Int)) = true := by simp
  go_wp2_with fail
  refine (shift_any x (p : Int) _ hx (by omega)).mono ?_
  rintro e w4 ⟨rfl, hB4⟩
  have hB' := hB.trans (hB4.mono hB.size)
  clear hB hB4 sc3 he
  have hs := sk_lt hx (8 * (p : Int).toNat)
  go_wp2_with fail
  refine (shift_any _ (q : Int) _ hs (by omega)).mono ?_
  rintro e w5 ⟨rfl, hB5⟩
  have hB := hB'.trans (hB5.mono hB'.size)
  clear hB' hB5 hs
  rw [← sk_add, show 8 * (p : Int).toNat + 8 * (q : Int).toNat = 8 * ((p : Int) + (q : Int)).toNat by omega]
  go_wp2_with fail
  refine (shift_any x ((p : Int) + (q : Int)) _ hx (by omega)).mono ?_
  rintro e w6 ⟨rfl, hB6⟩
  have hB' := hB.trans (hB6.mono hB.size)
  clear hB hB6
  have he2 : (((sk (8 * ((p : Int) + (q : Int)).toNat) x : Nat) : Int) == ((sk (8 * ((p : Int) + (q : Int)).toNat) x : Nat) : Int)) = true := by simp
  go_wp2_with fail
  refine (works_any _).mono ?_
  rintro e w7 ⟨rfl, hB7⟩
  have hB := hB'.trans (hB7.mono hB'.size)
  clear hB' hB7
  go_wp2_with fail
  go_ret
  exact ⟨rfl, hB⟩
end Go.Proofs.Ytjedbffikhmbhaa
