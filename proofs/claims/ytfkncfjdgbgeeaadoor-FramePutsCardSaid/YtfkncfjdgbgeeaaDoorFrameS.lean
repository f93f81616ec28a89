/-
  A frame as bytes: the reference's Put.
-/
import Derived.Test.YtfkncfjdgbgeeaaDoorFrameR
import Derived.Test.YtfkncfjdgbgeeaaDoorFrameP
import Derived.Deep.Cut
set_option linter.unusedVariables false
set_option linter.unusedSimpArgs false
namespace Go.Proofs.YtfkncfjdgbgeeaaDoor
open Go Go.RowKit Go.Th Go.Th.Crc

theorem u8s_app (a b : List Nat) : u8s (a ++ b) = u8s a ++ u8s b := by simp [u8s]
theorem own_lit {w : World} {e : TypeId} (cs : List Nat) (base n : Nat) (hn : n = cs.length) (hb : base ≤ w.heap.size) (hm : n ≤ maxLen) : (w.alloc (.cells (u8s cs).toArray e)).ownsRow base e 1 (.slice (some ⟨w.heap.size, 0, none⟩) n n) n (u8s cs) := by
  subst hn
  exact ⟨by simp [u8s], .inr ⟨w.heap.size, _, _, rfl, hb, heap_alloc_new w _, Nat.le_refl _, hm, by simp [u8s], by rw [List.take_of_length_le (by simp [u8s])]⟩⟩

/-- What a Put tells. -/
def PutSaid (f : Fr) (w : World) : Ending → World → Prop := fun e w' => (∃ v, e = .returned (.tuple #[v, .int .i64 (pcode f : Nat)]) ∧ (pcode f = 0 → w'.ownsRow w.heap.size 5 1 v (bytesF f).length (u8s (bytesF f))) ∧ (pcode f ≠ 0 → v = .slice none 0 0)) ∧ Below w.heap.size w w'

set_option maxRecDepth 20000 in
set_option maxHeartbeats 3200000 in
theorem refPutF_bad0c (kk s t : Nat) (a b c : Int) (hs : s < 65536) (ht : t < 4294967296) (hk1 : 1 ≤ kk) (hk7 : kk ≤ 7) (hn : fncnt (kk : Int) = 0) (hc : ¬ fcnt (kk : Int) < 0) (zc : c ≠ 0) (w : World) :
    Calls Tryd.prog 8 #[fvs kk s t a b c] w (PutSaid ⟨kk, s, t, a, b, c⟩ w) := by
  obtain ⟨f, hf⟩ : ∃ f : Fr, f = ⟨kk, s, t, a, b, c⟩ := ⟨_, rfl⟩
  obtain ⟨w1, hw1⟩ : ∃ w1, w.alloc (.cells #[.int .i64 kk, .int .u16 s, .int .u32 t, .int .i32 a, .int .i32 b, .int .i32 c] 25) = w1 := ⟨_, rfl⟩
  have hB1 : Below w.heap.size w w1 := by rw [← hw1]; exact (Below.refl _ _).alloc (Nat.le_refl _) _
  have K0 : Blk w1 w.heap.size 25 (fcs kk s t a b c) := by rw [← hw1]; exact Blk.new w _ _
  have CN := refNumbers12_any (kk : Int) w1
  rw [show fcnt (kk : Int) = ((fncnt (kk : Int) : Nat) : Int) by unfold fncnt; omega, hn] at CN
  have CN := Lib.hid CN
  have a0 := K0.cell (i := 0) rfl
  have a3 := K0.cell (i := 3) rfl
  have a4 := K0.cell (i := 4) rfl
  have a5 := K0.cell (i := 5) rfl
  have HW1 := Lib.hid hw1
  have HC := Lib.hid hc
  have HNN := Lib.hid hn
  have HF := Lib.hid hf
  have d2 : (c != 0) = true := by simp [zc]
  have HP : Hid (pcode f = 1) := Lib.hid (pcode_arg f (by rw [hf]; exact hc) 2 c (by rw [hf, show fncnt (Fr.k ⟨kk, s, t, a, b, c⟩) = 0 from hn]; rfl) zc)
  clear hw1 hc hn hf
  go_enter Tryd.func8, Tryd.ntmps8
  go_upto_region 1 with fail
  rw [HW1.out]
  clear HW1
  go_wp2_with fail
  refine CN.out.mono ?_
  rintro e wx ⟨rfl, rfl⟩
  clear CN
  go_wp2_with fail
  go_ret2
  unfold PutSaid
  rw [← HF.out]
  exact ⟨⟨_, by rw [HP.out]; rfl, fun h => by have := HP.out; omega, fun _ => rfl⟩, hB1⟩

set_option maxRecDepth 20000 in
set_option maxHeartbeats 3200000 in
theorem refPutF_bad0b (kk s t : Nat) (a b c : Int) (hs : s < 65536) (ht : t < 4294967296) (hk1 : 1 ≤ kk) (hk7 : kk ≤ 7) (hn : fncnt (kk : Int) = 0) (hc : ¬ fcnt (kk : Int) < 0) (zc : c = 0) (zb : b ≠ 0) (w : World) :
    Calls Tryd.prog 8 #[fvs kk s t a b c] w (PutSaid ⟨kk, s, t, a, b, c⟩ w) := by
  obtain ⟨f, hf⟩ : ∃ f : Fr, f = ⟨kk, s, t, a, b, c⟩ := ⟨_, rfl⟩
  obtain ⟨w1, hw1⟩ : ∃ w1, w.alloc (.cells #[.int .i64 kk, .int .u16 s, .int .u32 t, .int .i32 a, .int .i32 b, .int .i32 c] 25) = w1 := ⟨_, rfl⟩
  have hB1 : Below w.heap.size w w1 := by rw [← hw1]; exact (Below.refl _ _).alloc (Nat.le_refl _) _
  have K0 : Blk w1 w.heap.size 25 (fcs kk s t a b c) := by rw [← hw1]; exact Blk.new w _ _
  have CN := refNumbers12_any (kk : Int) w1
  rw [show fcnt (kk : Int) = ((fncnt (kk : Int) : Nat) : Int) by unfold fncnt; omega, hn] at CN
  have CN := Lib.hid CN
  have a0 := K0.cell (i := 0) rfl
  have a3 := K0.cell (i := 3) rfl
  have a4 := K0.cell (i := 4) rfl
  have a5 := K0.cell (i := 5) rfl
  have HW1 := Lib.hid hw1
  have HC := Lib.hid hc
  have HNN := Lib.hid hn
  have HF := Lib.hid hf
  have d2 : (c != 0) = false := by simp [zc]
  have d1 : (b != 0) = true := by simp [zb]
  have HP : Hid (pcode f = 1) := Lib.hid (pcode_arg f (by rw [hf]; exact hc) 1 b (by rw [hf, show fncnt (Fr.k ⟨kk, s, t, a, b, c⟩) = 0 from hn]; rfl) zb)
  clear zc
  clear hw1 hc hn hf
  go_enter Tryd.func8, Tryd.ntmps8
  go_upto_region 1 with fail
  rw [HW1.out]
  clear HW1
  go_wp2_with fail
  refine CN.out.mono ?_
  rintro e wx ⟨rfl, rfl⟩
  clear CN
  go_wp2_with fail
  go_ret2
  unfold PutSaid
  rw [← HF.out]
  exact ⟨⟨_, by rw [HP.out]; rfl, fun h => by have := HP.out; omega, fun _ => rfl⟩, hB1⟩

set_option maxRecDepth 20000 in
set_option maxHeartbeats 3200000 in
theorem refPutF_bad0a (kk s t : Nat) (a b c : Int) (hs : s < 65536) (ht : t < 4294967296) (hk1 : 1 ≤ kk) (hk7 : kk ≤ 7) (hn : fncnt (kk : Int) = 0) (hc : ¬ fcnt (kk : Int) < 0) (zc : c = 0) (zb : b = 0) (za : a ≠ 0) (w : World) :
    Calls Tryd.prog 8 #[fvs kk s t a b c] w (PutSaid ⟨kk, s, t, a, b, c⟩ w) := by
  obtain ⟨f, hf⟩ : ∃ f : Fr, f = ⟨kk, s, t, a, b, c⟩ := ⟨_, rfl⟩
  obtain ⟨w1, hw1⟩ : ∃ w1, w.alloc (.cells #[.int .i64 kk, .int .u16 s, .int .u32 t, .int .i32 a, .int .i32 b, .int .i32 c] 25) = w1 := ⟨_, rfl⟩
  have hB1 : Below w.heap.size w w1 := by rw [← hw1]; exact (Below.refl _ _).alloc (Nat.le_refl _) _
  have K0 : Blk w1 w.heap.size 25 (fcs kk s t a b c) := by rw [← hw1]; exact Blk.new w _ _
  have CN := refNumbers12_any (kk : Int) w1
  rw [show fcnt (kk : Int) = ((fncnt (kk : Int) : Nat) : Int) by unfold fncnt; omega, hn] at CN
  have CN := Lib.hid CN
  have a0 := K0.cell (i := 0) rfl
  have a3 := K0.cell (i := 3) rfl
  have a4 := K0.cell (i := 4) rfl
  have a5 := K0.cell (i := 5) rfl
  have HW1 := Lib.hid hw1
  have HC := Lib.hid hc
  have HNN := Lib.hid hn
  have HF := Lib.hid hf
  have d2 : (c != 0) = false := by simp [zc]
  have d1 : (b != 0) = false := by simp [zb]
  have d0 : (a != 0) = true := by simp [za]
  have HP : Hid (pcode f = 1) := Lib.hid (pcode_arg f (by rw [hf]; exact hc) 0 a (by rw [hf, show fncnt (Fr.k ⟨kk, s, t, a, b, c⟩) = 0 from hn]; rfl) za)
  clear zc zb
  clear hw1 hc hn hf
  go_enter Tryd.func8, Tryd.ntmps8
  go_upto_region 1 with fail
  rw [HW1.out]
  clear HW1
  go_wp2_with fail
  refine CN.out.mono ?_
  rintro e wx ⟨rfl, rfl⟩
  clear CN
  go_wp2_with fail
  go_ret2
  unfold PutSaid
  rw [← HF.out]
  exact ⟨⟨_, by rw [HP.out]; rfl, fun h => by have := HP.out; omega, fun _ => rfl⟩, hB1⟩

set_option maxRecDepth 20000 in
set_option maxHeartbeats 3200000 in
theorem refPutF_bad1c (kk s t : Nat) (a b c : Int) (hs : s < 65536) (ht : t < 4294967296) (hk1 : 1 ≤ kk) (hk7 : kk ≤ 7) (hn : fncnt (kk : Int) = 1) (hc : ¬ fcnt (kk : Int) < 0) (zc : c ≠ 0) (w : World) :
    Calls Tryd.prog 8 #[fvs kk s t a b c] w (PutSaid ⟨kk, s, t, a, b, c⟩ w) := by
  obtain ⟨f, hf⟩ : ∃ f : Fr, f = ⟨kk, s, t, a, b, c⟩ := ⟨_, rfl⟩
  obtain ⟨w1, hw1⟩ : ∃ w1, w.alloc (.cells #[.int .i64 kk, .int .u16 s, .int .u32 t, .int .i32 a, .int .i32 b, .int .i32 c] 25) = w1 := ⟨_, rfl⟩
  have hB1 : Below w.heap.size w w1 := by rw [← hw1]; exact (Below.refl _ _).alloc (Nat.le_refl _) _
  have K0 : Blk w1 w.heap.size 25 (fcs kk s t a b c) := by rw [← hw1]; exact Blk.new w _ _
  have CN := refNumbers12_any (kk : Int) w1
  rw [show fcnt (kk : Int) = ((fncnt (kk : Int) : Nat) : Int) by unfold fncnt; omega, hn] at CN
  have CN := Lib.hid CN
  have a0 := K0.cell (i := 0) rfl
  have a3 := K0.cell (i := 3) rfl
  have a4 := K0.cell (i := 4) rfl
  have a5 := K0.cell (i := 5) rfl
  have HW1 := Lib.hid hw1
  have HC := Lib.hid hc
  have HNN := Lib.hid hn
  have HF := Lib.hid hf
  have d2 : (c != 0) = true := by simp [zc]
  have HP : Hid (pcode f = 1) := Lib.hid (pcode_arg f (by rw [hf]; exact hc) 1 c (by rw [hf, show fncnt (Fr.k ⟨kk, s, t, a, b, c⟩) = 1 from hn]; rfl) zc)
  clear hw1 hc hn hf
  go_enter Tryd.func8, Tryd.ntmps8
  go_upto_region 1 with fail
  rw [HW1.out]
  clear HW1
  go_wp2_with fail
  refine CN.out.mono ?_
  rintro e wx ⟨rfl, rfl⟩
  clear CN
  go_wp2_with fail
  go_ret2
  unfold PutSaid
  rw [← HF.out]
  exact ⟨⟨_, by rw [HP.out]; rfl, fun h => by have := HP.out; omega, fun _ => rfl⟩, hB1⟩

set_option maxRecDepth 20000 in
set_option maxHeartbeats 3200000 in
theorem refPutF_bad1b (kk s t : Nat) (a b c : Int) (hs : s < 65536) (ht : t < 4294967296) (hk1 : 1 ≤ kk) (hk7 : kk ≤ 7) (hn : fncnt (kk : Int) = 1) (hc : ¬ fcnt (kk : Int) < 0) (zc : c = 0) (zb : b ≠ 0) (w : World) :
    Calls Tryd.prog 8 #[fvs kk s t a b c] w (PutSaid ⟨kk, s, t, a, b, c⟩ w) := by
  obtain ⟨f, hf⟩ : ∃ f : Fr, f = ⟨kk, s, t, a, b, c⟩ := ⟨_, rfl⟩
  obtain ⟨w1, hw1⟩ : ∃ w1, w.alloc (.cells #[.int .i64 kk, .int .u16 s, .int .u32 t, .int .i32 a, .int .i32 b, .int .i32 c] 25) = w1 := ⟨_, rfl⟩
  have hB1 : Below w.heap.size w w1 := by rw [← hw1]; exact (Below.refl _ _).alloc (Nat.le_refl _) _
  have K0 : Blk w1 w.heap.size 25 (fcs kk s t a b c) := by rw [← hw1]; exact Blk.new w _ _
  have CN := refNumbers12_any (kk : Int) w1
  rw [show fcnt (kk : Int) = ((fncnt (kk : Int) : Nat) : Int) by unfold fncnt; omega, hn] at CN
  have CN := Lib.hid CN
  have a0 := K0.cell (i := 0) rfl
  have a3 := K0.cell (i := 3) rfl
  have a4 := K0.cell (i := 4) rfl
  have a5 := K0.cell (i := 5) rfl
  have HW1 := Lib.hid hw1
  have HC := Lib.hid hc
  have HNN := Lib.hid hn
  have HF := Lib.hid hf
  have d2 : (c != 0) = false := by simp [zc]
  have d1 : (b != 0) = true := by simp [zb]
  have HP : Hid (pcode f = 1) := Lib.hid (pcode_arg f (by rw [hf]; exact hc) 0 b (by rw [hf, show fncnt (Fr.k ⟨kk, s, t, a, b, c⟩) = 1 from hn]; rfl) zb)
  clear zc
  clear hw1 hc hn hf
  go_enter Tryd.func8, Tryd.ntmps8
  go_upto_region 1 with fail
  rw [HW1.out]
  clear HW1
  go_wp2_with fail
  refine CN.out.mono ?_
  rintro e wx ⟨rfl, rfl⟩
  clear CN
  go_wp2_with fail
  go_ret2
  unfold PutSaid
  rw [← HF.out]
  exact ⟨⟨_, by rw [HP.out]; rfl, fun h => by have := HP.out; omega, fun _ => rfl⟩, hB1⟩

set_option maxRecDepth 20000 in
set_option maxHeartbeats 3200000 in
theorem refPutF_bad2c (kk s t : Nat) (a b c : Int) (hs : s < 65536) (ht : t < 4294967296) (hk1 : 1 ≤ kk) (hk7 : kk ≤ 7) (hn : fncnt (kk : Int) = 2) (hc : ¬ fcnt (kk : Int) < 0) (zc : c ≠ 0) (w : World) :
    Calls Tryd.prog 8 #[fvs kk s t a b c] w (PutSaid ⟨kk, s, t, a, b, c⟩ w) := by
  obtain ⟨f, hf⟩ : ∃ f : Fr, f = ⟨kk, s, t, a, b, c⟩ := ⟨_, rfl⟩
  obtain ⟨w1, hw1⟩ : ∃ w1, w.alloc (.cells #[.int .i64 kk, .int .u16 s, .int .u32 t, .int .i32 a, .int .i32 b, .int .i32 c] 25) = w1 := ⟨_, rfl⟩
  have hB1 : Below w.heap.size w w1 := by rw [← hw1]; exact (Below.refl _ _).alloc (Nat.le_refl _) _
  have K0 : Blk w1 w.heap.size 25 (fcs kk s t a b c) := by rw [← hw1]; exact Blk.new w _ _
  have CN := refNumbers12_any (kk : Int) w1
  rw [show fcnt (kk : Int) = ((fncnt (kk : Int) : Nat) : Int) by unfold fncnt; omega, hn] at CN
  have CN := Lib.hid CN
  have a0 := K0.cell (i := 0) rfl
  have a3 := K0.cell (i := 3) rfl
  have a4 := K0.cell (i := 4) rfl
  have a5 := K0.cell (i := 5) rfl
  have HW1 := Lib.hid hw1
  have HC := Lib.hid hc
  have HNN := Lib.hid hn
  have HF := Lib.hid hf
  have d2 : (c != 0) = true := by simp [zc]
  have HP : Hid (pcode f = 1) := Lib.hid (pcode_arg f (by rw [hf]; exact hc) 0 c (by rw [hf, show fncnt (Fr.k ⟨kk, s, t, a, b, c⟩) = 2 from hn]; rfl) zc)
  clear hw1 hc hn hf
  go_enter Tryd.func8, Tryd.ntmps8
  go_upto_region 1 with fail
  rw [HW1.out]
  clear HW1
  go_wp2_with fail
  refine CN.out.mono ?_
  rintro e wx ⟨rfl, rfl⟩
  clear CN
  go_wp2_with fail
  go_ret2
  unfold PutSaid
  rw [← HF.out]
  exact ⟨⟨_, by rw [HP.out]; rfl, fun h => by have := HP.out; omega, fun _ => rfl⟩, hB1⟩

set_option maxRecDepth 20000 in
set_option maxHeartbeats 3200000 in
theorem refPutF_good0 (kk s t : Nat) (a b c : Int) (hs : s < 65536) (ht : t < 4294967296) (hk1 : 1 ≤ kk) (hk7 : kk ≤ 7) (hn : fncnt (kk : Int) = 0) (hc : ¬ fcnt (kk : Int) < 0) (zc : c = 0) (zb : b = 0) (za : a = 0) (w : World) :
    Calls Tryd.prog 8 #[fvs kk s t a b c] w (PutSaid ⟨kk, s, t, a, b, c⟩ w) := by
  obtain ⟨f, hf⟩ : ∃ f : Fr, f = ⟨kk, s, t, a, b, c⟩ := ⟨_, rfl⟩
  obtain ⟨w1, hw1⟩ : ∃ w1, w.alloc (.cells #[.int .i64 kk, .int .u16 s, .int .u32 t, .int .i32 a, .int .i32 b, .int .i32 c] 25) = w1 := ⟨_, rfl⟩
  have hB1 : Below w.heap.size w w1 := by rw [← hw1]; exact (Below.refl _ _).alloc (Nat.le_refl _) _
  have K0 : Blk w1 w.heap.size 25 (fcs kk s t a b c) := by rw [← hw1]; exact Blk.new w _ _
  have CN := refNumbers12_any (kk : Int) w1
  rw [show fcnt (kk : Int) = ((fncnt (kk : Int) : Nat) : Int) by unfold fncnt; omega, hn] at CN
  have CN := Lib.hid CN
  have a0 := K0.cell (i := 0) rfl
  have a3 := K0.cell (i := 3) rfl
  have a4 := K0.cell (i := 4) rfl
  have a5 := K0.cell (i := 5) rfl
  have HW1 := Lib.hid hw1
  have HC := Lib.hid hc
  have HNN := Lib.hid hn
  have HF := Lib.hid hf
  have d2 : (c != 0) = false := by simp [zc]
  have d1 : (b != 0) = false := by simp [zb]
  have d0 : (a != 0) = false := by simp [za]
  have HP : Hid (pcode f = 0) := Lib.hid (pcode_zero f (by rw [hf]; exact hc) (by
    intro i x hi hx
    rw [hf, show fncnt (Fr.k ⟨kk, s, t, a, b, c⟩) = 0 from hn] at hi hx
    rcases (show i = 0 ∨ i = 1 ∨ i = 2 by omega) with rfl | rfl | rfl
    · rw [← za]; exact (Option.some.inj hx).symm
    · rw [← zb]; exact (Option.some.inj hx).symm
    · rw [← zc]; exact (Option.some.inj hx).symm))
  have HBD : Hid (fbody f = (([126, kk] ++ lowB s 2) ++ lowB t 4)) := Lib.hid (by
    rw [hf]
    unfold fbody nb
    rw [show fncnt (Fr.k ⟨kk, s, t, a, b, c⟩) = 0 from hn]
    simp [abc, ftl, List.append_assoc])
  have HBL : Hid ((bytesF f).length = 12) := Lib.hid (by rw [bytesF_length, hf, show fncnt (Fr.k ⟨kk, s, t, a, b, c⟩) = 0 from hn])
  have HBT : Hid (∀ x ∈ fbody f, x < 256) := Lib.hid (body_lt f (by rw [hf]; show 0 ≤ fcnt (kk : Int); omega))
  have hk8 : IntKind.u8.wrap (kk : Int) = (kk : Int) := by simp [IntKind.wrap, IntKind.bits, IntKind.signed]; omega
  have hk8' : (kk : Int) % 256 = (kk : Int) := by omega
  have es : IntKind.u64.wrap (s : Int) = (s : Int) := by simp [IntKind.wrap, IntKind.bits, IntKind.signed]; omega
  have et : IntKind.u64.wrap (t : Int) = (t : Int) := by simp [IntKind.wrap, IntKind.bits, IntKind.signed]; omega
  clear zc zb za
  clear hw1 hc hn hf
  go_enter Tryd.func8, Tryd.ntmps8
  go_upto_region 1 with fail
  rw [HW1.out]
  clear HW1
  go_wp2_with fail
  refine CN.out.mono ?_
  rintro e wx ⟨rfl, rfl⟩
  clear CN
  go_upto_region 6 with fail
  have hsz1 : w.heap.size < w1.heap.size := K0.lt
  obtain ⟨w2, hw2⟩ : ∃ w2, w1.alloc (.cells #[.int .u8 126, .int .u8 kk] 5) = w2 := ⟨_, rfl⟩
  have hB2 : Below w1.heap.size w1 w2 := by rw [← hw2]; exact (Below.refl _ _).alloc (Nat.le_refl _) _
  have ho2 : w2.ownsRow w1.heap.size 5 1 (.slice (some ⟨w1.heap.size, 0, none⟩) 2 2) 2 (u8s [126, kk]) := by rw [← hw2]; exact own_lit (w := w1) [126, kk] _ 2 rfl (Nat.le_refl _) (by decide)
  have c1 := (K0.below hB2 K0.lt).cell (i := 1) rfl
  have HW2 := Lib.hid hw2
  clear hw2 a3 a4 a5
  obtain ⟨l2, hl2⟩ : ∃ l, l = [126, kk] := ⟨_, rfl⟩
  rw [← hl2] at ho2 HBD
  clear hl2
  go_upto_region 7 with fail
  rw [HW2.out]
  clear HW2 a0
  have P0 := Lib.hid (ref1Put12_any s 2 (by omega) (by omega) w2)
  go_wp2_with fail
  refine P0.out.mono ?_
  rintro e w3 ⟨v3, rfl, ho3, hB3⟩
  clear P0
  have hA3 := ownsRow_below ho2 hB3
  have hs3 := Sl.of_own ho3
  obtain ⟨a3, c3, rfl, _, _⟩ := ownsRow_slice ho3
  have hBB3 := hB2.trans (hB3.mono hB2.size)
  have hz3 := hBB3.size
  clear ho2 ho3 hB3 hB2
  have hl3 : (lowB s 2).length = 2 := lowB_length _ _
  obtain ⟨m3, hm3⟩ : ∃ m, m = lowB s 2 := ⟨_, rfl⟩
  rw [← hm3] at hs3 HBD
  clear hl3 hm3
  go_wp2_with (at_builtin; refine wpList_app Eu8 rfl (.tmp 40) (.tmp 44) rfl w1.heap.size rfl hA3 rfl hs3 (oneCell_u8s _) (by unfold maxLen; omega) (by omega) hz3 ?_)
  intro v4 w4 ho4 hg4 _
  have hB4 := hBB3.grown hg4 hz3 (fun q hq => (hA3.lt q hq).1)
  rw [← u8s_app] at ho4
  obtain ⟨l4, hl4⟩ : ∃ l, l = l2 ++ m3 := ⟨_, rfl⟩
  rw [← hl4] at ho4 HBD
  clear hl4 hA3 hs3 hBB3 hg4 hz3
  obtain ⟨b4, d4, rfl, _, _⟩ := ownsRow_slice ho4
  clear c1
  have c2 := (K0.below hB4 K0.lt).cell (i := 2) rfl
  have P1 := Lib.hid (ref1Put12_any t 4 (by omega) (by omega) w4)
  go_wp2_with fail
  refine P1.out.mono ?_
  rintro e w5 ⟨v5, rfl, ho5, hB5⟩
  clear P1
  have hA5 := ownsRow_below ho4 hB5
  have hs5 := Sl.of_own ho5
  obtain ⟨a5, c5, rfl, _, _⟩ := ownsRow_slice ho5
  have hBB5 := hB4.trans (hB5.mono hB4.size)
  have hz5 := hBB5.size
  clear ho4 ho5 hB5 hB4
  have hl5 : (lowB t 4).length = 4 := lowB_length _ _
  obtain ⟨m5, hm5⟩ : ∃ m, m = lowB t 4 := ⟨_, rfl⟩
  rw [← hm5] at hs5 HBD
  clear hl5 hm5
  go_wp2_with (at_builtin; refine wpList_app Eu8 rfl (.tmp 46) (.tmp 50) rfl w1.heap.size rfl hA5 rfl hs5 (oneCell_u8s _) (by unfold maxLen; omega) (by omega) hz5 ?_)
  intro v6 w6 ho6 hg6 _
  have hB6 := hBB5.grown hg6 hz5 (fun q hq => (hA5.lt q hq).1)
  rw [← u8s_app] at ho6
  obtain ⟨l6, hl6⟩ : ∃ l, l = l4 ++ m5 := ⟨_, rfl⟩
  rw [← hl6] at ho6 HBD
  clear hl6 hA5 hs5 hBB5 hg6 hz5
  obtain ⟨b6, d6, rfl, _, _⟩ := ownsRow_slice ho6
  clear c2
  rw [← HBD.out] at ho6
  have hlen : (fbody f).length = 8 := by have := HBL.out; rw [bytesF, putB_length] at this; omega
  have ho' := ho6
  rw [← hlen] at ho'
  have CP := refCrcPut_any _ (fbody f) w6 (Sl.of_own ho') (by omega) HBT.out
  rw [show ((.slice b6 (fbody f).length d6 : Value)) = .slice b6 8 d6 by rw [hlen]] at CP
  have CP := Lib.hid CP
  have HL := Lib.hid hlen
  clear hlen ho' ho6
  go_wp2_with fail
  refine CP.out.mono ?_
  rintro e w' ⟨v', rfl, ho', hB'⟩
  clear CP
  have hBw : Below w.heap.size w w' := hB1.trans ((hB6.trans (hB'.mono hB6.size)).mono hB1.size)
  go_wp2_with fail
  go_ret2
  unfold PutSaid
  rw [← HF.out]
  refine ⟨⟨_, by rw [HP.out]; rfl, fun _ => ?_, fun h => absurd HP.out h⟩, hBw⟩
  have := ownsRow_base ho' (base' := w.heap.size) (Nat.le_trans (Nat.le_of_lt hsz1) hB6.size)
  rw [show (bytesF f).length = (fbody f).length + 4 from putB_length _]
  exact this

set_option maxRecDepth 20000 in
set_option maxHeartbeats 3200000 in
theorem refPutF_good1 (kk s t : Nat) (a b c : Int) (hs : s < 65536) (ht : t < 4294967296) (hk1 : 1 ≤ kk) (hk7 : kk ≤ 7) (hn : fncnt (kk : Int) = 1) (hc : ¬ fcnt (kk : Int) < 0) (zc : c = 0) (zb : b = 0) (w : World) :
    Calls Tryd.prog 8 #[fvs kk s t a b c] w (PutSaid ⟨kk, s, t, a, b, c⟩ w) := by
  obtain ⟨f, hf⟩ : ∃ f : Fr, f = ⟨kk, s, t, a, b, c⟩ := ⟨_, rfl⟩
  obtain ⟨w1, hw1⟩ : ∃ w1, w.alloc (.cells #[.int .i64 kk, .int .u16 s, .int .u32 t, .int .i32 a, .int .i32 b, .int .i32 c] 25) = w1 := ⟨_, rfl⟩
  have hB1 : Below w.heap.size w w1 := by rw [← hw1]; exact (Below.refl _ _).alloc (Nat.le_refl _) _
  have K0 : Blk w1 w.heap.size 25 (fcs kk s t a b c) := by rw [← hw1]; exact Blk.new w _ _
  have CN := refNumbers12_any (kk : Int) w1
  rw [show fcnt (kk : Int) = ((fncnt (kk : Int) : Nat) : Int) by unfold fncnt; omega, hn] at CN
  have CN := Lib.hid CN
  have a0 := K0.cell (i := 0) rfl
  have a3 := K0.cell (i := 3) rfl
  have a4 := K0.cell (i := 4) rfl
  have a5 := K0.cell (i := 5) rfl
  have HW1 := Lib.hid hw1
  have HC := Lib.hid hc
  have HNN := Lib.hid hn
  have HF := Lib.hid hf
  have d2 : (c != 0) = false := by simp [zc]
  have d1 : (b != 0) = false := by simp [zb]
  have HP : Hid (pcode f = 0) := Lib.hid (pcode_zero f (by rw [hf]; exact hc) (by
    intro i x hi hx
    rw [hf, show fncnt (Fr.k ⟨kk, s, t, a, b, c⟩) = 1 from hn] at hi hx
    rcases (show i = 0 ∨ i = 1 by omega) with rfl | rfl
    · rw [← zb]; exact (Option.some.inj hx).symm
    · rw [← zc]; exact (Option.some.inj hx).symm))
  have HBD : Hid (fbody f = ((([126, kk] ++ lowB s 2) ++ lowB t 4) ++ lowB (un a) 4)) := Lib.hid (by
    rw [hf]
    unfold fbody nb
    rw [show fncnt (Fr.k ⟨kk, s, t, a, b, c⟩) = 1 from hn]
    simp [abc, ftl, List.append_assoc])
  have HBL : Hid ((bytesF f).length = 16) := Lib.hid (by rw [bytesF_length, hf, show fncnt (Fr.k ⟨kk, s, t, a, b, c⟩) = 1 from hn])
  have HBT : Hid (∀ x ∈ fbody f, x < 256) := Lib.hid (body_lt f (by rw [hf]; show 0 ≤ fcnt (kk : Int); omega))
  have hk8 : IntKind.u8.wrap (kk : Int) = (kk : Int) := by simp [IntKind.wrap, IntKind.bits, IntKind.signed]; omega
  have hk8' : (kk : Int) % 256 = (kk : Int) := by omega
  have es : IntKind.u64.wrap (s : Int) = (s : Int) := by simp [IntKind.wrap, IntKind.bits, IntKind.signed]; omega
  have et : IntKind.u64.wrap (t : Int) = (t : Int) := by simp [IntKind.wrap, IntKind.bits, IntKind.signed]; omega
  obtain ⟨ua, hua⟩ : ∃ u, u = un a := ⟨_, rfl⟩
  have e1a : IntKind.u32.wrap a = (ua : Nat) := by rw [hua]; exact u32_un a
  have e2a : a % 4294967296 = (ua : Nat) := by rw [hua]; unfold un; omega
  have e3a : ua < 4294967296 := by rw [hua]; exact un_lt a
  have e4a : IntKind.u64.wrap (ua : Int) = (ua : Int) := by simp [IntKind.wrap, IntKind.bits, IntKind.signed]; omega
  rw [← hua] at HBD
  clear hua
  clear zc zb
  clear hw1 hc hn hf
  go_enter Tryd.func8, Tryd.ntmps8
  go_upto_region 1 with fail
  rw [HW1.out]
  clear HW1
  go_wp2_with fail
  refine CN.out.mono ?_
  rintro e wx ⟨rfl, rfl⟩
  clear CN
  go_upto_region 6 with fail
  have hsz1 : w.heap.size < w1.heap.size := K0.lt
  obtain ⟨w2, hw2⟩ : ∃ w2, w1.alloc (.cells #[.int .u8 126, .int .u8 kk] 5) = w2 := ⟨_, rfl⟩
  have hB2 : Below w1.heap.size w1 w2 := by rw [← hw2]; exact (Below.refl _ _).alloc (Nat.le_refl _) _
  have ho2 : w2.ownsRow w1.heap.size 5 1 (.slice (some ⟨w1.heap.size, 0, none⟩) 2 2) 2 (u8s [126, kk]) := by rw [← hw2]; exact own_lit (w := w1) [126, kk] _ 2 rfl (Nat.le_refl _) (by decide)
  have c1 := (K0.below hB2 K0.lt).cell (i := 1) rfl
  have HW2 := Lib.hid hw2
  clear hw2 a3 a4 a5
  obtain ⟨l2, hl2⟩ : ∃ l, l = [126, kk] := ⟨_, rfl⟩
  rw [← hl2] at ho2 HBD
  clear hl2
  go_upto_region 7 with fail
  rw [HW2.out]
  clear HW2 a0
  have P0 := Lib.hid (ref1Put12_any s 2 (by omega) (by omega) w2)
  go_wp2_with fail
  refine P0.out.mono ?_
  rintro e w3 ⟨v3, rfl, ho3, hB3⟩
  clear P0
  have hA3 := ownsRow_below ho2 hB3
  have hs3 := Sl.of_own ho3
  obtain ⟨a3, c3, rfl, _, _⟩ := ownsRow_slice ho3
  have hBB3 := hB2.trans (hB3.mono hB2.size)
  have hz3 := hBB3.size
  clear ho2 ho3 hB3 hB2
  have hl3 : (lowB s 2).length = 2 := lowB_length _ _
  obtain ⟨m3, hm3⟩ : ∃ m, m = lowB s 2 := ⟨_, rfl⟩
  rw [← hm3] at hs3 HBD
  clear hl3 hm3
  go_wp2_with (at_builtin; refine wpList_app Eu8 rfl (.tmp 40) (.tmp 44) rfl w1.heap.size rfl hA3 rfl hs3 (oneCell_u8s _) (by unfold maxLen; omega) (by omega) hz3 ?_)
  intro v4 w4 ho4 hg4 _
  have hB4 := hBB3.grown hg4 hz3 (fun q hq => (hA3.lt q hq).1)
  rw [← u8s_app] at ho4
  obtain ⟨l4, hl4⟩ : ∃ l, l = l2 ++ m3 := ⟨_, rfl⟩
  rw [← hl4] at ho4 HBD
  clear hl4 hA3 hs3 hBB3 hg4 hz3
  obtain ⟨b4, d4, rfl, _, _⟩ := ownsRow_slice ho4
  clear c1
  have c2 := (K0.below hB4 K0.lt).cell (i := 2) rfl
  have P1 := Lib.hid (ref1Put12_any t 4 (by omega) (by omega) w4)
  go_wp2_with fail
  refine P1.out.mono ?_
  rintro e w5 ⟨v5, rfl, ho5, hB5⟩
  clear P1
  have hA5 := ownsRow_below ho4 hB5
  have hs5 := Sl.of_own ho5
  obtain ⟨a5, c5, rfl, _, _⟩ := ownsRow_slice ho5
  have hBB5 := hB4.trans (hB5.mono hB4.size)
  have hz5 := hBB5.size
  clear ho4 ho5 hB5 hB4
  have hl5 : (lowB t 4).length = 4 := lowB_length _ _
  obtain ⟨m5, hm5⟩ : ∃ m, m = lowB t 4 := ⟨_, rfl⟩
  rw [← hm5] at hs5 HBD
  clear hl5 hm5
  go_wp2_with (at_builtin; refine wpList_app Eu8 rfl (.tmp 46) (.tmp 50) rfl w1.heap.size rfl hA5 rfl hs5 (oneCell_u8s _) (by unfold maxLen; omega) (by omega) hz5 ?_)
  intro v6 w6 ho6 hg6 _
  have hB6 := hBB5.grown hg6 hz5 (fun q hq => (hA5.lt q hq).1)
  rw [← u8s_app] at ho6
  obtain ⟨l6, hl6⟩ : ∃ l, l = l4 ++ m5 := ⟨_, rfl⟩
  rw [← hl6] at ho6 HBD
  clear hl6 hA5 hs5 hBB5 hg6 hz5
  obtain ⟨b6, d6, rfl, _, _⟩ := ownsRow_slice ho6
  clear c2
  have c3 := (K0.below hB6 K0.lt).cell (i := 3) rfl
  have P2 := Lib.hid (ref1Put12_any ua 4 (by omega) (by omega) w6)
  go_wp2_with fail
  refine P2.out.mono ?_
  rintro e w7 ⟨v7, rfl, ho7, hB7⟩
  clear P2
  have hA7 := ownsRow_below ho6 hB7
  have hs7 := Sl.of_own ho7
  obtain ⟨a7, c7, rfl, _, _⟩ := ownsRow_slice ho7
  have hBB7 := hB6.trans (hB7.mono hB6.size)
  have hz7 := hBB7.size
  clear ho6 ho7 hB7 hB6
  have hl7 : (lowB ua 4).length = 4 := lowB_length _ _
  obtain ⟨m7, hm7⟩ : ∃ m, m = lowB ua 4 := ⟨_, rfl⟩
  rw [← hm7] at hs7 HBD
  clear hl7 hm7
  go_wp2_with (at_builtin; refine wpList_app Eu8 rfl (.tmp 54) (.tmp 59) rfl w1.heap.size rfl hA7 rfl hs7 (oneCell_u8s _) (by unfold maxLen; omega) (by omega) hz7 ?_)
  intro v8 w8 ho8 hg8 _
  have hB8 := hBB7.grown hg8 hz7 (fun q hq => (hA7.lt q hq).1)
  rw [← u8s_app] at ho8
  obtain ⟨l8, hl8⟩ : ∃ l, l = l6 ++ m7 := ⟨_, rfl⟩
  rw [← hl8] at ho8 HBD
  clear hl8 hA7 hs7 hBB7 hg8 hz7
  obtain ⟨b8, d8, rfl, _, _⟩ := ownsRow_slice ho8
  clear c3
  rw [← HBD.out] at ho8
  have hlen : (fbody f).length = 12 := by have := HBL.out; rw [bytesF, putB_length] at this; omega
  have ho' := ho8
  rw [← hlen] at ho'
  have CP := refCrcPut_any _ (fbody f) w8 (Sl.of_own ho') (by omega) HBT.out
  rw [show ((.slice b8 (fbody f).length d8 : Value)) = .slice b8 12 d8 by rw [hlen]] at CP
  have CP := Lib.hid CP
  have HL := Lib.hid hlen
  clear hlen ho' ho8
  go_wp2_with fail
  refine CP.out.mono ?_
  rintro e w' ⟨v', rfl, ho', hB'⟩
  clear CP
  have hBw : Below w.heap.size w w' := hB1.trans ((hB8.trans (hB'.mono hB8.size)).mono hB1.size)
  go_wp2_with fail
  go_ret2
  unfold PutSaid
  rw [← HF.out]
  refine ⟨⟨_, by rw [HP.out]; rfl, fun _ => ?_, fun h => absurd HP.out h⟩, hBw⟩
  have := ownsRow_base ho' (base' := w.heap.size) (Nat.le_trans (Nat.le_of_lt hsz1) hB8.size)
  rw [show (bytesF f).length = (fbody f).length + 4 from putB_length _]
  exact this

set_option maxRecDepth 20000 in
set_option maxHeartbeats 3200000 in
theorem refPutF_good2 (kk s t : Nat) (a b c : Int) (hs : s < 65536) (ht : t < 4294967296) (hk1 : 1 ≤ kk) (hk7 : kk ≤ 7) (hn : fncnt (kk : Int) = 2) (hc : ¬ fcnt (kk : Int) < 0) (zc : c = 0) (w : World) :
    Calls Tryd.prog 8 #[fvs kk s t a b c] w (PutSaid ⟨kk, s, t, a, b, c⟩ w) := by
  obtain ⟨f, hf⟩ : ∃ f : Fr, f = ⟨kk, s, t, a, b, c⟩ := ⟨_, rfl⟩
  obtain ⟨w1, hw1⟩ : ∃ w1, w.alloc (.cells #[.int .i64 kk, .int .u16 s, .int .u32 t, .int .i32 a, .int .i32 b, .int .i32 c] 25) = w1 := ⟨_, rfl⟩
  have hB1 : Below w.heap.size w w1 := by rw [← hw1]; exact (Below.refl _ _).alloc (Nat.le_refl _) _
  have K0 : Blk w1 w.heap.size 25 (fcs kk s t a b c) := by rw [← hw1]; exact Blk.new w _ _
  have CN := refNumbers12_any (kk : Int) w1
  rw [show fcnt (kk : Int) = ((fncnt (kk : Int) : Nat) : Int) by unfold fncnt; omega, hn] at CN
  have CN := Lib.hid CN
  have a0 := K0.cell (i := 0) rfl
  have a3 := K0.cell (i := 3) rfl
  have a4 := K0.cell (i := 4) rfl
  have a5 := K0.cell (i := 5) rfl
  have HW1 := Lib.hid hw1
  have HC := Lib.hid hc
  have HNN := Lib.hid hn
  have HF := Lib.hid hf
  have d2 : (c != 0) = false := by simp [zc]
  have HP : Hid (pcode f = 0) := Lib.hid (pcode_zero f (by rw [hf]; exact hc) (by
    intro i x hi hx
    rw [hf, show fncnt (Fr.k ⟨kk, s, t, a, b, c⟩) = 2 from hn] at hi hx
    rcases (show i = 0 by omega) with rfl
    · rw [← zc]; exact (Option.some.inj hx).symm))
  have HBD : Hid (fbody f = (((([126, kk] ++ lowB s 2) ++ lowB t 4) ++ lowB (un a) 4) ++ lowB (un b) 4)) := Lib.hid (by
    rw [hf]
    unfold fbody nb
    rw [show fncnt (Fr.k ⟨kk, s, t, a, b, c⟩) = 2 from hn]
    simp [abc, ftl, List.append_assoc])
  have HBL : Hid ((bytesF f).length = 20) := Lib.hid (by rw [bytesF_length, hf, show fncnt (Fr.k ⟨kk, s, t, a, b, c⟩) = 2 from hn])
  have HBT : Hid (∀ x ∈ fbody f, x < 256) := Lib.hid (body_lt f (by rw [hf]; show 0 ≤ fcnt (kk : Int); omega))
  have hk8 : IntKind.u8.wrap (kk : Int) = (kk : Int) := by simp [IntKind.wrap, IntKind.bits, IntKind.signed]; omega
  have hk8' : (kk : Int) % 256 = (kk : Int) := by omega
  have es : IntKind.u64.wrap (s : Int) = (s : Int) := by simp [IntKind.wrap, IntKind.bits, IntKind.signed]; omega
  have et : IntKind.u64.wrap (t : Int) = (t : Int) := by simp [IntKind.wrap, IntKind.bits, IntKind.signed]; omega
  obtain ⟨ua, hua⟩ : ∃ u, u = un a := ⟨_, rfl⟩
  have e1a : IntKind.u32.wrap a = (ua : Nat) := by rw [hua]; exact u32_un a
  have e2a : a % 4294967296 = (ua : Nat) := by rw [hua]; unfold un; omega
  have e3a : ua < 4294967296 := by rw [hua]; exact un_lt a
  have e4a : IntKind.u64.wrap (ua : Int) = (ua : Int) := by simp [IntKind.wrap, IntKind.bits, IntKind.signed]; omega
  rw [← hua] at HBD
  clear hua
  obtain ⟨ub, hub⟩ : ∃ u, u = un b := ⟨_, rfl⟩
  have e1b : IntKind.u32.wrap b = (ub : Nat) := by rw [hub]; exact u32_un b
  have e2b : b % 4294967296 = (ub : Nat) := by rw [hub]; unfold un; omega
  have e3b : ub < 4294967296 := by rw [hub]; exact un_lt b
  have e4b : IntKind.u64.wrap (ub : Int) = (ub : Int) := by simp [IntKind.wrap, IntKind.bits, IntKind.signed]; omega
  rw [← hub] at HBD
  clear hub
  clear zc
  clear hw1 hc hn hf
  go_enter Tryd.func8, Tryd.ntmps8
  go_upto_region 1 with fail
  rw [HW1.out]
  clear HW1
  go_wp2_with fail
  refine CN.out.mono ?_
  rintro e wx ⟨rfl, rfl⟩
  clear CN
  go_upto_region 6 with fail
  have hsz1 : w.heap.size < w1.heap.size := K0.lt
  obtain ⟨w2, hw2⟩ : ∃ w2, w1.alloc (.cells #[.int .u8 126, .int .u8 kk] 5) = w2 := ⟨_, rfl⟩
  have hB2 : Below w1.heap.size w1 w2 := by rw [← hw2]; exact (Below.refl _ _).alloc (Nat.le_refl _) _
  have ho2 : w2.ownsRow w1.heap.size 5 1 (.slice (some ⟨w1.heap.size, 0, none⟩) 2 2) 2 (u8s [126, kk]) := by rw [← hw2]; exact own_lit (w := w1) [126, kk] _ 2 rfl (Nat.le_refl _) (by decide)
  have c1 := (K0.below hB2 K0.lt).cell (i := 1) rfl
  have HW2 := Lib.hid hw2
  clear hw2 a3 a4 a5
  obtain ⟨l2, hl2⟩ : ∃ l, l = [126, kk] := ⟨_, rfl⟩
  rw [← hl2] at ho2 HBD
  clear hl2
  go_upto_region 7 with fail
  rw [HW2.out]
  clear HW2 a0
  have P0 := Lib.hid (ref1Put12_any s 2 (by omega) (by omega) w2)
  go_wp2_with fail
  refine P0.out.mono ?_
  rintro e w3 ⟨v3, rfl, ho3, hB3⟩
  clear P0
  have hA3 := ownsRow_below ho2 hB3
  have hs3 := Sl.of_own ho3
  obtain ⟨a3, c3, rfl, _, _⟩ := ownsRow_slice ho3
  have hBB3 := hB2.trans (hB3.mono hB2.size)
  have hz3 := hBB3.size
  clear ho2 ho3 hB3 hB2
  have hl3 : (lowB s 2).length = 2 := lowB_length _ _
  obtain ⟨m3, hm3⟩ : ∃ m, m = lowB s 2 := ⟨_, rfl⟩
  rw [← hm3] at hs3 HBD
  clear hl3 hm3
  go_wp2_with (at_builtin; refine wpList_app Eu8 rfl (.tmp 40) (.tmp 44) rfl w1.heap.size rfl hA3 rfl hs3 (oneCell_u8s _) (by unfold maxLen; omega) (by omega) hz3 ?_)
  intro v4 w4 ho4 hg4 _
  have hB4 := hBB3.grown hg4 hz3 (fun q hq => (hA3.lt q hq).1)
  rw [← u8s_app] at ho4
  obtain ⟨l4, hl4⟩ : ∃ l, l = l2 ++ m3 := ⟨_, rfl⟩
  rw [← hl4] at ho4 HBD
  clear hl4 hA3 hs3 hBB3 hg4 hz3
  obtain ⟨b4, d4, rfl, _, _⟩ := ownsRow_slice ho4
  clear c1
  have c2 := (K0.below hB4 K0.lt).cell (i := 2) rfl
  have P1 := Lib.hid (ref1Put12_any t 4 (by omega) (by omega) w4)
  go_wp2_with fail
  refine P1.out.mono ?_
  rintro e w5 ⟨v5, rfl, ho5, hB5⟩
  clear P1
  have hA5 := ownsRow_below ho4 hB5
  have hs5 := Sl.of_own ho5
  obtain ⟨a5, c5, rfl, _, _⟩ := ownsRow_slice ho5
  have hBB5 := hB4.trans (hB5.mono hB4.size)
  have hz5 := hBB5.size
  clear ho4 ho5 hB5 hB4
  have hl5 : (lowB t 4).length = 4 := lowB_length _ _
  obtain ⟨m5, hm5⟩ : ∃ m, m = lowB t 4 := ⟨_, rfl⟩
  rw [← hm5] at hs5 HBD
  clear hl5 hm5
  go_wp2_with (at_builtin; refine wpList_app Eu8 rfl (.tmp 46) (.tmp 50) rfl w1.heap.size rfl hA5 rfl hs5 (oneCell_u8s _) (by unfold maxLen; omega) (by omega) hz5 ?_)
  intro v6 w6 ho6 hg6 _
  have hB6 := hBB5.grown hg6 hz5 (fun q hq => (hA5.lt q hq).1)
  rw [← u8s_app] at ho6
  obtain ⟨l6, hl6⟩ : ∃ l, l = l4 ++ m5 := ⟨_, rfl⟩
  rw [← hl6] at ho6 HBD
  clear hl6 hA5 hs5 hBB5 hg6 hz5
  obtain ⟨b6, d6, rfl, _, _⟩ := ownsRow_slice ho6
  clear c2
  have c3 := (K0.below hB6 K0.lt).cell (i := 3) rfl
  have P2 := Lib.hid (ref1Put12_any ua 4 (by omega) (by omega) w6)
  go_wp2_with fail
  refine P2.out.mono ?_
  rintro e w7 ⟨v7, rfl, ho7, hB7⟩
  clear P2
  have hA7 := ownsRow_below ho6 hB7
  have hs7 := Sl.of_own ho7
  obtain ⟨a7, c7, rfl, _, _⟩ := ownsRow_slice ho7
  have hBB7 := hB6.trans (hB7.mono hB6.size)
  have hz7 := hBB7.size
  clear ho6 ho7 hB7 hB6
  have hl7 : (lowB ua 4).length = 4 := lowB_length _ _
  obtain ⟨m7, hm7⟩ : ∃ m, m = lowB ua 4 := ⟨_, rfl⟩
  rw [← hm7] at hs7 HBD
  clear hl7 hm7
  go_wp2_with (at_builtin; refine wpList_app Eu8 rfl (.tmp 54) (.tmp 59) rfl w1.heap.size rfl hA7 rfl hs7 (oneCell_u8s _) (by unfold maxLen; omega) (by omega) hz7 ?_)
  intro v8 w8 ho8 hg8 _
  have hB8 := hBB7.grown hg8 hz7 (fun q hq => (hA7.lt q hq).1)
  rw [← u8s_app] at ho8
  obtain ⟨l8, hl8⟩ : ∃ l, l = l6 ++ m7 := ⟨_, rfl⟩
  rw [← hl8] at ho8 HBD
  clear hl8 hA7 hs7 hBB7 hg8 hz7
  obtain ⟨b8, d8, rfl, _, _⟩ := ownsRow_slice ho8
  clear c3
  have c4 := (K0.below hB8 K0.lt).cell (i := 4) rfl
  have P3 := Lib.hid (ref1Put12_any ub 4 (by omega) (by omega) w8)
  go_wp2_with fail
  refine P3.out.mono ?_
  rintro e w9 ⟨v9, rfl, ho9, hB9⟩
  clear P3
  have hA9 := ownsRow_below ho8 hB9
  have hs9 := Sl.of_own ho9
  obtain ⟨a9, c9, rfl, _, _⟩ := ownsRow_slice ho9
  have hBB9 := hB8.trans (hB9.mono hB8.size)
  have hz9 := hBB9.size
  clear ho8 ho9 hB9 hB8
  have hl9 : (lowB ub 4).length = 4 := lowB_length _ _
  obtain ⟨m9, hm9⟩ : ∃ m, m = lowB ub 4 := ⟨_, rfl⟩
  rw [← hm9] at hs9 HBD
  clear hl9 hm9
  go_wp2_with (at_builtin; refine wpList_app Eu8 rfl (.tmp 63) (.tmp 68) rfl w1.heap.size rfl hA9 rfl hs9 (oneCell_u8s _) (by unfold maxLen; omega) (by omega) hz9 ?_)
  intro v10 w10 ho10 hg10 _
  have hB10 := hBB9.grown hg10 hz9 (fun q hq => (hA9.lt q hq).1)
  rw [← u8s_app] at ho10
  obtain ⟨l10, hl10⟩ : ∃ l, l = l8 ++ m9 := ⟨_, rfl⟩
  rw [← hl10] at ho10 HBD
  clear hl10 hA9 hs9 hBB9 hg10 hz9
  obtain ⟨b10, d10, rfl, _, _⟩ := ownsRow_slice ho10
  clear c4
  rw [← HBD.out] at ho10
  have hlen : (fbody f).length = 16 := by have := HBL.out; rw [bytesF, putB_length] at this; omega
  have ho' := ho10
  rw [← hlen] at ho'
  have CP := refCrcPut_any _ (fbody f) w10 (Sl.of_own ho') (by omega) HBT.out
  rw [show ((.slice b10 (fbody f).length d10 : Value)) = .slice b10 16 d10 by rw [hlen]] at CP
  have CP := Lib.hid CP
  have HL := Lib.hid hlen
  clear hlen ho' ho10
  go_wp2_with fail
  refine CP.out.mono ?_
  rintro e w' ⟨v', rfl, ho', hB'⟩
  clear CP
  have hBw : Below w.heap.size w w' := hB1.trans ((hB10.trans (hB'.mono hB10.size)).mono hB1.size)
  go_wp2_with fail
  go_ret2
  unfold PutSaid
  rw [← HF.out]
  refine ⟨⟨_, by rw [HP.out]; rfl, fun _ => ?_, fun h => absurd HP.out h⟩, hBw⟩
  have := ownsRow_base ho' (base' := w.heap.size) (Nat.le_trans (Nat.le_of_lt hsz1) hB10.size)
  rw [show (bytesF f).length = (fbody f).length + 4 from putB_length _]
  exact this

set_option maxRecDepth 20000 in
set_option maxHeartbeats 3200000 in
theorem refPutF_good3 (kk s t : Nat) (a b c : Int) (hs : s < 65536) (ht : t < 4294967296) (hk1 : 1 ≤ kk) (hk7 : kk ≤ 7) (hn : fncnt (kk : Int) = 3) (hc : ¬ fcnt (kk : Int) < 0) (w : World) :
    Calls Tryd.prog 8 #[fvs kk s t a b c] w (PutSaid ⟨kk, s, t, a, b, c⟩ w) := by
  obtain ⟨f, hf⟩ : ∃ f : Fr, f = ⟨kk, s, t, a, b, c⟩ := ⟨_, rfl⟩
  obtain ⟨w1, hw1⟩ : ∃ w1, w.alloc (.cells #[.int .i64 kk, .int .u16 s, .int .u32 t, .int .i32 a, .int .i32 b, .int .i32 c] 25) = w1 := ⟨_, rfl⟩
  have hB1 : Below w.heap.size w w1 := by rw [← hw1]; exact (Below.refl _ _).alloc (Nat.le_refl _) _
  have K0 : Blk w1 w.heap.size 25 (fcs kk s t a b c) := by rw [← hw1]; exact Blk.new w _ _
  have CN := refNumbers12_any (kk : Int) w1
  rw [show fcnt (kk : Int) = ((fncnt (kk : Int) : Nat) : Int) by unfold fncnt; omega, hn] at CN
  have CN := Lib.hid CN
  have a0 := K0.cell (i := 0) rfl
  have a3 := K0.cell (i := 3) rfl
  have a4 := K0.cell (i := 4) rfl
  have a5 := K0.cell (i := 5) rfl
  have HW1 := Lib.hid hw1
  have HC := Lib.hid hc
  have HNN := Lib.hid hn
  have HF := Lib.hid hf
  have HP : Hid (pcode f = 0) := Lib.hid (pcode_zero f (by rw [hf]; exact hc) (by
    intro i x hi hx
    rw [hf, show fncnt (Fr.k ⟨kk, s, t, a, b, c⟩) = 3 from hn] at hi hx
    omega))
  have HBD : Hid (fbody f = ((((([126, kk] ++ lowB s 2) ++ lowB t 4) ++ lowB (un a) 4) ++ lowB (un b) 4) ++ lowB (un c) 4)) := Lib.hid (by
    rw [hf]
    unfold fbody nb
    rw [show fncnt (Fr.k ⟨kk, s, t, a, b, c⟩) = 3 from hn]
    simp [abc, ftl, List.append_assoc])
  have HBL : Hid ((bytesF f).length = 24) := Lib.hid (by rw [bytesF_length, hf, show fncnt (Fr.k ⟨kk, s, t, a, b, c⟩) = 3 from hn])
  have HBT : Hid (∀ x ∈ fbody f, x < 256) := Lib.hid (body_lt f (by rw [hf]; show 0 ≤ fcnt (kk : Int); omega))
  have hk8 : IntKind.u8.wrap (kk : Int) = (kk : Int) := by simp [IntKind.wrap, IntKind.bits, IntKind.signed]; omega
  have hk8' : (kk : Int) % 256 = (kk : Int) := by omega
  have es : IntKind.u64.wrap (s : Int) = (s : Int) := by simp [IntKind.wrap, IntKind.bits, IntKind.signed]; omega
  have et : IntKind.u64.wrap (t : Int) = (t : Int) := by simp [IntKind.wrap, IntKind.bits, IntKind.signed]; omega
  obtain ⟨ua, hua⟩ : ∃ u, u = un a := ⟨_, rfl⟩
  have e1a : IntKind.u32.wrap a = (ua : Nat) := by rw [hua]; exact u32_un a
  have e2a : a % 4294967296 = (ua : Nat) := by rw [hua]; unfold un; omega
  have e3a : ua < 4294967296 := by rw [hua]; exact un_lt a
  have e4a : IntKind.u64.wrap (ua : Int) = (ua : Int) := by simp [IntKind.wrap, IntKind.bits, IntKind.signed]; omega
  rw [← hua] at HBD
  clear hua
  obtain ⟨ub, hub⟩ : ∃ u, u = un b := ⟨_, rfl⟩
  have e1b : IntKind.u32.wrap b = (ub : Nat) := by rw [hub]; exact u32_un b
  have e2b : b % 4294967296 = (ub : Nat) := by rw [hub]; unfold un; omega
  have e3b : ub < 4294967296 := by rw [hub]; exact un_lt b
  have e4b : IntKind.u64.wrap (ub : Int) = (ub : Int) := by simp [IntKind.wrap, IntKind.bits, IntKind.signed]; omega
  rw [← hub] at HBD
  clear hub
  obtain ⟨uc, huc⟩ : ∃ u, u = un c := ⟨_, rfl⟩
  have e1c : IntKind.u32.wrap c = (uc : Nat) := by rw [huc]; exact u32_un c
  have e2c : c % 4294967296 = (uc : Nat) := by rw [huc]; unfold un; omega
  have e3c : uc < 4294967296 := by rw [huc]; exact un_lt c
  have e4c : IntKind.u64.wrap (uc : Int) = (uc : Int) := by simp [IntKind.wrap, IntKind.bits, IntKind.signed]; omega
  rw [← huc] at HBD
  clear huc
  clear hw1 hc hn hf
  go_enter Tryd.func8, Tryd.ntmps8
  go_upto_region 1 with fail
  rw [HW1.out]
  clear HW1
  go_wp2_with fail
  refine CN.out.mono ?_
  rintro e wx ⟨rfl, rfl⟩
  clear CN
  go_upto_region 6 with fail
  have hsz1 : w.heap.size < w1.heap.size := K0.lt
  obtain ⟨w2, hw2⟩ : ∃ w2, w1.alloc (.cells #[.int .u8 126, .int .u8 kk] 5) = w2 := ⟨_, rfl⟩
  have hB2 : Below w1.heap.size w1 w2 := by rw [← hw2]; exact (Below.refl _ _).alloc (Nat.le_refl _) _
  have ho2 : w2.ownsRow w1.heap.size 5 1 (.slice (some ⟨w1.heap.size, 0, none⟩) 2 2) 2 (u8s [126, kk]) := by rw [← hw2]; exact own_lit (w := w1) [126, kk] _ 2 rfl (Nat.le_refl _) (by decide)
  have c1 := (K0.below hB2 K0.lt).cell (i := 1) rfl
  have HW2 := Lib.hid hw2
  clear hw2 a3 a4 a5
  obtain ⟨l2, hl2⟩ : ∃ l, l = [126, kk] := ⟨_, rfl⟩
  rw [← hl2] at ho2 HBD
  clear hl2
  go_upto_region 7 with fail
  rw [HW2.out]
  clear HW2 a0
  have P0 := Lib.hid (ref1Put12_any s 2 (by omega) (by omega) w2)
  go_wp2_with fail
  refine P0.out.mono ?_
  rintro e w3 ⟨v3, rfl, ho3, hB3⟩
  clear P0
  have hA3 := ownsRow_below ho2 hB3
  have hs3 := Sl.of_own ho3
  obtain ⟨a3, c3, rfl, _, _⟩ := ownsRow_slice ho3
  have hBB3 := hB2.trans (hB3.mono hB2.size)
  have hz3 := hBB3.size
  clear ho2 ho3 hB3 hB2
  have hl3 : (lowB s 2).length = 2 := lowB_length _ _
  obtain ⟨m3, hm3⟩ : ∃ m, m = lowB s 2 := ⟨_, rfl⟩
  rw [← hm3] at hs3 HBD
  clear hl3 hm3
  go_wp2_with (at_builtin; refine wpList_app Eu8 rfl (.tmp 40) (.tmp 44) rfl w1.heap.size rfl hA3 rfl hs3 (oneCell_u8s _) (by unfold maxLen; omega) (by omega) hz3 ?_)
  intro v4 w4 ho4 hg4 _
  have hB4 := hBB3.grown hg4 hz3 (fun q hq => (hA3.lt q hq).1)
  rw [← u8s_app] at ho4
  obtain ⟨l4, hl4⟩ : ∃ l, l = l2 ++ m3 := ⟨_, rfl⟩
  rw [← hl4] at ho4 HBD
  clear hl4 hA3 hs3 hBB3 hg4 hz3
  obtain ⟨b4, d4, rfl, _, _⟩ := ownsRow_slice ho4
  clear c1
  have c2 := (K0.below hB4 K0.lt).cell (i := 2) rfl
  have P1 := Lib.hid (ref1Put12_any t 4 (by omega) (by omega) w4)
  go_wp2_with fail
  refine P1.out.mono ?_
  rintro e w5 ⟨v5, rfl, ho5, hB5⟩
  clear P1
  have hA5 := ownsRow_below ho4 hB5
  have hs5 := Sl.of_own ho5
  obtain ⟨a5, c5, rfl, _, _⟩ := ownsRow_slice ho5
  have hBB5 := hB4.trans (hB5.mono hB4.size)
  have hz5 := hBB5.size
  clear ho4 ho5 hB5 hB4
  have hl5 : (lowB t 4).length = 4 := lowB_length _ _
  obtain ⟨m5, hm5⟩ : ∃ m, m = lowB t 4 := ⟨_, rfl⟩
  rw [← hm5] at hs5 HBD
  clear hl5 hm5
  go_wp2_with (at_builtin; refine wpList_app Eu8 rfl (.tmp 46) (.tmp 50) rfl w1.heap.size rfl hA5 rfl hs5 (oneCell_u8s _) (by unfold maxLen; omega) (by omega) hz5 ?_)
  intro v6 w6 ho6 hg6 _
  have hB6 := hBB5.grown hg6 hz5 (fun q hq => (hA5.lt q hq).1)
  rw [← u8s_app] at ho6
  obtain ⟨l6, hl6⟩ : ∃ l, l = l4 ++ m5 := ⟨_, rfl⟩
  rw [← hl6] at ho6 HBD
  clear hl6 hA5 hs5 hBB5 hg6 hz5
  obtain ⟨b6, d6, rfl, _, _⟩ := ownsRow_slice ho6
  clear c2
  have c3 := (K0.below hB6 K0.lt).cell (i := 3) rfl
  have P2 := Lib.hid (ref1Put12_any ua 4 (by omega) (by omega) w6)
  go_wp2_with fail
  refine P2.out.mono ?_
  rintro e w7 ⟨v7, rfl, ho7, hB7⟩
  clear P2
  have hA7 := ownsRow_below ho6 hB7
  have hs7 := Sl.of_own ho7
  obtain ⟨a7, c7, rfl, _, _⟩ := ownsRow_slice ho7
  have hBB7 := hB6.trans (hB7.mono hB6.size)
  have hz7 := hBB7.size
  clear ho6 ho7 hB7 hB6
  have hl7 : (lowB ua 4).length = 4 := lowB_length _ _
  obtain ⟨m7, hm7⟩ : ∃ m, m = lowB ua 4 := ⟨_, rfl⟩
  rw [← hm7] at hs7 HBD
  clear hl7 hm7
  go_wp2_with (at_builtin; refine wpList_app Eu8 rfl (.tmp 54) (.tmp 59) rfl w1.heap.size rfl hA7 rfl hs7 (oneCell_u8s _) (by unfold maxLen; omega) (by omega) hz7 ?_)
  intro v8 w8 ho8 hg8 _
  have hB8 := hBB7.grown hg8 hz7 (fun q hq => (hA7.lt q hq).1)
  rw [← u8s_app] at ho8
  obtain ⟨l8, hl8⟩ : ∃ l, l = l6 ++ m7 := ⟨_, rfl⟩
  rw [← hl8] at ho8 HBD
  clear hl8 hA7 hs7 hBB7 hg8 hz7
  obtain ⟨b8, d8, rfl, _, _⟩ := ownsRow_slice ho8
  clear c3
  have c4 := (K0.below hB8 K0.lt).cell (i := 4) rfl
  have P3 := Lib.hid (ref1Put12_any ub 4 (by omega) (by omega) w8)
  go_wp2_with fail
  refine P3.out.mono ?_
  rintro e w9 ⟨v9, rfl, ho9, hB9⟩
  clear P3
  have hA9 := ownsRow_below ho8 hB9
  have hs9 := Sl.of_own ho9
  obtain ⟨a9, c9, rfl, _, _⟩ := ownsRow_slice ho9
  have hBB9 := hB8.trans (hB9.mono hB8.size)
  have hz9 := hBB9.size
  clear ho8 ho9 hB9 hB8
  have hl9 : (lowB ub 4).length = 4 := lowB_length _ _
  obtain ⟨m9, hm9⟩ : ∃ m, m = lowB ub 4 := ⟨_, rfl⟩
  rw [← hm9] at hs9 HBD
  clear hl9 hm9
  go_wp2_with (at_builtin; refine wpList_app Eu8 rfl (.tmp 63) (.tmp 68) rfl w1.heap.size rfl hA9 rfl hs9 (oneCell_u8s _) (by unfold maxLen; omega) (by omega) hz9 ?_)
  intro v10 w10 ho10 hg10 _
  have hB10 := hBB9.grown hg10 hz9 (fun q hq => (hA9.lt q hq).1)
  rw [← u8s_app] at ho10
  obtain ⟨l10, hl10⟩ : ∃ l, l = l8 ++ m9 := ⟨_, rfl⟩
  rw [← hl10] at ho10 HBD
  clear hl10 hA9 hs9 hBB9 hg10 hz9
  obtain ⟨b10, d10, rfl, _, _⟩ := ownsRow_slice ho10
  clear c4
  have c5 := (K0.below hB10 K0.lt).cell (i := 5) rfl
  have P4 := Lib.hid (ref1Put12_any uc 4 (by omega) (by omega) w10)
  go_wp2_with fail
  refine P4.out.mono ?_
  rintro e w11 ⟨v11, rfl, ho11, hB11⟩
  clear P4
  have hA11 := ownsRow_below ho10 hB11
  have hs11 := Sl.of_own ho11
  obtain ⟨a11, c11, rfl, _, _⟩ := ownsRow_slice ho11
  have hBB11 := hB10.trans (hB11.mono hB10.size)
  have hz11 := hBB11.size
  clear ho10 ho11 hB11 hB10
  have hl11 : (lowB uc 4).length = 4 := lowB_length _ _
  obtain ⟨m11, hm11⟩ : ∃ m, m = lowB uc 4 := ⟨_, rfl⟩
  rw [← hm11] at hs11 HBD
  clear hl11 hm11
  go_wp2_with (at_builtin; refine wpList_app Eu8 rfl (.tmp 72) (.tmp 77) rfl w1.heap.size rfl hA11 rfl hs11 (oneCell_u8s _) (by unfold maxLen; omega) (by omega) hz11 ?_)
  intro v12 w12 ho12 hg12 _
  have hB12 := hBB11.grown hg12 hz11 (fun q hq => (hA11.lt q hq).1)
  rw [← u8s_app] at ho12
  obtain ⟨l12, hl12⟩ : ∃ l, l = l10 ++ m11 := ⟨_, rfl⟩
  rw [← hl12] at ho12 HBD
  clear hl12 hA11 hs11 hBB11 hg12 hz11
  obtain ⟨b12, d12, rfl, _, _⟩ := ownsRow_slice ho12
  clear c5
  rw [← HBD.out] at ho12
  have hlen : (fbody f).length = 20 := by have := HBL.out; rw [bytesF, putB_length] at this; omega
  have ho' := ho12
  rw [← hlen] at ho'
  have CP := refCrcPut_any _ (fbody f) w12 (Sl.of_own ho') (by omega) HBT.out
  rw [show ((.slice b12 (fbody f).length d12 : Value)) = .slice b12 20 d12 by rw [hlen]] at CP
  have CP := Lib.hid CP
  have HL := Lib.hid hlen
  clear hlen ho' ho12
  go_wp2_with fail
  refine CP.out.mono ?_
  rintro e w' ⟨v', rfl, ho', hB'⟩
  clear CP
  have hBw : Below w.heap.size w w' := hB1.trans ((hB12.trans (hB'.mono hB12.size)).mono hB1.size)
  go_wp2_with fail
  go_ret2
  unfold PutSaid
  rw [← HF.out]
  refine ⟨⟨_, by rw [HP.out]; rfl, fun _ => ?_, fun h => absurd HP.out h⟩, hBw⟩
  have := ownsRow_base ho' (base' := w.heap.size) (Nat.le_trans (Nat.le_of_lt hsz1) hB12.size)
  rw [show (bytesF f).length = (fbody f).length + 4 from putB_length _]
  exact this

set_option maxRecDepth 20000 in
theorem refPutF_any (f : Fr) (ho : f.Ok) (w : World) : Calls Tryd.prog 8 #[fv f] w (PutSaid f w) := by
  obtain ⟨k, s, t, a, b, c⟩ := f
  have hs := ho.s
  have ht := ho.t
  dsimp only at hs ht
  by_cases hc : fcnt k < 0
  · obtain ⟨w1, hw1⟩ : ∃ w1, w.alloc (.cells #[.int .i64 k, .int .u16 s, .int .u32 t, .int .i32 a, .int .i32 b, .int .i32 c] 25) = w1 := ⟨_, rfl⟩
    have hB1 : Below w.heap.size w w1 := by rw [← hw1]; exact (Below.refl _ _).alloc (Nat.le_refl _) _
    have K0 : Blk w1 w.heap.size 25 (fcs k s t a b c) := by rw [← hw1]; exact Blk.new w _ _
    have CN := refNumbers12_any k w1
    have hr := fcnt_range k
    have HP : Hid (pcode ⟨k, s, t, a, b, c⟩ = 13) := Lib.hid (pcode_kind _ hc)
    have a0 := K0.cell (i := 0) rfl
    obtain ⟨q, hq⟩ : ∃ q, q = fcnt k := ⟨_, rfl⟩
    rw [← hq] at CN hr hc
    have CN := Lib.hid CN
    have HW1 := Lib.hid hw1
    unfold fv
    clear hq ho K0 hw1
    go_enter Tryd.func8, Tryd.ntmps8
    go_upto_region 1 with fail
    rw [HW1.out]
    clear HW1
    go_wp2_with fail
    refine CN.out.mono ?_
    rintro e wx ⟨rfl, rfl⟩
    clear CN
    go_wp2_with fail
    go_ret2
    exact ⟨⟨_, by rw [HP.out]; rfl, fun h => by have := HP.out; omega, fun _ => rfl⟩, hB1⟩
  · obtain ⟨h1, h7⟩ := fcnt_pos (k := k) (by omega)
    obtain ⟨kk, rfl⟩ := Int.eq_ofNat_of_zero_le (show 0 ≤ k by omega)
    have hn3 := fncnt_le (kk : Int)
    unfold fv
    dsimp only
    by_cases hc0 : c = 0 <;> by_cases hb0 : b = 0 <;> by_cases ha0 : a = 0
    all_goals
      rcases (show fncnt (kk : Int) = 0 ∨ fncnt (kk : Int) = 1 ∨ fncnt (kk : Int) = 2 ∨ fncnt (kk : Int) = 3 by omega) with hn | hn | hn | hn
    all_goals first
      | exact refPutF_good3 kk s t a b c hs ht (by omega) (by omega) hn hc w
      | exact refPutF_good2 kk s t a b c hs ht (by omega) (by omega) hn hc hc0 w
      | exact refPutF_good1 kk s t a b c hs ht (by omega) (by omega) hn hc hc0 hb0 w
      | exact refPutF_good0 kk s t a b c hs ht (by omega) (by omega) hn hc hc0 hb0 ha0 w
      | exact refPutF_bad2c kk s t a b c hs ht (by omega) (by omega) hn hc hc0 w
      | exact refPutF_bad1c kk s t a b c hs ht (by omega) (by omega) hn hc hc0 w
      | exact refPutF_bad0c kk s t a b c hs ht (by omega) (by omega) hn hc hc0 w
      | exact refPutF_bad1b kk s t a b c hs ht (by omega) (by omega) hn hc hc0 hb0 w
      | exact refPutF_bad0b kk s t a b c hs ht (by omega) (by omega) hn hc hc0 hb0 w
      | exact refPutF_bad0a kk s t a b c hs ht (by omega) (by omega) hn hc hc0 hb0 ha0 w
end Go.Proofs.YtfkncfjdgbgeeaaDoor
