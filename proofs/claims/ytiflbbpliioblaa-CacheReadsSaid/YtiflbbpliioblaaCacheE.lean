/-
  A cache of a map: what it keeps; a tile used, whatever is at hand: the code's.
-/
import Derived.Test.YtiflbbpliioblaaCacheD
set_option linter.unusedVariables false
set_option linter.unusedSimpArgs false
namespace Go.Proofs.Ytiflbbpliioblaa
open Go Go.RowKit Go.Th Go.Th.Crc

/-- A map that may be. -/
structure MapOk (F : List Int) (W H cell : Nat) (ox oy : Int) : Prop where
  hF : isF W H = true
  hc : isC cell = true
  hl : F.length = W * H
  h16 : ∀ u ∈ F, In16 u
  h1 : In32' ox
  h2 : In32' oy
theorem short10 (F : List Int) (W H cell : Nat) (ox oy : Int) (hl : F.length = W * H) (hW : W ≤ 256) (hH : H ≤ 256) : (chartB F W H cell ox oy).length ≤ 400000 := by
  have h1 := nT_le hW hH
  have h2 := bodyTo_length F W H (nT W H) hl (Nat.le_refl _)
  rw [chartB_length]
  unfold headLen
  omega
theorem own_ne {w : World} {g : Nat} {t : TypeId} {cs : List Value} {base : Nat} {e : TypeId} {size n : Nat} {v : Value} {xs : List Value} (K : Blk w g t cs) (ho : w.ownsRow base e size v n xs) (hne : t ≠ e) : ∀ k, v.ownBlock = some k → k ≠ g := by
  rintro k hk rfl
  rcases ho.2 with ⟨h, _⟩ | ⟨g', cap, cur, h, hb, hg, _⟩
  · subst h; simp [Value.ownBlock] at hk
  · subst h
    simp [Value.ownBlock] at hk
    subst hk
    have h1 : w.heap[g']? = some (.cells cs.toArray t (0, 0)) := K
    rw [h1] at hg
    simp at hg
    exact hne hg.2

/-- What a cache of a map keeps. -/
structure CacheJ (w : World) (base g : Nat) (F : List Int) (W H cell : Nat) (ox oy : Int) (room : Nat) (L : List Nat) (m s : Nat) (ab : Option Addr) (cb : Nat) (aA : Option Addr) (cA : Nat) (aS : Option Addr) (cS : Nat) (T : List (Nat × Value)) (c : Nat) : Prop where
  ck : CK w g (hdr ab (chartB F W H cell ox oy).length cb W H cell ox oy aA (nT W H) cA aS cS room) T c m s
  le : base ≤ g
  ob : w.ownsRow base 5 1 (.slice ab (chartB F W H cell ox oy).length cb) (chartB F W H cell ox oy).length (u8s (chartB F W H cell ox oy))
  oA : w.ownsRow base 3 1 (.slice aA (nT W H) cA) (nT W H) (ints ((List.range (nT W H)).map (offs (chartB F W H cell ox oy) W H)))
  oS : w.ownsRow base 3 1 (.slice aS (nT W H) cS) (nT W H) (ints ((List.range (nT W H)).map (fun i => rd (chartB F W H cell ox oy) (18 + 6 * i + 4) 2)))
  hand : Hand w base F W H T c L
  nd : L.Nodup
  cr : c ≤ room
  lo : 4 ≤ room
  hi : room ≤ 32
def CacheI (w : World) (base g : Nat) (F : List Int) (W H cell : Nat) (ox oy : Int) (room : Nat) (L : List Nat) (m s : Nat) : Prop :=
  ∃ ab cb aA cA aS cS T c, CacheJ w base g F W H cell ox oy room L m s ab cb aA cA aS cS T c
section
variable {w w' : World} {base g : Nat} {F : List Int} {W H cell : Nat} {ox oy : Int} {room : Nat} {L : List Nat} {m s : Nat} {ab : Option Addr} {cb : Nat} {aA : Option Addr} {cA : Nat} {aS : Option Addr} {cS : Nat} {T : List (Nat × Value)} {c : Nat}
/-- Where nothing of its own is turned. -/
theorem CacheJ.turned {S : Nat → Prop} (J : CacheJ w base g F W H cell ox oy room L m s ab cb aA cA aS cS T c) (ht : Turned S w w') (hs : ∀ k, base ≤ k → ¬ S k) : CacheJ w' base g F W H cell ox oy room L m s ab cb aA cA aS cS T c :=
  ⟨J.ck.turned ht (hs g J.le), J.le, ht.own J.ob (fun k hk => hs k (J.ob.lt k hk).1), ht.own J.oA (fun k hk => hs k (J.oA.lt k hk).1), ht.own J.oS (fun k hk => hs k (J.oS.lt k hk).1),
    J.hand.turned ht (fun p hp k hk => hs k ((J.hand.own p hp).2.lt k hk).1), J.nd, J.cr, J.lo, J.hi⟩
theorem CacheI.turned {S : Nat → Prop} (J : CacheI w base g F W H cell ox oy room L m s) (ht : Turned S w w') (hs : ∀ k, base ≤ k → ¬ S k) : CacheI w' base g F W H cell ox oy room L m s := by
  obtain ⟨ab, cb, aA, cA, aS, cS, T, c, J⟩ := J
  exact ⟨ab, cb, aA, cA, aS, cS, T, c, J.turned ht hs⟩
theorem CacheI.below (J : CacheI w base g F W H cell ox oy room L m s) (hb : Below w.heap.size w w') : CacheI w' base g F W H cell ox oy room L m s :=
  J.turned (Turned.below (S := fun _ => False) hb) (fun _ _ h => h)
theorem CacheI.drew (J : CacheI w base g F W H cell ox oy room L m s) : CacheI w.drew base g F W H cell ox oy room L m s := J.turned ((Turned.refl (fun _ => False) w).drew) (fun _ _ h => h)
theorem CacheI.drewN (J : CacheI w base g F W H cell ox oy room L m s) (n : Nat) : CacheI (w.drewN n) base g F W H cell ox oy room L m s := J.turned ((Turned.refl (fun _ => False) w).drewN n) (fun _ _ h => h)
theorem CacheI.lt (J : CacheI w base g F W H cell ox oy room L m s) : g < w.heap.size := by
  obtain ⟨ab, cb, aA, cA, aS, cS, T, c, J⟩ := J
  exact J.ck.lt
theorem CacheI.le (J : CacheI w base g F W H cell ox oy room L m s) : base ≤ g := by
  obtain ⟨ab, cb, aA, cA, aS, cS, T, c, J⟩ := J
  exact J.le
theorem CacheI.len (J : CacheI w base g F W H cell ox oy room L m s) : L.length ≤ room := by
  obtain ⟨ab, cb, aA, cA, aS, cS, T, c, J⟩ := J
  rw [J.hand.length (by rw [J.ck.tl]; have := J.hi; have := J.cr; omega)]
  exact J.cr
theorem CacheI.nodup (J : CacheI w base g F W H cell ox oy room L m s) : L.Nodup := by
  obtain ⟨ab, cb, aA, cA, aS, cS, T, c, J⟩ := J
  exact J.nd
/-- Where just its block is turned. -/
theorem CacheJ.step {T' : List (Nat × Value)} {c' m' s' : Nat} {L' : List Nat} (J : CacheJ w base g F W H cell ox oy room L m s ab cb aA cA aS cS T c) (ht : Turned (fun k => k = g) w w')
    (K : CK w' g (hdr ab (chartB F W H cell ox oy).length cb W H cell ox oy aA (nT W H) cA aS cS room) T' c' m' s') (hh : Hand w' base F W H T' c' L') (hn : L'.Nodup) (hc : c' ≤ room) : CacheJ w' base g F W H cell ox oy room L' m' s' ab cb aA cA aS cS T' c' :=
  ⟨K, J.le, ht.own J.ob (own_ne J.ck.blk J.ob (by decide)), ht.own J.oA (own_ne J.ck.blk J.oA (by decide)), ht.own J.oS (own_ne J.ck.blk J.oS (by decide)), hh, hn, hc, J.lo, J.hi⟩
theorem CacheJ.handT (J : CacheJ w base g F W H cell ox oy room L m s ab cb aA cA aS cS T c) (ht : Turned (fun k => k = g) w w') : Hand w' base F W H T c L :=
  J.hand.turned ht (fun p hp k hk => own_ne J.ck.blk (J.hand.own p hp).2 (by decide) k hk)

/-- A tile read of a map's bytes. -/
theorem read10_any (O : MapOk F W H cell ox oy) (J : CacheJ w base g F W H cell ox oy room L m s ab cb aA cA aS cS T c) (n c' s' : Nat) (hn : n < nT W H) (ht : Turned (fun k => k = g) w w')
    (K : CK w' g (hdr ab (chartB F W H cell ox oy).length cb W H cell ox oy aA (nT W H) cA aS cS room) T c' m s') :
    Calls Try.prog 40 #[.pointer (some ⟨g, 0, none⟩), .int .i64 n] w' fun e w'' => ∃ a cap, e = .returned (.slice a (szT W H n) cap) ∧ w''.ownsRow w'.heap.size 34 1 (.slice a (szT W H n) cap) (szT W H n) (i16s (tileAt F W H n)) ∧ Below w'.heap.size w' w'' := by
  obtain ⟨i1, i2, i3, i4⟩ := isF_yes O.hF
  obtain ⟨i5, i6⟩ := isC_yes O.hc
  have hO := opens_chart (ox := ox) (oy := oy) (F := F) (W := W) (H := H) (cell := cell) O.hl (by omega) (by omega) (by omega)
  have hs := short10 F W H cell ox oy O.hl (by omega) (by omega)
  have ob := ht.own J.ob (own_ne J.ck.blk J.ob (by decide))
  have oA := ht.own J.oA (own_ne J.ck.blk J.oA (by decide))
  have oS := ht.own J.oS (own_ne J.ck.blk J.oS (by decide))
  have htb : tb (chartB F W H cell ox oy) W H n = tileB F W H n := tb_chart O.hl (by omega) (by omega) n hn
  have hok : okB (tb (chartB F W H cell ox oy) W H n) = true := by rw [htb]; exact okB_putB _
  have C := tile9_any (chartB F W H cell ox oy) W H cell _ hO rfl (by omega) (chartB_lt F W H cell ox oy) n (szT W H n) hn cell ox oy (fun zs k => k = 0 ∧ zs = tileAt F W H n)
    (fun _ a' cap' k wx hk hs => by
      rw [htb] at hk hs
      exact tget_tile F W H n O.hF O.hl O.h16 hn a' cap' k wx hk hs)
    ab cb aA cA aS cS w'.drew (Sl.of_own (w := w'.drew) ob) (Sl.of_own (w := w'.drew) oA) (Sl.of_own (w := w'.drew) oS)
  refine read_go g ab _ cb W H cell ox oy aA (nT W H) cA aS cS room T c' m s' n (szT W H n) (tileAt F W H n) w' K (Lib.hid (C.mono ?_))
  rintro e w'' ⟨zs, k, v, he, hR, h3, h4, h5⟩
  refine ⟨zs, k, v, he, ?_, h3, h4, h5⟩
  rcases hR with ⟨h, _⟩ | ⟨_, h⟩
  · rw [hok] at h; cases h
  · exact h

/-- A tile used. -/
theorem use10_any (O : MapOk F W H cell ox oy) (J : CacheI w base g F W H cell ox oy room L m s) (n : Nat) (hn : n < nT W H) (hm : m ≤ 1000000) (hs : s ≤ 1000000) :
    Calls Try.prog 22 #[.pointer (some ⟨g, 0, none⟩), .int .i64 n] w fun e w' => ∃ v, e = .returned v ∧ w'.ownsRow base 34 1 v (szT W H n) (i16s (tileAt F W H n)) ∧
      CacheI w' base g F W H cell ox oy room (useL room L n) (if n ∈ L then m + 1 else m) (if n ∈ L then s else s + 1) ∧ Turned (fun k => k = g) w w' := by
  have hlt := J.lt
  have hle := J.le
  obtain ⟨ab, cb, aA, cA, aS, cS, T, c, J⟩ := J
  have hT := J.ck.tl
  have hcr := J.cr
  have hhi := J.hi
  have hlo := J.lo
  by_cases hin : n ∈ L
  · obtain ⟨i, hi, hp⟩ := J.hand.mem (by omega) n hin
    have hno : ∀ j, j < i → pl T j ≠ n := by
      intro j hj e
      have h1 := J.hand.at (by omega) i hi
      have h2 := J.hand.at (by omega) j (by omega)
      rw [hp] at h1
      rw [e] at h2
      have := (List.getElem?_inj (i := i) (j := j) (by rw [J.hand.length (by omega)]; exact hi) J.nd).1 (h1.trans h2.symm)
      omega
    rw [if_pos hin, if_pos hin]
    refine (useMet_go g _ T c m s n i (by omega) hi hm hp hno w J.ck).mono ?_
    rintro e w' ⟨rfl, K, hTu⟩
    have hrow := (J.handT hTu).row (by omega) i hi
    rw [hp] at hrow
    exact ⟨_, rfl, hrow.2, ⟨ab, cb, aA, cA, aS, cS, _, c, J.step hTu K ((J.handT hTu).met (by omega) J.nd i n room hi hp hcr) (useL_nodup _ _ _ J.nd) hcr⟩, hTu⟩
  · have hno : ∀ j, j < c → pl T j ≠ n := by
      intro j hj e
      have h2 := J.hand.at (by omega) j (by omega)
      rw [e] at h2
      exact hin (List.mem_of_getElem? h2)
    rw [if_neg hin, if_neg hin]
    refine (useMiss_go g _ T c m s n room (szT W H n) (tileAt F W H n) rfl hcr (by omega) hhi hs hno w J.ck (Lib.hid (fun c' s' w' K ht => read10_any O J n c' s' hn ht K))).mono ?_
    rintro e w' ⟨z, k, hk, hkc, rfl, K, ho, hTu⟩
    have hb : base ≤ w.heap.size := by omega
    have ho' := ownsRow_base ho hb
    exact ⟨_, rfl, ho', ⟨ab, cb, aA, cA, aS, cS, _, k + 1, J.step hTu K ((J.handT hTu).miss (by omega) k n room z hk hkc (by omega) hin hn ho') (useL_nodup _ _ _ J.nd) (by omega)⟩, hTu⟩
end
end Go.Proofs.Ytiflbbpliioblaa
