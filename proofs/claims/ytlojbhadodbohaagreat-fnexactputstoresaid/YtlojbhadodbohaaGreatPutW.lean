/-
  Own text, merged of PutM, PutWx.
-/
import Derived.Test.YtlojbhadodbohaaGreatGrpO
import Derived.Test.YtlojbhadodbohaaGreatGrpR
import Derived.Test.YtlojbhadodbohaaGreatGrpW
namespace Go.Proofs.YtlojbhadodbohaaGreat
section
open Go.RowKit
-- Own text. What the laws over groups and a store stand on: numbering with bounds; a block that is laid at whatever time.
set_option maxHeartbeats 2000000 in
theorem markGroups_le (nr : Nat) (F : Nat → Int) (n : Nat) (S : Nat → Sto) (ra : Option Addr) (rc g : Nat) (U : Nat → Nat → Value) (z : Nat → Nat) (lo : Nat) (w : World) (h : FineG w lo nr F n S ra rc g U z) (hr : nr ≤ 1048576) (hn : n ≤ 1048576) (hs : ∀ i, i < n → SmallS (S i)) (ht : sumN (sizeT S) n ≤ 1048576) :
    Calls Tryz.prog 16 #[.agg #[.slice ra nr rc, .slice (some ⟨g, 0, none⟩) n n], .int .i64 1] w fun e w' => ∃ k : Int, 0 ≤ k ∧ k ≤ 10000000 ∧ e = .returned (.int .i64 k) ∧ Within lo (z n) w w' := by
  have H : Hid (FineG w lo nr F n S ra rc g U z) := h
  have HN : Hid ((∀ i, i < n → SmallS (S i)) ∧ sumN (sizeT S) n ≤ 1048576) := ⟨hs, ht⟩
  clear h hs ht
  have hb2 := Blk2.new w (.slice ra nr rc) (.slice (some ⟨g, 0, none⟩) n n) 36
  have HB : Hid (Blk2 (w.alloc (.cells #[.slice ra nr rc, .slice (some ⟨g, 0, none⟩) n n] 36)) w.heap.size (.slice ra nr rc) (.slice (some ⟨g, 0, none⟩) n n)) := hb2
  clear hb2
  go_enter Tryz.func16, Tryz.ntmps16
  go_wp2_with fail
  refine (markRangeS_turn _ lo nr F 1 _ (H.out.1.1.alloc _) (H.out.1.2.1.ofRow H.out.1.1 (below_alloc _ _)) hr (by omega) (by omega)).mono ?_
  rintro e w1 ⟨rfl, _, _, g1⟩
  have hzn : g < z n := H.out.2.2.2.2.2.1 n (Nat.le_refl _)
  have hz0 : z 0 = g + 1 := H.out.2.2.2.2.1
  have hzs : z n ≤ w.heap.size := H.out.2.2.2.2.2.2
  have W1 : Hid (Within lo (g + 1) (w.alloc (.cells #[.slice ra nr rc, .slice (some ⟨g, 0, none⟩) n n] 36)) w1) := Within.of g1 (fun b q => by obtain ⟨h0, h1⟩ := turn_eq q; exact ⟨(H.out.1.1.lt h0 b h1).1, by have := H.out.1.2.2 h0 b h1; omega⟩)
  have g1b := g1.block w.heap.size (by simp) (fun q => by obtain ⟨h0, h1⟩ := turn_eq q.symm; have := (H.out.1.1.lt h0 _ h1).2; omega)
  have HB1 : Hid (Blk2 w1 w.heap.size (.slice ra nr rc) (.slice (some ⟨g, 0, none⟩) n n)) := HB.out.kept g1b
  have gg : w1.heap[g]? = w.heap[g]? := by
    have h1 := g1.block g (by have := H.out.2.2.1.1; simp; omega) (fun q => by obtain ⟨h0, h1⟩ := turn_eq q.symm; have := H.out.1.2.2 h0 _ h1; omega)
    exact h1.trans ((below_alloc w _).block g H.out.2.2.1.1)
  have FL : Hid (FillS w1 g n n U) := H.out.2.2.1.kept (Nat.le_trans (by simp) g1.size) gg
  have FI : Hid (Fine w1 z n S U) := fun i hi => by
    obtain ⟨⟨x1, x2, x3⟩, x4, x5⟩ := (H.out.2.2.2.1.later (below_alloc w (.cells #[.slice ra nr rc, .slice (some ⟨g, 0, none⟩) n n] 36))) i hi
    have ho : OwnIn (S i) (U i 0) (U i 1) (U i 2) (fun j => j < lo ∨ g + 1 ≤ j) := x4.mono (fun j hj => Or.inr (by have := H.out.2.2.2.1.up i (by omega) 0 (Nat.zero_le _); omega))
    exact ⟨⟨x1.within W1.out ho, x2.within x1 W1.out ho, x3⟩, x4, x5⟩
  have hs1 : z n ≤ w1.heap.size := Nat.le_trans hzs (Nat.le_trans (by simp) g1.size)
  clear g1 g1b gg
  obtain ⟨⟨p0, p1⟩, _⟩ := HB1.out
  go_wp2_with fail
  refine (markStoreS_any n n g S U z (1 + nr * 3) _ FL.out FI.out (by omega) hs1 HN.out.1 HN.out.2 (by omega) (by omega) hn).mono ?_
  rintro e w2 ⟨rfl, _, W2⟩
  have hlo : lo ≤ g := H.out.2.1
  have WW : Hid (Within lo (z n) w w2) := ((Within.grow (below_alloc w _)).trans (W1.out.mono (Nat.le_refl _) (by omega))).trans (W2.mono (by omega) (Nat.le_refl _))
  have hmk : sumN (markT S) n ≤ 5242880 := by have := markT_le S n; have := HN.out.2; omega
  clear W2 W1 FL FI HB1 HB p0 p1
  go_wp2
  go_ret
  exact ⟨1 + nr * 3 + (sumN (markT S) n : Nat), by omega, by omega, rfl, WW.out⟩
set_option maxRecDepth 100000 in
set_option maxHeartbeats 2000000 in
theorem markStore_from (S : Sto) (v0 v1 v2 : Value) (B E : Nat) (k0 : Int) (hk0 : 0 ≤ k0) (hk1 : k0 ≤ 10000000) (w : World) (h : St w B S v0 v1 v2) (hf : FreeS w S v0 v1 v2) (ha : ApartS S v0 v1 v2) (hE : (0 < S.nc → ∀ k, v0.ownBlock = some k → k < E) ∧ (0 < S.nl → ∀ k, v1.ownBlock = some k → k < E) ∧ (0 < S.nw → ∀ k, v2.ownBlock = some k → k < E)) (hEw : E ≤ w.heap.size) (hc : S.nc ≤ 1048576) (hl : S.nl ≤ 1048576) (hk : S.nw ≤ 1048576) :
    Calls Tryz.prog 17 #[.agg #[v0, v1, v2], .int .i64 k0] w fun e w' => e = .returned (.int .i64 (k0 + S.nc * 3 + S.nl * 5 + S.nw * 4)) ∧ Within B E w w' := by
  obtain ⟨a0, c0, a1, c1, a2, c2, rfl, rfl, rfl⟩ := h.form
  have H : Hid (St w B S (.slice a0 S.nc c0) (.slice a1 S.nl c1) (.slice a2 S.nw c2) ∧ FreeS w S (.slice a0 S.nc c0) (.slice a1 S.nl c1) (.slice a2 S.nw c2)) := ⟨h, hf⟩
  obtain ⟨z1, z2, hz, A0, A1, A2⟩ := ha
  have HA : Hid (z1 ≤ z2 ∧ (0 < S.nc → ∀ k, (Value.slice a0 S.nc c0).ownBlock = some k → B ≤ k ∧ k < E ∧ k < z1) ∧ (0 < S.nl → ∀ k, (Value.slice a1 S.nl c1).ownBlock = some k → B ≤ k ∧ k < E ∧ z1 ≤ k ∧ k < z2) ∧ (0 < S.nw → ∀ k, (Value.slice a2 S.nw c2).ownBlock = some k → B ≤ k ∧ k < E ∧ z2 ≤ k)) :=
    ⟨hz, fun hn k q => ⟨(h.1.lt hn k q).1, hE.1 hn k q, A0 hn k q⟩, fun hn k q => ⟨(h.2.1.lt hn k q).1, hE.2.1 hn k q, A1 hn k q⟩, fun hn k q => ⟨(h.2.2.lt hn k q).1, hE.2.2 hn k q, A2 hn k q⟩⟩
  clear h hf hz A0 A1 A2 hE
  go_enter Tryz.func17, Tryz.ntmps17
  go_wp2_with fail
  refine (markCellS_turn _ B S.nc S.c k0 _ (H.out.1.1.alloc _) (H.out.2.1.ofRow H.out.1.1 (below_alloc _ _)) hc (by omega) (by omega)).mono ?_
  rintro e w1 ⟨rfl, _, _, g1⟩
  have hb1 : w1.heap[w.heap.size]? = (w.alloc (.cells #[.slice a0 S.nc c0, .slice a1 S.nl c1, .slice a2 S.nw c2] 45)).heap[w.heap.size]? := g1.block _ (by simp) (fun q => by have := turn_off HA.out.2.1 _ q.symm; omega)
  have W1 : Hid (Within B E w w1) := (Within.grow (below_alloc w _)).trans (Within.of g1 (fun b q => by have := turn_off HA.out.2.1 b q; omega))
  have K1 : Hid (Blk3 w1 w.heap.size (.slice a0 S.nc c0) (.slice a1 S.nl c1) (.slice a2 S.nw c2)) := (Blk3.new w _ _ _ _).kept hb1
  have R1 : Hid (Row w1 B 5 S.nl S.l (.slice a1 S.nl c1) ∧ Free w1 (S.nl * 5) (.slice a1 S.nl c1)) :=
    ⟨(H.out.1.2.1.alloc _).turned g1 (fun hn k q e => by have := HA.out.2.2.1 hn k q; have := turn_off HA.out.2.1 k e.symm; omega), (H.out.2.2.1.ofRow H.out.1.2.1 (below_alloc _ _)).turned (H.out.1.2.1.alloc _) g1 (fun hn k q e => by have := HA.out.2.2.1 hn k q; have := turn_off HA.out.2.1 k e.symm; omega)⟩
  have T1 : Hid (Row w1 B 4 S.nw S.k (.slice a2 S.nw c2) ∧ Free w1 (S.nw * 4) (.slice a2 S.nw c2)) :=
    ⟨(H.out.1.2.2.alloc _).turned g1 (fun hn k q e => by have := HA.out.2.2.2 hn k q; have := turn_off HA.out.2.1 k e.symm; have := HA.out.1; omega), (H.out.2.2.2.ofRow H.out.1.2.2 (below_alloc _ _)).turned (H.out.1.2.2.alloc _) g1 (fun hn k q e => by have := HA.out.2.2.2 hn k q; have := turn_off HA.out.2.1 k e.symm; have := HA.out.1; omega)⟩
  obtain ⟨⟨p0, p1, p2⟩, _⟩ := K1.out
  clear hb1 g1 H
  go_wp2_with fail
  refine (markLockS_turn _ B S.nl S.l _ _ R1.out.1 R1.out.2 hl (by omega) (by omega)).mono ?_
  rintro e w2 ⟨rfl, _, _, g2⟩
  have W2 : Hid (Within B E w w2) := W1.out.trans (Within.of g2 (fun b q => by have := turn_off HA.out.2.2.1 b q; omega))
  have K2 : Hid (Blk3 w2 w.heap.size (.slice a0 S.nc c0) (.slice a1 S.nl c1) (.slice a2 S.nw c2)) := K1.out.kept (g2.block _ K1.out.lt (fun q => by have := turn_off HA.out.2.2.1 _ q.symm; omega))
  have T2 : Hid (Row w2 B 4 S.nw S.k (.slice a2 S.nw c2) ∧ Free w2 (S.nw * 4) (.slice a2 S.nw c2)) :=
    ⟨T1.out.1.turned g2 (fun hn k q e => by have := HA.out.2.2.2 hn k q; have := turn_off HA.out.2.2.1 k e.symm; omega), T1.out.2.turned T1.out.1 g2 (fun hn k q e => by have := HA.out.2.2.2 hn k q; have := turn_off HA.out.2.2.1 k e.symm; omega)⟩
  clear p0 p1 p2 g2 T1 R1 K1 W1
  obtain ⟨⟨p0, p1, p2⟩, _⟩ := K2.out
  go_wp2_with fail
  refine (markWriteS_turn _ B S.nw S.k _ _ T2.out.1 T2.out.2 hk (by omega) (by omega)).mono ?_
  rintro e w3 ⟨rfl, _, _, g3⟩
  have W3 : Hid (Within B E w w3) := W2.out.trans (Within.of g3 (fun b q => by have := turn_off HA.out.2.2.2 b q; omega))
  clear p0 p1 p2 g3 T2 K2 W2
  go_wp2
  go_ret
  exact ⟨rfl, W3.out⟩
def SzLe (n : Nat) (S : Nat → Sto) (left r : Int) : Prop := r = -1 ∨ (0 ≤ r ∧ n ≤ 1048576 ∧ r + ((sumN (sizeT S) n : Nat) : Int) ≤ left ∧ ∀ i, i < n → SmallS (S i))
set_option maxRecDepth 10000 in
set_option maxHeartbeats 2000000 in
theorem szStoreS_le (n : Nat) (S : Nat → Sto) (V : Nat → Nat → Value) (v : Value) (B : Nat) (left : Int) (w : World) (h : Stos w B n S V v) (hn : n ≤ 9223372036854775807) (hs : ∀ i, i < n → BigS (S i)) (h0 : 0 ≤ left) (h2 : left ≤ 1048576) :
    Calls Tryz.prog 30 #[v, .int .i64 left] w fun e w' => ∃ r, e = .returned (.int .i64 r) ∧ SzLe n S left r ∧ Below w.heap.size w w' := by
  obtain ⟨ao, cp, rfl⟩ := h.form
  have H : Hid (Stos w B n S V (.slice ao n cp)) := h
  have HN : Hid (∀ i, i < n → BigS (S i)) := hs
  clear h hs
  by_cases hl : left < n
  · have d : decide (left - n < 0) = true := decide_eq_true (by omega)
    go_enter Tryz.func30, Tryz.ntmps30
    go_wp2
    go_ret
    exact ⟨-1, rfl, Or.inl rfl, Below.refl _ _⟩
  have d : decide (left - n < 0) = false := decide_eq_false (by omega)
  go_enter Tryz.func30, Tryz.ntmps30
  go_wp2
  go_loopw [1, 5] (fun j i wr => ∃ (k : Nat) (L : Int), k ≤ n ∧ j = .int .i64 L ∧ i = .int .i64 k ∧ Hid ((0 ≤ L ∧ L + (sumN (sizeT S) k : Nat) ≤ left) ∧ ∀ i, i < k → SmallS (S i)) ∧ Hid (Below w.heap.size w wr)) (fun _ i _ => n - (intOf i).toNat)
  case atStart => exact ⟨0, left - n, Nat.zero_le _, rfl, rfl, ⟨by simp only [sumN]; omega, fun i hi => absurd hi (Nat.not_lt_zero i)⟩, Below.refl _ _⟩
  case round =>
    obtain ⟨k, L, hk, rfl, rfl, hL, hR⟩ := hrel
    by_cases hlt : k < n
    · obtain ⟨g, o, rfl, _, hg, ⟨c0, c1, c2⟩, sk⟩ := H.out.at hlt
      have b0 := hR.out.cell (p := ⟨g, o + k * 3, none⟩) hg
      rw [c0] at b0
      have b1 := hR.out.cell (p := ⟨g, o + k * 3 + 1, none⟩) hg
      rw [c1] at b1
      have b2 := hR.out.cell (p := ⟨g, o + k * 3 + 2, none⟩) hg
      rw [c2] at b2
      clear c0 c1 c2
      obtain ⟨a0, d0, a1, d1, a2, d2, e0, e1, e2⟩ := sk.form
      rw [e0] at b0
      rw [e1] at b1
      rw [e2] at b2
      clear sk e0 e1 e2
      obtain ⟨n0, hn0⟩ : ∃ x, (S k).nc = x := ⟨_, rfl⟩
      obtain ⟨n1, hn1⟩ : ∃ x, (S k).nl = x := ⟨_, rfl⟩
      obtain ⟨n2, hn2⟩ : ∃ x, (S k).nw = x := ⟨_, rfl⟩
      rw [hn0] at b0
      rw [hn1] at b1
      rw [hn2] at b2
      have hB : Hid (n0 ≤ 9223372036854775807 ∧ n1 ≤ 9223372036854775807 ∧ n2 ≤ 9223372036854775807) := by
        have := HN.out k hlt
        unfold BigS at this
        rw [hn0, hn1, hn2] at this
        exact this
      have hE : Hid ((S k).nc = n0 ∧ (S k).nl = n1 ∧ (S k).nw = n2) := ⟨hn0, hn1, hn2⟩
      clear hn0 hn1 hn2
      by_cases hfit : (n0 : Int) + n1 + n2 ≤ L
      · go_wp2_with fail
        refine (szStore_ok L _ _ _ _ _ _ _ _ _ _ hfit hL.out.1.1 (by have := hL.out.1; omega) hB.out.1 hB.out.2.1 hB.out.2.2).mono ?_
        rintro e w1 ⟨rfl, q1⟩
        have HB : Hid (Below w.heap.size w w1) := hR.out.trans (q1.mono hR.out.size)
        have dd : decide (L - n0 - n1 - n2 < 0) = false := decide_eq_false (by omega)
        clear q1 hR b0 b1 b2
        go_wp2
        go_roundw
        case rel =>
          have hst : sumN (sizeT S) (k + 1) = sumN (sizeT S) k + (n0 + n1 + n2) := by show sumN (sizeT S) k + ((S k).nc + (S k).nl + (S k).nw) = _; rw [hE.out.1, hE.out.2.1, hE.out.2.2]
          refine ⟨k + 1, L - n0 - n1 - n2, by omega, by go_num, by go_num, ⟨by have := hL.out.1; rw [hst]; omega, fun i hi => ?_⟩, HB⟩
          by_cases q : i = k
          · subst q
            have h1 := hL.out.1
            unfold SmallS
            rw [hE.out.1, hE.out.2.1, hE.out.2.2]
            omega
          · exact hL.out.2 i (by omega)
        case measure => simp [intOf]; omega
      · go_wp2_with fail
        refine (szStore_no L _ _ _ _ _ _ _ _ _ _ (by omega) hL.out.1.1 (by have := hL.out.1; omega) hB.out.1 hB.out.2.1 hB.out.2.2).mono ?_
        rintro e w1 ⟨rfl, q1⟩
        have HB : Hid (Below w.heap.size w w1) := hR.out.trans (q1.mono hR.out.size)
        clear q1 hR b0 b1 b2
        go_wp2
        go_ret
        exact ⟨-1, rfl, Or.inl rfl, HB.out⟩
    · obtain rfl : k = n := by omega
      go_wp2
      go_ret
      exact ⟨L, rfl, Or.inr ⟨hL.out.1.1, by omega, by have := hL.out.1; omega, hL.out.2⟩, hR.out⟩

set_option maxHeartbeats 1000000 in
theorem szGroups_le (nr : Nat) (F : Nat → Int) (n : Nat) (S : Nat → Sto) (V : Nat → Nat → Value) (vr vs : Value) (B : Nat) (w : World) (h : Grs w B nr F n S V vr vs) (hr : nr ≤ 9223372036854775807) (hn : n ≤ 9223372036854775807) (hs : ∀ i, i < n → BigS (S i)) :
    Calls Tryz.prog 7 #[.agg #[vr, vs], .int .i64 1048576] w fun e w' => ∃ r, e = .returned (.int .i64 r) ∧ (r = -1 ∨ ((0 ≤ r ∧ r ≤ 1048576) ∧ nr ≤ 1048576 ∧ (n ≤ 1048576 ∧ sumN (sizeT S) n ≤ 1048576) ∧ ∀ i, i < n → SmallS (S i))) ∧ Below w.heap.size w w' := by
  obtain ⟨a0, c0, a1, c1, rfl, rfl⟩ := h.form
  have H : Hid (Grs w B nr F n S V (.slice a0 nr c0) (.slice a1 n c1)) := h
  have HN : Hid (∀ i, i < n → BigS (S i)) := hs
  clear h hs
  by_cases hl : (1048576 : Int) < nr
  · go_enter Tryz.func7, Tryz.ntmps7
    go_wp2_with fail
    refine (szRangeS_no _ _ _ 1048576 _ hl (by omega) (by omega) hr).mono ?_
    rintro e w1 ⟨rfl, rfl⟩
    go_wp2
    go_ret
    exact ⟨-1, rfl, Or.inl rfl, below_alloc _ _⟩
  go_enter Tryz.func7, Tryz.ntmps7
  go_wp2_with fail
  refine (szRangeS_ok _ _ _ 1048576 _ (by omega) (by omega)).mono ?_
  rintro e w1 ⟨rfl, hw1⟩
  have d : decide ((1048576 : Int) - nr < 0) = false := decide_eq_false (by omega)
  have k1 : Blk2 w1 w.heap.size (.slice a0 nr c0) (.slice a1 n c1) := by rw [hw1]; exact Blk2.new w _ _ _
  have B1 : Hid (Below w.heap.size w w1) := by rw [hw1]; exact below_alloc _ _
  clear hw1
  obtain ⟨⟨_, x1⟩, _⟩ := k1
  go_wp2_with fail
  refine (szStoreS_le n S V _ B (1048576 - nr) _ (H.out.2.later B1.out) hn HN.out (by omega) (by omega)).mono ?_
  rintro e w2 ⟨r, rfl, hA, q2⟩
  have B2 : Hid (Below w.heap.size w w2) := B1.out.trans (q2.mono B1.out.size)
  clear q2 x1
  rcases hA with rfl | ⟨h1, h3, h2, h4⟩
  · go_wp2
    go_ret
    exact ⟨-1, rfl, Or.inl rfl, B2.out⟩
  · have dr : decide (r < 0) = false := decide_eq_false (by omega)
    have HA : Hid (∀ i, i < n → SmallS (S i)) := h4
    clear h4
    go_wp2
    go_ret
    exact ⟨r, rfl, Or.inr ⟨⟨h1, by omega⟩, by omega, ⟨h3, by omega⟩, HA.out⟩, B2.out⟩
theorem hid {p : Prop} (h : p) : Hid p := h
/-- A block of three cells that has nothing yet. -/
def Z3 (x : World) (W : Nat) : Prop := Blk3 x W (.int .i64 0) (.slice none 0 0) (.slice none 0 0) ∧ ∀ q, x.cell? ⟨W, 3 + q, none⟩ = none
theorem Z3.new (w : World) (t : TypeId) : Z3 (w.alloc (.cells #[.int .i64 0, .slice none 0 0, .slice none 0 0] t)) w.heap.size := by
  refine ⟨Blk3.new w _ _ _ _, fun q => ?_⟩
  rw [World.cell?_alloc_mark]
  simp
theorem Z3.later {x x' : World} {W : Nat} (h : Z3 x W) (hb : Below x.heap.size x x') : Z3 x' W := ⟨h.1.later hb, fun q => (hb.cell (p := ⟨W, 3 + q, none⟩) h.1.lt).trans (h.2 q)⟩
theorem Row.notZ {x : World} {B m n : Nat} {F : Nat → Int} {v : Value} {W : Nat} (h : Row x B m n F v) (hm : 2 ≤ m) (hz : Z3 x W) : 0 < n → ∀ k, v.ownBlock = some k → k < W ∨ W + 1 ≤ k := by
  intro hn k hk
  have hne : k ≠ W := by
    rintro rfl
    obtain ⟨ao, cp, rfl, h⟩ := h
    obtain ⟨g, o, rfl, _, _, hc⟩ := h hn
    simp only [Value.ownBlock, Option.some.injEq] at hk
    subst hk
    have h2 : 2 ≤ n * m := Nat.le_trans hm (Nat.le_mul_of_pos_left m hn)
    obtain ⟨⟨c0, c1, c2⟩, _⟩ := hz.1
    match o with
    | 0 =>
      have := hc 1 (by omega)
      rw [Nat.zero_add, c1] at this
      simp at this
    | 1 =>
      have := hc 0 (by omega)
      rw [Nat.add_zero, c1] at this
      simp at this
    | 2 =>
      have := hc 0 (by omega)
      rw [Nat.add_zero, c2] at this
      simp at this
    | o + 3 =>
      have := hc 0 (by omega)
      rw [Nat.add_zero, Nat.add_comm o 3, hz.2 o] at this
      cases this
  omega
theorem St.notZ {x : World} {B : Nat} {S : Sto} {u0 u1 u2 : Value} {W : Nat} (h : St x B S u0 u1 u2) (hz : Z3 x W) : OwnIn S u0 u1 u2 (fun k => k < W ∨ W + 1 ≤ k) := ⟨h.1.notZ (by omega) hz, h.2.1.notZ (by omega) hz, h.2.2.notZ (by omega) hz⟩
theorem within_set3 (x : World) (W : Nat) (u0 u1 u2 : Value) : Within W (W + 1) x (((x.setCell ⟨W, 0, none⟩ u0).setCell ⟨W, 1, none⟩ u1).setCell ⟨W, 2, none⟩ u2) := ((within_set x W 0 u0).trans (within_set _ W 1 u1)).trans (within_set _ W 2 u2)
theorem Grs.setZ {x : World} {B nr : Nat} {F : Nat → Int} {n : Nat} {S : Nat → Sto} {U : Nat → Nat → Value} {vr vs : Value} {W : Nat} (h : Grs x B nr F n S U vr vs) (hz : Z3 x W) (u0 u1 u2 : Value) : Grs (((x.setCell ⟨W, 0, none⟩ u0).setCell ⟨W, 1, none⟩ u1).setCell ⟨W, 2, none⟩ u2) B nr F n S U vr vs := by
  have hw := within_set3 x W u0 u1 u2
  refine ⟨h.1.within hw (h.1.notZ (by omega) hz), ?_, fun i hi => (h.2.2 i hi).within hw ((h.2.2 i hi).notZ hz)⟩
  obtain ⟨⟨ao, cp, rfl, h1⟩, h2⟩ := h.2
  refine ⟨ao, cp, rfl, fun hn => ?_⟩
  obtain ⟨g, o, rfl, hB, hg, hc⟩ := h1 hn
  have hne : g ≠ W := by
    rintro rfl
    obtain ⟨a0, _, e0⟩ := (h2 0 hn).1.form
    obtain ⟨⟨c0, c1, c2⟩, _⟩ := hz.1
    obtain ⟨x0, x1, x2⟩ := hc 0 hn
    simp only [Nat.zero_mul, Nat.add_zero] at x0 x1 x2
    match o with
    | 0 =>
      rw [c0, e0] at x0
      simp at x0
    | o + 1 =>
      rw [show o + 1 + 2 = 3 + o by omega, hz.2 o] at x2
      cases x2
  have hb := hw.block g hg (by omega)
  exact ⟨g, o, rfl, hB, Nat.lt_of_lt_of_le hg hw.size, fun i hi => ⟨(World.cell?_of_block (w := x) (a := ⟨g, o + i * 3, none⟩) hb).trans (hc i hi).1, (World.cell?_of_block (w := x) (a := ⟨g, o + i * 3 + 1, none⟩) hb).trans (hc i hi).2.1, (World.cell?_of_block (w := x) (a := ⟨g, o + i * 3 + 2, none⟩) hb).trans (hc i hi).2.2⟩⟩
end

section
open Go.RowKit
-- Own text. The walk of the law FnExactPutStore, over what the model and the program answer: a code and groups.
/-- The boxes of the law's own groups and store, and that nothing old has turned. -/
def BoxP (w : World) (vr vs t0 t1 t2 : Value) (x : World) : Prop := Below w.heap.size w x ∧ Blk2 x w.heap.size vr vs ∧ Blk3 x (w.heap.size + 1) t0 t1 t2
theorem BoxP.later {w x x' : World} {vr vs t0 t1 t2 : Value} (h : BoxP w vr vs t0 t1 t2 x) (hb : Below x.heap.size x x') : BoxP w vr vs t0 t1 t2 x' := ⟨h.1.trans (hb.mono h.1.size), h.2.1.later hb, h.2.2.later hb⟩
/-- Behind the model's answer: what was handed over (blocks XB, YB) and what the program answered (block GB); nothing of what was there has turned. -/
structure EnvP (w5 : World) (XB YB GB : Nat) (c : Int) (x0 x1 y0 y1 y2 g0 g1 : Value) (x : World) : Prop where
  past : Below w5.heap.size w5 x
  kx : Blk2 x XB x0 x1
  ky : Blk3 x YB y0 y1 y2
  kg : Blk3 x GB (.int .i64 c) g0 g1
theorem EnvP.later {w5 : World} {XB YB GB : Nat} {c : Int} {x0 x1 y0 y1 y2 g0 g1 : Value} {x x' : World} (h : EnvP w5 XB YB GB c x0 x1 y0 y1 y2 g0 g1 x) (hb : Below x.heap.size x x') : EnvP w5 XB YB GB c x0 x1 y0 y1 y2 g0 g1 x' := ⟨h.past.trans (hb.mono h.past.size), h.kx.later hb, h.ky.later hb, h.kg.later hb⟩
theorem EnvP.within {w5 : World} {XB YB GB : Nat} {c : Int} {x0 x1 y0 y1 y2 g0 g1 : Value} {x x' : World} {B E : Nat} (h : EnvP w5 XB YB GB c x0 x1 y0 y1 y2 g0 g1 x) (hw : Within B E x x') (hL : w5.heap.size ≤ B) (hX : XB < B ∨ E ≤ XB) (hY : YB < B ∨ E ≤ YB) (hG : GB < B ∨ E ≤ GB) : EnvP w5 XB YB GB c x0 x1 y0 y1 y2 g0 g1 x' :=
  ⟨hw.below h.past hL, h.kx.kept (hw.block _ h.kx.lt hX), h.ky.kept (hw.block _ h.ky.lt hY), h.kg.kept (hw.block _ h.kg.lt hG)⟩
theorem BoxP.setW {w x x' : World} {vr vs t0 t1 t2 : Value} {W : Nat} (h : BoxP w vr vs t0 t1 t2 x) (hw : Within W (W + 1) x x') (hW : w.heap.size + 2 ≤ W) : BoxP w vr vs t0 t1 t2 x' :=
  ⟨hw.below h.1 (by omega), h.2.1.kept (hw.block _ h.2.1.lt (Or.inl (by omega))), h.2.2.kept (hw.block _ h.2.2.lt (Or.inl (by omega)))⟩
set_option maxRecDepth 100000 in
set_option maxHeartbeats 16000000 in
theorem exactPutStore_walk (nr : Nat) (F : Nat → Int) (n : Nat) (S : Nat → Sto) (V : Nat → Nat → Value) (vr vs : Value) (pl : Int) (T : Sto) (t0 t1 t2 : Value) (w : World) (h : Grs w 0 nr F n S V vr vs) (h' : St w 0 T t0 t1 t2) (hr : nr ≤ 9223372036854775807) (hn : n ≤ 9223372036854775807) (hs : ∀ i, i < n → BigS (S i)) (ht : BigS T)
    (ans : (∀ i, i < n → SmallS (S i)) → SmallS T → ∃ c nr' F' n' R, SmallG nr' n' R ∧ (∀ V' y0 y1 z0 z1 z2 x, Grs x 0 nr F n S V' y0 y1 → St x 0 T z0 z1 z2 → Calls Tryz.prog 9 #[.agg #[y0, y1], .int .i64 pl, .agg #[z0, z1, z2]] x (ResGw x c nr' F' n' R)) ∧ (∀ V' y0 y1 z0 z1 z2 x, Grs x 0 nr F n S V' y0 y1 → St x 0 T z0 z1 z2 → Calls Tryz.prog 12 #[.agg #[y0, y1], .int .i64 pl, .agg #[z0, z1, z2]] x (ResGr x c nr' F' n' R))) :
    Calls Tryz.prog 3 #[.agg #[vr, vs], .int .i64 pl, .agg #[t0, t1, t2]] w fun e w' => e = .returned (.bool true) ∧ Below w.heap.size w w' := by
  obtain ⟨a0, c0, a1, c1, rfl, rfl⟩ := h.form
  obtain ⟨b0, d0, b1, d1, b2, d2, rfl, rfl, rfl⟩ := h'.form
  have H : Hid (Grs w 0 nr F n S V (.slice a0 nr c0) (.slice a1 n c1) ∧ St w 0 T (.slice b0 T.nc d0) (.slice b1 T.nl d1) (.slice b2 T.nw d2)) := ⟨h, h'⟩
  have HN : Hid (∀ i, i < n → BigS (S i)) := hs
  have P0 : Hid (BoxP w (.slice a0 nr c0) (.slice a1 n c1) (.slice b0 T.nc d0) (.slice b1 T.nl d1) (.slice b2 T.nw d2) ((w.alloc (.cells #[.slice a0 nr c0, .slice a1 n c1] 25)).alloc (.cells #[.slice b0 T.nc d0, .slice b1 T.nl d1, .slice b2 T.nw d2] 30))) := ⟨(below_alloc _ _).alloc (by simp) _, (Blk2.new w _ _ _).later (below_alloc _ _), by
    have := Blk3.new (w.alloc (.cells #[.slice a0 nr c0, .slice a1 n c1] 25)) (.slice b0 T.nc d0) (.slice b1 T.nl d1) (.slice b2 T.nw d2) 30
    rw [World.size_alloc] at this
    exact this⟩
  clear h h' hs
  go_enter Tryz.func3, Tryz.ntmps3
  go_wp2_with fail
  refine (szGroups_le nr F n S V _ _ 0 _ ((H.out.1.alloc _).alloc _) hr hn HN.out).mono ?_
  rintro e w1 ⟨rr, rfl, hA, q1⟩
  have P1 : Hid (BoxP w (.slice a0 nr c0) (.slice a1 n c1) (.slice b0 T.nc d0) (.slice b1 T.nl d1) (.slice b2 T.nw d2) w1) := P0.out.later q1
  clear q1 P0
  rcases hA with rfl | ⟨⟨r0, r1⟩, s1, ⟨s2, s3⟩, s4⟩
  · go_wp2
    go_ret
    exact ⟨rfl, P1.out.1⟩
  have dr : decide (rr < 0) = false := decide_eq_false (by omega)
  have HB : Hid (nr ≤ 1048576 ∧ n ≤ 1048576 ∧ (∀ i, i < n → SmallS (S i)) ∧ sumN (sizeT S) n ≤ 1048576) := ⟨s1, s2, s4, s3⟩
  obtain ⟨_, _, ⟨f0, f1, f2⟩, _⟩ := P1.out
  have hlb := World.block_lt_of_cell? w1 _ f0
  obtain ⟨hc, hl, hk⟩ := ht
  by_cases hs : rr < (T.nc : Int) + T.nl + T.nw
  · clear ans s4
    go_wp2_with fail
    refine (szStore_no rr _ _ _ _ _ _ _ _ _ _ hs r0 r1 hc hl hk).mono ?_
    rintro e w2 ⟨rfl, q2⟩
    have P2 : Hid (BoxP w (.slice a0 nr c0) (.slice a1 n c1) (.slice b0 T.nc d0) (.slice b1 T.nl d1) (.slice b2 T.nw d2) w2) := P1.out.later q2
    clear q2 P1 f0 f1 f2
    go_wp2
    go_ret
    exact ⟨rfl, P2.out.1⟩
  have hs' : (T.nc : Int) + T.nl + T.nw ≤ rr := by omega
  have HT : Hid (T.nc ≤ 1048576 ∧ T.nl ≤ 1048576 ∧ T.nw ≤ 1048576) := ⟨by omega, by omega, by omega⟩
  obtain ⟨c, nr', F', n', R, hR, hspec, himpl⟩ := ans s4 HT.out
  have HR : Hid (SmallG nr' n' R) := hR
  have HS : Hid (∀ V' y0 y1 z0 z1 z2 x, Grs x 0 nr F n S V' y0 y1 → St x 0 T z0 z1 z2 → Calls Tryz.prog 9 #[.agg #[y0, y1], .int .i64 pl, .agg #[z0, z1, z2]] x (ResGw x c nr' F' n' R)) := hspec
  have HI : Hid (∀ V' y0 y1 z0 z1 z2 x, Grs x 0 nr F n S V' y0 y1 → St x 0 T z0 z1 z2 → Calls Tryz.prog 12 #[.agg #[y0, y1], .int .i64 pl, .agg #[z0, z1, z2]] x (ResGr x c nr' F' n' R)) := himpl
  have dR : decide ((1 : Int) + nr' * 3 + (sumN (markT R) n' : Nat) < 0) = false := decide_eq_false (by omega)
  clear hspec himpl ans hR s4 hs
  go_wp2_with fail
  refine (szStore_ok rr _ _ _ _ _ _ _ _ _ _ hs' r0 r1 hc hl hk).mono ?_
  rintro e w2 ⟨rfl, q2⟩
  have P2 : Hid (BoxP w (.slice a0 nr c0) (.slice a1 n c1) (.slice b0 T.nc d0) (.slice b1 T.nl d1) (.slice b2 T.nw d2) w2) := P1.out.later q2
  have dz : decide (rr - T.nc - T.nl - T.nw < 0) = false := decide_eq_false (by omega)
  clear q2 P1 f0 f1 f2 hc hl hk hs' hlb
  go_wp2_with fail
  have hS0 : BoxP w (.slice a0 nr c0) (.slice a1 n c1) (.slice b0 T.nc d0) (.slice b1 T.nl d1) (.slice b2 T.nw d2) w2.drew := P2.out.later (below_dr (Below.refl _ _) 1)
  refine wp_region_held_drew (S := BoxP w (.slice a0 nr c0) (.slice a1 n c1) (.slice b0 T.nc d0) (.slice b1 T.nl d1) (.slice b2 T.nw d2)) (by kernel_rfl) hS0 (fun hS => ?_)
  clear hS0 P2 dr dz r0 r1 s1 s2 s3 hr hn
  generalize w2.drew = y2 at hS ⊢
  refine wpAnyH_take (i := 0) (v := ?_) rfl (by kernel_rfl) (by kernel_rfl) (by kernel_rfl) (fun _ _ _ h => h) (Or.inl ⟨by kernel_rfl, ?_⟩) hS ?_
  rotate_left
  · intro wx hx
    obtain ⟨_, ⟨⟨hx0, hx1⟩, _⟩, ⟨hx2, hx3, hx4⟩, _⟩ := hx
    go_simp
    try with_reducible rfl
  refine wpAnyH_take (i := 2) (v := ?_) rfl (by kernel_rfl) (by kernel_rfl) (by kernel_rfl) (fun _ _ _ h => h) (Or.inl ⟨by kernel_rfl, ?_⟩) hS ?_
  rotate_left
  · intro wx hx
    obtain ⟨_, ⟨⟨hx0, hx1⟩, _⟩, ⟨hx2, hx3, hx4⟩, _⟩ := hx
    go_simp
    try with_reducible rfl
  refine wpAnyH_take (i := 3) (v := ?_) rfl (by kernel_rfl) (by kernel_rfl) (by kernel_rfl) (fun _ _ _ h => h) (Or.inl ⟨by kernel_rfl, ?_⟩) hS ?_
  rotate_left
  · intro wx hx
    obtain ⟨_, ⟨⟨hx0, hx1⟩, _⟩, ⟨hx2, hx3, hx4⟩, _⟩ := hx
    go_simp
    try with_reducible rfl
  refine wpAnyH_ready (rs := [1, 6]) (by kernel_rfl) (by simp) ?_
  refine AllReadyH.cons rfl (fun K hK => ?ca1) (AllReadyH.cons rfl (fun K hK => ?ca2) AllReadyH.nil)
  case' ca1 =>
    go_simp
    go_wp2_with fail
    refine (toGroups_any nr F n S V _ _ 0 _ (H.out.1.later hS.1) HB.out.1 HB.out.2.1 HB.out.2.2.1).mono ?_
    rintro e y3 ⟨ra, rc, g, U, z, rfl, fg, q3⟩
    have FG : Hid (Grs y3 0 nr F n S U (.slice ra nr rc) (.slice (some ⟨g, 0, none⟩) n n)) := fg.grs.mono (Nat.zero_le _)
    have hS' := hS.later q3
    go_wp2_with fail
    refine hK.out _ _ hS' (fun hS => ?_)
    clear hK K hS' q3
    refine wpAnyH_ready (rs := [4, 6]) (by kernel_rfl) (by simp) ?_
    refine AllReadyH.cons rfl (fun K hK => ?ca3) (AllReadyH.cons rfl (fun K hK => ?ca4) AllReadyH.nil)
    case' ca3 =>
      go_simp
      go_wp2_with fail
      refine (toStore_any T _ _ _ 0 _ (H.out.2.later hS.1) HT.out.1 HT.out.2.1 HT.out.2.2).mono ?_
      rintro e y4 ⟨z0, z1, z2, rfl, s4, _, q4⟩
      have FG : Hid (Grs y4 0 nr F n S U (.slice ra nr rc) (.slice (some ⟨g, 0, none⟩) n n)) := FG.out.later q4
      have FT : Hid (St y4 0 T z0 z1 z2) := s4.mono (Nat.zero_le _)
      have hS' := hS.later q4
      go_wp2_with fail
      refine hK.out _ _ hS' (fun hS => ?_)
      clear hK K hS' q4
      refine wpAnyH_ready (rs := [5, 6]) (by kernel_rfl) (by simp) ?_
      refine AllReadyH.cons rfl (fun K hK => ?ca5) (AllReadyH.cons rfl (fun K hK => ?ca6) AllReadyH.nil)
      case' ca5 =>
        go_simp
        go_wp2_with fail
        refine (HS.out _ _ _ _ _ _ _ FG.out FT.out).mono ?_
        rintro e y5 ⟨m0, p0, m1, p1, UM, rfl, gm, q5⟩
        have GM : Hid (Grs y5 0 nr' F' n' R UM (.slice m0 nr' p0) (.slice m1 n' p1)) := gm
        have hS' := hS.later q5
        go_wp2_with fail
        refine hK.out _ _ hS' (fun hS => ?_)
        clear hK K hS' q5
        refine wpAnyH_ready (rs := [6]) (by kernel_rfl) (by simp) ?_
        refine AllReadyH.cons rfl (fun K hK => ?_) AllReadyH.nil
        obtain ⟨W, hW⟩ : ∃ W, y5.heap.size = W := ⟨_, rfl⟩
        have ZW : Hid (Z3 (y5.alloc (.cells #[.int .i64 0, .slice none 0 0, .slice none 0 0] 38)) W) := by rw [← hW]; exact Z3.new _ _
        have HWb : Hid (w.heap.size + 2 ≤ W) := by have := hS.2.2.lt; unfold Hid; omega
        have hS' := hS.later (below_alloc y5 (.cells #[.int .i64 0, .slice none 0 0, .slice none 0 0] 38))
        have GM' := GM.out.later (below_alloc y5 (.cells #[.int .i64 0, .slice none 0 0, .slice none 0 0] 38))
        clear GM
        have GM := hid GM'
        clear GM'
        go_simp
        refine hK.out _ _ hS' (fun hS => ?_)
        clear hK K hS' hW
        generalize y5.alloc (.cells #[.int .i64 0, .slice none 0 0, .slice none 0 0] 38) = y5a at ZW hS GM ⊢
        refine wpAnyH_ready (rs := [7]) (by kernel_rfl) (by simp) ?_
        refine AllReadyH.cons rfl (fun K hK => ?_) AllReadyH.nil
        obtain ⟨⟨⟨zc0, zc1, zc2⟩, zf0, zf1, zf2⟩, _⟩ := ZW.out
        have KW := ((ZW.out.1.set0 (.int .i64 c)).set1 (.slice m0 nr' p0)).set2 (.slice m1 n' p1)
        have GW := Grs.setZ GM.out ZW.out (.int .i64 c) (.slice m0 nr' p0) (.slice m1 n' p1)
        have BW := within_set3 y5a W (.int .i64 c) (.slice m0 nr' p0) (.slice m1 n' p1)
        have hS' := (BoxP.setW hS BW HWb.out)
        go_simp
        refine hK.out _ _ hS' (fun hS => ?_)
        clear hK K hS' zc0 zc1 zc2 zf0 zf1 zf2 GM ZW BW
        refine wpAnyH_done (by kernel_rfl) ?_ _
        have KW := hid KW
        have GW := hid GW
        generalize ((y5a.setCell ⟨W, 0, none⟩ (.int .i64 c)).setCell ⟨W, 1, none⟩ (.slice m0 nr' p0)).setCell ⟨W, 2, none⟩ (.slice m1 n' p1) = w5 at KW GW hS ⊢
        clear FG FT
      case' ca6 =>
        obtain ⟨W, hW⟩ : ∃ W, y4.heap.size = W := ⟨_, rfl⟩
        have ZW : Hid (Z3 (y4.alloc (.cells #[.int .i64 0, .slice none 0 0, .slice none 0 0] 38)) W) := by rw [← hW]; exact Z3.new _ _
        have HWb : Hid (w.heap.size + 2 ≤ W) := by have := hS.2.2.lt; unfold Hid; omega
        have hS' := hS.later (below_alloc y4 (.cells #[.int .i64 0, .slice none 0 0, .slice none 0 0] 38))
        have FG' := FG.out.later (below_alloc y4 (.cells #[.int .i64 0, .slice none 0 0, .slice none 0 0] 38))
        clear FG
        have FG := hid FG'
        clear FG'
        have FT' := FT.out.later (below_alloc y4 (.cells #[.int .i64 0, .slice none 0 0, .slice none 0 0] 38))
        clear FT
        have FT := hid FT'
        clear FT'
        go_simp
        refine hK.out _ _ hS' (fun hS => ?_)
        clear hK K hS' hW
        generalize y4.alloc (.cells #[.int .i64 0, .slice none 0 0, .slice none 0 0] 38) = y4a at ZW hS FG FT ⊢
        refine wpAnyH_ready (rs := [5]) (by kernel_rfl) (by simp) ?_
        refine AllReadyH.cons rfl (fun K hK => ?_) AllReadyH.nil
        go_simp
        go_wp2_with fail
        refine (HS.out _ _ _ _ _ _ _ FG.out FT.out).mono ?_
        rintro e y5 ⟨m0, p0, m1, p1, UM, rfl, gm, q5⟩
        have GM : Hid (Grs y5 0 nr' F' n' R UM (.slice m0 nr' p0) (.slice m1 n' p1)) := gm
        have hS' := hS.later q5
        have ZW' := ZW.out.later q5
        clear ZW
        have ZW := hid ZW'
        clear ZW'
        go_wp2_with fail
        refine hK.out _ _ hS' (fun hS => ?_)
        clear hK K hS' q5
        refine wpAnyH_ready (rs := [7]) (by kernel_rfl) (by simp) ?_
        refine AllReadyH.cons rfl (fun K hK => ?_) AllReadyH.nil
        obtain ⟨⟨⟨zc0, zc1, zc2⟩, zf0, zf1, zf2⟩, _⟩ := ZW.out
        have KW := ((ZW.out.1.set0 (.int .i64 c)).set1 (.slice m0 nr' p0)).set2 (.slice m1 n' p1)
        have GW := Grs.setZ GM.out ZW.out (.int .i64 c) (.slice m0 nr' p0) (.slice m1 n' p1)
        have BW := within_set3 y5 W (.int .i64 c) (.slice m0 nr' p0) (.slice m1 n' p1)
        have hS' := (BoxP.setW hS BW HWb.out)
        go_simp
        refine hK.out _ _ hS' (fun hS => ?_)
        clear hK K hS' zc0 zc1 zc2 zf0 zf1 zf2 GM ZW BW
        refine wpAnyH_done (by kernel_rfl) ?_ _
        have KW := hid KW
        have GW := hid GW
        generalize ((y5.setCell ⟨W, 0, none⟩ (.int .i64 c)).setCell ⟨W, 1, none⟩ (.slice m0 nr' p0)).setCell ⟨W, 2, none⟩ (.slice m1 n' p1) = w5 at KW GW hS ⊢
        clear FG FT
    case' ca4 =>
      obtain ⟨W, hW⟩ : ∃ W, y3.heap.size = W := ⟨_, rfl⟩
      have ZW : Hid (Z3 (y3.alloc (.cells #[.int .i64 0, .slice none 0 0, .slice none 0 0] 38)) W) := by rw [← hW]; exact Z3.new _ _
      have HWb : Hid (w.heap.size + 2 ≤ W) := by have := hS.2.2.lt; unfold Hid; omega
      have hS' := hS.later (below_alloc y3 (.cells #[.int .i64 0, .slice none 0 0, .slice none 0 0] 38))
      have FG' := FG.out.later (below_alloc y3 (.cells #[.int .i64 0, .slice none 0 0, .slice none 0 0] 38))
      clear FG
      have FG := hid FG'
      clear FG'
      go_simp
      refine hK.out _ _ hS' (fun hS => ?_)
      clear hK K hS' hW
      generalize y3.alloc (.cells #[.int .i64 0, .slice none 0 0, .slice none 0 0] 38) = y3a at ZW hS FG ⊢
      refine wpAnyH_ready (rs := [4]) (by kernel_rfl) (by simp) ?_
      refine AllReadyH.cons rfl (fun K hK => ?_) AllReadyH.nil
      go_simp
      go_wp2_with fail
      refine (toStore_any T _ _ _ 0 _ (H.out.2.later hS.1) HT.out.1 HT.out.2.1 HT.out.2.2).mono ?_
      rintro e y4 ⟨z0, z1, z2, rfl, s4, _, q4⟩
      have FG : Hid (Grs y4 0 nr F n S U (.slice ra nr rc) (.slice (some ⟨g, 0, none⟩) n n)) := FG.out.later q4
      have FT : Hid (St y4 0 T z0 z1 z2) := s4.mono (Nat.zero_le _)
      have hS' := hS.later q4
      have ZW' := ZW.out.later q4
      clear ZW
      have ZW := hid ZW'
      clear ZW'
      go_wp2_with fail
      refine hK.out _ _ hS' (fun hS => ?_)
      clear hK K hS' q4
      refine wpAnyH_ready (rs := [5]) (by kernel_rfl) (by simp) ?_
      refine AllReadyH.cons rfl (fun K hK => ?_) AllReadyH.nil
      go_simp
      go_wp2_with fail
      refine (HS.out _ _ _ _ _ _ _ FG.out FT.out).mono ?_
      rintro e y5 ⟨m0, p0, m1, p1, UM, rfl, gm, q5⟩
      have GM : Hid (Grs y5 0 nr' F' n' R UM (.slice m0 nr' p0) (.slice m1 n' p1)) := gm
      have hS' := hS.later q5
      have ZW' := ZW.out.later q5
      clear ZW
      have ZW := hid ZW'
      clear ZW'
      go_wp2_with fail
      refine hK.out _ _ hS' (fun hS => ?_)
      clear hK K hS' q5
      refine wpAnyH_ready (rs := [7]) (by kernel_rfl) (by simp) ?_
      refine AllReadyH.cons rfl (fun K hK => ?_) AllReadyH.nil
      obtain ⟨⟨⟨zc0, zc1, zc2⟩, zf0, zf1, zf2⟩, _⟩ := ZW.out
      have KW := ((ZW.out.1.set0 (.int .i64 c)).set1 (.slice m0 nr' p0)).set2 (.slice m1 n' p1)
      have GW := Grs.setZ GM.out ZW.out (.int .i64 c) (.slice m0 nr' p0) (.slice m1 n' p1)
      have BW := within_set3 y5 W (.int .i64 c) (.slice m0 nr' p0) (.slice m1 n' p1)
      have hS' := (BoxP.setW hS BW HWb.out)
      go_simp
      refine hK.out _ _ hS' (fun hS => ?_)
      clear hK K hS' zc0 zc1 zc2 zf0 zf1 zf2 GM ZW BW
      refine wpAnyH_done (by kernel_rfl) ?_ _
      have KW := hid KW
      have GW := hid GW
      generalize ((y5.setCell ⟨W, 0, none⟩ (.int .i64 c)).setCell ⟨W, 1, none⟩ (.slice m0 nr' p0)).setCell ⟨W, 2, none⟩ (.slice m1 n' p1) = w5 at KW GW hS ⊢
      clear FG FT
  case' ca2 =>
    obtain ⟨W, hW⟩ : ∃ W, y2.heap.size = W := ⟨_, rfl⟩
    have ZW : Hid (Z3 (y2.alloc (.cells #[.int .i64 0, .slice none 0 0, .slice none 0 0] 38)) W) := by rw [← hW]; exact Z3.new _ _
    have HWb : Hid (w.heap.size + 2 ≤ W) := by have := hS.2.2.lt; unfold Hid; omega
    have hS' := hS.later (below_alloc y2 (.cells #[.int .i64 0, .slice none 0 0, .slice none 0 0] 38))
    go_simp
    refine hK.out _ _ hS' (fun hS => ?_)
    clear hK K hS' hW
    generalize y2.alloc (.cells #[.int .i64 0, .slice none 0 0, .slice none 0 0] 38) = y2a at ZW hS  ⊢
    refine wpAnyH_ready (rs := [1]) (by kernel_rfl) (by simp) ?_
    refine AllReadyH.cons rfl (fun K hK => ?_) AllReadyH.nil
    go_simp
    go_wp2_with fail
    refine (toGroups_any nr F n S V _ _ 0 _ (H.out.1.later hS.1) HB.out.1 HB.out.2.1 HB.out.2.2.1).mono ?_
    rintro e y3 ⟨ra, rc, g, U, z, rfl, fg, q3⟩
    have FG : Hid (Grs y3 0 nr F n S U (.slice ra nr rc) (.slice (some ⟨g, 0, none⟩) n n)) := fg.grs.mono (Nat.zero_le _)
    have hS' := hS.later q3
    have ZW' := ZW.out.later q3
    clear ZW
    have ZW := hid ZW'
    clear ZW'
    go_wp2_with fail
    refine hK.out _ _ hS' (fun hS => ?_)
    clear hK K hS' q3
    refine wpAnyH_ready (rs := [4]) (by kernel_rfl) (by simp) ?_
    refine AllReadyH.cons rfl (fun K hK => ?_) AllReadyH.nil
    go_simp
    go_wp2_with fail
    refine (toStore_any T _ _ _ 0 _ (H.out.2.later hS.1) HT.out.1 HT.out.2.1 HT.out.2.2).mono ?_
    rintro e y4 ⟨z0, z1, z2, rfl, s4, _, q4⟩
    have FG : Hid (Grs y4 0 nr F n S U (.slice ra nr rc) (.slice (some ⟨g, 0, none⟩) n n)) := FG.out.later q4
    have FT : Hid (St y4 0 T z0 z1 z2) := s4.mono (Nat.zero_le _)
    have hS' := hS.later q4
    have ZW' := ZW.out.later q4
    clear ZW
    have ZW := hid ZW'
    clear ZW'
    go_wp2_with fail
    refine hK.out _ _ hS' (fun hS => ?_)
    clear hK K hS' q4
    refine wpAnyH_ready (rs := [5]) (by kernel_rfl) (by simp) ?_
    refine AllReadyH.cons rfl (fun K hK => ?_) AllReadyH.nil
    go_simp
    go_wp2_with fail
    refine (HS.out _ _ _ _ _ _ _ FG.out FT.out).mono ?_
    rintro e y5 ⟨m0, p0, m1, p1, UM, rfl, gm, q5⟩
    have GM : Hid (Grs y5 0 nr' F' n' R UM (.slice m0 nr' p0) (.slice m1 n' p1)) := gm
    have hS' := hS.later q5
    have ZW' := ZW.out.later q5
    clear ZW
    have ZW := hid ZW'
    clear ZW'
    go_wp2_with fail
    refine hK.out _ _ hS' (fun hS => ?_)
    clear hK K hS' q5
    refine wpAnyH_ready (rs := [7]) (by kernel_rfl) (by simp) ?_
    refine AllReadyH.cons rfl (fun K hK => ?_) AllReadyH.nil
    obtain ⟨⟨⟨zc0, zc1, zc2⟩, zf0, zf1, zf2⟩, _⟩ := ZW.out
    have KW := ((ZW.out.1.set0 (.int .i64 c)).set1 (.slice m0 nr' p0)).set2 (.slice m1 n' p1)
    have GW := Grs.setZ GM.out ZW.out (.int .i64 c) (.slice m0 nr' p0) (.slice m1 n' p1)
    have BW := within_set3 y5 W (.int .i64 c) (.slice m0 nr' p0) (.slice m1 n' p1)
    have hS' := (BoxP.setW hS BW HWb.out)
    go_simp
    refine hK.out _ _ hS' (fun hS => ?_)
    clear hK K hS' zc0 zc1 zc2 zf0 zf1 zf2 GM ZW BW
    refine wpAnyH_done (by kernel_rfl) ?_ _
    have KW := hid KW
    have GW := hid GW
    generalize ((y5.setCell ⟨W, 0, none⟩ (.int .i64 c)).setCell ⟨W, 1, none⟩ (.slice m0 nr' p0)).setCell ⟨W, 2, none⟩ (.slice m1 n' p1) = w5 at KW GW hS ⊢
    clear FG FT
  all_goals
    have B5 : Hid (BoxP w (.slice a0 nr c0) (.slice a1 n c1) (.slice b0 T.nc d0) (.slice b1 T.nl d1) (.slice b2 T.nw d2) w5) := hS
    clear hS
    obtain ⟨_, ⟨⟨f0, f1⟩, _⟩, ⟨f2, f3, f4⟩, _⟩ := B5.out
    go_simp
    go_wp2_with fail
    refine (toGroups_any nr F n S V _ _ 0 _ (H.out.1.later B5.out.1) HB.out.1 HB.out.2.1 HB.out.2.2.1).mono ?_
    rintro e w6 ⟨xa, xc, xg, UX, zX, rfl, fx, q6⟩
    have X6 : Hid (FineG w6 w5.heap.size nr F n S xa xc xg UX zX) := fx
    have HZ6 : Hid (zX n ≤ w6.heap.size ∧ w5.heap.size ≤ w6.heap.size) := ⟨fx.2.2.2.2.2.2, q6.size⟩
    have Q6 : Hid (Below w5.heap.size w5 w6) := q6
    obtain ⟨_, ⟨⟨f0, f1⟩, _⟩, ⟨f2, f3, f4⟩, _⟩ := B5.out.later q6
    have hl6 := (B5.out.later q6).2.2.lt
    clear fx q6
    go_wp2_with fail
    obtain ⟨w7, e7⟩ : ∃ x, x = w6.alloc (.cells #[.slice xa nr xc, .slice (some ⟨xg, 0, none⟩) n n] 36) := ⟨_, rfl⟩
    have q7 : Below w6.heap.size w6 w7 := by rw [e7]; exact below_alloc _ _
    have hs7 : Hid (w7.heap.size = w6.heap.size + 1) := by unfold Hid; rw [e7, World.size_alloc]
    have X7 : Hid (FineG w7 w5.heap.size nr F n S xa xc xg UX zX ∧ Blk2 w7 w6.heap.size (.slice xa nr xc) (.slice (some ⟨xg, 0, none⟩) n n)) := ⟨X6.out.later q7, by rw [e7]; exact Blk2.new w6 _ _ _⟩
    have Q7 : Hid (Below w5.heap.size w5 w7) := Q6.out.trans (q7.mono Q6.out.size)
    rw [← e7]
    clear e7 q7 Q6 X6 f0 f1 f2 f3 f4 hl6
    refine (toStore_any T _ _ _ 0 _ (H.out.2.later (B5.out.1.trans (Q7.out.mono B5.out.1.size))) HT.out.1 HT.out.2.1 HT.out.2.2).mono ?_
    rintro e w8 ⟨v0, v1, v2, rfl, s8, fa8, q8⟩
    obtain ⟨j0, k0, j1, k1, j2, k2, rfl, rfl, rfl⟩ := s8.form
    have Y8 : Hid (((St w8 (w6.heap.size + 1) T (.slice j0 T.nc k0) (.slice j1 T.nl k1) (.slice j2 T.nw k2) ∧ FreeS w8 T (.slice j0 T.nc k0) (.slice j1 T.nl k1) (.slice j2 T.nw k2)) ∧ ApartS T (.slice j0 T.nc k0) (.slice j1 T.nl k1) (.slice j2 T.nw k2))) := ⟨⟨by have h7 := hs7.out; rw [h7] at s8; exact s8, fa8.1⟩, fa8.2⟩
    have YE : Hid (OwnIn T (.slice j0 T.nc k0) (.slice j1 T.nl k1) (.slice j2 T.nw k2) (fun k => k < w8.heap.size)) := s8.ownIn.mono (fun k hk => hk.2)
    have HZ8 : Hid (w6.heap.size + 1 ≤ w8.heap.size) := by have := q8.size; have := hs7.out; unfold Hid; omega
    have X8 : Hid (FineG w8 w5.heap.size nr F n S xa xc xg UX zX ∧ Blk2 w8 w6.heap.size (.slice xa nr xc) (.slice (some ⟨xg, 0, none⟩) n n)) := ⟨X7.out.1.later q8, X7.out.2.later q8⟩
    have Q8 : Hid (Below w5.heap.size w5 w8) := Q7.out.trans (q8.mono Q7.out.size)
    obtain ⟨⟨x80, x81⟩, _⟩ := X8.out.2
    have hl8 := X8.out.2.lt
    clear s8 fa8 q8 X7 Q7 hs7
    go_wp2_with fail
    obtain ⟨w9, e9⟩ : ∃ x, x = w8.alloc (.cells #[.slice j0 T.nc k0, .slice j1 T.nl k1, .slice j2 T.nw k2] 45) := ⟨_, rfl⟩
    have q9 : Below w8.heap.size w8 w9 := by rw [e9]; exact below_alloc _ _
    have hs9 : Hid (w9.heap.size = w8.heap.size + 1) := by unfold Hid; rw [e9, World.size_alloc]
    have X9 : Hid (FineG w9 w5.heap.size nr F n S xa xc xg UX zX ∧ Blk2 w9 w6.heap.size (.slice xa nr xc) (.slice (some ⟨xg, 0, none⟩) n n)) := ⟨X8.out.1.later q9, X8.out.2.later q9⟩
    have Y9 : Hid (((St w9 (w6.heap.size + 1) T (.slice j0 T.nc k0) (.slice j1 T.nl k1) (.slice j2 T.nw k2) ∧ FreeS w9 T (.slice j0 T.nc k0) (.slice j1 T.nl k1) (.slice j2 T.nw k2)) ∧ ApartS T (.slice j0 T.nc k0) (.slice j1 T.nl k1) (.slice j2 T.nw k2))) := ⟨⟨Y8.out.1.1.later q9, Y8.out.1.2.later Y8.out.1.1 q9⟩, Y8.out.2⟩
    have K9 : Hid (Blk3 w9 w8.heap.size (.slice j0 T.nc k0) (.slice j1 T.nl k1) (.slice j2 T.nw k2)) := by rw [e9]; exact Blk3.new w8 _ _ _ _
    have Q9 : Hid (Below w5.heap.size w5 w9) := Q8.out.trans (q9.mono Q8.out.size)
    rw [← e9]
    clear e9 q9 X8 Y8 Q8 x80 x81 hl8
    refine (HI.out _ _ _ _ _ _ _ (X9.out.1.grs.mono (Nat.zero_le _)) (Y9.out.1.1.mono (Nat.zero_le _))).mono ?_
    rintro e w10 ⟨g0, q0, g1, q1, UG, zG, rfl, rg, q10⟩
    have HZ10 : Hid (w8.heap.size + 1 ≤ w10.heap.size) := by have := q10.size; have := hs9.out; unfold Hid; omega
    have rg : FineR w10 (w8.heap.size + 1) w10.heap.size nr' F' n' R g0 q0 g1 UG zG := by have h9 := hs9.out; rw [h9] at rg; exact rg
    obtain ⟨⟨t0, t1, t2⟩, _⟩ := (KW.out.later Q9.out).later q10
    have hlt := World.block_lt_of_cell? w10 _ t0
    obtain ⟨w11, e11⟩ : ∃ x, x = w10.alloc (.cells #[.int .i64 c, .slice g0 nr' q0, .slice g1 n' q1] 38) := ⟨_, rfl⟩
    have q11 : Below w10.heap.size w10 w11 := by rw [e11]; exact below_alloc _ _
    have E11 : Hid (EnvP w5 w6.heap.size w8.heap.size w10.heap.size c (.slice xa nr xc) (.slice (some ⟨xg, 0, none⟩) n n) (.slice j0 T.nc k0) (.slice j1 T.nl k1) (.slice j2 T.nw k2) (.slice g0 nr' q0) (.slice g1 n' q1) w11) := ⟨(Q9.out.trans (q10.mono Q9.out.size)).trans (q11.mono (Nat.le_trans Q9.out.size q10.size)), (X9.out.2.later q10).later q11, (K9.out.later q10).later q11, by rw [e11]; exact Blk3.new w10 _ _ _ _⟩
    have X11 : Hid (FineG w11 w5.heap.size nr F n S xa xc xg UX zX) := (X9.out.1.later q10).later q11
    have Y11 : Hid (((St w11 (w6.heap.size + 1) T (.slice j0 T.nc k0) (.slice j1 T.nl k1) (.slice j2 T.nw k2) ∧ FreeS w11 T (.slice j0 T.nc k0) (.slice j1 T.nl k1) (.slice j2 T.nw k2)) ∧ ApartS T (.slice j0 T.nc k0) (.slice j1 T.nl k1) (.slice j2 T.nw k2))) := ⟨⟨(Y9.out.1.1.later q10).later q11, (Y9.out.1.2.later Y9.out.1.1 q10).later (Y9.out.1.1.later q10) q11⟩, Y9.out.2⟩
    have G11 : Hid (FineR w11 (w8.heap.size + 1) w10.heap.size nr' F' n' R g0 q0 g1 UG zG) := rg.later q11
    go_wp2_with fail
    rw [← e11]
    clear e11 q10 q11 rg X9 Y9 K9 Q9 hs9 t0 t1 t2 hlt
    refine (eqGroupsResult_same c nr' F' n' R UG UM _ _ _ _ _ _ _ (G11.out.grs q1) (GW.out.later E11.out.past) HR.out).mono ?_
    rintro e w12 ⟨rfl, q12⟩
    have E12 : Hid (EnvP w5 w6.heap.size w8.heap.size w10.heap.size c (.slice xa nr xc) (.slice (some ⟨xg, 0, none⟩) n n) (.slice j0 T.nc k0) (.slice j1 T.nl k1) (.slice j2 T.nw k2) (.slice g0 nr' q0) (.slice g1 n' q1) w12) := E11.out.later q12
    have X12 : Hid (FineG w12 w5.heap.size nr F n S xa xc xg UX zX) := X11.out.later q12
    have Y12 : Hid (((St w12 (w6.heap.size + 1) T (.slice j0 T.nc k0) (.slice j1 T.nl k1) (.slice j2 T.nw k2) ∧ FreeS w12 T (.slice j0 T.nc k0) (.slice j1 T.nl k1) (.slice j2 T.nw k2)) ∧ ApartS T (.slice j0 T.nc k0) (.slice j1 T.nl k1) (.slice j2 T.nw k2))) := ⟨⟨Y11.out.1.1.later q12, Y11.out.1.2.later Y11.out.1.1 q12⟩, Y11.out.2⟩
    have G12 : Hid (FineR w12 (w8.heap.size + 1) w10.heap.size nr' F' n' R g0 q0 g1 UG zG) := G11.out.later q12
    clear q12 E11 X11 Y11 G11
    go_wp2_with fail
    have hS0 : (fun x : World => BoxP w (.slice a0 nr c0) (.slice a1 n c1) (.slice b0 T.nc d0) (.slice b1 T.nl d1) (.slice b2 T.nw d2) x ∧ EnvP w5 w6.heap.size w8.heap.size w10.heap.size c (.slice xa nr xc) (.slice (some ⟨xg, 0, none⟩) n n) (.slice j0 T.nc k0) (.slice j1 T.nl k1) (.slice j2 T.nw k2) (.slice g0 nr' q0) (.slice g1 n' q1) x) w12.drew := ⟨(B5.out.later E12.out.past).later (below_dr (Below.refl _ _) 1), E12.out.later (below_dr (Below.refl _ _) 1)⟩
    have X13 : Hid (FineG w12.drew w5.heap.size nr F n S xa xc xg UX zX) := X12.out.later (below_dr (Below.refl _ _) 1)
    have Y13 : Hid (((St w12.drew (w6.heap.size + 1) T (.slice j0 T.nc k0) (.slice j1 T.nl k1) (.slice j2 T.nw k2) ∧ FreeS w12.drew T (.slice j0 T.nc k0) (.slice j1 T.nl k1) (.slice j2 T.nw k2)) ∧ ApartS T (.slice j0 T.nc k0) (.slice j1 T.nl k1) (.slice j2 T.nw k2))) := ⟨⟨Y12.out.1.1.later (below_dr (Below.refl _ _) 1), Y12.out.1.2.later Y12.out.1.1 (below_dr (Below.refl _ _) 1)⟩, Y12.out.2⟩
    have G13 : Hid (FineR w12.drew (w8.heap.size + 1) w10.heap.size nr' F' n' R g0 q0 g1 UG zG) := G12.out.later (below_dr (Below.refl _ _) 1)
    refine wp_region_held_drew (S := fun x : World => BoxP w (.slice a0 nr c0) (.slice a1 n c1) (.slice b0 T.nc d0) (.slice b1 T.nl d1) (.slice b2 T.nw d2) x ∧ EnvP w5 w6.heap.size w8.heap.size w10.heap.size c (.slice xa nr xc) (.slice (some ⟨xg, 0, none⟩) n n) (.slice j0 T.nc k0) (.slice j1 T.nl k1) (.slice j2 T.nw k2) (.slice g0 nr' q0) (.slice g1 n' q1) x) (by kernel_rfl) hS0 (fun hS => ?_)
    clear hS0 E12 X12 Y12 G12
    generalize w12.drew = w13 at hS X13 Y13 G13 ⊢
    refine wpAnyH_take (i := 0) (v := ?_) rfl (by kernel_rfl) (by kernel_rfl) (by kernel_rfl) (fun _ _ _ h => h) (Or.inl ⟨by kernel_rfl, ?_⟩) hS ?_
    rotate_left
    · intro wx hx
      obtain ⟨⟨_, ⟨⟨hx0, hx1⟩, _⟩, ⟨hx2, hx3, hx4⟩, _⟩, hxe⟩ := hx
      obtain ⟨⟨hy0, hy1⟩, _⟩ := hxe.kx
      obtain ⟨⟨hy2, hy3, hy4⟩, _⟩ := hxe.ky
      go_simp
      try with_reducible rfl
    refine wpAnyH_take (i := 1) (v := ?_) rfl (by kernel_rfl) (by kernel_rfl) (by kernel_rfl) (fun _ _ _ h => h) (Or.inl ⟨by kernel_rfl, ?_⟩) hS ?_
    rotate_left
    · intro wx hx
      obtain ⟨⟨_, ⟨⟨hx0, hx1⟩, _⟩, ⟨hx2, hx3, hx4⟩, _⟩, hxe⟩ := hx
      obtain ⟨⟨hy0, hy1⟩, _⟩ := hxe.kx
      obtain ⟨⟨hy2, hy3, hy4⟩, _⟩ := hxe.ky
      go_simp
      try with_reducible rfl
    refine wpAnyH_ready (rs := [2]) (by kernel_rfl) (by simp) ?_
    refine AllReadyH.cons rfl (fun K hK => ?_) AllReadyH.nil
    go_simp
    go_wp2_with fail
    refine (toGroups_any nr F n S V _ _ 0 _ (H.out.1.later hS.1.1) HB.out.1 HB.out.2.1 HB.out.2.2.1).mono ?_
    rintro e w14 ⟨ya, yc, yg, UY, zY, rfl, fy, q14⟩
    have FY : Hid (Grs w14 0 nr F n S UY (.slice ya nr yc) (.slice (some ⟨yg, 0, none⟩) n n)) := fy.grs.mono (Nat.zero_le _)
    have hS' := (show BoxP w (.slice a0 nr c0) (.slice a1 n c1) (.slice b0 T.nc d0) (.slice b1 T.nl d1) (.slice b2 T.nw d2) w14 ∧ EnvP w5 w6.heap.size w8.heap.size w10.heap.size c (.slice xa nr xc) (.slice (some ⟨xg, 0, none⟩) n n) (.slice j0 T.nc k0) (.slice j1 T.nl k1) (.slice j2 T.nw k2) (.slice g0 nr' q0) (.slice g1 n' q1) w14 from ⟨hS.1.later q14, hS.2.later q14⟩)
    have E13 : Hid (EnvP w5 w6.heap.size w8.heap.size w10.heap.size c (.slice xa nr xc) (.slice (some ⟨xg, 0, none⟩) n n) (.slice j0 T.nc k0) (.slice j1 T.nl k1) (.slice j2 T.nw k2) (.slice g0 nr' q0) (.slice g1 n' q1) w13) := hS.2
    have E14 : Hid (EnvP w5 w6.heap.size w8.heap.size w10.heap.size c (.slice xa nr xc) (.slice (some ⟨xg, 0, none⟩) n n) (.slice j0 T.nc k0) (.slice j1 T.nl k1) (.slice j2 T.nw k2) (.slice g0 nr' q0) (.slice g1 n' q1) w14) := E13.out.later q14
    have X14 : Hid (FineG w14 w5.heap.size nr F n S xa xc xg UX zX) := X13.out.later q14
    have Y14 : Hid (((St w14 (w6.heap.size + 1) T (.slice j0 T.nc k0) (.slice j1 T.nl k1) (.slice j2 T.nw k2) ∧ FreeS w14 T (.slice j0 T.nc k0) (.slice j1 T.nl k1) (.slice j2 T.nw k2)) ∧ ApartS T (.slice j0 T.nc k0) (.slice j1 T.nl k1) (.slice j2 T.nw k2))) := ⟨⟨Y13.out.1.1.later q14, Y13.out.1.2.later Y13.out.1.1 q14⟩, Y13.out.2⟩
    have G14 : Hid (FineR w14 (w8.heap.size + 1) w10.heap.size nr' F' n' R g0 q0 g1 UG zG) := G13.out.later q14
    clear q14 E13 X13 Y13 G13
    clear fy
    go_wp2_with fail
    refine hK.out _ _ hS' (fun hS => ?_)
    clear hK K hS' E14
    refine wpAnyH_ready (rs := [3]) (by kernel_rfl) (by simp) ?_
    refine AllReadyH.cons rfl (fun K hK => ?_) AllReadyH.nil
    go_simp
    go_wp2_with fail
    refine (eqGroups_same nr F n S UX UY _ _ _ _ _ _ _ X14.out.grs FY.out HB.out.1 HB.out.2.1 HB.out.2.2.1).mono ?_
    rintro e w15 ⟨rfl, q15⟩
    have hS' := (show BoxP w (.slice a0 nr c0) (.slice a1 n c1) (.slice b0 T.nc d0) (.slice b1 T.nl d1) (.slice b2 T.nw d2) w15 ∧ EnvP w5 w6.heap.size w8.heap.size w10.heap.size c (.slice xa nr xc) (.slice (some ⟨xg, 0, none⟩) n n) (.slice j0 T.nc k0) (.slice j1 T.nl k1) (.slice j2 T.nw k2) (.slice g0 nr' q0) (.slice g1 n' q1) w15 from ⟨hS.1.later q15, hS.2.later q15⟩)
    have E14 : Hid (EnvP w5 w6.heap.size w8.heap.size w10.heap.size c (.slice xa nr xc) (.slice (some ⟨xg, 0, none⟩) n n) (.slice j0 T.nc k0) (.slice j1 T.nl k1) (.slice j2 T.nw k2) (.slice g0 nr' q0) (.slice g1 n' q1) w14) := hS.2
    have E15 : Hid (EnvP w5 w6.heap.size w8.heap.size w10.heap.size c (.slice xa nr xc) (.slice (some ⟨xg, 0, none⟩) n n) (.slice j0 T.nc k0) (.slice j1 T.nl k1) (.slice j2 T.nw k2) (.slice g0 nr' q0) (.slice g1 n' q1) w15) := E14.out.later q15
    have X15 : Hid (FineG w15 w5.heap.size nr F n S xa xc xg UX zX) := X14.out.later q15
    have Y15 : Hid (((St w15 (w6.heap.size + 1) T (.slice j0 T.nc k0) (.slice j1 T.nl k1) (.slice j2 T.nw k2) ∧ FreeS w15 T (.slice j0 T.nc k0) (.slice j1 T.nl k1) (.slice j2 T.nw k2)) ∧ ApartS T (.slice j0 T.nc k0) (.slice j1 T.nl k1) (.slice j2 T.nw k2))) := ⟨⟨Y14.out.1.1.later q15, Y14.out.1.2.later Y14.out.1.1 q15⟩, Y14.out.2⟩
    have G15 : Hid (FineR w15 (w8.heap.size + 1) w10.heap.size nr' F' n' R g0 q0 g1 UG zG) := G14.out.later q15
    clear q15 E14 X14 Y14 G14
    go_wp2_with fail
    refine hK.out _ _ hS' (fun hS => ?_)
    clear hK K hS' FY E15
    refine wpAnyH_take (i := 4) (v := ?_) rfl (by kernel_rfl) (by kernel_rfl) (by kernel_rfl) (fun _ _ _ h => h) (Or.inl ⟨by kernel_rfl, ?_⟩) hS ?_
    rotate_left
    · intro wx hx
      obtain ⟨⟨_, ⟨⟨hx0, hx1⟩, _⟩, ⟨hx2, hx3, hx4⟩, _⟩, hxe⟩ := hx
      obtain ⟨⟨hy0, hy1⟩, _⟩ := hxe.kx
      obtain ⟨⟨hy2, hy3, hy4⟩, _⟩ := hxe.ky
      go_simp
      try with_reducible rfl
    refine wpAnyH_done (by kernel_rfl) ?_ _
    have E15 : Hid (EnvP w5 w6.heap.size w8.heap.size w10.heap.size c (.slice xa nr xc) (.slice (some ⟨xg, 0, none⟩) n n) (.slice j0 T.nc k0) (.slice j1 T.nl k1) (.slice j2 T.nw k2) (.slice g0 nr' q0) (.slice g1 n' q1) w15) := hS.2
    clear hS
    go_simp
    go_wp2_with fail
    have hS0 : (fun x : World => BoxP w (.slice a0 nr c0) (.slice a1 n c1) (.slice b0 T.nc d0) (.slice b1 T.nl d1) (.slice b2 T.nw d2) x ∧ EnvP w5 w6.heap.size w8.heap.size w10.heap.size c (.slice xa nr xc) (.slice (some ⟨xg, 0, none⟩) n n) (.slice j0 T.nc k0) (.slice j1 T.nl k1) (.slice j2 T.nw k2) (.slice g0 nr' q0) (.slice g1 n' q1) x) w15.drew := ⟨(B5.out.later E15.out.past).later (below_dr (Below.refl _ _) 1), E15.out.later (below_dr (Below.refl _ _) 1)⟩
    have X16 : Hid (FineG w15.drew w5.heap.size nr F n S xa xc xg UX zX) := X15.out.later (below_dr (Below.refl _ _) 1)
    have Y16 : Hid (((St w15.drew (w6.heap.size + 1) T (.slice j0 T.nc k0) (.slice j1 T.nl k1) (.slice j2 T.nw k2) ∧ FreeS w15.drew T (.slice j0 T.nc k0) (.slice j1 T.nl k1) (.slice j2 T.nw k2)) ∧ ApartS T (.slice j0 T.nc k0) (.slice j1 T.nl k1) (.slice j2 T.nw k2))) := ⟨⟨Y15.out.1.1.later (below_dr (Below.refl _ _) 1), Y15.out.1.2.later Y15.out.1.1 (below_dr (Below.refl _ _) 1)⟩, Y15.out.2⟩
    have G16 : Hid (FineR w15.drew (w8.heap.size + 1) w10.heap.size nr' F' n' R g0 q0 g1 UG zG) := G15.out.later (below_dr (Below.refl _ _) 1)
    refine wp_region_held_drew (S := fun x : World => BoxP w (.slice a0 nr c0) (.slice a1 n c1) (.slice b0 T.nc d0) (.slice b1 T.nl d1) (.slice b2 T.nw d2) x ∧ EnvP w5 w6.heap.size w8.heap.size w10.heap.size c (.slice xa nr xc) (.slice (some ⟨xg, 0, none⟩) n n) (.slice j0 T.nc k0) (.slice j1 T.nl k1) (.slice j2 T.nw k2) (.slice g0 nr' q0) (.slice g1 n' q1) x) (by kernel_rfl) hS0 (fun hS => ?_)
    clear hS0 E15 X15 Y15 G15
    generalize w15.drew = w16 at hS X16 Y16 G16 ⊢
    refine wpAnyH_take (i := 0) (v := ?_) rfl (by kernel_rfl) (by kernel_rfl) (by kernel_rfl) (fun _ _ _ h => h) (Or.inl ⟨by kernel_rfl, ?_⟩) hS ?_
    rotate_left
    · intro wx hx
      obtain ⟨⟨_, ⟨⟨hx0, hx1⟩, _⟩, ⟨hx2, hx3, hx4⟩, _⟩, hxe⟩ := hx
      obtain ⟨⟨hy0, hy1⟩, _⟩ := hxe.kx
      obtain ⟨⟨hy2, hy3, hy4⟩, _⟩ := hxe.ky
      go_simp
      try with_reducible rfl
    refine wpAnyH_take (i := 1) (v := ?_) rfl (by kernel_rfl) (by kernel_rfl) (by kernel_rfl) (fun _ _ _ h => h) (Or.inl ⟨by kernel_rfl, ?_⟩) hS ?_
    rotate_left
    · intro wx hx
      obtain ⟨⟨_, ⟨⟨hx0, hx1⟩, _⟩, ⟨hx2, hx3, hx4⟩, _⟩, hxe⟩ := hx
      obtain ⟨⟨hy0, hy1⟩, _⟩ := hxe.kx
      obtain ⟨⟨hy2, hy3, hy4⟩, _⟩ := hxe.ky
      go_simp
      try with_reducible rfl
    refine wpAnyH_ready (rs := [2]) (by kernel_rfl) (by simp) ?_
    refine AllReadyH.cons rfl (fun K hK => ?_) AllReadyH.nil
    go_simp
    go_wp2_with fail
    refine (toStore_any T _ _ _ 0 _ (H.out.2.later hS.1.1) HT.out.1 HT.out.2.1 HT.out.2.2).mono ?_
    rintro e w17 ⟨n0, n1, n2, rfl, s17, _, q17⟩
    have FY : Hid (St w17 0 T n0 n1 n2) := s17.mono (Nat.zero_le _)
    have hS' := (show BoxP w (.slice a0 nr c0) (.slice a1 n c1) (.slice b0 T.nc d0) (.slice b1 T.nl d1) (.slice b2 T.nw d2) w17 ∧ EnvP w5 w6.heap.size w8.heap.size w10.heap.size c (.slice xa nr xc) (.slice (some ⟨xg, 0, none⟩) n n) (.slice j0 T.nc k0) (.slice j1 T.nl k1) (.slice j2 T.nw k2) (.slice g0 nr' q0) (.slice g1 n' q1) w17 from ⟨hS.1.later q17, hS.2.later q17⟩)
    have E16 : Hid (EnvP w5 w6.heap.size w8.heap.size w10.heap.size c (.slice xa nr xc) (.slice (some ⟨xg, 0, none⟩) n n) (.slice j0 T.nc k0) (.slice j1 T.nl k1) (.slice j2 T.nw k2) (.slice g0 nr' q0) (.slice g1 n' q1) w16) := hS.2
    have E17 : Hid (EnvP w5 w6.heap.size w8.heap.size w10.heap.size c (.slice xa nr xc) (.slice (some ⟨xg, 0, none⟩) n n) (.slice j0 T.nc k0) (.slice j1 T.nl k1) (.slice j2 T.nw k2) (.slice g0 nr' q0) (.slice g1 n' q1) w17) := E16.out.later q17
    have X17 : Hid (FineG w17 w5.heap.size nr F n S xa xc xg UX zX) := X16.out.later q17
    have Y17 : Hid (((St w17 (w6.heap.size + 1) T (.slice j0 T.nc k0) (.slice j1 T.nl k1) (.slice j2 T.nw k2) ∧ FreeS w17 T (.slice j0 T.nc k0) (.slice j1 T.nl k1) (.slice j2 T.nw k2)) ∧ ApartS T (.slice j0 T.nc k0) (.slice j1 T.nl k1) (.slice j2 T.nw k2))) := ⟨⟨Y16.out.1.1.later q17, Y16.out.1.2.later Y16.out.1.1 q17⟩, Y16.out.2⟩
    have G17 : Hid (FineR w17 (w8.heap.size + 1) w10.heap.size nr' F' n' R g0 q0 g1 UG zG) := G16.out.later q17
    clear q17 E16 X16 Y16 G16
    clear s17
    go_wp2_with fail
    refine hK.out _ _ hS' (fun hS => ?_)
    clear hK K hS' E17
    refine wpAnyH_ready (rs := [3]) (by kernel_rfl) (by simp) ?_
    refine AllReadyH.cons rfl (fun K hK => ?_) AllReadyH.nil
    go_simp
    go_wp2_with fail
    refine (eqStore_same T _ _ _ _ _ _ _ 0 _ Y17.out.1.1 FY.out HT.out.1 HT.out.2.1 HT.out.2.2).mono ?_
    rintro e w18 ⟨rfl, q18⟩
    have hS' := (show BoxP w (.slice a0 nr c0) (.slice a1 n c1) (.slice b0 T.nc d0) (.slice b1 T.nl d1) (.slice b2 T.nw d2) w18 ∧ EnvP w5 w6.heap.size w8.heap.size w10.heap.size c (.slice xa nr xc) (.slice (some ⟨xg, 0, none⟩) n n) (.slice j0 T.nc k0) (.slice j1 T.nl k1) (.slice j2 T.nw k2) (.slice g0 nr' q0) (.slice g1 n' q1) w18 from ⟨hS.1.later q18, hS.2.later q18⟩)
    have E17 : Hid (EnvP w5 w6.heap.size w8.heap.size w10.heap.size c (.slice xa nr xc) (.slice (some ⟨xg, 0, none⟩) n n) (.slice j0 T.nc k0) (.slice j1 T.nl k1) (.slice j2 T.nw k2) (.slice g0 nr' q0) (.slice g1 n' q1) w17) := hS.2
    have E18 : Hid (EnvP w5 w6.heap.size w8.heap.size w10.heap.size c (.slice xa nr xc) (.slice (some ⟨xg, 0, none⟩) n n) (.slice j0 T.nc k0) (.slice j1 T.nl k1) (.slice j2 T.nw k2) (.slice g0 nr' q0) (.slice g1 n' q1) w18) := E17.out.later q18
    have X18 : Hid (FineG w18 w5.heap.size nr F n S xa xc xg UX zX) := X17.out.later q18
    have Y18 : Hid (((St w18 (w6.heap.size + 1) T (.slice j0 T.nc k0) (.slice j1 T.nl k1) (.slice j2 T.nw k2) ∧ FreeS w18 T (.slice j0 T.nc k0) (.slice j1 T.nl k1) (.slice j2 T.nw k2)) ∧ ApartS T (.slice j0 T.nc k0) (.slice j1 T.nl k1) (.slice j2 T.nw k2))) := ⟨⟨Y17.out.1.1.later q18, Y17.out.1.2.later Y17.out.1.1 q18⟩, Y17.out.2⟩
    have G18 : Hid (FineR w18 (w8.heap.size + 1) w10.heap.size nr' F' n' R g0 q0 g1 UG zG) := G17.out.later q18
    clear q18 E17 X17 Y17 G17
    go_wp2_with fail
    refine hK.out _ _ hS' (fun hS => ?_)
    clear hK K hS' FY E18
    refine wpAnyH_take (i := 4) (v := ?_) rfl (by kernel_rfl) (by kernel_rfl) (by kernel_rfl) (fun _ _ _ h => h) (Or.inl ⟨by kernel_rfl, ?_⟩) hS ?_
    rotate_left
    · intro wx hx
      obtain ⟨⟨_, ⟨⟨hx0, hx1⟩, _⟩, ⟨hx2, hx3, hx4⟩, _⟩, hxe⟩ := hx
      obtain ⟨⟨hy0, hy1⟩, _⟩ := hxe.kx
      obtain ⟨⟨hy2, hy3, hy4⟩, _⟩ := hxe.ky
      go_simp
      try with_reducible rfl
    refine wpAnyH_done (by kernel_rfl) ?_ _
    have E18 : Hid (EnvP w5 w6.heap.size w8.heap.size w10.heap.size c (.slice xa nr xc) (.slice (some ⟨xg, 0, none⟩) n n) (.slice j0 T.nc k0) (.slice j1 T.nl k1) (.slice j2 T.nw k2) (.slice g0 nr' q0) (.slice g1 n' q1) w18) := hS.2
    clear hS
    obtain ⟨⟨x0, x1⟩, _⟩ := E18.out.kx
    obtain ⟨⟨x2, x3, x4⟩, _⟩ := E18.out.ky
    go_simp
    go_wp2_with fail
    refine (markGroups_le nr F n S xa xc xg UX zX _ _ X18.out HB.out.1 HB.out.2.1 HB.out.2.2.1 HB.out.2.2.2).mono ?_
    rintro e w19 ⟨kk, hk0, hk1, rfl, V19⟩
    have z6 := HZ6.out; have z8 := HZ8.out; have z10 := HZ10.out
    have E19 : Hid (EnvP w5 w6.heap.size w8.heap.size w10.heap.size c (.slice xa nr xc) (.slice (some ⟨xg, 0, none⟩) n n) (.slice j0 T.nc k0) (.slice j1 T.nl k1) (.slice j2 T.nw k2) (.slice g0 nr' q0) (.slice g1 n' q1) w19) := E18.out.within V19 (Nat.le_refl _) (Or.inr (by omega)) (Or.inr (by omega)) (Or.inr (by omega))
    have YO : Hid (OwnIn T (.slice j0 T.nc k0) (.slice j1 T.nl k1) (.slice j2 T.nw k2) (fun k => k < w5.heap.size ∨ zX n ≤ k)) := Y18.out.1.1.ownIn.mono (fun k hk => Or.inr (by omega))
    have Y19 : Hid (((St w19 (w6.heap.size + 1) T (.slice j0 T.nc k0) (.slice j1 T.nl k1) (.slice j2 T.nw k2) ∧ FreeS w19 T (.slice j0 T.nc k0) (.slice j1 T.nl k1) (.slice j2 T.nw k2)) ∧ ApartS T (.slice j0 T.nc k0) (.slice j1 T.nl k1) (.slice j2 T.nw k2))) := ⟨⟨Y18.out.1.1.within V19 YO.out, Y18.out.1.2.within Y18.out.1.1 V19 YO.out⟩, Y18.out.2⟩
    have G19 : Hid (FineR w19 (w8.heap.size + 1) w10.heap.size nr' F' n' R g0 q0 g1 UG zG) := G18.out.within V19 (by omega)
    clear V19 E18 X18 Y18 G18 YO x0 x1 x2 x3 x4 z6 z8 z10
    obtain ⟨⟨x2, x3, x4⟩, _⟩ := E19.out.ky
    have hle := E19.out.ky.lt
    go_wp2_with fail
    refine (markStore_from T _ _ _ (w6.heap.size + 1) w8.heap.size kk hk0 hk1 _ Y19.out.1.1 Y19.out.1.2 Y19.out.2 YE.out (by omega) HT.out.1 HT.out.2.1 HT.out.2.2).mono ?_
    rintro e w20 ⟨rfl, V20⟩
    have z6 := HZ6.out; have z8 := HZ8.out; have z10 := HZ10.out
    have dk : decide (kk + T.nc * 3 + T.nl * 5 + T.nw * 4 < 0) = false := decide_eq_false (by omega)
    have E20 : Hid (EnvP w5 w6.heap.size w8.heap.size w10.heap.size c (.slice xa nr xc) (.slice (some ⟨xg, 0, none⟩) n n) (.slice j0 T.nc k0) (.slice j1 T.nl k1) (.slice j2 T.nw k2) (.slice g0 nr' q0) (.slice g1 n' q1) w20) := E19.out.within V20 (by omega) (Or.inl (by omega)) (Or.inr (Nat.le_refl _)) (Or.inr (by omega))
    have G20 : Hid (FineR w20 (w8.heap.size + 1) w10.heap.size nr' F' n' R g0 q0 g1 UG zG) := G19.out.within V20 (by omega)
    clear V20 E19 Y19 G19 x2 x3 x4 hle z6 z8 z10
    obtain ⟨⟨t0, t1, t2⟩, _⟩ := KW.out.later E20.out.past
    obtain ⟨⟨y0, y1, y2⟩, _⟩ := E20.out.kg
    go_wp2_with fail
    refine (eqGroupsResult_same c nr' F' n' R UG UM _ _ _ _ _ _ _ (G20.out.grs q1) (GW.out.later E20.out.past) HR.out).mono ?_
    rintro e w21 ⟨rfl, q21⟩
    clear t0 t1 t2 y0 y1 y2
    have E21 : Hid (EnvP w5 w6.heap.size w8.heap.size w10.heap.size c (.slice xa nr xc) (.slice (some ⟨xg, 0, none⟩) n n) (.slice j0 T.nc k0) (.slice j1 T.nl k1) (.slice j2 T.nw k2) (.slice g0 nr' q0) (.slice g1 n' q1) w21) := E20.out.later q21
    have G21 : Hid (FineR w21 (w8.heap.size + 1) w10.heap.size nr' F' n' R g0 q0 g1 UG zG) := G20.out.later q21
    clear q21 E20 G20
    obtain ⟨⟨y0, y1, y2⟩, _⟩ := E21.out.kg
    go_wp2_with fail
    refine (markGroupsResult_any c nr' F' n' R g0 q0 g1 q1 UG zG (w8.heap.size + 1) w10.heap.size _ G21.out HR.out).mono ?_
    rintro e w22 ⟨rfl, m22, V22⟩
    have z6 := HZ6.out; have z8 := HZ8.out; have z10 := HZ10.out
    have E22 : Hid (EnvP w5 w6.heap.size w8.heap.size w10.heap.size c (.slice xa nr xc) (.slice (some ⟨xg, 0, none⟩) n n) (.slice j0 T.nc k0) (.slice j1 T.nl k1) (.slice j2 T.nw k2) (.slice g0 nr' q0) (.slice g1 n' q1) w22) := E21.out.within V22 (by omega) (Or.inl (by omega)) (Or.inl (by omega)) (Or.inr (Nat.le_refl _))
    have M22 : Hid (MarkG w22 (w8.heap.size + 1) nr' n' R g0 q0 g1 q1 UG) := m22
    clear m22 V22 E21 G21 y0 y1 y2 z6 z8 z10
    obtain ⟨⟨y0, y1, y2⟩, _⟩ := E22.out.kg
    go_wp2_with fail
    refine (heldGroupsResult_any c nr' n' R g0 q0 g1 q1 UG _ _ M22.out HR.out).mono ?_
    rintro e w23 ⟨rfl, q23⟩
    clear y0 y1 y2
    have E23 : Hid (EnvP w5 w6.heap.size w8.heap.size w10.heap.size c (.slice xa nr xc) (.slice (some ⟨xg, 0, none⟩) n n) (.slice j0 T.nc k0) (.slice j1 T.nl k1) (.slice j2 T.nw k2) (.slice g0 nr' q0) (.slice g1 n' q1) w23) := E22.out.later q23
    have M23 : Hid (MarkG w23 (w8.heap.size + 1) nr' n' R g0 q0 g1 q1 UG) := M22.out.later q23
    clear q23 E22 M22
    go_wp2_with fail
    have hS0 : (fun x : World => (BoxP w (.slice a0 nr c0) (.slice a1 n c1) (.slice b0 T.nc d0) (.slice b1 T.nl d1) (.slice b2 T.nw d2) x ∧ EnvP w5 w6.heap.size w8.heap.size w10.heap.size c (.slice xa nr xc) (.slice (some ⟨xg, 0, none⟩) n n) (.slice j0 T.nc k0) (.slice j1 T.nl k1) (.slice j2 T.nw k2) (.slice g0 nr' q0) (.slice g1 n' q1) x) ∧ MarkG x (w8.heap.size + 1) nr' n' R g0 q0 g1 q1 UG) w23.drew := ⟨⟨(B5.out.later E23.out.past).later (below_dr (Below.refl _ _) 1), E23.out.later (below_dr (Below.refl _ _) 1)⟩, M23.out.later (below_dr (Below.refl _ _) 1)⟩
    refine wp_region_held_drew (S := fun x : World => (BoxP w (.slice a0 nr c0) (.slice a1 n c1) (.slice b0 T.nc d0) (.slice b1 T.nl d1) (.slice b2 T.nw d2) x ∧ EnvP w5 w6.heap.size w8.heap.size w10.heap.size c (.slice xa nr xc) (.slice (some ⟨xg, 0, none⟩) n n) (.slice j0 T.nc k0) (.slice j1 T.nl k1) (.slice j2 T.nw k2) (.slice g0 nr' q0) (.slice g1 n' q1) x) ∧ MarkG x (w8.heap.size + 1) nr' n' R g0 q0 g1 q1 UG) (by kernel_rfl) hS0 (fun hS => ?_)
    clear hS0 E23 M23
    generalize w23.drew = y2 at hS ⊢
    refine wpAnyH_take (i := 0) (v := ?_) rfl (by kernel_rfl) (by kernel_rfl) (by kernel_rfl) (fun _ _ _ h => h) (Or.inl ⟨by kernel_rfl, ?_⟩) hS ?_
    rotate_left
    · intro wx hx
      obtain ⟨⟨⟨_, ⟨⟨hx0, hx1⟩, _⟩, ⟨hx2, hx3, hx4⟩, _⟩, hxe⟩, _⟩ := hx
      go_simp
      try with_reducible rfl
    refine wpAnyH_take (i := 2) (v := ?_) rfl (by kernel_rfl) (by kernel_rfl) (by kernel_rfl) (fun _ _ _ h => h) (Or.inl ⟨by kernel_rfl, ?_⟩) hS ?_
    rotate_left
    · intro wx hx
      obtain ⟨⟨⟨_, ⟨⟨hx0, hx1⟩, _⟩, ⟨hx2, hx3, hx4⟩, _⟩, hxe⟩, _⟩ := hx
      go_simp
      try with_reducible rfl
    refine wpAnyH_take (i := 3) (v := ?_) rfl (by kernel_rfl) (by kernel_rfl) (by kernel_rfl) (fun _ _ _ h => h) (Or.inl ⟨by kernel_rfl, ?_⟩) hS ?_
    rotate_left
    · intro wx hx
      obtain ⟨⟨⟨_, ⟨⟨hx0, hx1⟩, _⟩, ⟨hx2, hx3, hx4⟩, _⟩, hxe⟩, _⟩ := hx
      go_simp
      try with_reducible rfl
    refine wpAnyH_ready (rs := [1, 6]) (by kernel_rfl) (by simp) ?_
    refine AllReadyH.cons rfl (fun K hK => ?_) (AllReadyH.cons rfl (fun K hK => ?_) AllReadyH.nil)
    · go_simp
      go_wp2_with fail
      refine (toGroups_any nr F n S V _ _ 0 _ (H.out.1.later hS.1.1.1) HB.out.1 HB.out.2.1 HB.out.2.2.1).mono ?_
      rintro e y3 ⟨ra, rc, g, U, z, rfl, fg, q3⟩
      have FG : Hid (Grs y3 0 nr F n S U (.slice ra nr rc) (.slice (some ⟨g, 0, none⟩) n n)) := fg.grs.mono (Nat.zero_le _)
      have hS' := (show ((BoxP w (.slice a0 nr c0) (.slice a1 n c1) (.slice b0 T.nc d0) (.slice b1 T.nl d1) (.slice b2 T.nw d2) _ ∧ EnvP w5 w6.heap.size w8.heap.size w10.heap.size c (.slice xa nr xc) (.slice (some ⟨xg, 0, none⟩) n n) (.slice j0 T.nc k0) (.slice j1 T.nl k1) (.slice j2 T.nw k2) (.slice g0 nr' q0) (.slice g1 n' q1) _) ∧ MarkG _ (w8.heap.size + 1) nr' n' R g0 q0 g1 q1 UG) from ⟨⟨hS.1.1.later q3, hS.1.2.later q3⟩, hS.2.later q3⟩)
      go_wp2_with fail
      refine hK.out _ _ hS' (fun hS => ?_)
      clear hK K hS' q3
      refine wpAnyH_ready (rs := [4, 6]) (by kernel_rfl) (by simp) ?_
      refine AllReadyH.cons rfl (fun K hK => ?_) (AllReadyH.cons rfl (fun K hK => ?_) AllReadyH.nil)
      · go_simp
        go_wp2_with fail
        refine (toStore_any T _ _ _ 0 _ (H.out.2.later hS.1.1.1) HT.out.1 HT.out.2.1 HT.out.2.2).mono ?_
        rintro e y4 ⟨z0, z1, z2, rfl, s4, _, q4⟩
        have FG : Hid (Grs y4 0 nr F n S U (.slice ra nr rc) (.slice (some ⟨g, 0, none⟩) n n)) := FG.out.later q4
        have FT : Hid (St y4 0 T z0 z1 z2) := s4.mono (Nat.zero_le _)
        have hS' := (show ((BoxP w (.slice a0 nr c0) (.slice a1 n c1) (.slice b0 T.nc d0) (.slice b1 T.nl d1) (.slice b2 T.nw d2) _ ∧ EnvP w5 w6.heap.size w8.heap.size w10.heap.size c (.slice xa nr xc) (.slice (some ⟨xg, 0, none⟩) n n) (.slice j0 T.nc k0) (.slice j1 T.nl k1) (.slice j2 T.nw k2) (.slice g0 nr' q0) (.slice g1 n' q1) _) ∧ MarkG _ (w8.heap.size + 1) nr' n' R g0 q0 g1 q1 UG) from ⟨⟨hS.1.1.later q4, hS.1.2.later q4⟩, hS.2.later q4⟩)
        go_wp2_with fail
        refine hK.out _ _ hS' (fun hS => ?_)
        clear hK K hS' q4
        refine wpAnyH_ready (rs := [5, 6]) (by kernel_rfl) (by simp) ?_
        refine AllReadyH.cons rfl (fun K hK => ?_) (AllReadyH.cons rfl (fun K hK => ?_) AllReadyH.nil)
        · go_simp
          go_wp2_with fail
          refine (HI.out _ _ _ _ _ _ _ FG.out FT.out).mono ?_
          rintro e y5 ⟨h0, r0, h1, r1, UH, zH, rfl, gm, q5⟩
          have GM : Hid (Grs y5 0 nr' F' n' R UH (.slice h0 nr' r0) (.slice h1 n' r1)) := (gm.grs r1).mono (Nat.zero_le _)
          have hS' := (show ((BoxP w (.slice a0 nr c0) (.slice a1 n c1) (.slice b0 T.nc d0) (.slice b1 T.nl d1) (.slice b2 T.nw d2) _ ∧ EnvP w5 w6.heap.size w8.heap.size w10.heap.size c (.slice xa nr xc) (.slice (some ⟨xg, 0, none⟩) n n) (.slice j0 T.nc k0) (.slice j1 T.nl k1) (.slice j2 T.nw k2) (.slice g0 nr' q0) (.slice g1 n' q1) _) ∧ MarkG _ (w8.heap.size + 1) nr' n' R g0 q0 g1 q1 UG) from ⟨⟨hS.1.1.later q5, hS.1.2.later q5⟩, hS.2.later q5⟩)
          go_wp2_with fail
          refine hK.out _ _ hS' (fun hS => ?_)
          clear hK K hS' q5
          refine wpAnyH_ready (rs := [6]) (by kernel_rfl) (by simp) ?_
          refine AllReadyH.cons rfl (fun K hK => ?_) AllReadyH.nil
          obtain ⟨WH, hW⟩ : ∃ W, y5.heap.size = W := ⟨_, rfl⟩
          have ZW : Hid (Z3 (y5.alloc (.cells #[.int .i64 0, .slice none 0 0, .slice none 0 0] 38)) WH) := by rw [← hW]; exact Z3.new _ _
          have HWc : Hid (w.heap.size + 2 ≤ WH ∧ w10.heap.size < WH) := by have h1 := hS.1.1.2.2.lt; have h2 := hS.1.2.kg.lt; exact ⟨by omega, by omega⟩
          have hS' := (show ((BoxP w (.slice a0 nr c0) (.slice a1 n c1) (.slice b0 T.nc d0) (.slice b1 T.nl d1) (.slice b2 T.nw d2) _ ∧ EnvP w5 w6.heap.size w8.heap.size w10.heap.size c (.slice xa nr xc) (.slice (some ⟨xg, 0, none⟩) n n) (.slice j0 T.nc k0) (.slice j1 T.nl k1) (.slice j2 T.nw k2) (.slice g0 nr' q0) (.slice g1 n' q1) _) ∧ MarkG _ (w8.heap.size + 1) nr' n' R g0 q0 g1 q1 UG) from ⟨⟨hS.1.1.later (below_alloc y5 (.cells #[.int .i64 0, .slice none 0 0, .slice none 0 0] 38)), hS.1.2.later (below_alloc y5 (.cells #[.int .i64 0, .slice none 0 0, .slice none 0 0] 38))⟩, hS.2.later (below_alloc y5 (.cells #[.int .i64 0, .slice none 0 0, .slice none 0 0] 38))⟩)
          have GM' := GM.out.later (below_alloc y5 (.cells #[.int .i64 0, .slice none 0 0, .slice none 0 0] 38))
          clear GM
          have GM := hid GM'
          clear GM'
          go_simp
          refine hK.out _ _ hS' (fun hS => ?_)
          clear hK K hS' hW
          generalize y5.alloc (.cells #[.int .i64 0, .slice none 0 0, .slice none 0 0] 38) = y5a at ZW hS GM ⊢
          refine wpAnyH_ready (rs := [7]) (by kernel_rfl) (by simp) ?_
          refine AllReadyH.cons rfl (fun K hK => ?_) AllReadyH.nil
          obtain ⟨⟨⟨zc0, zc1, zc2⟩, zf0, zf1, zf2⟩, _⟩ := ZW.out
          have KWH := ((ZW.out.1.set0 (.int .i64 c)).set1 (.slice h0 nr' r0)).set2 (.slice h1 n' r1)
          have GWH := Grs.setZ GM.out ZW.out (.int .i64 c) (.slice h0 nr' r0) (.slice h1 n' r1)
          have BW := within_set3 y5a WH (.int .i64 c) (.slice h0 nr' r0) (.slice h1 n' r1)
          have hS' := (show ((BoxP w (.slice a0 nr c0) (.slice a1 n c1) (.slice b0 T.nc d0) (.slice b1 T.nl d1) (.slice b2 T.nw d2) _ ∧ EnvP w5 w6.heap.size w8.heap.size w10.heap.size c (.slice xa nr xc) (.slice (some ⟨xg, 0, none⟩) n n) (.slice j0 T.nc k0) (.slice j1 T.nl k1) (.slice j2 T.nw k2) (.slice g0 nr' q0) (.slice g1 n' q1) _) ∧ MarkG _ (w8.heap.size + 1) nr' n' R g0 q0 g1 q1 UG) from ⟨⟨BoxP.setW hS.1.1 BW HWc.out.1, hS.1.2.within BW (by have := HWc.out.2; have := HZ6.out; have := HZ8.out; have := HZ10.out; omega) (Or.inl (by have := HWc.out.2; have := HZ8.out; have := HZ10.out; omega)) (Or.inl (by have := HWc.out.2; have := HZ10.out; omega)) (Or.inl HWc.out.2)⟩, Grs.setZ (F := fun p => 1 + (p : Nat)) hS.2 ZW.out (.int .i64 c) (.slice h0 nr' r0) (.slice h1 n' r1)⟩)
          go_simp
          refine hK.out _ _ hS' (fun hS => ?_)
          clear hK K hS' zc0 zc1 zc2 zf0 zf1 zf2 GM ZW BW
          refine wpAnyH_done (by kernel_rfl) ?_ _
          have KWH := hid KWH
          have GWH := hid GWH
          generalize ((y5a.setCell ⟨WH, 0, none⟩ (.int .i64 c)).setCell ⟨WH, 1, none⟩ (.slice h0 nr' r0)).setCell ⟨WH, 2, none⟩ (.slice h1 n' r1) = w24 at KWH GWH hS ⊢
          clear FG FT
          have E24 : Hid (EnvP w5 w6.heap.size w8.heap.size w10.heap.size c (.slice xa nr xc) (.slice (some ⟨xg, 0, none⟩) n n) (.slice j0 T.nc k0) (.slice j1 T.nl k1) (.slice j2 T.nw k2) (.slice g0 nr' q0) (.slice g1 n' q1) w24) := hS.1.2
          have M24 : Hid (MarkG w24 (w8.heap.size + 1) nr' n' R g0 q0 g1 q1 UG) := hS.2
          clear hS
          obtain ⟨⟨t0, t1, t2⟩, _⟩ := KW.out.later E24.out.past
          obtain ⟨⟨y0, y1, y2⟩, _⟩ := KWH.out
          go_simp
          go_wp2_with fail
          refine (eqGroupsResult_same c nr' F' n' R UH UM _ _ _ _ _ _ _ GWH.out (GW.out.later E24.out.past) HR.out).mono ?_
          rintro e w25 ⟨rfl, q25⟩
          clear t0 t1 t2 y0 y1 y2
          have E25 : Hid (EnvP w5 w6.heap.size w8.heap.size w10.heap.size c (.slice xa nr xc) (.slice (some ⟨xg, 0, none⟩) n n) (.slice j0 T.nc k0) (.slice j1 T.nl k1) (.slice j2 T.nw k2) (.slice g0 nr' q0) (.slice g1 n' q1) w25) := E24.out.later q25
          have M25 : Hid (MarkG w25 (w8.heap.size + 1) nr' n' R g0 q0 g1 q1 UG) := M24.out.later q25
          clear q25 E24 M24
          obtain ⟨⟨y0, y1, y2⟩, _⟩ := E25.out.kg
          go_wp2_with fail
          refine (heldGroupsResult_any c nr' n' R g0 q0 g1 q1 UG _ _ M25.out HR.out).mono ?_
          rintro e w26 ⟨rfl, q26⟩
          clear y0 y1 y2
          have E26 : Hid (EnvP w5 w6.heap.size w8.heap.size w10.heap.size c (.slice xa nr xc) (.slice (some ⟨xg, 0, none⟩) n n) (.slice j0 T.nc k0) (.slice j1 T.nl k1) (.slice j2 T.nw k2) (.slice g0 nr' q0) (.slice g1 n' q1) w26) := E25.out.later q26
          have M26 : Hid (MarkG w26 (w8.heap.size + 1) nr' n' R g0 q0 g1 q1 UG) := M25.out.later q26
          clear q26 E25 M25
          go_wp2
          go_ret
          exact ⟨rfl, B5.out.1.trans (E26.out.past.mono B5.out.1.size)⟩
        · obtain ⟨WH, hW⟩ : ∃ W, y4.heap.size = W := ⟨_, rfl⟩
          have ZW : Hid (Z3 (y4.alloc (.cells #[.int .i64 0, .slice none 0 0, .slice none 0 0] 38)) WH) := by rw [← hW]; exact Z3.new _ _
          have HWc : Hid (w.heap.size + 2 ≤ WH ∧ w10.heap.size < WH) := by have h1 := hS.1.1.2.2.lt; have h2 := hS.1.2.kg.lt; exact ⟨by omega, by omega⟩
          have hS' := (show ((BoxP w (.slice a0 nr c0) (.slice a1 n c1) (.slice b0 T.nc d0) (.slice b1 T.nl d1) (.slice b2 T.nw d2) _ ∧ EnvP w5 w6.heap.size w8.heap.size w10.heap.size c (.slice xa nr xc) (.slice (some ⟨xg, 0, none⟩) n n) (.slice j0 T.nc k0) (.slice j1 T.nl k1) (.slice j2 T.nw k2) (.slice g0 nr' q0) (.slice g1 n' q1) _) ∧ MarkG _ (w8.heap.size + 1) nr' n' R g0 q0 g1 q1 UG) from ⟨⟨hS.1.1.later (below_alloc y4 (.cells #[.int .i64 0, .slice none 0 0, .slice none 0 0] 38)), hS.1.2.later (below_alloc y4 (.cells #[.int .i64 0, .slice none 0 0, .slice none 0 0] 38))⟩, hS.2.later (below_alloc y4 (.cells #[.int .i64 0, .slice none 0 0, .slice none 0 0] 38))⟩)
          have FG' := FG.out.later (below_alloc y4 (.cells #[.int .i64 0, .slice none 0 0, .slice none 0 0] 38))
          clear FG
          have FG := hid FG'
          clear FG'
          have FT' := FT.out.later (below_alloc y4 (.cells #[.int .i64 0, .slice none 0 0, .slice none 0 0] 38))
          clear FT
          have FT := hid FT'
          clear FT'
          go_simp
          refine hK.out _ _ hS' (fun hS => ?_)
          clear hK K hS' hW
          generalize y4.alloc (.cells #[.int .i64 0, .slice none 0 0, .slice none 0 0] 38) = y4a at ZW hS FG FT ⊢
          refine wpAnyH_ready (rs := [5]) (by kernel_rfl) (by simp) ?_
          refine AllReadyH.cons rfl (fun K hK => ?_) AllReadyH.nil
          go_simp
          go_wp2_with fail
          refine (HI.out _ _ _ _ _ _ _ FG.out FT.out).mono ?_
          rintro e y5 ⟨h0, r0, h1, r1, UH, zH, rfl, gm, q5⟩
          have GM : Hid (Grs y5 0 nr' F' n' R UH (.slice h0 nr' r0) (.slice h1 n' r1)) := (gm.grs r1).mono (Nat.zero_le _)
          have hS' := (show ((BoxP w (.slice a0 nr c0) (.slice a1 n c1) (.slice b0 T.nc d0) (.slice b1 T.nl d1) (.slice b2 T.nw d2) _ ∧ EnvP w5 w6.heap.size w8.heap.size w10.heap.size c (.slice xa nr xc) (.slice (some ⟨xg, 0, none⟩) n n) (.slice j0 T.nc k0) (.slice j1 T.nl k1) (.slice j2 T.nw k2) (.slice g0 nr' q0) (.slice g1 n' q1) _) ∧ MarkG _ (w8.heap.size + 1) nr' n' R g0 q0 g1 q1 UG) from ⟨⟨hS.1.1.later q5, hS.1.2.later q5⟩, hS.2.later q5⟩)
          have ZW' := ZW.out.later q5
          clear ZW
          have ZW := hid ZW'
          clear ZW'
          go_wp2_with fail
          refine hK.out _ _ hS' (fun hS => ?_)
          clear hK K hS' q5
          refine wpAnyH_ready (rs := [7]) (by kernel_rfl) (by simp) ?_
          refine AllReadyH.cons rfl (fun K hK => ?_) AllReadyH.nil
          obtain ⟨⟨⟨zc0, zc1, zc2⟩, zf0, zf1, zf2⟩, _⟩ := ZW.out
          have KWH := ((ZW.out.1.set0 (.int .i64 c)).set1 (.slice h0 nr' r0)).set2 (.slice h1 n' r1)
          have GWH := Grs.setZ GM.out ZW.out (.int .i64 c) (.slice h0 nr' r0) (.slice h1 n' r1)
          have BW := within_set3 y5 WH (.int .i64 c) (.slice h0 nr' r0) (.slice h1 n' r1)
          have hS' := (show ((BoxP w (.slice a0 nr c0) (.slice a1 n c1) (.slice b0 T.nc d0) (.slice b1 T.nl d1) (.slice b2 T.nw d2) _ ∧ EnvP w5 w6.heap.size w8.heap.size w10.heap.size c (.slice xa nr xc) (.slice (some ⟨xg, 0, none⟩) n n) (.slice j0 T.nc k0) (.slice j1 T.nl k1) (.slice j2 T.nw k2) (.slice g0 nr' q0) (.slice g1 n' q1) _) ∧ MarkG _ (w8.heap.size + 1) nr' n' R g0 q0 g1 q1 UG) from ⟨⟨BoxP.setW hS.1.1 BW HWc.out.1, hS.1.2.within BW (by have := HWc.out.2; have := HZ6.out; have := HZ8.out; have := HZ10.out; omega) (Or.inl (by have := HWc.out.2; have := HZ8.out; have := HZ10.out; omega)) (Or.inl (by have := HWc.out.2; have := HZ10.out; omega)) (Or.inl HWc.out.2)⟩, Grs.setZ (F := fun p => 1 + (p : Nat)) hS.2 ZW.out (.int .i64 c) (.slice h0 nr' r0) (.slice h1 n' r1)⟩)
          go_simp
          refine hK.out _ _ hS' (fun hS => ?_)
          clear hK K hS' zc0 zc1 zc2 zf0 zf1 zf2 GM ZW BW
          refine wpAnyH_done (by kernel_rfl) ?_ _
          have KWH := hid KWH
          have GWH := hid GWH
          generalize ((y5.setCell ⟨WH, 0, none⟩ (.int .i64 c)).setCell ⟨WH, 1, none⟩ (.slice h0 nr' r0)).setCell ⟨WH, 2, none⟩ (.slice h1 n' r1) = w24 at KWH GWH hS ⊢
          clear FG FT
          have E24 : Hid (EnvP w5 w6.heap.size w8.heap.size w10.heap.size c (.slice xa nr xc) (.slice (some ⟨xg, 0, none⟩) n n) (.slice j0 T.nc k0) (.slice j1 T.nl k1) (.slice j2 T.nw k2) (.slice g0 nr' q0) (.slice g1 n' q1) w24) := hS.1.2
          have M24 : Hid (MarkG w24 (w8.heap.size + 1) nr' n' R g0 q0 g1 q1 UG) := hS.2
          clear hS
          obtain ⟨⟨t0, t1, t2⟩, _⟩ := KW.out.later E24.out.past
          obtain ⟨⟨y0, y1, y2⟩, _⟩ := KWH.out
          go_simp
          go_wp2_with fail
          refine (eqGroupsResult_same c nr' F' n' R UH UM _ _ _ _ _ _ _ GWH.out (GW.out.later E24.out.past) HR.out).mono ?_
          rintro e w25 ⟨rfl, q25⟩
          clear t0 t1 t2 y0 y1 y2
          have E25 : Hid (EnvP w5 w6.heap.size w8.heap.size w10.heap.size c (.slice xa nr xc) (.slice (some ⟨xg, 0, none⟩) n n) (.slice j0 T.nc k0) (.slice j1 T.nl k1) (.slice j2 T.nw k2) (.slice g0 nr' q0) (.slice g1 n' q1) w25) := E24.out.later q25
          have M25 : Hid (MarkG w25 (w8.heap.size + 1) nr' n' R g0 q0 g1 q1 UG) := M24.out.later q25
          clear q25 E24 M24
          obtain ⟨⟨y0, y1, y2⟩, _⟩ := E25.out.kg
          go_wp2_with fail
          refine (heldGroupsResult_any c nr' n' R g0 q0 g1 q1 UG _ _ M25.out HR.out).mono ?_
          rintro e w26 ⟨rfl, q26⟩
          clear y0 y1 y2
          have E26 : Hid (EnvP w5 w6.heap.size w8.heap.size w10.heap.size c (.slice xa nr xc) (.slice (some ⟨xg, 0, none⟩) n n) (.slice j0 T.nc k0) (.slice j1 T.nl k1) (.slice j2 T.nw k2) (.slice g0 nr' q0) (.slice g1 n' q1) w26) := E25.out.later q26
          have M26 : Hid (MarkG w26 (w8.heap.size + 1) nr' n' R g0 q0 g1 q1 UG) := M25.out.later q26
          clear q26 E25 M25
          go_wp2
          go_ret
          exact ⟨rfl, B5.out.1.trans (E26.out.past.mono B5.out.1.size)⟩
      · obtain ⟨WH, hW⟩ : ∃ W, y3.heap.size = W := ⟨_, rfl⟩
        have ZW : Hid (Z3 (y3.alloc (.cells #[.int .i64 0, .slice none 0 0, .slice none 0 0] 38)) WH) := by rw [← hW]; exact Z3.new _ _
        have HWc : Hid (w.heap.size + 2 ≤ WH ∧ w10.heap.size < WH) := by have h1 := hS.1.1.2.2.lt; have h2 := hS.1.2.kg.lt; exact ⟨by omega, by omega⟩
        have hS' := (show ((BoxP w (.slice a0 nr c0) (.slice a1 n c1) (.slice b0 T.nc d0) (.slice b1 T.nl d1) (.slice b2 T.nw d2) _ ∧ EnvP w5 w6.heap.size w8.heap.size w10.heap.size c (.slice xa nr xc) (.slice (some ⟨xg, 0, none⟩) n n) (.slice j0 T.nc k0) (.slice j1 T.nl k1) (.slice j2 T.nw k2) (.slice g0 nr' q0) (.slice g1 n' q1) _) ∧ MarkG _ (w8.heap.size + 1) nr' n' R g0 q0 g1 q1 UG) from ⟨⟨hS.1.1.later (below_alloc y3 (.cells #[.int .i64 0, .slice none 0 0, .slice none 0 0] 38)), hS.1.2.later (below_alloc y3 (.cells #[.int .i64 0, .slice none 0 0, .slice none 0 0] 38))⟩, hS.2.later (below_alloc y3 (.cells #[.int .i64 0, .slice none 0 0, .slice none 0 0] 38))⟩)
        have FG' := FG.out.later (below_alloc y3 (.cells #[.int .i64 0, .slice none 0 0, .slice none 0 0] 38))
        clear FG
        have FG := hid FG'
        clear FG'
        go_simp
        refine hK.out _ _ hS' (fun hS => ?_)
        clear hK K hS' hW
        generalize y3.alloc (.cells #[.int .i64 0, .slice none 0 0, .slice none 0 0] 38) = y3a at ZW hS FG ⊢
        refine wpAnyH_ready (rs := [4]) (by kernel_rfl) (by simp) ?_
        refine AllReadyH.cons rfl (fun K hK => ?_) AllReadyH.nil
        go_simp
        go_wp2_with fail
        refine (toStore_any T _ _ _ 0 _ (H.out.2.later hS.1.1.1) HT.out.1 HT.out.2.1 HT.out.2.2).mono ?_
        rintro e y4 ⟨z0, z1, z2, rfl, s4, _, q4⟩
        have FG : Hid (Grs y4 0 nr F n S U (.slice ra nr rc) (.slice (some ⟨g, 0, none⟩) n n)) := FG.out.later q4
        have FT : Hid (St y4 0 T z0 z1 z2) := s4.mono (Nat.zero_le _)
        have hS' := (show ((BoxP w (.slice a0 nr c0) (.slice a1 n c1) (.slice b0 T.nc d0) (.slice b1 T.nl d1) (.slice b2 T.nw d2) _ ∧ EnvP w5 w6.heap.size w8.heap.size w10.heap.size c (.slice xa nr xc) (.slice (some ⟨xg, 0, none⟩) n n) (.slice j0 T.nc k0) (.slice j1 T.nl k1) (.slice j2 T.nw k2) (.slice g0 nr' q0) (.slice g1 n' q1) _) ∧ MarkG _ (w8.heap.size + 1) nr' n' R g0 q0 g1 q1 UG) from ⟨⟨hS.1.1.later q4, hS.1.2.later q4⟩, hS.2.later q4⟩)
        have ZW' := ZW.out.later q4
        clear ZW
        have ZW := hid ZW'
        clear ZW'
        go_wp2_with fail
        refine hK.out _ _ hS' (fun hS => ?_)
        clear hK K hS' q4
        refine wpAnyH_ready (rs := [5]) (by kernel_rfl) (by simp) ?_
        refine AllReadyH.cons rfl (fun K hK => ?_) AllReadyH.nil
        go_simp
        go_wp2_with fail
        refine (HI.out _ _ _ _ _ _ _ FG.out FT.out).mono ?_
        rintro e y5 ⟨h0, r0, h1, r1, UH, zH, rfl, gm, q5⟩
        have GM : Hid (Grs y5 0 nr' F' n' R UH (.slice h0 nr' r0) (.slice h1 n' r1)) := (gm.grs r1).mono (Nat.zero_le _)
        have hS' := (show ((BoxP w (.slice a0 nr c0) (.slice a1 n c1) (.slice b0 T.nc d0) (.slice b1 T.nl d1) (.slice b2 T.nw d2) _ ∧ EnvP w5 w6.heap.size w8.heap.size w10.heap.size c (.slice xa nr xc) (.slice (some ⟨xg, 0, none⟩) n n) (.slice j0 T.nc k0) (.slice j1 T.nl k1) (.slice j2 T.nw k2) (.slice g0 nr' q0) (.slice g1 n' q1) _) ∧ MarkG _ (w8.heap.size + 1) nr' n' R g0 q0 g1 q1 UG) from ⟨⟨hS.1.1.later q5, hS.1.2.later q5⟩, hS.2.later q5⟩)
        have ZW' := ZW.out.later q5
        clear ZW
        have ZW := hid ZW'
        clear ZW'
        go_wp2_with fail
        refine hK.out _ _ hS' (fun hS => ?_)
        clear hK K hS' q5
        refine wpAnyH_ready (rs := [7]) (by kernel_rfl) (by simp) ?_
        refine AllReadyH.cons rfl (fun K hK => ?_) AllReadyH.nil
        obtain ⟨⟨⟨zc0, zc1, zc2⟩, zf0, zf1, zf2⟩, _⟩ := ZW.out
        have KWH := ((ZW.out.1.set0 (.int .i64 c)).set1 (.slice h0 nr' r0)).set2 (.slice h1 n' r1)
        have GWH := Grs.setZ GM.out ZW.out (.int .i64 c) (.slice h0 nr' r0) (.slice h1 n' r1)
        have BW := within_set3 y5 WH (.int .i64 c) (.slice h0 nr' r0) (.slice h1 n' r1)
        have hS' := (show ((BoxP w (.slice a0 nr c0) (.slice a1 n c1) (.slice b0 T.nc d0) (.slice b1 T.nl d1) (.slice b2 T.nw d2) _ ∧ EnvP w5 w6.heap.size w8.heap.size w10.heap.size c (.slice xa nr xc) (.slice (some ⟨xg, 0, none⟩) n n) (.slice j0 T.nc k0) (.slice j1 T.nl k1) (.slice j2 T.nw k2) (.slice g0 nr' q0) (.slice g1 n' q1) _) ∧ MarkG _ (w8.heap.size + 1) nr' n' R g0 q0 g1 q1 UG) from ⟨⟨BoxP.setW hS.1.1 BW HWc.out.1, hS.1.2.within BW (by have := HWc.out.2; have := HZ6.out; have := HZ8.out; have := HZ10.out; omega) (Or.inl (by have := HWc.out.2; have := HZ8.out; have := HZ10.out; omega)) (Or.inl (by have := HWc.out.2; have := HZ10.out; omega)) (Or.inl HWc.out.2)⟩, Grs.setZ (F := fun p => 1 + (p : Nat)) hS.2 ZW.out (.int .i64 c) (.slice h0 nr' r0) (.slice h1 n' r1)⟩)
        go_simp
        refine hK.out _ _ hS' (fun hS => ?_)
        clear hK K hS' zc0 zc1 zc2 zf0 zf1 zf2 GM ZW BW
        refine wpAnyH_done (by kernel_rfl) ?_ _
        have KWH := hid KWH
        have GWH := hid GWH
        generalize ((y5.setCell ⟨WH, 0, none⟩ (.int .i64 c)).setCell ⟨WH, 1, none⟩ (.slice h0 nr' r0)).setCell ⟨WH, 2, none⟩ (.slice h1 n' r1) = w24 at KWH GWH hS ⊢
        clear FG FT
        have E24 : Hid (EnvP w5 w6.heap.size w8.heap.size w10.heap.size c (.slice xa nr xc) (.slice (some ⟨xg, 0, none⟩) n n) (.slice j0 T.nc k0) (.slice j1 T.nl k1) (.slice j2 T.nw k2) (.slice g0 nr' q0) (.slice g1 n' q1) w24) := hS.1.2
        have M24 : Hid (MarkG w24 (w8.heap.size + 1) nr' n' R g0 q0 g1 q1 UG) := hS.2
        clear hS
        obtain ⟨⟨t0, t1, t2⟩, _⟩ := KW.out.later E24.out.past
        obtain ⟨⟨y0, y1, y2⟩, _⟩ := KWH.out
        go_simp
        go_wp2_with fail
        refine (eqGroupsResult_same c nr' F' n' R UH UM _ _ _ _ _ _ _ GWH.out (GW.out.later E24.out.past) HR.out).mono ?_
        rintro e w25 ⟨rfl, q25⟩
        clear t0 t1 t2 y0 y1 y2
        have E25 : Hid (EnvP w5 w6.heap.size w8.heap.size w10.heap.size c (.slice xa nr xc) (.slice (some ⟨xg, 0, none⟩) n n) (.slice j0 T.nc k0) (.slice j1 T.nl k1) (.slice j2 T.nw k2) (.slice g0 nr' q0) (.slice g1 n' q1) w25) := E24.out.later q25
        have M25 : Hid (MarkG w25 (w8.heap.size + 1) nr' n' R g0 q0 g1 q1 UG) := M24.out.later q25
        clear q25 E24 M24
        obtain ⟨⟨y0, y1, y2⟩, _⟩ := E25.out.kg
        go_wp2_with fail
        refine (heldGroupsResult_any c nr' n' R g0 q0 g1 q1 UG _ _ M25.out HR.out).mono ?_
        rintro e w26 ⟨rfl, q26⟩
        clear y0 y1 y2
        have E26 : Hid (EnvP w5 w6.heap.size w8.heap.size w10.heap.size c (.slice xa nr xc) (.slice (some ⟨xg, 0, none⟩) n n) (.slice j0 T.nc k0) (.slice j1 T.nl k1) (.slice j2 T.nw k2) (.slice g0 nr' q0) (.slice g1 n' q1) w26) := E25.out.later q26
        have M26 : Hid (MarkG w26 (w8.heap.size + 1) nr' n' R g0 q0 g1 q1 UG) := M25.out.later q26
        clear q26 E25 M25
        go_wp2
        go_ret
        exact ⟨rfl, B5.out.1.trans (E26.out.past.mono B5.out.1.size)⟩
    · obtain ⟨WH, hW⟩ : ∃ W, y2.heap.size = W := ⟨_, rfl⟩
      have ZW : Hid (Z3 (y2.alloc (.cells #[.int .i64 0, .slice none 0 0, .slice none 0 0] 38)) WH) := by rw [← hW]; exact Z3.new _ _
      have HWc : Hid (w.heap.size + 2 ≤ WH ∧ w10.heap.size < WH) := by have h1 := hS.1.1.2.2.lt; have h2 := hS.1.2.kg.lt; exact ⟨by omega, by omega⟩
      have hS' := (show ((BoxP w (.slice a0 nr c0) (.slice a1 n c1) (.slice b0 T.nc d0) (.slice b1 T.nl d1) (.slice b2 T.nw d2) _ ∧ EnvP w5 w6.heap.size w8.heap.size w10.heap.size c (.slice xa nr xc) (.slice (some ⟨xg, 0, none⟩) n n) (.slice j0 T.nc k0) (.slice j1 T.nl k1) (.slice j2 T.nw k2) (.slice g0 nr' q0) (.slice g1 n' q1) _) ∧ MarkG _ (w8.heap.size + 1) nr' n' R g0 q0 g1 q1 UG) from ⟨⟨hS.1.1.later (below_alloc y2 (.cells #[.int .i64 0, .slice none 0 0, .slice none 0 0] 38)), hS.1.2.later (below_alloc y2 (.cells #[.int .i64 0, .slice none 0 0, .slice none 0 0] 38))⟩, hS.2.later (below_alloc y2 (.cells #[.int .i64 0, .slice none 0 0, .slice none 0 0] 38))⟩)
      go_simp
      refine hK.out _ _ hS' (fun hS => ?_)
      clear hK K hS' hW
      generalize y2.alloc (.cells #[.int .i64 0, .slice none 0 0, .slice none 0 0] 38) = y2a at ZW hS  ⊢
      refine wpAnyH_ready (rs := [1]) (by kernel_rfl) (by simp) ?_
      refine AllReadyH.cons rfl (fun K hK => ?_) AllReadyH.nil
      go_simp
      go_wp2_with fail
      refine (toGroups_any nr F n S V _ _ 0 _ (H.out.1.later hS.1.1.1) HB.out.1 HB.out.2.1 HB.out.2.2.1).mono ?_
      rintro e y3 ⟨ra, rc, g, U, z, rfl, fg, q3⟩
      have FG : Hid (Grs y3 0 nr F n S U (.slice ra nr rc) (.slice (some ⟨g, 0, none⟩) n n)) := fg.grs.mono (Nat.zero_le _)
      have hS' := (show ((BoxP w (.slice a0 nr c0) (.slice a1 n c1) (.slice b0 T.nc d0) (.slice b1 T.nl d1) (.slice b2 T.nw d2) _ ∧ EnvP w5 w6.heap.size w8.heap.size w10.heap.size c (.slice xa nr xc) (.slice (some ⟨xg, 0, none⟩) n n) (.slice j0 T.nc k0) (.slice j1 T.nl k1) (.slice j2 T.nw k2) (.slice g0 nr' q0) (.slice g1 n' q1) _) ∧ MarkG _ (w8.heap.size + 1) nr' n' R g0 q0 g1 q1 UG) from ⟨⟨hS.1.1.later q3, hS.1.2.later q3⟩, hS.2.later q3⟩)
      have ZW' := ZW.out.later q3
      clear ZW
      have ZW := hid ZW'
      clear ZW'
      go_wp2_with fail
      refine hK.out _ _ hS' (fun hS => ?_)
      clear hK K hS' q3
      refine wpAnyH_ready (rs := [4]) (by kernel_rfl) (by simp) ?_
      refine AllReadyH.cons rfl (fun K hK => ?_) AllReadyH.nil
      go_simp
      go_wp2_with fail
      refine (toStore_any T _ _ _ 0 _ (H.out.2.later hS.1.1.1) HT.out.1 HT.out.2.1 HT.out.2.2).mono ?_
      rintro e y4 ⟨z0, z1, z2, rfl, s4, _, q4⟩
      have FG : Hid (Grs y4 0 nr F n S U (.slice ra nr rc) (.slice (some ⟨g, 0, none⟩) n n)) := FG.out.later q4
      have FT : Hid (St y4 0 T z0 z1 z2) := s4.mono (Nat.zero_le _)
      have hS' := (show ((BoxP w (.slice a0 nr c0) (.slice a1 n c1) (.slice b0 T.nc d0) (.slice b1 T.nl d1) (.slice b2 T.nw d2) _ ∧ EnvP w5 w6.heap.size w8.heap.size w10.heap.size c (.slice xa nr xc) (.slice (some ⟨xg, 0, none⟩) n n) (.slice j0 T.nc k0) (.slice j1 T.nl k1) (.slice j2 T.nw k2) (.slice g0 nr' q0) (.slice g1 n' q1) _) ∧ MarkG _ (w8.heap.size + 1) nr' n' R g0 q0 g1 q1 UG) from ⟨⟨hS.1.1.later q4, hS.1.2.later q4⟩, hS.2.later q4⟩)
      have ZW' := ZW.out.later q4
      clear ZW
      have ZW := hid ZW'
      clear ZW'
      go_wp2_with fail
      refine hK.out _ _ hS' (fun hS => ?_)
      clear hK K hS' q4
      refine wpAnyH_ready (rs := [5]) (by kernel_rfl) (by simp) ?_
      refine AllReadyH.cons rfl (fun K hK => ?_) AllReadyH.nil
      go_simp
      go_wp2_with fail
      refine (HI.out _ _ _ _ _ _ _ FG.out FT.out).mono ?_
      rintro e y5 ⟨h0, r0, h1, r1, UH, zH, rfl, gm, q5⟩
      have GM : Hid (Grs y5 0 nr' F' n' R UH (.slice h0 nr' r0) (.slice h1 n' r1)) := (gm.grs r1).mono (Nat.zero_le _)
      have hS' := (show ((BoxP w (.slice a0 nr c0) (.slice a1 n c1) (.slice b0 T.nc d0) (.slice b1 T.nl d1) (.slice b2 T.nw d2) _ ∧ EnvP w5 w6.heap.size w8.heap.size w10.heap.size c (.slice xa nr xc) (.slice (some ⟨xg, 0, none⟩) n n) (.slice j0 T.nc k0) (.slice j1 T.nl k1) (.slice j2 T.nw k2) (.slice g0 nr' q0) (.slice g1 n' q1) _) ∧ MarkG _ (w8.heap.size + 1) nr' n' R g0 q0 g1 q1 UG) from ⟨⟨hS.1.1.later q5, hS.1.2.later q5⟩, hS.2.later q5⟩)
      have ZW' := ZW.out.later q5
      clear ZW
      have ZW := hid ZW'
      clear ZW'
      go_wp2_with fail
      refine hK.out _ _ hS' (fun hS => ?_)
      clear hK K hS' q5
      refine wpAnyH_ready (rs := [7]) (by kernel_rfl) (by simp) ?_
      refine AllReadyH.cons rfl (fun K hK => ?_) AllReadyH.nil
      obtain ⟨⟨⟨zc0, zc1, zc2⟩, zf0, zf1, zf2⟩, _⟩ := ZW.out
      have KWH := ((ZW.out.1.set0 (.int .i64 c)).set1 (.slice h0 nr' r0)).set2 (.slice h1 n' r1)
      have GWH := Grs.setZ GM.out ZW.out (.int .i64 c) (.slice h0 nr' r0) (.slice h1 n' r1)
      have BW := within_set3 y5 WH (.int .i64 c) (.slice h0 nr' r0) (.slice h1 n' r1)
      have hS' := (show ((BoxP w (.slice a0 nr c0) (.slice a1 n c1) (.slice b0 T.nc d0) (.slice b1 T.nl d1) (.slice b2 T.nw d2) _ ∧ EnvP w5 w6.heap.size w8.heap.size w10.heap.size c (.slice xa nr xc) (.slice (some ⟨xg, 0, none⟩) n n) (.slice j0 T.nc k0) (.slice j1 T.nl k1) (.slice j2 T.nw k2) (.slice g0 nr' q0) (.slice g1 n' q1) _) ∧ MarkG _ (w8.heap.size + 1) nr' n' R g0 q0 g1 q1 UG) from ⟨⟨BoxP.setW hS.1.1 BW HWc.out.1, hS.1.2.within BW (by have := HWc.out.2; have := HZ6.out; have := HZ8.out; have := HZ10.out; omega) (Or.inl (by have := HWc.out.2; have := HZ8.out; have := HZ10.out; omega)) (Or.inl (by have := HWc.out.2; have := HZ10.out; omega)) (Or.inl HWc.out.2)⟩, Grs.setZ (F := fun p => 1 + (p : Nat)) hS.2 ZW.out (.int .i64 c) (.slice h0 nr' r0) (.slice h1 n' r1)⟩)
      go_simp
      refine hK.out _ _ hS' (fun hS => ?_)
      clear hK K hS' zc0 zc1 zc2 zf0 zf1 zf2 GM ZW BW
      refine wpAnyH_done (by kernel_rfl) ?_ _
      have KWH := hid KWH
      have GWH := hid GWH
      generalize ((y5.setCell ⟨WH, 0, none⟩ (.int .i64 c)).setCell ⟨WH, 1, none⟩ (.slice h0 nr' r0)).setCell ⟨WH, 2, none⟩ (.slice h1 n' r1) = w24 at KWH GWH hS ⊢
      clear FG FT
      have E24 : Hid (EnvP w5 w6.heap.size w8.heap.size w10.heap.size c (.slice xa nr xc) (.slice (some ⟨xg, 0, none⟩) n n) (.slice j0 T.nc k0) (.slice j1 T.nl k1) (.slice j2 T.nw k2) (.slice g0 nr' q0) (.slice g1 n' q1) w24) := hS.1.2
      have M24 : Hid (MarkG w24 (w8.heap.size + 1) nr' n' R g0 q0 g1 q1 UG) := hS.2
      clear hS
      obtain ⟨⟨t0, t1, t2⟩, _⟩ := KW.out.later E24.out.past
      obtain ⟨⟨y0, y1, y2⟩, _⟩ := KWH.out
      go_simp
      go_wp2_with fail
      refine (eqGroupsResult_same c nr' F' n' R UH UM _ _ _ _ _ _ _ GWH.out (GW.out.later E24.out.past) HR.out).mono ?_
      rintro e w25 ⟨rfl, q25⟩
      clear t0 t1 t2 y0 y1 y2
      have E25 : Hid (EnvP w5 w6.heap.size w8.heap.size w10.heap.size c (.slice xa nr xc) (.slice (some ⟨xg, 0, none⟩) n n) (.slice j0 T.nc k0) (.slice j1 T.nl k1) (.slice j2 T.nw k2) (.slice g0 nr' q0) (.slice g1 n' q1) w25) := E24.out.later q25
      have M25 : Hid (MarkG w25 (w8.heap.size + 1) nr' n' R g0 q0 g1 q1 UG) := M24.out.later q25
      clear q25 E24 M24
      obtain ⟨⟨y0, y1, y2⟩, _⟩ := E25.out.kg
      go_wp2_with fail
      refine (heldGroupsResult_any c nr' n' R g0 q0 g1 q1 UG _ _ M25.out HR.out).mono ?_
      rintro e w26 ⟨rfl, q26⟩
      clear y0 y1 y2
      have E26 : Hid (EnvP w5 w6.heap.size w8.heap.size w10.heap.size c (.slice xa nr xc) (.slice (some ⟨xg, 0, none⟩) n n) (.slice j0 T.nc k0) (.slice j1 T.nl k1) (.slice j2 T.nw k2) (.slice g0 nr' q0) (.slice g1 n' q1) w26) := E25.out.later q26
      have M26 : Hid (MarkG w26 (w8.heap.size + 1) nr' n' R g0 q0 g1 q1 UG) := M25.out.later q26
      clear q26 E25 M25
      go_wp2
      go_ret
      exact ⟨rfl, B5.out.1.trans (E26.out.past.mono B5.out.1.size)⟩
end
end Go.Proofs.YtlojbhadodbohaaGreat
