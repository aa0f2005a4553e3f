/-
  Own text, merged of GrpK, GrpL.
-/
import Derived.Test.YtlojbhadodbohaaGreatGrpH
import Derived.Test.YtlojbhadodbohaaGreatLawT
import Derived.Test.YtlojbhadodbohaaGreatPartA
namespace Go.Proofs.YtlojbhadodbohaaGreat
section
open Go.RowKit
-- Own text. The model's l7Union; what both UnionOf answer.
/-- What a step of l7Union reads: the list of stores, and one store's lists. -/
def UniS (bg g o k n c1 : Nat) (s0 s1 s2 : Value) (x : World) : Prop := x.cell? ⟨bg, 1, none⟩ = some (.slice (some ⟨g, o, none⟩) n c1) ∧ x.cell? ⟨g, o + k * 3, none⟩ = some s0 ∧ x.cell? ⟨g, o + k * 3 + 1, none⟩ = some s1 ∧ x.cell? ⟨g, o + k * 3 + 2, none⟩ = some s2
theorem UniS.below {w x : World} {bg g o k n c1 : Nat} {s0 s1 s2 : Value} (h : UniS bg g o k n c1 s0 s1 s2 w) (hb : Below w.heap.size w x) : UniS bg g o k n c1 s0 s1 s2 x :=
  ⟨(hb.cell (p := ⟨bg, 1, none⟩) (World.block_lt_of_cell? w _ h.1)).trans h.1, (hb.cell (p := ⟨g, o + k * 3, none⟩) (World.block_lt_of_cell? w _ h.2.1)).trans h.2.1, (hb.cell (p := ⟨g, o + k * 3 + 1, none⟩) (World.block_lt_of_cell? w _ h.2.2.1)).trans h.2.2.1, (hb.cell (p := ⟨g, o + k * 3 + 2, none⟩) (World.block_lt_of_cell? w _ h.2.2.2)).trans h.2.2.2⟩
set_option maxRecDepth 100000 in
set_option maxHeartbeats 8000000 in
theorem l7Union_any (nr : Nat) (F : Nat → Int) (n : Nat) (S : Nat → Sto) (V : Nat → Nat → Value) (vr vs : Value) (bg : Nat) (w : World) (h : LiesG w bg nr F n S V vr vs) (hn : n ≤ 6) (hs : ∀ i, i < n → (S i).nc ≤ 200 ∧ (S i).nl ≤ 200 ∧ (S i).nw ≤ 200) :
    Calls Tryz.prog 61 #[.pointer (some ⟨bg, 0, none⟩)] w (NewSto w (unionS n S)) := by
  obtain ⟨ar, cr, ao, c1, rfl, rfl⟩ := h.2.form
  have H : Hid (LiesG w bg nr F n S V (.slice ar nr cr) (.slice ao n c1)) := h
  have HN : Hid (∀ i, i < n → (S i).nc ≤ 200 ∧ (S i).nl ≤ 200 ∧ (S i).nw ≤ 200) := hs
  clear h hs
  go_enter Tryz.func61, Tryz.ntmps61
  go_wp2
  go_loopw [4] (fun i wr => ∃ (k p0 p1 p2 : Nat) (a0 a1 a2 : Option Addr) (c0 c1 c2 : Nat), k ≤ n ∧ i = .int .i64 k ∧ Hid (p0 = sumN (fun i => (S i).nc) k ∧ p1 = sumN (fun i => (S i).nl) k ∧ p2 = sumN (fun i => (S i).nw) k) ∧ Hid (Tog w wr (w.heap.size + 1) (w.heap.size + 2) (.slice a0 p0 c0) (.slice a1 p1 c1) (.slice a2 p2 c2) p0 p1 p2 (allL 3 (fun i => (S i).nc) (fun i => (S i).c) k) (allL 5 (fun i => (S i).nl) (fun i => (S i).l) k) (allL 4 (fun i => (S i).nw) (fun i => (S i).k) k)) ∧ Hid (Blk3 wr w.heap.size (.slice none 0 0) (.slice none 0 0) (.slice none 0 0))) (fun i _ => n - (intOf i).toNat)
  case atStart =>
    refine ⟨0, 0, 0, 0, none, none, none, 0, 0, 0, Nat.zero_le _, rfl, ⟨rfl, rfl, rfl⟩, ⟨(below_alloc _ _).alloc (by simp) _, ?_, ⟨by omega, by omega, by simp⟩, OwnM.nil _ _ _ _, OwnM.nil _ _ _ _, OwnM.nil _ _ _ _, (fun q e => by cases e), (fun q e => by cases e), (fun q e => by cases e)⟩, (Blk3.new w _ _ _ _).alloc _⟩
    have := Blk3.new (w.alloc (.cells #[.slice none 0 0, .slice none 0 0, .slice none 0 0] 45)) (.slice none 0 0) (.slice none 0 0) (.slice none 0 0) 45
    rwa [World.size_alloc] at this
  case round =>
    obtain ⟨k, p0, p1, p2, a0, a1, a2, c0, c1', c2, hk, rfl, HS, HT, HR⟩ := hrel
    have q0 : p0 ≤ 1200 := by rw [HS.out.1]; exact sum_small (fun i hi => (HN.out i hi).1) hn hk
    have q1 : p1 ≤ 1200 := by rw [HS.out.2.1]; exact sum_small (fun i hi => (HN.out i hi).2.1) hn hk
    have q2 : p2 ≤ 1200 := by rw [HS.out.2.2]; exact sum_small (fun i hi => (HN.out i hi).2.2) hn hk
    have hl0 := (H.out.later HT.out.below).1.2
    by_cases hlt : k < n
    · obtain ⟨g, o, rfl, _, hg, ⟨b0, b1, b2⟩, sk⟩ := H.out.2.2.at hlt
      obtain ⟨i0', d0, i1', d1, i2', d2, e0, e1, e2⟩ := sk.form
      obtain ⟨n0, hn0⟩ : ∃ x, (S k).nc = x := ⟨_, rfl⟩
      obtain ⟨n1, hn1⟩ : ∃ x, (S k).nl = x := ⟨_, rfl⟩
      obtain ⟨n2, hn2⟩ : ∃ x, (S k).nw = x := ⟨_, rfl⟩
      rw [e0, hn0] at b0
      rw [e1, hn1] at b1
      rw [e2, hn2] at b2
      have US : Hid (UniS bg g o k n c1 (.slice i0' n0 d0) (.slice i1' n1 d1) (.slice i2' n2 d2) w) := ⟨H.out.1.2, b0, b1, b2⟩
      have SK : Hid (Row w 0 3 n0 (S k).c (.slice i0' n0 d0) ∧ Row w 0 5 n1 (S k).l (.slice i1' n1 d1) ∧ Row w 0 4 n2 (S k).k (.slice i2' n2 d2)) := by
        rw [e0, e1, e2] at sk
        obtain ⟨h0, h1, h2⟩ := sk
        rw [hn0] at h0
        rw [hn1] at h1
        rw [hn2] at h2
        exact ⟨h0, h1, h2⟩
      have hB := HN.out k hlt
      rw [hn0, hn1, hn2] at hB
      obtain ⟨m0, m1, m2⟩ := hB
      have HS1 : Hid (p0 + n0 = sumN (fun i => (S i).nc) (k + 1) ∧ p1 + n1 = sumN (fun i => (S i).nl) (k + 1) ∧ p2 + n2 = sumN (fun i => (S i).nw) (k + 1)) := by
        refine ⟨?_, ?_, ?_⟩
        · show _ = sumN (fun i => (S i).nc) k + (S k).nc
          rw [HS.out.1, hn0]
        · show _ = sumN (fun i => (S i).nl) k + (S k).nl
          rw [HS.out.2.1, hn1]
        · show _ = sumN (fun i => (S i).nw) k + (S k).nw
          rw [HS.out.2.2, hn2]
      obtain ⟨L0, hL0⟩ : ∃ L, allL 3 (fun i => (S i).nc) (fun i => (S i).c) k = L := ⟨_, rfl⟩
      obtain ⟨L1, hL1⟩ : ∃ L, allL 5 (fun i => (S i).nl) (fun i => (S i).l) k = L := ⟨_, rfl⟩
      obtain ⟨L2, hL2⟩ : ∃ L, allL 4 (fun i => (S i).nw) (fun i => (S i).k) k = L := ⟨_, rfl⟩
      have HL1 : Hid (L0 ++ nums (S k).c (n0 * 3) = allL 3 (fun i => (S i).nc) (fun i => (S i).c) (k + 1) ∧ L1 ++ nums (S k).l (n1 * 5) = allL 5 (fun i => (S i).nl) (fun i => (S i).l) (k + 1) ∧ L2 ++ nums (S k).k (n2 * 4) = allL 4 (fun i => (S i).nw) (fun i => (S i).k) (k + 1)) := by
        rw [← hn0, ← hn1, ← hn2, ← hL0, ← hL1, ← hL2]
        exact ⟨rfl, rfl, rfl⟩
      have TT : Hid (Tog w wr (w.heap.size + 1) (w.heap.size + 2) (.slice a0 p0 c0) (.slice a1 p1 c1') (.slice a2 p2 c2) p0 p1 p2 L0 L1 L2) := by rw [← hL0, ← hL1, ← hL2]; exact HT.out
      have RB := HR
      clear sk e0 e1 e2 hn0 hn1 hn2 hL0 hL1 hL2 HS HT HR b0 b1 b2
      go_wp2_with fail
      clear hl0
      have DD : Hid (Tog w wr.drew (w.heap.size + 1) (w.heap.size + 2) (.slice a0 p0 c0) (.slice a1 p1 c1') (.slice a2 p2 c2) p0 p1 p2 L0 L1 L2) := TT.out.later (below_dr (Below.refl _ _) 1)
      have F1 : wr.drew.cell? ⟨w.heap.size + 1, 0, none⟩ = some (.slice a0 p0 c0) := DD.out.blk.1.1
      obtain ⟨i0, hi, hz0, hz1, hz2⟩ := info_parts info_Cell
      have hbs : w.heap.size + 2 ≤ wr.drew.heap.size := DD.out.lo.2.2
      refine wp_region_held_drew (S := UniS bg g o k n c1 (.slice i0' n0 d0) (.slice i1' n1 d1) (.slice i2' n2 d2)) (by kernel_rfl) (US.out.below DD.out.below) (fun hS => ?_)
      refine wpAnyH_take (i := 0) (v := ?_) rfl (by kernel_rfl) (by kernel_rfl) (by kernel_rfl) (fun _ _ _ h => h) (Or.inl ⟨by kernel_rfl, ?_⟩) hS ?_
      rotate_left
      · intro wx hx
        obtain ⟨hx0, hx1, hx2, hx3⟩ := hx
        go_simp
        try with_reducible rfl
      refine wpAnyH_take (i := 2) (v := ?_) rfl (by kernel_rfl) (by kernel_rfl) (by kernel_rfl) (fun _ _ _ h => h) (Or.inl ⟨by kernel_rfl, ?_⟩) hS ?_
      rotate_left
      · intro wx hx
        obtain ⟨hx0, hx1, hx2, hx3⟩ := hx
        go_simp
        try with_reducible rfl
      refine wpAnyH_take (i := 3) (v := ?_) rfl (by kernel_rfl) (by kernel_rfl) (by kernel_rfl) (fun _ _ _ h => h) (Or.inl ⟨by kernel_rfl, ?_⟩) hS ?_
      rotate_left
      · intro wx hx
        obtain ⟨hx0, hx1, hx2, hx3⟩ := hx
        go_simp
        try with_reducible rfl
      refine wpAnyH_take (i := 4) (v := ?_) rfl (by kernel_rfl) (by kernel_rfl) (by kernel_rfl) (fun _ _ _ h => h) (Or.inl ⟨by kernel_rfl, ?_⟩) hS ?_
      rotate_left
      · intro wx hx
        obtain ⟨hx0, hx1, hx2, hx3⟩ := hx
        go_simp
        try with_reducible rfl
      refine wpAnyH_take (i := 5) (v := ?_) rfl (by kernel_rfl) (by kernel_rfl) (by kernel_rfl) (fun _ _ _ h => h) (Or.inl ⟨by kernel_rfl, ?_⟩) hS ?_
      rotate_left
      · intro wx hx
        obtain ⟨hx0, hx1, hx2, hx3⟩ := hx
        go_simp
        try with_reducible rfl
      refine wpAnyH_take (i := 6) (v := ?_) rfl (by kernel_rfl) (by kernel_rfl) (by kernel_rfl) (fun _ _ _ h => h) (Or.inl ⟨by kernel_rfl, ?_⟩) hS ?_
      rotate_left
      · intro wx hx
        obtain ⟨hx0, hx1, hx2, hx3⟩ := hx
        go_simp
        try with_reducible rfl
      refine wpAnyH_take (i := 7) (v := ?_) rfl (by kernel_rfl) (by kernel_rfl) (by kernel_rfl) (fun _ _ _ h => h) (Or.inl ⟨by kernel_rfl, ?_⟩) hS ?_
      rotate_left
      · intro wx hx
        obtain ⟨hx0, hx1, hx2, hx3⟩ := hx
        go_simp
        try with_reducible rfl
      refine wpAnyH_take (i := 8) (v := ?_) rfl (by kernel_rfl) (by kernel_rfl) (by kernel_rfl) (fun _ _ _ h => h) (Or.inl ⟨by kernel_rfl, ?_⟩) hS ?_
      rotate_left
      · intro wx hx
        obtain ⟨hx0, hx1, hx2, hx3⟩ := hx
        go_simp
        try with_reducible rfl
      refine wpAnyH_take (i := 9) (v := ?_) rfl (by kernel_rfl) (by kernel_rfl) (by kernel_rfl) (fun _ _ _ h => h) (Or.inl ⟨by kernel_rfl, ?_⟩) hS ?_
      rotate_left
      · intro wx hx
        obtain ⟨hx0, hx1, hx2, hx3⟩ := hx
        go_simp
        try with_reducible rfl
      refine wpAnyH_ready (rs := [1]) (by kernel_rfl) (by simp) ?_
      refine AllReadyH.cons rfl (fun K hK => ?_) AllReadyH.nil
      go_simp
      refine hK.out _ _ hS (fun hS => ?_)
      clear hK K
      refine wpAnyH_ready (rs := [10]) (by kernel_rfl) (by simp) ?_
      refine AllReadyH.cons rfl (fun K hK => ?_) AllReadyH.nil
      refine step_appL 115 i0 (.agg #[.int .i64 0, .int .i64 0, .int .i64 0]) 3 24 (by rfl) _ _ 41 (by rfl) Tryz.underlying41 hi hz0 hz1 hz2 rfl (by omega) (by omega) _ (w.heap.size + 2) p0 _ (.slice a0 p0 c0) (by rfl) DD.out.o0 0 n0 _ _ (by rfl) (SK.out.1.later DD.out.below) (by omega) hbs ?_
      intro ao0 cp0 y OY GY AY
      have hS' := US.out.below (below_past DD.out.below DD.out.o0 (by omega) GY)
      refine hK.out _ _ hS' (fun hS => ?_)
      clear hK K hS'
      refine wpAnyH_take (i := 11) (v := ?_) rfl (by kernel_rfl) (by kernel_rfl) (by kernel_rfl) (fun _ _ _ h => h) (Or.inl ⟨by kernel_rfl, ?_⟩) hS ?_
      rotate_left
      · intro wx hx
        obtain ⟨hx0, hx1, hx2, hx3⟩ := hx
        go_simp
        try with_reducible rfl
      obtain ⟨⟨t0, t1, t2⟩, ft0, ft1, ft2⟩ := blk_past DD.out.blk DD.out.o0 DD.out.lo.2.1 GY
      have TT' : Hid (Tog w (y.setCell ⟨w.heap.size + 1, 0, none⟩ (.slice ao0 (p0 + n0) cp0)) (w.heap.size + 1) (w.heap.size + 2) (.slice ao0 (p0 + n0) cp0) (.slice a1 p1 c1') (.slice a2 p2 c2) (p0 + n0) p1 p2 (L0 ++ nums (S k).c (n0 * 3)) L1 L2) := DD.out.put0 OY GY AY
      have RB' : Hid (Blk3 (y.setCell ⟨w.heap.size + 1, 0, none⟩ (.slice ao0 (p0 + n0) cp0)) w.heap.size (.slice none 0 0) (.slice none 0 0) (.slice none 0 0)) := (blk_past (RB.out.kept rfl : Blk3 wr.drew w.heap.size _ _ _) DD.out.o0 (by omega) GY).setFar (by simp) _
      refine wpAnyH_ready (rs := [12]) (by kernel_rfl) (by simp) ?_
      refine AllReadyH.cons rfl (fun K hK => ?_) AllReadyH.nil
      go_simp
      refine hK.out _ _ (US.out.below TT'.out.below) (fun hS => ?_)
      clear hK K
      refine wpAnyH_done (by kernel_rfl) ?_ _
      go_simp
      generalize y.setCell ⟨w.heap.size + 1, 0, none⟩ (.slice ao0 (p0 + n0) cp0) = z0 at TT' RB' hS ⊢
      clear TT RB t0 t1 t2 ft0 ft1 ft2 OY GY AY hi hz0 hz1 hz2 hbs i0 DD F1 hS
      have TT := TT'
      have RB := RB'
      clear TT' RB'
      go_wp2_with fail
      have DD : Hid (Tog w z0.drew (w.heap.size + 1) (w.heap.size + 2) (.slice ao0 (p0 + n0) cp0) (.slice a1 p1 c1') (.slice a2 p2 c2) (p0 + n0) p1 p2 (L0 ++ nums (S k).c (n0 * 3)) L1 L2) := TT.out.later (below_dr (Below.refl _ _) 1)
      have F1 : z0.drew.cell? ⟨w.heap.size + 1, 1, none⟩ = some (.slice a1 p1 c1') := DD.out.blk.1.2.1
      obtain ⟨i0, hi, hz0, hz1, hz2⟩ := info_parts info_Lock
      have hbs : w.heap.size + 2 ≤ z0.drew.heap.size := DD.out.lo.2.2
      refine wp_region_held_drew (S := UniS bg g o k n c1 (.slice i0' n0 d0) (.slice i1' n1 d1) (.slice i2' n2 d2)) (by kernel_rfl) (US.out.below DD.out.below) (fun hS => ?_)
      refine wpAnyH_take (i := 0) (v := ?_) rfl (by kernel_rfl) (by kernel_rfl) (by kernel_rfl) (fun _ _ _ h => h) (Or.inl ⟨by kernel_rfl, ?_⟩) hS ?_
      rotate_left
      · intro wx hx
        obtain ⟨hx0, hx1, hx2, hx3⟩ := hx
        go_simp
        try with_reducible rfl
      refine wpAnyH_take (i := 2) (v := ?_) rfl (by kernel_rfl) (by kernel_rfl) (by kernel_rfl) (fun _ _ _ h => h) (Or.inl ⟨by kernel_rfl, ?_⟩) hS ?_
      rotate_left
      · intro wx hx
        obtain ⟨hx0, hx1, hx2, hx3⟩ := hx
        go_simp
        try with_reducible rfl
      refine wpAnyH_take (i := 3) (v := ?_) rfl (by kernel_rfl) (by kernel_rfl) (by kernel_rfl) (fun _ _ _ h => h) (Or.inl ⟨by kernel_rfl, ?_⟩) hS ?_
      rotate_left
      · intro wx hx
        obtain ⟨hx0, hx1, hx2, hx3⟩ := hx
        go_simp
        try with_reducible rfl
      refine wpAnyH_take (i := 4) (v := ?_) rfl (by kernel_rfl) (by kernel_rfl) (by kernel_rfl) (fun _ _ _ h => h) (Or.inl ⟨by kernel_rfl, ?_⟩) hS ?_
      rotate_left
      · intro wx hx
        obtain ⟨hx0, hx1, hx2, hx3⟩ := hx
        go_simp
        try with_reducible rfl
      refine wpAnyH_take (i := 5) (v := ?_) rfl (by kernel_rfl) (by kernel_rfl) (by kernel_rfl) (fun _ _ _ h => h) (Or.inl ⟨by kernel_rfl, ?_⟩) hS ?_
      rotate_left
      · intro wx hx
        obtain ⟨hx0, hx1, hx2, hx3⟩ := hx
        go_simp
        try with_reducible rfl
      refine wpAnyH_take (i := 6) (v := ?_) rfl (by kernel_rfl) (by kernel_rfl) (by kernel_rfl) (fun _ _ _ h => h) (Or.inl ⟨by kernel_rfl, ?_⟩) hS ?_
      rotate_left
      · intro wx hx
        obtain ⟨hx0, hx1, hx2, hx3⟩ := hx
        go_simp
        try with_reducible rfl
      refine wpAnyH_take (i := 7) (v := ?_) rfl (by kernel_rfl) (by kernel_rfl) (by kernel_rfl) (fun _ _ _ h => h) (Or.inl ⟨by kernel_rfl, ?_⟩) hS ?_
      rotate_left
      · intro wx hx
        obtain ⟨hx0, hx1, hx2, hx3⟩ := hx
        go_simp
        try with_reducible rfl
      refine wpAnyH_take (i := 8) (v := ?_) rfl (by kernel_rfl) (by kernel_rfl) (by kernel_rfl) (fun _ _ _ h => h) (Or.inl ⟨by kernel_rfl, ?_⟩) hS ?_
      rotate_left
      · intro wx hx
        obtain ⟨hx0, hx1, hx2, hx3⟩ := hx
        go_simp
        try with_reducible rfl
      refine wpAnyH_take (i := 9) (v := ?_) rfl (by kernel_rfl) (by kernel_rfl) (by kernel_rfl) (fun _ _ _ h => h) (Or.inl ⟨by kernel_rfl, ?_⟩) hS ?_
      rotate_left
      · intro wx hx
        obtain ⟨hx0, hx1, hx2, hx3⟩ := hx
        go_simp
        try with_reducible rfl
      refine wpAnyH_ready (rs := [1]) (by kernel_rfl) (by simp) ?_
      refine AllReadyH.cons rfl (fun K hK => ?_) AllReadyH.nil
      go_simp
      refine hK.out _ _ hS (fun hS => ?_)
      clear hK K
      refine wpAnyH_ready (rs := [10]) (by kernel_rfl) (by simp) ?_
      refine AllReadyH.cons rfl (fun K hK => ?_) AllReadyH.nil
      refine step_appL 119 i0 (.agg #[.int .i64 0, .int .i64 0, .int .i64 0, .int .i64 0, .int .i64 0]) 5 40 (by rfl) _ _ 42 (by rfl) Tryz.underlying42 hi hz0 hz1 hz2 rfl (by omega) (by omega) _ (w.heap.size + 2) p1 _ (.slice a1 p1 c1') (by rfl) DD.out.o1 0 n1 _ _ (by rfl) (SK.out.2.1.later DD.out.below) (by omega) hbs ?_
      intro ao1 cp1 y OY GY AY
      have hS' := US.out.below (below_past DD.out.below DD.out.o1 (by omega) GY)
      refine hK.out _ _ hS' (fun hS => ?_)
      clear hK K hS'
      refine wpAnyH_take (i := 11) (v := ?_) rfl (by kernel_rfl) (by kernel_rfl) (by kernel_rfl) (fun _ _ _ h => h) (Or.inl ⟨by kernel_rfl, ?_⟩) hS ?_
      rotate_left
      · intro wx hx
        obtain ⟨hx0, hx1, hx2, hx3⟩ := hx
        go_simp
        try with_reducible rfl
      obtain ⟨⟨t0, t1, t2⟩, ft0, ft1, ft2⟩ := blk_past DD.out.blk DD.out.o1 DD.out.lo.2.1 GY
      have TT' : Hid (Tog w (y.setCell ⟨w.heap.size + 1, 1, none⟩ (.slice ao1 (p1 + n1) cp1)) (w.heap.size + 1) (w.heap.size + 2) (.slice ao0 (p0 + n0) cp0) (.slice ao1 (p1 + n1) cp1) (.slice a2 p2 c2) (p0 + n0) (p1 + n1) p2 (L0 ++ nums (S k).c (n0 * 3)) (L1 ++ nums (S k).l (n1 * 5)) L2) := DD.out.put1 OY GY AY
      have RB' : Hid (Blk3 (y.setCell ⟨w.heap.size + 1, 1, none⟩ (.slice ao1 (p1 + n1) cp1)) w.heap.size (.slice none 0 0) (.slice none 0 0) (.slice none 0 0)) := (blk_past (RB.out.kept rfl : Blk3 z0.drew w.heap.size _ _ _) DD.out.o1 (by omega) GY).setFar (by simp) _
      refine wpAnyH_ready (rs := [12]) (by kernel_rfl) (by simp) ?_
      refine AllReadyH.cons rfl (fun K hK => ?_) AllReadyH.nil
      go_simp
      refine hK.out _ _ (US.out.below TT'.out.below) (fun hS => ?_)
      clear hK K
      refine wpAnyH_done (by kernel_rfl) ?_ _
      go_simp
      generalize y.setCell ⟨w.heap.size + 1, 1, none⟩ (.slice ao1 (p1 + n1) cp1) = z1 at TT' RB' hS ⊢
      clear TT RB t0 t1 t2 ft0 ft1 ft2 OY GY AY hi hz0 hz1 hz2 hbs i0 DD F1 hS
      have TT := TT'
      have RB := RB'
      clear TT' RB'
      go_wp2_with fail
      have DD : Hid (Tog w z1.drew (w.heap.size + 1) (w.heap.size + 2) (.slice ao0 (p0 + n0) cp0) (.slice ao1 (p1 + n1) cp1) (.slice a2 p2 c2) (p0 + n0) (p1 + n1) p2 (L0 ++ nums (S k).c (n0 * 3)) (L1 ++ nums (S k).l (n1 * 5)) L2) := TT.out.later (below_dr (Below.refl _ _) 1)
      have F1 : z1.drew.cell? ⟨w.heap.size + 1, 2, none⟩ = some (.slice a2 p2 c2) := DD.out.blk.1.2.2
      obtain ⟨i0, hi, hz0, hz1, hz2⟩ := info_parts info_Write
      have hbs : w.heap.size + 2 ≤ z1.drew.heap.size := DD.out.lo.2.2
      refine wp_region_held_drew (S := UniS bg g o k n c1 (.slice i0' n0 d0) (.slice i1' n1 d1) (.slice i2' n2 d2)) (by kernel_rfl) (US.out.below DD.out.below) (fun hS => ?_)
      refine wpAnyH_take (i := 0) (v := ?_) rfl (by kernel_rfl) (by kernel_rfl) (by kernel_rfl) (fun _ _ _ h => h) (Or.inl ⟨by kernel_rfl, ?_⟩) hS ?_
      rotate_left
      · intro wx hx
        obtain ⟨hx0, hx1, hx2, hx3⟩ := hx
        go_simp
        try with_reducible rfl
      refine wpAnyH_take (i := 2) (v := ?_) rfl (by kernel_rfl) (by kernel_rfl) (by kernel_rfl) (fun _ _ _ h => h) (Or.inl ⟨by kernel_rfl, ?_⟩) hS ?_
      rotate_left
      · intro wx hx
        obtain ⟨hx0, hx1, hx2, hx3⟩ := hx
        go_simp
        try with_reducible rfl
      refine wpAnyH_take (i := 3) (v := ?_) rfl (by kernel_rfl) (by kernel_rfl) (by kernel_rfl) (fun _ _ _ h => h) (Or.inl ⟨by kernel_rfl, ?_⟩) hS ?_
      rotate_left
      · intro wx hx
        obtain ⟨hx0, hx1, hx2, hx3⟩ := hx
        go_simp
        try with_reducible rfl
      refine wpAnyH_take (i := 4) (v := ?_) rfl (by kernel_rfl) (by kernel_rfl) (by kernel_rfl) (fun _ _ _ h => h) (Or.inl ⟨by kernel_rfl, ?_⟩) hS ?_
      rotate_left
      · intro wx hx
        obtain ⟨hx0, hx1, hx2, hx3⟩ := hx
        go_simp
        try with_reducible rfl
      refine wpAnyH_take (i := 5) (v := ?_) rfl (by kernel_rfl) (by kernel_rfl) (by kernel_rfl) (fun _ _ _ h => h) (Or.inl ⟨by kernel_rfl, ?_⟩) hS ?_
      rotate_left
      · intro wx hx
        obtain ⟨hx0, hx1, hx2, hx3⟩ := hx
        go_simp
        try with_reducible rfl
      refine wpAnyH_take (i := 6) (v := ?_) rfl (by kernel_rfl) (by kernel_rfl) (by kernel_rfl) (fun _ _ _ h => h) (Or.inl ⟨by kernel_rfl, ?_⟩) hS ?_
      rotate_left
      · intro wx hx
        obtain ⟨hx0, hx1, hx2, hx3⟩ := hx
        go_simp
        try with_reducible rfl
      refine wpAnyH_take (i := 7) (v := ?_) rfl (by kernel_rfl) (by kernel_rfl) (by kernel_rfl) (fun _ _ _ h => h) (Or.inl ⟨by kernel_rfl, ?_⟩) hS ?_
      rotate_left
      · intro wx hx
        obtain ⟨hx0, hx1, hx2, hx3⟩ := hx
        go_simp
        try with_reducible rfl
      refine wpAnyH_take (i := 8) (v := ?_) rfl (by kernel_rfl) (by kernel_rfl) (by kernel_rfl) (fun _ _ _ h => h) (Or.inl ⟨by kernel_rfl, ?_⟩) hS ?_
      rotate_left
      · intro wx hx
        obtain ⟨hx0, hx1, hx2, hx3⟩ := hx
        go_simp
        try with_reducible rfl
      refine wpAnyH_take (i := 9) (v := ?_) rfl (by kernel_rfl) (by kernel_rfl) (by kernel_rfl) (fun _ _ _ h => h) (Or.inl ⟨by kernel_rfl, ?_⟩) hS ?_
      rotate_left
      · intro wx hx
        obtain ⟨hx0, hx1, hx2, hx3⟩ := hx
        go_simp
        try with_reducible rfl
      refine wpAnyH_ready (rs := [1]) (by kernel_rfl) (by simp) ?_
      refine AllReadyH.cons rfl (fun K hK => ?_) AllReadyH.nil
      go_simp
      refine hK.out _ _ hS (fun hS => ?_)
      clear hK K
      refine wpAnyH_ready (rs := [10]) (by kernel_rfl) (by simp) ?_
      refine AllReadyH.cons rfl (fun K hK => ?_) AllReadyH.nil
      refine step_appL 123 i0 (.agg #[.int .i64 0, .int .i64 0, .int .i64 0, .int .i64 0]) 4 32 (by rfl) _ _ 43 (by rfl) Tryz.underlying43 hi hz0 hz1 hz2 rfl (by omega) (by omega) _ (w.heap.size + 2) p2 _ (.slice a2 p2 c2) (by rfl) DD.out.o2 0 n2 _ _ (by rfl) (SK.out.2.2.later DD.out.below) (by omega) hbs ?_
      intro ao2 cp2 y OY GY AY
      have hS' := US.out.below (below_past DD.out.below DD.out.o2 (by omega) GY)
      refine hK.out _ _ hS' (fun hS => ?_)
      clear hK K hS'
      refine wpAnyH_take (i := 11) (v := ?_) rfl (by kernel_rfl) (by kernel_rfl) (by kernel_rfl) (fun _ _ _ h => h) (Or.inl ⟨by kernel_rfl, ?_⟩) hS ?_
      rotate_left
      · intro wx hx
        obtain ⟨hx0, hx1, hx2, hx3⟩ := hx
        go_simp
        try with_reducible rfl
      obtain ⟨⟨t0, t1, t2⟩, ft0, ft1, ft2⟩ := blk_past DD.out.blk DD.out.o2 DD.out.lo.2.1 GY
      have TT' : Hid (Tog w (y.setCell ⟨w.heap.size + 1, 2, none⟩ (.slice ao2 (p2 + n2) cp2)) (w.heap.size + 1) (w.heap.size + 2) (.slice ao0 (p0 + n0) cp0) (.slice ao1 (p1 + n1) cp1) (.slice ao2 (p2 + n2) cp2) (p0 + n0) (p1 + n1) (p2 + n2) (L0 ++ nums (S k).c (n0 * 3)) (L1 ++ nums (S k).l (n1 * 5)) (L2 ++ nums (S k).k (n2 * 4))) := DD.out.put2 OY GY AY
      have RB' : Hid (Blk3 (y.setCell ⟨w.heap.size + 1, 2, none⟩ (.slice ao2 (p2 + n2) cp2)) w.heap.size (.slice none 0 0) (.slice none 0 0) (.slice none 0 0)) := (blk_past (RB.out.kept rfl : Blk3 z1.drew w.heap.size _ _ _) DD.out.o2 (by omega) GY).setFar (by simp) _
      refine wpAnyH_ready (rs := [12]) (by kernel_rfl) (by simp) ?_
      refine AllReadyH.cons rfl (fun K hK => ?_) AllReadyH.nil
      go_simp
      refine hK.out _ _ (US.out.below TT'.out.below) (fun hS => ?_)
      clear hK K
      refine wpAnyH_done (by kernel_rfl) ?_ _
      go_simp
      generalize y.setCell ⟨w.heap.size + 1, 2, none⟩ (.slice ao2 (p2 + n2) cp2) = z2 at TT' RB' hS ⊢
      clear TT RB t0 t1 t2 ft0 ft1 ft2 OY GY AY hi hz0 hz1 hz2 hbs i0 DD F1 hS
      have TT := TT'
      have RB := RB'
      clear TT' RB'
      rw [HL1.out.1, HL1.out.2.1, HL1.out.2.2] at TT
      clear SK HL1 US
      go_wp2
      go_roundw
      case rel => exact ⟨k + 1, p0 + n0, p1 + n1, p2 + n2, ao0, ao1, ao2, cp0, cp1, cp2, by omega, by go_num, HS1, TT, RB⟩
      case measure => simp [intOf]; omega
    · obtain rfl : k = n := by omega
      obtain ⟨⟨t0, t1, t2⟩, ft0, ft1, ft2⟩ := HT.out.blk
      obtain ⟨⟨r0, r1, r2⟩, f0, f1, f2⟩ := HR.out
      have HE : Hid (unionS k S = ⟨p0, fun p => (allL 3 (fun i => (S i).nc) (fun i => (S i).c) k).getD p 0, p1, fun p => (allL 5 (fun i => (S i).nl) (fun i => (S i).l) k).getD p 0, p2, fun p => (allL 4 (fun i => (S i).nw) (fun i => (S i).k) k).getD p 0⟩) := by
        unfold Hid unionS
        rw [← HS.out.1, ← HS.out.2.1, ← HS.out.2.2]
      have o0 := (HT.out.o0.own (by rw [all_len, HS.out.1])).row
      have o1 := (HT.out.o1.own (by rw [all_len, HS.out.2.1])).row
      have o2 := (HT.out.o2.own (by rw [all_len, HS.out.2.2])).row
      have HO : Hid (St wr (w.heap.size + 2) (unionS k S) (.slice a0 p0 c0) (.slice a1 p1 c1') (.slice a2 p2 c2) ∧ FreeS wr (unionS k S) (.slice a0 p0 c0) (.slice a1 p1 c1') (.slice a2 p2 c2) ∧ ApartD (unionS k S) (.slice a0 p0 c0) (.slice a1 p1 c1') (.slice a2 p2 c2)) := by
        rw [HE.out]
        exact ⟨⟨o0.1, o1.1, o2.1⟩, ⟨o0.2, o1.2, o2.2⟩, apartD_apa o0.1 o1.1 HT.out.a01 HT.out.a02 HT.out.a12⟩
      have hn0 : Hid ((unionS k S).nc = p0 ∧ (unionS k S).nl = p1 ∧ (unionS k S).nw = p2) := by rw [HE.out]; exact ⟨rfl, rfl, rfl⟩
      clear o0 o1 o2 HE HS
      unfold NewSto
      go_wp2
      refine bodyPost_ret (v := .agg #[.slice a0 p0 c0, .slice a1 p1 c1', .slice a2 p2 c2]) (by simp [results, Tryz.results61, go_sem, r0, r1, r2]) rfl ?_
      have hlo : w.heap.size < w.heap.size + 2 := by omega
      refine ⟨a0, c0, a1, c1', a2, c2, ?_, ?_, ((HT.out.below.setCell (Nat.le_refl _) _).setCell (Nat.le_refl _) _).setCell (Nat.le_refl _) _⟩
      · rw [hn0.out.1, hn0.out.2.1, hn0.out.2.2]
      · rw [hn0.out.1, hn0.out.2.1, hn0.out.2.2]
        exact ⟨(((HO.out.1.far hlo _).far hlo _).far hlo _).mono (by omega), ((HO.out.2.1.far _ _).far _ _).far _ _, HO.out.2.2⟩
end

section
open Go.RowKit
-- Own text. What both UnionOf answer: the same code and the same store.
theorem groupsF_zero {nr : Nat} {F : Nat → Int} {n : Nat} {S : Nat → Sto} (h : groupsF nr F n S = 0) : Good nr F ∧ n = nr ∧ (∀ i, i < n → storeF (S i) = 0 ∧ ¬ strayS (S i) (F (i * 3)) (F (i * 3 + 1))) ∧ ¬ fullG n S := by
  unfold groupsF at h
  split at h
  · rename_i q; exact absurd h q
  rename_i q1
  split at h
  · exact absurd h (by decide)
  rename_i q2
  split at h
  · rename_i q; exact absurd h q
  rename_i q3
  split at h
  · exact absurd h (by decide)
  rename_i q4
  refine ⟨good_of (Classical.not_not.1 q1), Classical.not_not.1 q2, fun i hi => ?_, q4⟩
  have h1 := scan_zero (Classical.not_not.1 q3) i hi
  unfold oneF at h1
  split at h1
  · rename_i q; exact absurd h1 q
  rename_i q5
  split at h1
  · exact absurd h1 (by decide)
  rename_i q6
  exact ⟨Classical.not_not.1 q5, q6⟩
/-- The call's blocks: the groups, and the answer that is under way. -/
def CallGS (w : World) (nr : Nat) (F : Nat → Int) (n : Nat) (S : Nat → Sto) (V : Nat → Nat → Value) (B : Nat) (vr vs : Value) (x : World) : Prop := Blk2 x w.heap.size vr vs ∧ Blk4 x (w.heap.size + 1) (.int .i64 0) (.slice none 0 0) (.slice none 0 0) (.slice none 0 0) ∧ Grs x B nr F n S V vr vs ∧ Below w.heap.size w x
theorem CallGS.new {w : World} {nr : Nat} {F : Nat → Int} {n : Nat} {S : Nat → Sto} {V : Nat → Nat → Value} {B : Nat} {vr vs : Value} (h : Grs w B nr F n S V vr vs) (t t' : TypeId) : CallGS w nr F n S V B vr vs ((w.alloc (.cells #[vr, vs] t)).alloc (.cells #[.int .i64 0, .slice none 0 0, .slice none 0 0, .slice none 0 0] t')) := by
  refine ⟨(Blk2.new _ _ _ _).alloc _, ?_, (h.alloc _).alloc _, (below_alloc _ _).alloc (by simp) _⟩
  have := Blk4.new (w.alloc (.cells #[vr, vs] t)) (.int .i64 0) (.slice none 0 0) (.slice none 0 0) (.slice none 0 0) t'
  rwa [World.size_alloc] at this
theorem CallGS.later {w x x' : World} {nr : Nat} {F : Nat → Int} {n : Nat} {S : Nat → Sto} {V : Nat → Nat → Value} {B : Nat} {vr vs : Value} (h : CallGS w nr F n S V B vr vs x) (hb : Below x.heap.size x x') : CallGS w nr F n S V B vr vs x' := ⟨h.1.later hb, h.2.1.later hb, h.2.2.1.later hb, h.2.2.2.trans (hb.mono h.2.2.2.size)⟩
def UniAns (nr : Nat) (F : Nat → Int) (n : Nat) (S : Nat → Sto) (c : Int) (R : Sto) : Prop :=
  (groupsF nr F n S ≠ 0 ∧ c = groupsF nr F n S ∧ R = emptyS) ∨ (groupsF nr F n S = 0 ∧ c = 0 ∧ R = unionS n S)
theorem UniAns.get (nr : Nat) (F : Nat → Int) (n : Nat) (S : Nat → Sto) : ∃ c R, SmallS R ∧ UniAns nr F n S c R := by
  by_cases hz : groupsF nr F n S = 0
  · refine ⟨0, unionS n S, ?_, Or.inr ⟨hz, rfl, rfl⟩⟩
    have h := (groupsF_zero hz).2.2.2
    unfold fullG at h
    unfold SmallS unionS
    simp only
    omega
  · exact ⟨_, emptyS, by unfold SmallS emptyS; decide, Or.inl ⟨hz, rfl, rfl⟩⟩
end
end Go.Proofs.YtlojbhadodbohaaGreat
