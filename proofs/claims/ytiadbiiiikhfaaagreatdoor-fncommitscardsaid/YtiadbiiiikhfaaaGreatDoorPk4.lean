/-
 Own text, merged of ColsQ, ColsX, ColsY, StorB, StorD, RegQ.
-/
import Derived.Test.YtiadbiiiikhfaaaGreatDoorPk3
namespace Go.Proofs.YtiadbiiiikhfaaaGreatDoor
open Go.RowKit

/-- The element ahead and the one that is asked, and that nothing old has turned. -/
def PrevWrite (w : World) (g o k N : Nat) (m0 m1 m2 m3 n0 n1 n2 n3 : Int) (x : World) : Prop := (x.cell? ⟨g, o + (k - 1) * 4, none⟩ = some (.int .i64 m0) ∧ x.cell? ⟨g, o + (k - 1) * 4 + 1, none⟩ = some (.int .i64 m1) ∧ x.cell? ⟨g, o + (k - 1) * 4 + 2, none⟩ = some (.int .i64 m2) ∧ x.cell? ⟨g, o + (k - 1) * 4 + 3, none⟩ = some (.int .i64 m3) ∧ x.cell? ⟨N, 0, none⟩ = some (.int .i64 n0) ∧ x.cell? ⟨N, 1, none⟩ = some (.int .i64 n1) ∧ x.cell? ⟨N, 2, none⟩ = some (.int .i64 n2) ∧ x.cell? ⟨N, 3, none⟩ = some (.int .i64 n3)) ∧ Below w.heap.size w x
theorem PrevWrite.later {w x x' : World} {g o k N : Nat} {m0 m1 m2 m3 n0 n1 n2 n3 : Int} (h : PrevWrite w g o k N m0 m1 m2 m3 n0 n1 n2 n3 x) (hb : Below x.heap.size x x') : PrevWrite w g o k N m0 m1 m2 m3 n0 n1 n2 n3 x' := by
 obtain ⟨⟨hx0, hx1, hx2, hx3, hx4, hx5, hx6, hx7⟩, hy⟩ := h
 exact ⟨⟨(hb.cell (World.block_lt_of_cell? x _ hx0)).trans hx0, (hb.cell (World.block_lt_of_cell? x _ hx1)).trans hx1, (hb.cell (World.block_lt_of_cell? x _ hx2)).trans hx2, (hb.cell (World.block_lt_of_cell? x _ hx3)).trans hx3, (hb.cell (World.block_lt_of_cell? x _ hx4)).trans hx4, (hb.cell (World.block_lt_of_cell? x _ hx5)).trans hx5, (hb.cell (World.block_lt_of_cell? x _ hx6)).trans hx6, (hb.cell (World.block_lt_of_cell? x _ hx7)).trans hx7⟩, hy.trans (hb.mono hy.size)⟩
/-- The element that is asked, and that nothing old has turned. -/
def FirstWrite (w : World) (N : Nat) (n0 n1 n2 n3 : Int) (x : World) : Prop := (x.cell? ⟨N, 0, none⟩ = some (.int .i64 n0) ∧ x.cell? ⟨N, 1, none⟩ = some (.int .i64 n1) ∧ x.cell? ⟨N, 2, none⟩ = some (.int .i64 n2) ∧ x.cell? ⟨N, 3, none⟩ = some (.int .i64 n3)) ∧ Below w.heap.size w x
theorem FirstWrite.later {w x x' : World} {N : Nat} {n0 n1 n2 n3 : Int} (h : FirstWrite w N n0 n1 n2 n3 x) (hb : Below x.heap.size x x') : FirstWrite w N n0 n1 n2 n3 x' := by
 obtain ⟨⟨hx0, hx1, hx2, hx3⟩, hy⟩ := h
 exact ⟨⟨(hb.cell (World.block_lt_of_cell? x _ hx0)).trans hx0, (hb.cell (World.block_lt_of_cell? x _ hx1)).trans hx1, (hb.cell (World.block_lt_of_cell? x _ hx2)).trans hx2, (hb.cell (World.block_lt_of_cell? x _ hx3)).trans hx3⟩, hy.trans (hb.mono hy.size)⟩
set_option maxRecDepth 100000 in
set_option maxHeartbeats 8000000 in
theorem writesFault_any (S : Sto) (v : Value) (B : Nat) (w : World) (h : Row w B 4 S.nw S.k v) (hn : S.nw ≤ 200) :
  Calls Tryz.prog 50 #[v] w fun e w' => e = .returned (.int .i64 (scan (writeF S.k) S.nw)) ∧ Below w.heap.size w w' := by
 obtain ⟨ao, cp, rfl⟩ := h.form
 have H : Hid (Row w B 4 S.nw S.k (.slice ao S.nw cp)) := h
 clear h
 go_enter Tryz.func50, Tryz.ntmps50
 go_wp2
 go_loopw [8] (fun i wr => ∃ k : Nat, k ≤ S.nw ∧ i = .int .i64 k ∧ Hid (scan (writeF S.k) k = 0) ∧ Below w.heap.size w wr) (fun i _ => S.nw - (intOf i).toNat)
 case atStart => exact ⟨0, Nat.zero_le _, rfl, rfl, Below.refl _ _⟩
 case round =>
  obtain ⟨k, hk, rfl, HS, hbw⟩ := hrel
  by_cases hlt : k < S.nw
  case neg =>
   have en : k = S.nw := by omega
   have E : Hid (scan (writeF S.k) S.nw = 0) := en ▸ HS.out
   clear HS
   go_wp2
   go_ret
   exact ⟨by rw [E.out]; rfl, hbw⟩
  obtain ⟨g, o, rfl, _, hg, x0, x1, x2, x3⟩ := (H.out.later hbw).at4 hlt
  obtain ⟨n0, N0⟩ : ∃ x, S.k (k * 4) = x := ⟨_, rfl⟩
  rw [N0] at x0
  obtain ⟨n1, N1⟩ : ∃ x, S.k (k * 4 + 1) = x := ⟨_, rfl⟩
  rw [N1] at x1
  obtain ⟨n2, N2⟩ : ∃ x, S.k (k * 4 + 2) = x := ⟨_, rfl⟩
  rw [N2] at x2
  obtain ⟨n3, N3⟩ : ∃ x, S.k (k * 4 + 3) = x := ⟨_, rfl⟩
  rw [N3] at x3
  have NN : Hid (S.k (k * 4) = n0 ∧ S.k (k * 4 + 1) = n1 ∧ S.k (k * 4 + 2) = n2 ∧ S.k (k * 4 + 3) = n3) := ⟨N0, N1, N2, N3⟩
  clear N0 N1 N2 N3
  have FT : Hid (fits S.k k ↔ (n3 = 4 → n1 = n2) ∧ (n3 ≠ 4 → n2 < n1)) := by
   unfold Hid fits
   rw [NN.out.2.1, NN.out.2.2.1, NN.out.2.2.2]
  by_cases h0 : faultOf n0 = 0
  case neg =>
   obtain ⟨f, hff⟩ : ∃ f, faultOf n0 = f := ⟨_, rfl⟩
   have L0 : Hid (∀ w, Calls Tryz.prog 32 #[.int .i64 n0] w fun e w' => e = .returned (.int .i64 f) ∧ w' = w) := fun w => hff ▸ keyFault_any n0 w
   have E : Hid (scan (writeF S.k) S.nw = f) := by
    have : writeF S.k k = f := by
     unfold writeF
     rw [NN.out.1, NN.out.2.1, NN.out.2.2.1, NN.out.2.2.2]
     rw [if_pos h0]; exact hff
    exact (scan_stop HS.out (by rw [this, ← hff]; exact h0) hlt).trans this
   have hfn : (f == 0) = false := beq_eq_false_iff_ne.2 (by rw [← hff]; exact h0)
   clear hff h0 HS NN FT
   go_wp2_with fail
   refine (L0.out _).mono ?_
   rintro e w1 ⟨rfl, rfl⟩
   go_wp2
   go_ret
   exact ⟨by rw [E.out]; rfl, by first | exact hbw.alloc hbw.size _ | exact below_dn (hbw.alloc hbw.size _) _ | exact below_dn (below_dn (hbw.alloc hbw.size _) _) _⟩
  have L0 : Hid (∀ w, Calls Tryz.prog 32 #[.int .i64 n0] w fun e w' => e = .returned (.int .i64 0) ∧ w' = w) := fun w => h0 ▸ keyFault_any n0 w
  have G0 : Hid (faultOf n0 = 0) := h0
  clear h0
  by_cases h1 : 1 ≤ n1 ∧ n1 ≤ 100000
  case neg =>
   have L1 : Hid (decide (1 ≤ n1 ∧ n1 ≤ 100000) = false) := decide_eq_false h1
   have E : Hid (scan (writeF S.k) S.nw = 3) := by
    have : writeF S.k k = 3 := by
     unfold writeF
     rw [NN.out.1, NN.out.2.1, NN.out.2.2.1, NN.out.2.2.2]
     rw [if_neg (fun h => h G0.out)]
     rw [if_pos (by omega)]
    exact (scan_stop HS.out (by rw [this]; decide) hlt).trans this
   clear h1 HS NN FT G0
   go_wp2_with fail
   refine (L0.out _).mono ?_
   rintro e w1 ⟨rfl, rfl⟩
   go_wp2_with fail
   refine (isTime_is _ false L1.out _).mono ?_
   rintro e w1 ⟨rfl, rfl⟩
   go_wp2
   go_ret
   exact ⟨by rw [E.out]; rfl, by first | exact hbw.alloc hbw.size _ | exact below_dn (hbw.alloc hbw.size _) _ | exact below_dn (below_dn (hbw.alloc hbw.size _) _) _⟩
  have L1 : Hid (decide (1 ≤ n1 ∧ n1 ≤ 100000) = true) := decide_eq_true h1
  have G1 : Hid (1 ≤ n1 ∧ n1 ≤ 100000) := h1
  clear h1
  by_cases h2 : 1 ≤ n2 ∧ n2 ≤ 100000
  case neg =>
   have L2 : Hid (decide (1 ≤ n2 ∧ n2 ≤ 100000) = false) := decide_eq_false h2
   have E : Hid (scan (writeF S.k) S.nw = 3) := by
    have : writeF S.k k = 3 := by
     unfold writeF
     rw [NN.out.1, NN.out.2.1, NN.out.2.2.1, NN.out.2.2.2]
     rw [if_neg (fun h => h G0.out)]
     rw [if_pos (by omega)]
    exact (scan_stop HS.out (by rw [this]; decide) hlt).trans this
   clear h2 HS NN FT G0 G1
   go_wp2_with fail
   refine (L0.out _).mono ?_
   rintro e w1 ⟨rfl, rfl⟩
   go_wp2_with fail
   refine (isTime_is _ true L1.out _).mono ?_
   rintro e w1 ⟨rfl, rfl⟩
   go_wp2_with fail
   refine (isTime_is _ false L2.out _).mono ?_
   rintro e w1 ⟨rfl, rfl⟩
   go_wp2
   go_ret
   exact ⟨by rw [E.out]; rfl, by first | exact hbw.alloc hbw.size _ | exact below_dn (hbw.alloc hbw.size _) _ | exact below_dn (below_dn (hbw.alloc hbw.size _) _) _⟩
  have L2 : Hid (decide (1 ≤ n2 ∧ n2 ≤ 100000) = true) := decide_eq_true h2
  have G2 : Hid (1 ≤ n2 ∧ n2 ≤ 100000) := h2
  clear h2
  by_cases h3 : 1 ≤ n3 ∧ n3 ≤ 3
  ·have L3 : Hid (decide (1 ≤ n3 ∧ n3 ≤ 3) = true) := decide_eq_true h3
   have G3 : Hid (1 ≤ n3 ∧ n3 ≤ 3) := h3
   clear h3
   by_cases hf : (n3 = 4 → n1 = n2) ∧ (n3 ≠ 4 → n2 < n1)
   ·have D : Hid (∀ w, Calls Tryz.prog 94 #[.agg #[.int .i64 n0, .int .i64 n1, .int .i64 n2, .int .i64 n3]] w fun e w' => e = .returned (.bool true) ∧ Below w.heap.size w w') := fun w => commitFits_is n0 n1 n2 n3 true (decide_eq_true hf) w
    have hft : Hid (fits S.k k) := FT.out.2 hf
    clear hf
    rcases Nat.eq_zero_or_pos k with hk0 | hk0
    ·have E : Hid (scan (writeF S.k) (k + 1) = 0) := by
      have : writeF S.k k = 0 := by
       unfold writeF
       rw [NN.out.1, NN.out.2.1, NN.out.2.2.1, NN.out.2.2.2]
       rw [if_neg (fun h => h G0.out)]
       have g1 := G1.out; have g2 := G2.out; have g3 := G3.out; rw [if_neg (by omega)]
       rw [if_neg (fun h => h.elim (fun q => by omega) (fun q => q hft.out))]
      exact scan_go HS.out this
     have dk : decide (0 < k) = false := decide_eq_false (by omega)
     have h0 : FirstWrite w wr.heap.size n0 n1 n2 n3 (wr.alloc (.cells #[.int .i64 n0, .int .i64 n1, .int .i64 n2, .int .i64 n3] 55)).drew := ⟨⟨World.cell?_alloc_mark wr _ _ _ 0, World.cell?_alloc_mark wr _ _ _ 1, World.cell?_alloc_mark wr _ _ _ 2, World.cell?_alloc_mark wr _ _ _ 3⟩, (hbw.alloc hbw.size _).drew⟩
     clear HS NN FT G0 G1 G2 G3 hk0 hft
     go_wp2_with fail
     refine (L0.out _).mono ?_
     rintro e w1 ⟨rfl, rfl⟩
     go_wp2_with fail
     refine (isTime_is _ true L1.out _).mono ?_
     rintro e w1 ⟨rfl, rfl⟩
     go_wp2_with fail
     refine (isTime_is _ true L2.out _).mono ?_
     rintro e w1 ⟨rfl, rfl⟩
     go_wp2_with fail
     refine (isLockKind_is _ true L3.out _).mono ?_
     rintro e w1 ⟨rfl, rfl⟩
     go_wp2_with fail
     refine wp_region_held_drew (S := FirstWrite w wr.heap.size n0 n1 n2 n3) (by kernel_rfl) h0 (fun hS => ?_)
     clear h0
     refine tkH 0 ?_ hS (fun wx hx => ?_) ?_; rotate_left
     ·obtain ⟨⟨hx0, hx1, hx2, hx3⟩, _⟩ := hx; go_simp; try with_reducible rfl
     refine tkH 1 ?_ hS (fun wx hx => ?_) ?_; rotate_left
     ·obtain ⟨⟨hx0, hx1, hx2, hx3⟩, _⟩ := hx; go_simp; try with_reducible rfl
     refine tkH 2 ?_ hS (fun wx hx => ?_) ?_; rotate_left
     ·obtain ⟨⟨hx0, hx1, hx2, hx3⟩, _⟩ := hx; go_simp; try with_reducible rfl
     refine noH 3 hS ?_
     refine noH 4 hS ?_
     refine noH 5 hS ?_
     refine noH 6 hS ?_
     refine noH 7 hS ?_
     refine noH 8 hS ?_
     refine noH 9 hS ?_
     refine noH 10 hS ?_
     refine tkH 11 ?_ hS (fun wx hx => ?_) ?_; rotate_left
     ·obtain ⟨⟨hx0, hx1, hx2, hx3⟩, _⟩ := hx; go_simp; try with_reducible rfl
     refine tkH 12 ?_ hS (fun wx hx => ?_) ?_; rotate_left
     ·obtain ⟨⟨hx0, hx1, hx2, hx3⟩, _⟩ := hx; go_simp; try with_reducible rfl
     refine tkH 13 ?_ hS (fun wx hx => ?_) ?_; rotate_left
     ·obtain ⟨⟨hx0, hx1, hx2, hx3⟩, _⟩ := hx; go_simp; try with_reducible rfl
     refine rdH 14 (fun K hK => ?_)
     go_simp
     go_wp2_with fail
     refine (D.out _).mono ?_
     rintro e w1 ⟨rfl, q1⟩
     have hS' := hS.later q1
     clear q1
     go_wp2_with fail
     refine hK.out _ _ hS' (fun hS => ?_)
     clear hK K hS'
     refine tkH 15 ?_ hS (fun wx hx => ?_) ?_; rotate_left
     ·obtain ⟨⟨hx0, hx1, hx2, hx3⟩, _⟩ := hx; go_simp; try with_reducible rfl
     refine tkH 16 ?_ hS (fun wx hx => ?_) ?_; rotate_left
     ·obtain ⟨⟨hx0, hx1, hx2, hx3⟩, _⟩ := hx; go_simp; try with_reducible rfl
     refine wpAnyH_done (by kernel_rfl) ?_ _
     go_simp
     go_wp2
     go_roundw
     case rel => exact ⟨k + 1, by omega, by go_num, E, hS.2⟩
     case measure => simp [intOf]; omega
    obtain ⟨g', o', he, _, _, y0, y1, y2, y3⟩ := (H.out.later hbw).at4 (k := k - 1) (by omega)
    simp only [Option.some.injEq, Addr.mk.injEq, and_true] at he
    obtain ⟨rfl, rfl⟩ := he
    obtain ⟨m0, M0⟩ : ∃ x, S.k ((k - 1) * 4) = x := ⟨_, rfl⟩
    rw [M0] at y0
    obtain ⟨m1, M1⟩ : ∃ x, S.k ((k - 1) * 4 + 1) = x := ⟨_, rfl⟩
    rw [M1] at y1
    obtain ⟨m2, M2⟩ : ∃ x, S.k ((k - 1) * 4 + 2) = x := ⟨_, rfl⟩
    rw [M2] at y2
    obtain ⟨m3, M3⟩ : ∃ x, S.k ((k - 1) * 4 + 3) = x := ⟨_, rfl⟩
    rw [M3] at y3
    have MM : Hid (S.k ((k - 1) * 4) = m0 ∧ S.k ((k - 1) * 4 + 1) = m1) := ⟨M0, M1⟩
    clear M0 M1 M2 M3
    have dk : decide (0 < k) = true := decide_eq_true hk0
    have hwr := wrap_pred k hk0 (by omega)
    have hkn : ((k - 1 : Nat) : Int) < (S.nw : Int) := by omega
    obtain ⟨r, HR⟩ : ∃ r, Hid (orOf (cmpOf m0 n0) (cmpOf m1 n1) = r) := ⟨_, rfl⟩
    have HO : Hid (r < 0 ↔ m0 < n0 ∨ m0 = n0 ∧ m1 < n1) := by unfold Hid; rw [← HR.out]; exact orOf_neg _ _ _ _
    have h0 : PrevWrite w g o k wr.heap.size m0 m1 m2 m3 n0 n1 n2 n3 (wr.alloc (.cells #[.int .i64 n0, .int .i64 n1, .int .i64 n2, .int .i64 n3] 55)).drew := ⟨⟨(World.cell?_alloc_lt _ _ _ hg).trans y0, (World.cell?_alloc_lt _ _ _ hg).trans y1, (World.cell?_alloc_lt _ _ _ hg).trans y2, (World.cell?_alloc_lt _ _ _ hg).trans y3, World.cell?_alloc_mark wr _ _ _ 0, World.cell?_alloc_mark wr _ _ _ 1, World.cell?_alloc_mark wr _ _ _ 2, World.cell?_alloc_mark wr _ _ _ 3⟩, (hbw.alloc hbw.size _).drew⟩
    by_cases hr : 0 ≤ r
    ·have E : Hid (scan (writeF S.k) S.nw = 1) := by
      have : writeF S.k k = 1 := by
       unfold writeF
       rw [NN.out.1, NN.out.2.1, NN.out.2.2.1, NN.out.2.2.2]
       rw [if_neg (fun h => h G0.out)]
       have g1 := G1.out; have g2 := G2.out; have g3 := G3.out; rw [if_neg (by omega)]
       rw [MM.out.1, MM.out.2]
       have ho := HO.out
       rw [if_pos (Or.inl ⟨hk0, by omega⟩)]
      exact (scan_stop HS.out (by rw [this]; decide) hlt).trans this
     have dr : decide (0 ≤ r) = true := decide_eq_true hr
     clear HS NN FT G0 G1 G2 G3 MM HO hr hft
     go_wp2_with fail
     refine (L0.out _).mono ?_
     rintro e w1 ⟨rfl, rfl⟩
     go_wp2_with fail
     refine (isTime_is _ true L1.out _).mono ?_
     rintro e w1 ⟨rfl, rfl⟩
     go_wp2_with fail
     refine (isTime_is _ true L2.out _).mono ?_
     rintro e w1 ⟨rfl, rfl⟩
     go_wp2_with fail
     refine (isLockKind_is _ true L3.out _).mono ?_
     rintro e w1 ⟨rfl, rfl⟩
     go_wp2_with fail
     refine wp_region_held_drew (S := PrevWrite w g o k wr.heap.size m0 m1 m2 m3 n0 n1 n2 n3) (by kernel_rfl) h0 (fun hS => ?_)
     clear h0
     refine tkH 0 ?_ hS (fun wx hx => ?_) ?_; rotate_left
     ·obtain ⟨⟨hx0, hx1, hx2, hx3, hx4, hx5, hx6, hx7⟩, _⟩ := hx; go_simp; try with_reducible rfl
     refine tkH 1 ?_ hS (fun wx hx => ?_) ?_; rotate_left
     ·obtain ⟨⟨hx0, hx1, hx2, hx3, hx4, hx5, hx6, hx7⟩, _⟩ := hx; go_simp; try with_reducible rfl
     refine tkH 2 ?_ hS (fun wx hx => ?_) ?_; rotate_left
     ·obtain ⟨⟨hx0, hx1, hx2, hx3, hx4, hx5, hx6, hx7⟩, _⟩ := hx; go_simp; try with_reducible rfl
     refine tkH 3 ?_ hS (fun wx hx => ?_) ?_; rotate_left
     ·obtain ⟨⟨hx0, hx1, hx2, hx3, hx4, hx5, hx6, hx7⟩, _⟩ := hx; go_simp; try with_reducible rfl
     refine tkH 4 ?_ hS (fun wx hx => ?_) ?_; rotate_left
     ·obtain ⟨⟨hx0, hx1, hx2, hx3, hx4, hx5, hx6, hx7⟩, _⟩ := hx; go_simp; try with_reducible rfl
     refine tkH 5 ?_ hS (fun wx hx => ?_) ?_; rotate_left
     ·obtain ⟨⟨hx0, hx1, hx2, hx3, hx4, hx5, hx6, hx7⟩, _⟩ := hx; go_simp; try with_reducible rfl
     refine tkH 6 ?_ hS (fun wx hx => ?_) ?_; rotate_left
     ·obtain ⟨⟨hx0, hx1, hx2, hx3, hx4, hx5, hx6, hx7⟩, _⟩ := hx; go_simp; try with_reducible rfl
     refine tkH 7 ?_ hS (fun wx hx => ?_) ?_; rotate_left
     ·obtain ⟨⟨hx0, hx1, hx2, hx3, hx4, hx5, hx6, hx7⟩, _⟩ := hx; go_simp; try with_reducible rfl
     refine tkH 8 ?_ hS (fun wx hx => ?_) ?_; rotate_left
     ·obtain ⟨⟨hx0, hx1, hx2, hx3, hx4, hx5, hx6, hx7⟩, _⟩ := hx; go_simp; try with_reducible rfl
     refine rdH 9 (fun K hK => ?_)
     go_simp
     go_wp2_with fail
     refine (compareWrites_is _ _ _ _ _ _ _ _ r HR.out _).mono ?_
     rintro e w1 ⟨rfl, q1⟩
     have hS' := hS.later q1
     clear q1
     go_wp2_with fail
     refine hK.out _ _ hS' (fun hS => ?_)
     clear hK K hS'
     refine tkH 10 ?_ hS (fun wx hx => ?_) ?_; rotate_left
     ·obtain ⟨⟨hx0, hx1, hx2, hx3, hx4, hx5, hx6, hx7⟩, _⟩ := hx; go_simp; try with_reducible rfl
     refine tkH 11 ?_ hS (fun wx hx => ?_) ?_; rotate_left
     ·obtain ⟨⟨hx0, hx1, hx2, hx3, hx4, hx5, hx6, hx7⟩, _⟩ := hx; go_simp; try with_reducible rfl
     refine tkH 12 ?_ hS (fun wx hx => ?_) ?_; rotate_left
     ·obtain ⟨⟨hx0, hx1, hx2, hx3, hx4, hx5, hx6, hx7⟩, _⟩ := hx; go_simp; try with_reducible rfl
     refine noH 13 hS ?_
     refine noH 14 hS ?_
     refine noH 15 hS ?_
     refine tkH 16 ?_ hS (fun wx hx => ?_) ?_; rotate_left
     ·obtain ⟨⟨hx0, hx1, hx2, hx3, hx4, hx5, hx6, hx7⟩, _⟩ := hx; go_simp; try with_reducible rfl
     refine wpAnyH_done (by kernel_rfl) ?_ _
     go_simp
     go_wp2
     go_ret
     exact ⟨by rw [E.out]; rfl, hS.2⟩
    ·have E : Hid (scan (writeF S.k) (k + 1) = 0) := by
      have : writeF S.k k = 0 := by
       unfold writeF
       rw [NN.out.1, NN.out.2.1, NN.out.2.2.1, NN.out.2.2.2]
       rw [if_neg (fun h => h G0.out)]
       have g1 := G1.out; have g2 := G2.out; have g3 := G3.out; rw [if_neg (by omega)]
       rw [MM.out.1, MM.out.2]
       have ho := HO.out
       rw [if_neg (fun h => h.elim (fun q => q.2 (by omega)) (fun q => q hft.out))]
      exact scan_go HS.out this
     have dr : decide (0 ≤ r) = false := decide_eq_false hr
     clear HS NN FT G0 G1 G2 G3 MM HO hr hft
     go_wp2_with fail
     refine (L0.out _).mono ?_
     rintro e w1 ⟨rfl, rfl⟩
     go_wp2_with fail
     refine (isTime_is _ true L1.out _).mono ?_
     rintro e w1 ⟨rfl, rfl⟩
     go_wp2_with fail
     refine (isTime_is _ true L2.out _).mono ?_
     rintro e w1 ⟨rfl, rfl⟩
     go_wp2_with fail
     refine (isLockKind_is _ true L3.out _).mono ?_
     rintro e w1 ⟨rfl, rfl⟩
     go_wp2_with fail
     refine wp_region_held_drew (S := PrevWrite w g o k wr.heap.size m0 m1 m2 m3 n0 n1 n2 n3) (by kernel_rfl) h0 (fun hS => ?_)
     clear h0
     refine tkH 0 ?_ hS (fun wx hx => ?_) ?_; rotate_left
     ·obtain ⟨⟨hx0, hx1, hx2, hx3, hx4, hx5, hx6, hx7⟩, _⟩ := hx; go_simp; try with_reducible rfl
     refine tkH 1 ?_ hS (fun wx hx => ?_) ?_; rotate_left
     ·obtain ⟨⟨hx0, hx1, hx2, hx3, hx4, hx5, hx6, hx7⟩, _⟩ := hx; go_simp; try with_reducible rfl
     refine tkH 2 ?_ hS (fun wx hx => ?_) ?_; rotate_left
     ·obtain ⟨⟨hx0, hx1, hx2, hx3, hx4, hx5, hx6, hx7⟩, _⟩ := hx; go_simp; try with_reducible rfl
     refine tkH 3 ?_ hS (fun wx hx => ?_) ?_; rotate_left
     ·obtain ⟨⟨hx0, hx1, hx2, hx3, hx4, hx5, hx6, hx7⟩, _⟩ := hx; go_simp; try with_reducible rfl
     refine tkH 4 ?_ hS (fun wx hx => ?_) ?_; rotate_left
     ·obtain ⟨⟨hx0, hx1, hx2, hx3, hx4, hx5, hx6, hx7⟩, _⟩ := hx; go_simp; try with_reducible rfl
     refine tkH 5 ?_ hS (fun wx hx => ?_) ?_; rotate_left
     ·obtain ⟨⟨hx0, hx1, hx2, hx3, hx4, hx5, hx6, hx7⟩, _⟩ := hx; go_simp; try with_reducible rfl
     refine tkH 6 ?_ hS (fun wx hx => ?_) ?_; rotate_left
     ·obtain ⟨⟨hx0, hx1, hx2, hx3, hx4, hx5, hx6, hx7⟩, _⟩ := hx; go_simp; try with_reducible rfl
     refine tkH 7 ?_ hS (fun wx hx => ?_) ?_; rotate_left
     ·obtain ⟨⟨hx0, hx1, hx2, hx3, hx4, hx5, hx6, hx7⟩, _⟩ := hx; go_simp; try with_reducible rfl
     refine tkH 8 ?_ hS (fun wx hx => ?_) ?_; rotate_left
     ·obtain ⟨⟨hx0, hx1, hx2, hx3, hx4, hx5, hx6, hx7⟩, _⟩ := hx; go_simp; try with_reducible rfl
     refine rdH 9 (fun K hK => ?_)
     go_simp
     go_wp2_with fail
     refine (compareWrites_is _ _ _ _ _ _ _ _ r HR.out _).mono ?_
     rintro e w1 ⟨rfl, q1⟩
     have hS' := hS.later q1
     clear q1
     go_wp2_with fail
     refine hK.out _ _ hS' (fun hS => ?_)
     clear hK K hS'
     refine tkH 10 ?_ hS (fun wx hx => ?_) ?_; rotate_left
     ·obtain ⟨⟨hx0, hx1, hx2, hx3, hx4, hx5, hx6, hx7⟩, _⟩ := hx; go_simp; try with_reducible rfl
     refine tkH 11 ?_ hS (fun wx hx => ?_) ?_; rotate_left
     ·obtain ⟨⟨hx0, hx1, hx2, hx3, hx4, hx5, hx6, hx7⟩, _⟩ := hx; go_simp; try with_reducible rfl
     refine tkH 12 ?_ hS (fun wx hx => ?_) ?_; rotate_left
     ·obtain ⟨⟨hx0, hx1, hx2, hx3, hx4, hx5, hx6, hx7⟩, _⟩ := hx; go_simp; try with_reducible rfl
     refine tkH 13 ?_ hS (fun wx hx => ?_) ?_; rotate_left
     ·obtain ⟨⟨hx0, hx1, hx2, hx3, hx4, hx5, hx6, hx7⟩, _⟩ := hx; go_simp; try with_reducible rfl
     refine rdH 14 (fun K hK => ?_)
     go_simp
     go_wp2_with fail
     refine (D.out _).mono ?_
     rintro e w1 ⟨rfl, q1⟩
     have hS' := hS.later q1
     clear q1
     go_wp2_with fail
     refine hK.out _ _ hS' (fun hS => ?_)
     clear hK K hS'
     refine tkH 15 ?_ hS (fun wx hx => ?_) ?_; rotate_left
     ·obtain ⟨⟨hx0, hx1, hx2, hx3, hx4, hx5, hx6, hx7⟩, _⟩ := hx; go_simp; try with_reducible rfl
     refine tkH 16 ?_ hS (fun wx hx => ?_) ?_; rotate_left
     ·obtain ⟨⟨hx0, hx1, hx2, hx3, hx4, hx5, hx6, hx7⟩, _⟩ := hx; go_simp; try with_reducible rfl
     refine wpAnyH_done (by kernel_rfl) ?_ _
     go_simp
     go_wp2
     go_roundw
     case rel => exact ⟨k + 1, by omega, by go_num, E, hS.2⟩
     case measure => simp [intOf]; omega
   ·have D : Hid (∀ w, Calls Tryz.prog 94 #[.agg #[.int .i64 n0, .int .i64 n1, .int .i64 n2, .int .i64 n3]] w fun e w' => e = .returned (.bool false) ∧ Below w.heap.size w w') := fun w => commitFits_is n0 n1 n2 n3 false (decide_eq_false hf) w
    have hft : Hid (¬ fits S.k k) := fun h => hf (FT.out.1 h)
    clear hf
    rcases Nat.eq_zero_or_pos k with hk0 | hk0
    ·have E : Hid (scan (writeF S.k) S.nw = 1) := by
      have : writeF S.k k = 1 := by
       unfold writeF
       rw [NN.out.1, NN.out.2.1, NN.out.2.2.1, NN.out.2.2.2]
       rw [if_neg (fun h => h G0.out)]
       have g1 := G1.out; have g2 := G2.out; have g3 := G3.out; rw [if_neg (by omega)]
       rw [if_pos (Or.inr hft.out)]
      exact (scan_stop HS.out (by rw [this]; decide) hlt).trans this
     have dk : decide (0 < k) = false := decide_eq_false (by omega)
     have h0 : FirstWrite w wr.heap.size n0 n1 n2 n3 (wr.alloc (.cells #[.int .i64 n0, .int .i64 n1, .int .i64 n2, .int .i64 n3] 55)).drew := ⟨⟨World.cell?_alloc_mark wr _ _ _ 0, World.cell?_alloc_mark wr _ _ _ 1, World.cell?_alloc_mark wr _ _ _ 2, World.cell?_alloc_mark wr _ _ _ 3⟩, (hbw.alloc hbw.size _).drew⟩
     clear HS NN FT G0 G1 G2 G3 hk0 hft
     go_wp2_with fail
     refine (L0.out _).mono ?_
     rintro e w1 ⟨rfl, rfl⟩
     go_wp2_with fail
     refine (isTime_is _ true L1.out _).mono ?_
     rintro e w1 ⟨rfl, rfl⟩
     go_wp2_with fail
     refine (isTime_is _ true L2.out _).mono ?_
     rintro e w1 ⟨rfl, rfl⟩
     go_wp2_with fail
     refine (isLockKind_is _ true L3.out _).mono ?_
     rintro e w1 ⟨rfl, rfl⟩
     go_wp2_with fail
     refine wp_region_held_drew (S := FirstWrite w wr.heap.size n0 n1 n2 n3) (by kernel_rfl) h0 (fun hS => ?_)
     clear h0
     refine tkH 0 ?_ hS (fun wx hx => ?_) ?_; rotate_left
     ·obtain ⟨⟨hx0, hx1, hx2, hx3⟩, _⟩ := hx; go_simp; try with_reducible rfl
     refine tkH 1 ?_ hS (fun wx hx => ?_) ?_; rotate_left
     ·obtain ⟨⟨hx0, hx1, hx2, hx3⟩, _⟩ := hx; go_simp; try with_reducible rfl
     refine tkH 2 ?_ hS (fun wx hx => ?_) ?_; rotate_left
     ·obtain ⟨⟨hx0, hx1, hx2, hx3⟩, _⟩ := hx; go_simp; try with_reducible rfl
     refine noH 3 hS ?_
     refine noH 4 hS ?_
     refine noH 5 hS ?_
     refine noH 6 hS ?_
     refine noH 7 hS ?_
     refine noH 8 hS ?_
     refine noH 9 hS ?_
     refine noH 10 hS ?_
     refine tkH 11 ?_ hS (fun wx hx => ?_) ?_; rotate_left
     ·obtain ⟨⟨hx0, hx1, hx2, hx3⟩, _⟩ := hx; go_simp; try with_reducible rfl
     refine tkH 12 ?_ hS (fun wx hx => ?_) ?_; rotate_left
     ·obtain ⟨⟨hx0, hx1, hx2, hx3⟩, _⟩ := hx; go_simp; try with_reducible rfl
     refine tkH 13 ?_ hS (fun wx hx => ?_) ?_; rotate_left
     ·obtain ⟨⟨hx0, hx1, hx2, hx3⟩, _⟩ := hx; go_simp; try with_reducible rfl
     refine rdH 14 (fun K hK => ?_)
     go_simp
     go_wp2_with fail
     refine (D.out _).mono ?_
     rintro e w1 ⟨rfl, q1⟩
     have hS' := hS.later q1
     clear q1
     go_wp2_with fail
     refine hK.out _ _ hS' (fun hS => ?_)
     clear hK K hS'
     refine tkH 15 ?_ hS (fun wx hx => ?_) ?_; rotate_left
     ·obtain ⟨⟨hx0, hx1, hx2, hx3⟩, _⟩ := hx; go_simp; try with_reducible rfl
     refine tkH 16 ?_ hS (fun wx hx => ?_) ?_; rotate_left
     ·obtain ⟨⟨hx0, hx1, hx2, hx3⟩, _⟩ := hx; go_simp; try with_reducible rfl
     refine wpAnyH_done (by kernel_rfl) ?_ _
     go_simp
     go_wp2
     go_ret
     exact ⟨by rw [E.out]; rfl, hS.2⟩
    obtain ⟨g', o', he, _, _, y0, y1, y2, y3⟩ := (H.out.later hbw).at4 (k := k - 1) (by omega)
    simp only [Option.some.injEq, Addr.mk.injEq, and_true] at he
    obtain ⟨rfl, rfl⟩ := he
    obtain ⟨m0, M0⟩ : ∃ x, S.k ((k - 1) * 4) = x := ⟨_, rfl⟩
    rw [M0] at y0
    obtain ⟨m1, M1⟩ : ∃ x, S.k ((k - 1) * 4 + 1) = x := ⟨_, rfl⟩
    rw [M1] at y1
    obtain ⟨m2, M2⟩ : ∃ x, S.k ((k - 1) * 4 + 2) = x := ⟨_, rfl⟩
    rw [M2] at y2
    obtain ⟨m3, M3⟩ : ∃ x, S.k ((k - 1) * 4 + 3) = x := ⟨_, rfl⟩
    rw [M3] at y3
    have MM : Hid (S.k ((k - 1) * 4) = m0 ∧ S.k ((k - 1) * 4 + 1) = m1) := ⟨M0, M1⟩
    clear M0 M1 M2 M3
    have dk : decide (0 < k) = true := decide_eq_true hk0
    have hwr := wrap_pred k hk0 (by omega)
    have hkn : ((k - 1 : Nat) : Int) < (S.nw : Int) := by omega
    obtain ⟨r, HR⟩ : ∃ r, Hid (orOf (cmpOf m0 n0) (cmpOf m1 n1) = r) := ⟨_, rfl⟩
    have HO : Hid (r < 0 ↔ m0 < n0 ∨ m0 = n0 ∧ m1 < n1) := by unfold Hid; rw [← HR.out]; exact orOf_neg _ _ _ _
    have h0 : PrevWrite w g o k wr.heap.size m0 m1 m2 m3 n0 n1 n2 n3 (wr.alloc (.cells #[.int .i64 n0, .int .i64 n1, .int .i64 n2, .int .i64 n3] 55)).drew := ⟨⟨(World.cell?_alloc_lt _ _ _ hg).trans y0, (World.cell?_alloc_lt _ _ _ hg).trans y1, (World.cell?_alloc_lt _ _ _ hg).trans y2, (World.cell?_alloc_lt _ _ _ hg).trans y3, World.cell?_alloc_mark wr _ _ _ 0, World.cell?_alloc_mark wr _ _ _ 1, World.cell?_alloc_mark wr _ _ _ 2, World.cell?_alloc_mark wr _ _ _ 3⟩, (hbw.alloc hbw.size _).drew⟩
    by_cases hr : 0 ≤ r
    ·have E : Hid (scan (writeF S.k) S.nw = 1) := by
      have : writeF S.k k = 1 := by
       unfold writeF
       rw [NN.out.1, NN.out.2.1, NN.out.2.2.1, NN.out.2.2.2]
       rw [if_neg (fun h => h G0.out)]
       have g1 := G1.out; have g2 := G2.out; have g3 := G3.out; rw [if_neg (by omega)]
       rw [MM.out.1, MM.out.2]
       have ho := HO.out
       rw [if_pos (Or.inl ⟨hk0, by omega⟩)]
      exact (scan_stop HS.out (by rw [this]; decide) hlt).trans this
     have dr : decide (0 ≤ r) = true := decide_eq_true hr
     clear HS NN FT G0 G1 G2 G3 MM HO hr hft
     go_wp2_with fail
     refine (L0.out _).mono ?_
     rintro e w1 ⟨rfl, rfl⟩
     go_wp2_with fail
     refine (isTime_is _ true L1.out _).mono ?_
     rintro e w1 ⟨rfl, rfl⟩
     go_wp2_with fail
     refine (isTime_is _ true L2.out _).mono ?_
     rintro e w1 ⟨rfl, rfl⟩
     go_wp2_with fail
     refine (isLockKind_is _ true L3.out _).mono ?_
     rintro e w1 ⟨rfl, rfl⟩
     go_wp2_with fail
     refine wp_region_held_drew (S := PrevWrite w g o k wr.heap.size m0 m1 m2 m3 n0 n1 n2 n3) (by kernel_rfl) h0 (fun hS => ?_)
     clear h0
     refine tkH 0 ?_ hS (fun wx hx => ?_) ?_; rotate_left
     ·obtain ⟨⟨hx0, hx1, hx2, hx3, hx4, hx5, hx6, hx7⟩, _⟩ := hx; go_simp; try with_reducible rfl
     refine tkH 1 ?_ hS (fun wx hx => ?_) ?_; rotate_left
     ·obtain ⟨⟨hx0, hx1, hx2, hx3, hx4, hx5, hx6, hx7⟩, _⟩ := hx; go_simp; try with_reducible rfl
     refine tkH 2 ?_ hS (fun wx hx => ?_) ?_; rotate_left
     ·obtain ⟨⟨hx0, hx1, hx2, hx3, hx4, hx5, hx6, hx7⟩, _⟩ := hx; go_simp; try with_reducible rfl
     refine tkH 3 ?_ hS (fun wx hx => ?_) ?_; rotate_left
     ·obtain ⟨⟨hx0, hx1, hx2, hx3, hx4, hx5, hx6, hx7⟩, _⟩ := hx; go_simp; try with_reducible rfl
     refine tkH 4 ?_ hS (fun wx hx => ?_) ?_; rotate_left
     ·obtain ⟨⟨hx0, hx1, hx2, hx3, hx4, hx5, hx6, hx7⟩, _⟩ := hx; go_simp; try with_reducible rfl
     refine tkH 5 ?_ hS (fun wx hx => ?_) ?_; rotate_left
     ·obtain ⟨⟨hx0, hx1, hx2, hx3, hx4, hx5, hx6, hx7⟩, _⟩ := hx; go_simp; try with_reducible rfl
     refine tkH 6 ?_ hS (fun wx hx => ?_) ?_; rotate_left
     ·obtain ⟨⟨hx0, hx1, hx2, hx3, hx4, hx5, hx6, hx7⟩, _⟩ := hx; go_simp; try with_reducible rfl
     refine tkH 7 ?_ hS (fun wx hx => ?_) ?_; rotate_left
     ·obtain ⟨⟨hx0, hx1, hx2, hx3, hx4, hx5, hx6, hx7⟩, _⟩ := hx; go_simp; try with_reducible rfl
     refine tkH 8 ?_ hS (fun wx hx => ?_) ?_; rotate_left
     ·obtain ⟨⟨hx0, hx1, hx2, hx3, hx4, hx5, hx6, hx7⟩, _⟩ := hx; go_simp; try with_reducible rfl
     refine rdH 9 (fun K hK => ?_)
     go_simp
     go_wp2_with fail
     refine (compareWrites_is _ _ _ _ _ _ _ _ r HR.out _).mono ?_
     rintro e w1 ⟨rfl, q1⟩
     have hS' := hS.later q1
     clear q1
     go_wp2_with fail
     refine hK.out _ _ hS' (fun hS => ?_)
     clear hK K hS'
     refine tkH 10 ?_ hS (fun wx hx => ?_) ?_; rotate_left
     ·obtain ⟨⟨hx0, hx1, hx2, hx3, hx4, hx5, hx6, hx7⟩, _⟩ := hx; go_simp; try with_reducible rfl
     refine tkH 11 ?_ hS (fun wx hx => ?_) ?_; rotate_left
     ·obtain ⟨⟨hx0, hx1, hx2, hx3, hx4, hx5, hx6, hx7⟩, _⟩ := hx; go_simp; try with_reducible rfl
     refine tkH 12 ?_ hS (fun wx hx => ?_) ?_; rotate_left
     ·obtain ⟨⟨hx0, hx1, hx2, hx3, hx4, hx5, hx6, hx7⟩, _⟩ := hx; go_simp; try with_reducible rfl
     refine noH 13 hS ?_
     refine noH 14 hS ?_
     refine noH 15 hS ?_
     refine tkH 16 ?_ hS (fun wx hx => ?_) ?_; rotate_left
     ·obtain ⟨⟨hx0, hx1, hx2, hx3, hx4, hx5, hx6, hx7⟩, _⟩ := hx; go_simp; try with_reducible rfl
     refine wpAnyH_done (by kernel_rfl) ?_ _
     go_simp
     go_wp2
     go_ret
     exact ⟨by rw [E.out]; rfl, hS.2⟩
    ·have E : Hid (scan (writeF S.k) S.nw = 1) := by
      have : writeF S.k k = 1 := by
       unfold writeF
       rw [NN.out.1, NN.out.2.1, NN.out.2.2.1, NN.out.2.2.2]
       rw [if_neg (fun h => h G0.out)]
       have g1 := G1.out; have g2 := G2.out; have g3 := G3.out; rw [if_neg (by omega)]
       rw [MM.out.1, MM.out.2]
       have ho := HO.out
       rw [if_pos (Or.inr hft.out)]
      exact (scan_stop HS.out (by rw [this]; decide) hlt).trans this
     have dr : decide (0 ≤ r) = false := decide_eq_false hr
     clear HS NN FT G0 G1 G2 G3 MM HO hr hft
     go_wp2_with fail
     refine (L0.out _).mono ?_
     rintro e w1 ⟨rfl, rfl⟩
     go_wp2_with fail
     refine (isTime_is _ true L1.out _).mono ?_
     rintro e w1 ⟨rfl, rfl⟩
     go_wp2_with fail
     refine (isTime_is _ true L2.out _).mono ?_
     rintro e w1 ⟨rfl, rfl⟩
     go_wp2_with fail
     refine (isLockKind_is _ true L3.out _).mono ?_
     rintro e w1 ⟨rfl, rfl⟩
     go_wp2_with fail
     refine wp_region_held_drew (S := PrevWrite w g o k wr.heap.size m0 m1 m2 m3 n0 n1 n2 n3) (by kernel_rfl) h0 (fun hS => ?_)
     clear h0
     refine tkH 0 ?_ hS (fun wx hx => ?_) ?_; rotate_left
     ·obtain ⟨⟨hx0, hx1, hx2, hx3, hx4, hx5, hx6, hx7⟩, _⟩ := hx; go_simp; try with_reducible rfl
     refine tkH 1 ?_ hS (fun wx hx => ?_) ?_; rotate_left
     ·obtain ⟨⟨hx0, hx1, hx2, hx3, hx4, hx5, hx6, hx7⟩, _⟩ := hx; go_simp; try with_reducible rfl
     refine tkH 2 ?_ hS (fun wx hx => ?_) ?_; rotate_left
     ·obtain ⟨⟨hx0, hx1, hx2, hx3, hx4, hx5, hx6, hx7⟩, _⟩ := hx; go_simp; try with_reducible rfl
     refine tkH 3 ?_ hS (fun wx hx => ?_) ?_; rotate_left
     ·obtain ⟨⟨hx0, hx1, hx2, hx3, hx4, hx5, hx6, hx7⟩, _⟩ := hx; go_simp; try with_reducible rfl
     refine tkH 4 ?_ hS (fun wx hx => ?_) ?_; rotate_left
     ·obtain ⟨⟨hx0, hx1, hx2, hx3, hx4, hx5, hx6, hx7⟩, _⟩ := hx; go_simp; try with_reducible rfl
     refine tkH 5 ?_ hS (fun wx hx => ?_) ?_; rotate_left
     ·obtain ⟨⟨hx0, hx1, hx2, hx3, hx4, hx5, hx6, hx7⟩, _⟩ := hx; go_simp; try with_reducible rfl
     refine tkH 6 ?_ hS (fun wx hx => ?_) ?_; rotate_left
     ·obtain ⟨⟨hx0, hx1, hx2, hx3, hx4, hx5, hx6, hx7⟩, _⟩ := hx; go_simp; try with_reducible rfl
     refine tkH 7 ?_ hS (fun wx hx => ?_) ?_; rotate_left
     ·obtain ⟨⟨hx0, hx1, hx2, hx3, hx4, hx5, hx6, hx7⟩, _⟩ := hx; go_simp; try with_reducible rfl
     refine tkH 8 ?_ hS (fun wx hx => ?_) ?_; rotate_left
     ·obtain ⟨⟨hx0, hx1, hx2, hx3, hx4, hx5, hx6, hx7⟩, _⟩ := hx; go_simp; try with_reducible rfl
     refine rdH 9 (fun K hK => ?_)
     go_simp
     go_wp2_with fail
     refine (compareWrites_is _ _ _ _ _ _ _ _ r HR.out _).mono ?_
     rintro e w1 ⟨rfl, q1⟩
     have hS' := hS.later q1
     clear q1
     go_wp2_with fail
     refine hK.out _ _ hS' (fun hS => ?_)
     clear hK K hS'
     refine tkH 10 ?_ hS (fun wx hx => ?_) ?_; rotate_left
     ·obtain ⟨⟨hx0, hx1, hx2, hx3, hx4, hx5, hx6, hx7⟩, _⟩ := hx; go_simp; try with_reducible rfl
     refine tkH 11 ?_ hS (fun wx hx => ?_) ?_; rotate_left
     ·obtain ⟨⟨hx0, hx1, hx2, hx3, hx4, hx5, hx6, hx7⟩, _⟩ := hx; go_simp; try with_reducible rfl
     refine tkH 12 ?_ hS (fun wx hx => ?_) ?_; rotate_left
     ·obtain ⟨⟨hx0, hx1, hx2, hx3, hx4, hx5, hx6, hx7⟩, _⟩ := hx; go_simp; try with_reducible rfl
     refine tkH 13 ?_ hS (fun wx hx => ?_) ?_; rotate_left
     ·obtain ⟨⟨hx0, hx1, hx2, hx3, hx4, hx5, hx6, hx7⟩, _⟩ := hx; go_simp; try with_reducible rfl
     refine rdH 14 (fun K hK => ?_)
     go_simp
     go_wp2_with fail
     refine (D.out _).mono ?_
     rintro e w1 ⟨rfl, q1⟩
     have hS' := hS.later q1
     clear q1
     go_wp2_with fail
     refine hK.out _ _ hS' (fun hS => ?_)
     clear hK K hS'
     refine tkH 15 ?_ hS (fun wx hx => ?_) ?_; rotate_left
     ·obtain ⟨⟨hx0, hx1, hx2, hx3, hx4, hx5, hx6, hx7⟩, _⟩ := hx; go_simp; try with_reducible rfl
     refine tkH 16 ?_ hS (fun wx hx => ?_) ?_; rotate_left
     ·obtain ⟨⟨hx0, hx1, hx2, hx3, hx4, hx5, hx6, hx7⟩, _⟩ := hx; go_simp; try with_reducible rfl
     refine wpAnyH_done (by kernel_rfl) ?_ _
     go_simp
     go_wp2
     go_ret
     exact ⟨by rw [E.out]; rfl, hS.2⟩
  ·have L3 : Hid (decide (1 ≤ n3 ∧ n3 ≤ 3) = false) := decide_eq_false h3
   by_cases h4 : n3 = 4
   case neg =>
    have E : Hid (scan (writeF S.k) S.nw = 3) := by
     have : writeF S.k k = 3 := by
      unfold writeF
      rw [NN.out.1, NN.out.2.1, NN.out.2.2.1, NN.out.2.2.2]
      rw [if_neg (fun h => h G0.out)]
      rw [if_pos (by omega)]
     exact (scan_stop HS.out (by rw [this]; decide) hlt).trans this
    have hn4 : (n3 == 4) = false := beq_eq_false_iff_ne.2 h4
    clear h3 h4 HS NN FT G0 G1 G2
    go_wp2_with fail
    refine (L0.out _).mono ?_
    rintro e w1 ⟨rfl, rfl⟩
    go_wp2_with fail
    refine (isTime_is _ true L1.out _).mono ?_
    rintro e w1 ⟨rfl, rfl⟩
    go_wp2_with fail
    refine (isTime_is _ true L2.out _).mono ?_
    rintro e w1 ⟨rfl, rfl⟩
    go_wp2_with fail
    refine (isLockKind_is _ false L3.out _).mono ?_
    rintro e w1 ⟨rfl, rfl⟩
    go_wp2
    go_ret
    exact ⟨by rw [E.out]; rfl, by first | exact hbw.alloc hbw.size _ | exact below_dn (hbw.alloc hbw.size _) _ | exact below_dn (below_dn (hbw.alloc hbw.size _) _) _⟩
   subst h4
   have G3 : Hid ((4 : Int) = 4) := rfl
   clear h3
   by_cases hf : ((4 : Int) = 4 → n1 = n2) ∧ ((4 : Int) ≠ 4 → n2 < n1)
   ·have D : Hid (∀ w, Calls Tryz.prog 94 #[.agg #[.int .i64 n0, .int .i64 n1, .int .i64 n2, .int .i64 4]] w fun e w' => e = .returned (.bool true) ∧ Below w.heap.size w w') := fun w => commitFits_is n0 n1 n2 4 true (decide_eq_true hf) w
    have hft : Hid (fits S.k k) := FT.out.2 hf
    clear hf
    rcases Nat.eq_zero_or_pos k with hk0 | hk0
    ·have E : Hid (scan (writeF S.k) (k + 1) = 0) := by
      have : writeF S.k k = 0 := by
       unfold writeF
       rw [NN.out.1, NN.out.2.1, NN.out.2.2.1, NN.out.2.2.2]
       rw [if_neg (fun h => h G0.out)]
       have g1 := G1.out; have g2 := G2.out; have g3 := G3.out; rw [if_neg (by omega)]
       rw [if_neg (fun h => h.elim (fun q => by omega) (fun q => q hft.out))]
      exact scan_go HS.out this
     have dk : decide (0 < k) = false := decide_eq_false (by omega)
     have h0 : FirstWrite w wr.heap.size n0 n1 n2 4 (wr.alloc (.cells #[.int .i64 n0, .int .i64 n1, .int .i64 n2, .int .i64 4] 55)).drew := ⟨⟨World.cell?_alloc_mark wr _ _ _ 0, World.cell?_alloc_mark wr _ _ _ 1, World.cell?_alloc_mark wr _ _ _ 2, World.cell?_alloc_mark wr _ _ _ 3⟩, (hbw.alloc hbw.size _).drew⟩
     clear HS NN FT G0 G1 G2 G3 hk0 hft
     go_wp2_with fail
     refine (L0.out _).mono ?_
     rintro e w1 ⟨rfl, rfl⟩
     go_wp2_with fail
     refine (isTime_is _ true L1.out _).mono ?_
     rintro e w1 ⟨rfl, rfl⟩
     go_wp2_with fail
     refine (isTime_is _ true L2.out _).mono ?_
     rintro e w1 ⟨rfl, rfl⟩
     go_wp2_with fail
     refine (isLockKind_is _ false L3.out _).mono ?_
     rintro e w1 ⟨rfl, rfl⟩
     go_wp2_with fail
     refine wp_region_held_drew (S := FirstWrite w wr.heap.size n0 n1 n2 4) (by kernel_rfl) h0 (fun hS => ?_)
     clear h0
     refine tkH 0 ?_ hS (fun wx hx => ?_) ?_; rotate_left
     ·obtain ⟨⟨hx0, hx1, hx2, hx3⟩, _⟩ := hx; go_simp; try with_reducible rfl
     refine tkH 1 ?_ hS (fun wx hx => ?_) ?_; rotate_left
     ·obtain ⟨⟨hx0, hx1, hx2, hx3⟩, _⟩ := hx; go_simp; try with_reducible rfl
     refine tkH 2 ?_ hS (fun wx hx => ?_) ?_; rotate_left
     ·obtain ⟨⟨hx0, hx1, hx2, hx3⟩, _⟩ := hx; go_simp; try with_reducible rfl
     refine noH 3 hS ?_
     refine noH 4 hS ?_
     refine noH 5 hS ?_
     refine noH 6 hS ?_
     refine noH 7 hS ?_
     refine noH 8 hS ?_
     refine noH 9 hS ?_
     refine noH 10 hS ?_
     refine tkH 11 ?_ hS (fun wx hx => ?_) ?_; rotate_left
     ·obtain ⟨⟨hx0, hx1, hx2, hx3⟩, _⟩ := hx; go_simp; try with_reducible rfl
     refine tkH 12 ?_ hS (fun wx hx => ?_) ?_; rotate_left
     ·obtain ⟨⟨hx0, hx1, hx2, hx3⟩, _⟩ := hx; go_simp; try with_reducible rfl
     refine tkH 13 ?_ hS (fun wx hx => ?_) ?_; rotate_left
     ·obtain ⟨⟨hx0, hx1, hx2, hx3⟩, _⟩ := hx; go_simp; try with_reducible rfl
     refine rdH 14 (fun K hK => ?_)
     go_simp
     go_wp2_with fail
     refine (D.out _).mono ?_
     rintro e w1 ⟨rfl, q1⟩
     have hS' := hS.later q1
     clear q1
     go_wp2_with fail
     refine hK.out _ _ hS' (fun hS => ?_)
     clear hK K hS'
     refine tkH 15 ?_ hS (fun wx hx => ?_) ?_; rotate_left
     ·obtain ⟨⟨hx0, hx1, hx2, hx3⟩, _⟩ := hx; go_simp; try with_reducible rfl
     refine tkH 16 ?_ hS (fun wx hx => ?_) ?_; rotate_left
     ·obtain ⟨⟨hx0, hx1, hx2, hx3⟩, _⟩ := hx; go_simp; try with_reducible rfl
     refine wpAnyH_done (by kernel_rfl) ?_ _
     go_simp
     go_wp2
     go_roundw
     case rel => exact ⟨k + 1, by omega, by go_num, E, hS.2⟩
     case measure => simp [intOf]; omega
    obtain ⟨g', o', he, _, _, y0, y1, y2, y3⟩ := (H.out.later hbw).at4 (k := k - 1) (by omega)
    simp only [Option.some.injEq, Addr.mk.injEq, and_true] at he
    obtain ⟨rfl, rfl⟩ := he
    obtain ⟨m0, M0⟩ : ∃ x, S.k ((k - 1) * 4) = x := ⟨_, rfl⟩
    rw [M0] at y0
    obtain ⟨m1, M1⟩ : ∃ x, S.k ((k - 1) * 4 + 1) = x := ⟨_, rfl⟩
    rw [M1] at y1
    obtain ⟨m2, M2⟩ : ∃ x, S.k ((k - 1) * 4 + 2) = x := ⟨_, rfl⟩
    rw [M2] at y2
    obtain ⟨m3, M3⟩ : ∃ x, S.k ((k - 1) * 4 + 3) = x := ⟨_, rfl⟩
    rw [M3] at y3
    have MM : Hid (S.k ((k - 1) * 4) = m0 ∧ S.k ((k - 1) * 4 + 1) = m1) := ⟨M0, M1⟩
    clear M0 M1 M2 M3
    have dk : decide (0 < k) = true := decide_eq_true hk0
    have hwr := wrap_pred k hk0 (by omega)
    have hkn : ((k - 1 : Nat) : Int) < (S.nw : Int) := by omega
    obtain ⟨r, HR⟩ : ∃ r, Hid (orOf (cmpOf m0 n0) (cmpOf m1 n1) = r) := ⟨_, rfl⟩
    have HO : Hid (r < 0 ↔ m0 < n0 ∨ m0 = n0 ∧ m1 < n1) := by unfold Hid; rw [← HR.out]; exact orOf_neg _ _ _ _
    have h0 : PrevWrite w g o k wr.heap.size m0 m1 m2 m3 n0 n1 n2 4 (wr.alloc (.cells #[.int .i64 n0, .int .i64 n1, .int .i64 n2, .int .i64 4] 55)).drew := ⟨⟨(World.cell?_alloc_lt _ _ _ hg).trans y0, (World.cell?_alloc_lt _ _ _ hg).trans y1, (World.cell?_alloc_lt _ _ _ hg).trans y2, (World.cell?_alloc_lt _ _ _ hg).trans y3, World.cell?_alloc_mark wr _ _ _ 0, World.cell?_alloc_mark wr _ _ _ 1, World.cell?_alloc_mark wr _ _ _ 2, World.cell?_alloc_mark wr _ _ _ 3⟩, (hbw.alloc hbw.size _).drew⟩
    by_cases hr : 0 ≤ r
    ·have E : Hid (scan (writeF S.k) S.nw = 1) := by
      have : writeF S.k k = 1 := by
       unfold writeF
       rw [NN.out.1, NN.out.2.1, NN.out.2.2.1, NN.out.2.2.2]
       rw [if_neg (fun h => h G0.out)]
       have g1 := G1.out; have g2 := G2.out; have g3 := G3.out; rw [if_neg (by omega)]
       rw [MM.out.1, MM.out.2]
       have ho := HO.out
       rw [if_pos (Or.inl ⟨hk0, by omega⟩)]
      exact (scan_stop HS.out (by rw [this]; decide) hlt).trans this
     have dr : decide (0 ≤ r) = true := decide_eq_true hr
     clear HS NN FT G0 G1 G2 G3 MM HO hr hft
     go_wp2_with fail
     refine (L0.out _).mono ?_
     rintro e w1 ⟨rfl, rfl⟩
     go_wp2_with fail
     refine (isTime_is _ true L1.out _).mono ?_
     rintro e w1 ⟨rfl, rfl⟩
     go_wp2_with fail
     refine (isTime_is _ true L2.out _).mono ?_
     rintro e w1 ⟨rfl, rfl⟩
     go_wp2_with fail
     refine (isLockKind_is _ false L3.out _).mono ?_
     rintro e w1 ⟨rfl, rfl⟩
     go_wp2_with fail
     refine wp_region_held_drew (S := PrevWrite w g o k wr.heap.size m0 m1 m2 m3 n0 n1 n2 4) (by kernel_rfl) h0 (fun hS => ?_)
     clear h0
     refine tkH 0 ?_ hS (fun wx hx => ?_) ?_; rotate_left
     ·obtain ⟨⟨hx0, hx1, hx2, hx3, hx4, hx5, hx6, hx7⟩, _⟩ := hx; go_simp; try with_reducible rfl
     refine tkH 1 ?_ hS (fun wx hx => ?_) ?_; rotate_left
     ·obtain ⟨⟨hx0, hx1, hx2, hx3, hx4, hx5, hx6, hx7⟩, _⟩ := hx; go_simp; try with_reducible rfl
     refine tkH 2 ?_ hS (fun wx hx => ?_) ?_; rotate_left
     ·obtain ⟨⟨hx0, hx1, hx2, hx3, hx4, hx5, hx6, hx7⟩, _⟩ := hx; go_simp; try with_reducible rfl
     refine tkH 3 ?_ hS (fun wx hx => ?_) ?_; rotate_left
     ·obtain ⟨⟨hx0, hx1, hx2, hx3, hx4, hx5, hx6, hx7⟩, _⟩ := hx; go_simp; try with_reducible rfl
     refine tkH 4 ?_ hS (fun wx hx => ?_) ?_; rotate_left
     ·obtain ⟨⟨hx0, hx1, hx2, hx3, hx4, hx5, hx6, hx7⟩, _⟩ := hx; go_simp; try with_reducible rfl
     refine tkH 5 ?_ hS (fun wx hx => ?_) ?_; rotate_left
     ·obtain ⟨⟨hx0, hx1, hx2, hx3, hx4, hx5, hx6, hx7⟩, _⟩ := hx; go_simp; try with_reducible rfl
     refine tkH 6 ?_ hS (fun wx hx => ?_) ?_; rotate_left
     ·obtain ⟨⟨hx0, hx1, hx2, hx3, hx4, hx5, hx6, hx7⟩, _⟩ := hx; go_simp; try with_reducible rfl
     refine tkH 7 ?_ hS (fun wx hx => ?_) ?_; rotate_left
     ·obtain ⟨⟨hx0, hx1, hx2, hx3, hx4, hx5, hx6, hx7⟩, _⟩ := hx; go_simp; try with_reducible rfl
     refine tkH 8 ?_ hS (fun wx hx => ?_) ?_; rotate_left
     ·obtain ⟨⟨hx0, hx1, hx2, hx3, hx4, hx5, hx6, hx7⟩, _⟩ := hx; go_simp; try with_reducible rfl
     refine rdH 9 (fun K hK => ?_)
     go_simp
     go_wp2_with fail
     refine (compareWrites_is _ _ _ _ _ _ _ _ r HR.out _).mono ?_
     rintro e w1 ⟨rfl, q1⟩
     have hS' := hS.later q1
     clear q1
     go_wp2_with fail
     refine hK.out _ _ hS' (fun hS => ?_)
     clear hK K hS'
     refine tkH 10 ?_ hS (fun wx hx => ?_) ?_; rotate_left
     ·obtain ⟨⟨hx0, hx1, hx2, hx3, hx4, hx5, hx6, hx7⟩, _⟩ := hx; go_simp; try with_reducible rfl
     refine tkH 11 ?_ hS (fun wx hx => ?_) ?_; rotate_left
     ·obtain ⟨⟨hx0, hx1, hx2, hx3, hx4, hx5, hx6, hx7⟩, _⟩ := hx; go_simp; try with_reducible rfl
     refine tkH 12 ?_ hS (fun wx hx => ?_) ?_; rotate_left
     ·obtain ⟨⟨hx0, hx1, hx2, hx3, hx4, hx5, hx6, hx7⟩, _⟩ := hx; go_simp; try with_reducible rfl
     refine noH 13 hS ?_
     refine noH 14 hS ?_
     refine noH 15 hS ?_
     refine tkH 16 ?_ hS (fun wx hx => ?_) ?_; rotate_left
     ·obtain ⟨⟨hx0, hx1, hx2, hx3, hx4, hx5, hx6, hx7⟩, _⟩ := hx; go_simp; try with_reducible rfl
     refine wpAnyH_done (by kernel_rfl) ?_ _
     go_simp
     go_wp2
     go_ret
     exact ⟨by rw [E.out]; rfl, hS.2⟩
    ·have E : Hid (scan (writeF S.k) (k + 1) = 0) := by
      have : writeF S.k k = 0 := by
       unfold writeF
       rw [NN.out.1, NN.out.2.1, NN.out.2.2.1, NN.out.2.2.2]
       rw [if_neg (fun h => h G0.out)]
       have g1 := G1.out; have g2 := G2.out; have g3 := G3.out; rw [if_neg (by omega)]
       rw [MM.out.1, MM.out.2]
       have ho := HO.out
       rw [if_neg (fun h => h.elim (fun q => q.2 (by omega)) (fun q => q hft.out))]
      exact scan_go HS.out this
     have dr : decide (0 ≤ r) = false := decide_eq_false hr
     clear HS NN FT G0 G1 G2 G3 MM HO hr hft
     go_wp2_with fail
     refine (L0.out _).mono ?_
     rintro e w1 ⟨rfl, rfl⟩
     go_wp2_with fail
     refine (isTime_is _ true L1.out _).mono ?_
     rintro e w1 ⟨rfl, rfl⟩
     go_wp2_with fail
     refine (isTime_is _ true L2.out _).mono ?_
     rintro e w1 ⟨rfl, rfl⟩
     go_wp2_with fail
     refine (isLockKind_is _ false L3.out _).mono ?_
     rintro e w1 ⟨rfl, rfl⟩
     go_wp2_with fail
     refine wp_region_held_drew (S := PrevWrite w g o k wr.heap.size m0 m1 m2 m3 n0 n1 n2 4) (by kernel_rfl) h0 (fun hS => ?_)
     clear h0
     refine tkH 0 ?_ hS (fun wx hx => ?_) ?_; rotate_left
     ·obtain ⟨⟨hx0, hx1, hx2, hx3, hx4, hx5, hx6, hx7⟩, _⟩ := hx; go_simp; try with_reducible rfl
     refine tkH 1 ?_ hS (fun wx hx => ?_) ?_; rotate_left
     ·obtain ⟨⟨hx0, hx1, hx2, hx3, hx4, hx5, hx6, hx7⟩, _⟩ := hx; go_simp; try with_reducible rfl
     refine tkH 2 ?_ hS (fun wx hx => ?_) ?_; rotate_left
     ·obtain ⟨⟨hx0, hx1, hx2, hx3, hx4, hx5, hx6, hx7⟩, _⟩ := hx; go_simp; try with_reducible rfl
     refine tkH 3 ?_ hS (fun wx hx => ?_) ?_; rotate_left
     ·obtain ⟨⟨hx0, hx1, hx2, hx3, hx4, hx5, hx6, hx7⟩, _⟩ := hx; go_simp; try with_reducible rfl
     refine tkH 4 ?_ hS (fun wx hx => ?_) ?_; rotate_left
     ·obtain ⟨⟨hx0, hx1, hx2, hx3, hx4, hx5, hx6, hx7⟩, _⟩ := hx; go_simp; try with_reducible rfl
     refine tkH 5 ?_ hS (fun wx hx => ?_) ?_; rotate_left
     ·obtain ⟨⟨hx0, hx1, hx2, hx3, hx4, hx5, hx6, hx7⟩, _⟩ := hx; go_simp; try with_reducible rfl
     refine tkH 6 ?_ hS (fun wx hx => ?_) ?_; rotate_left
     ·obtain ⟨⟨hx0, hx1, hx2, hx3, hx4, hx5, hx6, hx7⟩, _⟩ := hx; go_simp; try with_reducible rfl
     refine tkH 7 ?_ hS (fun wx hx => ?_) ?_; rotate_left
     ·obtain ⟨⟨hx0, hx1, hx2, hx3, hx4, hx5, hx6, hx7⟩, _⟩ := hx; go_simp; try with_reducible rfl
     refine tkH 8 ?_ hS (fun wx hx => ?_) ?_; rotate_left
     ·obtain ⟨⟨hx0, hx1, hx2, hx3, hx4, hx5, hx6, hx7⟩, _⟩ := hx; go_simp; try with_reducible rfl
     refine rdH 9 (fun K hK => ?_)
     go_simp
     go_wp2_with fail
     refine (compareWrites_is _ _ _ _ _ _ _ _ r HR.out _).mono ?_
     rintro e w1 ⟨rfl, q1⟩
     have hS' := hS.later q1
     clear q1
     go_wp2_with fail
     refine hK.out _ _ hS' (fun hS => ?_)
     clear hK K hS'
     refine tkH 10 ?_ hS (fun wx hx => ?_) ?_; rotate_left
     ·obtain ⟨⟨hx0, hx1, hx2, hx3, hx4, hx5, hx6, hx7⟩, _⟩ := hx; go_simp; try with_reducible rfl
     refine tkH 11 ?_ hS (fun wx hx => ?_) ?_; rotate_left
     ·obtain ⟨⟨hx0, hx1, hx2, hx3, hx4, hx5, hx6, hx7⟩, _⟩ := hx; go_simp; try with_reducible rfl
     refine tkH 12 ?_ hS (fun wx hx => ?_) ?_; rotate_left
     ·obtain ⟨⟨hx0, hx1, hx2, hx3, hx4, hx5, hx6, hx7⟩, _⟩ := hx; go_simp; try with_reducible rfl
     refine tkH 13 ?_ hS (fun wx hx => ?_) ?_; rotate_left
     ·obtain ⟨⟨hx0, hx1, hx2, hx3, hx4, hx5, hx6, hx7⟩, _⟩ := hx; go_simp; try with_reducible rfl
     refine rdH 14 (fun K hK => ?_)
     go_simp
     go_wp2_with fail
     refine (D.out _).mono ?_
     rintro e w1 ⟨rfl, q1⟩
     have hS' := hS.later q1
     clear q1
     go_wp2_with fail
     refine hK.out _ _ hS' (fun hS => ?_)
     clear hK K hS'
     refine tkH 15 ?_ hS (fun wx hx => ?_) ?_; rotate_left
     ·obtain ⟨⟨hx0, hx1, hx2, hx3, hx4, hx5, hx6, hx7⟩, _⟩ := hx; go_simp; try with_reducible rfl
     refine tkH 16 ?_ hS (fun wx hx => ?_) ?_; rotate_left
     ·obtain ⟨⟨hx0, hx1, hx2, hx3, hx4, hx5, hx6, hx7⟩, _⟩ := hx; go_simp; try with_reducible rfl
     refine wpAnyH_done (by kernel_rfl) ?_ _
     go_simp
     go_wp2
     go_roundw
     case rel => exact ⟨k + 1, by omega, by go_num, E, hS.2⟩
     case measure => simp [intOf]; omega
   ·have D : Hid (∀ w, Calls Tryz.prog 94 #[.agg #[.int .i64 n0, .int .i64 n1, .int .i64 n2, .int .i64 4]] w fun e w' => e = .returned (.bool false) ∧ Below w.heap.size w w') := fun w => commitFits_is n0 n1 n2 4 false (decide_eq_false hf) w
    have hft : Hid (¬ fits S.k k) := fun h => hf (FT.out.1 h)
    clear hf
    rcases Nat.eq_zero_or_pos k with hk0 | hk0
    ·have E : Hid (scan (writeF S.k) S.nw = 1) := by
      have : writeF S.k k = 1 := by
       unfold writeF
       rw [NN.out.1, NN.out.2.1, NN.out.2.2.1, NN.out.2.2.2]
       rw [if_neg (fun h => h G0.out)]
       have g1 := G1.out; have g2 := G2.out; have g3 := G3.out; rw [if_neg (by omega)]
       rw [if_pos (Or.inr hft.out)]
      exact (scan_stop HS.out (by rw [this]; decide) hlt).trans this
     have dk : decide (0 < k) = false := decide_eq_false (by omega)
     have h0 : FirstWrite w wr.heap.size n0 n1 n2 4 (wr.alloc (.cells #[.int .i64 n0, .int .i64 n1, .int .i64 n2, .int .i64 4] 55)).drew := ⟨⟨World.cell?_alloc_mark wr _ _ _ 0, World.cell?_alloc_mark wr _ _ _ 1, World.cell?_alloc_mark wr _ _ _ 2, World.cell?_alloc_mark wr _ _ _ 3⟩, (hbw.alloc hbw.size _).drew⟩
     clear HS NN FT G0 G1 G2 G3 hk0 hft
     go_wp2_with fail
     refine (L0.out _).mono ?_
     rintro e w1 ⟨rfl, rfl⟩
     go_wp2_with fail
     refine (isTime_is _ true L1.out _).mono ?_
     rintro e w1 ⟨rfl, rfl⟩
     go_wp2_with fail
     refine (isTime_is _ true L2.out _).mono ?_
     rintro e w1 ⟨rfl, rfl⟩
     go_wp2_with fail
     refine (isLockKind_is _ false L3.out _).mono ?_
     rintro e w1 ⟨rfl, rfl⟩
     go_wp2_with fail
     refine wp_region_held_drew (S := FirstWrite w wr.heap.size n0 n1 n2 4) (by kernel_rfl) h0 (fun hS => ?_)
     clear h0
     refine tkH 0 ?_ hS (fun wx hx => ?_) ?_; rotate_left
     ·obtain ⟨⟨hx0, hx1, hx2, hx3⟩, _⟩ := hx; go_simp; try with_reducible rfl
     refine tkH 1 ?_ hS (fun wx hx => ?_) ?_; rotate_left
     ·obtain ⟨⟨hx0, hx1, hx2, hx3⟩, _⟩ := hx; go_simp; try with_reducible rfl
     refine tkH 2 ?_ hS (fun wx hx => ?_) ?_; rotate_left
     ·obtain ⟨⟨hx0, hx1, hx2, hx3⟩, _⟩ := hx; go_simp; try with_reducible rfl
     refine noH 3 hS ?_
     refine noH 4 hS ?_
     refine noH 5 hS ?_
     refine noH 6 hS ?_
     refine noH 7 hS ?_
     refine noH 8 hS ?_
     refine noH 9 hS ?_
     refine noH 10 hS ?_
     refine tkH 11 ?_ hS (fun wx hx => ?_) ?_; rotate_left
     ·obtain ⟨⟨hx0, hx1, hx2, hx3⟩, _⟩ := hx; go_simp; try with_reducible rfl
     refine tkH 12 ?_ hS (fun wx hx => ?_) ?_; rotate_left
     ·obtain ⟨⟨hx0, hx1, hx2, hx3⟩, _⟩ := hx; go_simp; try with_reducible rfl
     refine tkH 13 ?_ hS (fun wx hx => ?_) ?_; rotate_left
     ·obtain ⟨⟨hx0, hx1, hx2, hx3⟩, _⟩ := hx; go_simp; try with_reducible rfl
     refine rdH 14 (fun K hK => ?_)
     go_simp
     go_wp2_with fail
     refine (D.out _).mono ?_
     rintro e w1 ⟨rfl, q1⟩
     have hS' := hS.later q1
     clear q1
     go_wp2_with fail
     refine hK.out _ _ hS' (fun hS => ?_)
     clear hK K hS'
     refine tkH 15 ?_ hS (fun wx hx => ?_) ?_; rotate_left
     ·obtain ⟨⟨hx0, hx1, hx2, hx3⟩, _⟩ := hx; go_simp; try with_reducible rfl
     refine tkH 16 ?_ hS (fun wx hx => ?_) ?_; rotate_left
     ·obtain ⟨⟨hx0, hx1, hx2, hx3⟩, _⟩ := hx; go_simp; try with_reducible rfl
     refine wpAnyH_done (by kernel_rfl) ?_ _
     go_simp
     go_wp2
     go_ret
     exact ⟨by rw [E.out]; rfl, hS.2⟩
    obtain ⟨g', o', he, _, _, y0, y1, y2, y3⟩ := (H.out.later hbw).at4 (k := k - 1) (by omega)
    simp only [Option.some.injEq, Addr.mk.injEq, and_true] at he
    obtain ⟨rfl, rfl⟩ := he
    obtain ⟨m0, M0⟩ : ∃ x, S.k ((k - 1) * 4) = x := ⟨_, rfl⟩
    rw [M0] at y0
    obtain ⟨m1, M1⟩ : ∃ x, S.k ((k - 1) * 4 + 1) = x := ⟨_, rfl⟩
    rw [M1] at y1
    obtain ⟨m2, M2⟩ : ∃ x, S.k ((k - 1) * 4 + 2) = x := ⟨_, rfl⟩
    rw [M2] at y2
    obtain ⟨m3, M3⟩ : ∃ x, S.k ((k - 1) * 4 + 3) = x := ⟨_, rfl⟩
    rw [M3] at y3
    have MM : Hid (S.k ((k - 1) * 4) = m0 ∧ S.k ((k - 1) * 4 + 1) = m1) := ⟨M0, M1⟩
    clear M0 M1 M2 M3
    have dk : decide (0 < k) = true := decide_eq_true hk0
    have hwr := wrap_pred k hk0 (by omega)
    have hkn : ((k - 1 : Nat) : Int) < (S.nw : Int) := by omega
    obtain ⟨r, HR⟩ : ∃ r, Hid (orOf (cmpOf m0 n0) (cmpOf m1 n1) = r) := ⟨_, rfl⟩
    have HO : Hid (r < 0 ↔ m0 < n0 ∨ m0 = n0 ∧ m1 < n1) := by unfold Hid; rw [← HR.out]; exact orOf_neg _ _ _ _
    have h0 : PrevWrite w g o k wr.heap.size m0 m1 m2 m3 n0 n1 n2 4 (wr.alloc (.cells #[.int .i64 n0, .int .i64 n1, .int .i64 n2, .int .i64 4] 55)).drew := ⟨⟨(World.cell?_alloc_lt _ _ _ hg).trans y0, (World.cell?_alloc_lt _ _ _ hg).trans y1, (World.cell?_alloc_lt _ _ _ hg).trans y2, (World.cell?_alloc_lt _ _ _ hg).trans y3, World.cell?_alloc_mark wr _ _ _ 0, World.cell?_alloc_mark wr _ _ _ 1, World.cell?_alloc_mark wr _ _ _ 2, World.cell?_alloc_mark wr _ _ _ 3⟩, (hbw.alloc hbw.size _).drew⟩
    by_cases hr : 0 ≤ r
    ·have E : Hid (scan (writeF S.k) S.nw = 1) := by
      have : writeF S.k k = 1 := by
       unfold writeF
       rw [NN.out.1, NN.out.2.1, NN.out.2.2.1, NN.out.2.2.2]
       rw [if_neg (fun h => h G0.out)]
       have g1 := G1.out; have g2 := G2.out; have g3 := G3.out; rw [if_neg (by omega)]
       rw [MM.out.1, MM.out.2]
       have ho := HO.out
       rw [if_pos (Or.inl ⟨hk0, by omega⟩)]
      exact (scan_stop HS.out (by rw [this]; decide) hlt).trans this
     have dr : decide (0 ≤ r) = true := decide_eq_true hr
     clear HS NN FT G0 G1 G2 G3 MM HO hr hft
     go_wp2_with fail
     refine (L0.out _).mono ?_
     rintro e w1 ⟨rfl, rfl⟩
     go_wp2_with fail
     refine (isTime_is _ true L1.out _).mono ?_
     rintro e w1 ⟨rfl, rfl⟩
     go_wp2_with fail
     refine (isTime_is _ true L2.out _).mono ?_
     rintro e w1 ⟨rfl, rfl⟩
     go_wp2_with fail
     refine (isLockKind_is _ false L3.out _).mono ?_
     rintro e w1 ⟨rfl, rfl⟩
     go_wp2_with fail
     refine wp_region_held_drew (S := PrevWrite w g o k wr.heap.size m0 m1 m2 m3 n0 n1 n2 4) (by kernel_rfl) h0 (fun hS => ?_)
     clear h0
     refine tkH 0 ?_ hS (fun wx hx => ?_) ?_; rotate_left
     ·obtain ⟨⟨hx0, hx1, hx2, hx3, hx4, hx5, hx6, hx7⟩, _⟩ := hx; go_simp; try with_reducible rfl
     refine tkH 1 ?_ hS (fun wx hx => ?_) ?_; rotate_left
     ·obtain ⟨⟨hx0, hx1, hx2, hx3, hx4, hx5, hx6, hx7⟩, _⟩ := hx; go_simp; try with_reducible rfl
     refine tkH 2 ?_ hS (fun wx hx => ?_) ?_; rotate_left
     ·obtain ⟨⟨hx0, hx1, hx2, hx3, hx4, hx5, hx6, hx7⟩, _⟩ := hx; go_simp; try with_reducible rfl
     refine tkH 3 ?_ hS (fun wx hx => ?_) ?_; rotate_left
     ·obtain ⟨⟨hx0, hx1, hx2, hx3, hx4, hx5, hx6, hx7⟩, _⟩ := hx; go_simp; try with_reducible rfl
     refine tkH 4 ?_ hS (fun wx hx => ?_) ?_; rotate_left
     ·obtain ⟨⟨hx0, hx1, hx2, hx3, hx4, hx5, hx6, hx7⟩, _⟩ := hx; go_simp; try with_reducible rfl
     refine tkH 5 ?_ hS (fun wx hx => ?_) ?_; rotate_left
     ·obtain ⟨⟨hx0, hx1, hx2, hx3, hx4, hx5, hx6, hx7⟩, _⟩ := hx; go_simp; try with_reducible rfl
     refine tkH 6 ?_ hS (fun wx hx => ?_) ?_; rotate_left
     ·obtain ⟨⟨hx0, hx1, hx2, hx3, hx4, hx5, hx6, hx7⟩, _⟩ := hx; go_simp; try with_reducible rfl
     refine tkH 7 ?_ hS (fun wx hx => ?_) ?_; rotate_left
     ·obtain ⟨⟨hx0, hx1, hx2, hx3, hx4, hx5, hx6, hx7⟩, _⟩ := hx; go_simp; try with_reducible rfl
     refine tkH 8 ?_ hS (fun wx hx => ?_) ?_; rotate_left
     ·obtain ⟨⟨hx0, hx1, hx2, hx3, hx4, hx5, hx6, hx7⟩, _⟩ := hx; go_simp; try with_reducible rfl
     refine rdH 9 (fun K hK => ?_)
     go_simp
     go_wp2_with fail
     refine (compareWrites_is _ _ _ _ _ _ _ _ r HR.out _).mono ?_
     rintro e w1 ⟨rfl, q1⟩
     have hS' := hS.later q1
     clear q1
     go_wp2_with fail
     refine hK.out _ _ hS' (fun hS => ?_)
     clear hK K hS'
     refine tkH 10 ?_ hS (fun wx hx => ?_) ?_; rotate_left
     ·obtain ⟨⟨hx0, hx1, hx2, hx3, hx4, hx5, hx6, hx7⟩, _⟩ := hx; go_simp; try with_reducible rfl
     refine tkH 11 ?_ hS (fun wx hx => ?_) ?_; rotate_left
     ·obtain ⟨⟨hx0, hx1, hx2, hx3, hx4, hx5, hx6, hx7⟩, _⟩ := hx; go_simp; try with_reducible rfl
     refine tkH 12 ?_ hS (fun wx hx => ?_) ?_; rotate_left
     ·obtain ⟨⟨hx0, hx1, hx2, hx3, hx4, hx5, hx6, hx7⟩, _⟩ := hx; go_simp; try with_reducible rfl
     refine noH 13 hS ?_
     refine noH 14 hS ?_
     refine noH 15 hS ?_
     refine tkH 16 ?_ hS (fun wx hx => ?_) ?_; rotate_left
     ·obtain ⟨⟨hx0, hx1, hx2, hx3, hx4, hx5, hx6, hx7⟩, _⟩ := hx; go_simp; try with_reducible rfl
     refine wpAnyH_done (by kernel_rfl) ?_ _
     go_simp
     go_wp2
     go_ret
     exact ⟨by rw [E.out]; rfl, hS.2⟩
    ·have E : Hid (scan (writeF S.k) S.nw = 1) := by
      have : writeF S.k k = 1 := by
       unfold writeF
       rw [NN.out.1, NN.out.2.1, NN.out.2.2.1, NN.out.2.2.2]
       rw [if_neg (fun h => h G0.out)]
       have g1 := G1.out; have g2 := G2.out; have g3 := G3.out; rw [if_neg (by omega)]
       rw [MM.out.1, MM.out.2]
       have ho := HO.out
       rw [if_pos (Or.inr hft.out)]
      exact (scan_stop HS.out (by rw [this]; decide) hlt).trans this
     have dr : decide (0 ≤ r) = false := decide_eq_false hr
     clear HS NN FT G0 G1 G2 G3 MM HO hr hft
     go_wp2_with fail
     refine (L0.out _).mono ?_
     rintro e w1 ⟨rfl, rfl⟩
     go_wp2_with fail
     refine (isTime_is _ true L1.out _).mono ?_
     rintro e w1 ⟨rfl, rfl⟩
     go_wp2_with fail
     refine (isTime_is _ true L2.out _).mono ?_
     rintro e w1 ⟨rfl, rfl⟩
     go_wp2_with fail
     refine (isLockKind_is _ false L3.out _).mono ?_
     rintro e w1 ⟨rfl, rfl⟩
     go_wp2_with fail
     refine wp_region_held_drew (S := PrevWrite w g o k wr.heap.size m0 m1 m2 m3 n0 n1 n2 4) (by kernel_rfl) h0 (fun hS => ?_)
     clear h0
     refine tkH 0 ?_ hS (fun wx hx => ?_) ?_; rotate_left
     ·obtain ⟨⟨hx0, hx1, hx2, hx3, hx4, hx5, hx6, hx7⟩, _⟩ := hx; go_simp; try with_reducible rfl
     refine tkH 1 ?_ hS (fun wx hx => ?_) ?_; rotate_left
     ·obtain ⟨⟨hx0, hx1, hx2, hx3, hx4, hx5, hx6, hx7⟩, _⟩ := hx; go_simp; try with_reducible rfl
     refine tkH 2 ?_ hS (fun wx hx => ?_) ?_; rotate_left
     ·obtain ⟨⟨hx0, hx1, hx2, hx3, hx4, hx5, hx6, hx7⟩, _⟩ := hx; go_simp; try with_reducible rfl
     refine tkH 3 ?_ hS (fun wx hx => ?_) ?_; rotate_left
     ·obtain ⟨⟨hx0, hx1, hx2, hx3, hx4, hx5, hx6, hx7⟩, _⟩ := hx; go_simp; try with_reducible rfl
     refine tkH 4 ?_ hS (fun wx hx => ?_) ?_; rotate_left
     ·obtain ⟨⟨hx0, hx1, hx2, hx3, hx4, hx5, hx6, hx7⟩, _⟩ := hx; go_simp; try with_reducible rfl
     refine tkH 5 ?_ hS (fun wx hx => ?_) ?_; rotate_left
     ·obtain ⟨⟨hx0, hx1, hx2, hx3, hx4, hx5, hx6, hx7⟩, _⟩ := hx; go_simp; try with_reducible rfl
     refine tkH 6 ?_ hS (fun wx hx => ?_) ?_; rotate_left
     ·obtain ⟨⟨hx0, hx1, hx2, hx3, hx4, hx5, hx6, hx7⟩, _⟩ := hx; go_simp; try with_reducible rfl
     refine tkH 7 ?_ hS (fun wx hx => ?_) ?_; rotate_left
     ·obtain ⟨⟨hx0, hx1, hx2, hx3, hx4, hx5, hx6, hx7⟩, _⟩ := hx; go_simp; try with_reducible rfl
     refine tkH 8 ?_ hS (fun wx hx => ?_) ?_; rotate_left
     ·obtain ⟨⟨hx0, hx1, hx2, hx3, hx4, hx5, hx6, hx7⟩, _⟩ := hx; go_simp; try with_reducible rfl
     refine rdH 9 (fun K hK => ?_)
     go_simp
     go_wp2_with fail
     refine (compareWrites_is _ _ _ _ _ _ _ _ r HR.out _).mono ?_
     rintro e w1 ⟨rfl, q1⟩
     have hS' := hS.later q1
     clear q1
     go_wp2_with fail
     refine hK.out _ _ hS' (fun hS => ?_)
     clear hK K hS'
     refine tkH 10 ?_ hS (fun wx hx => ?_) ?_; rotate_left
     ·obtain ⟨⟨hx0, hx1, hx2, hx3, hx4, hx5, hx6, hx7⟩, _⟩ := hx; go_simp; try with_reducible rfl
     refine tkH 11 ?_ hS (fun wx hx => ?_) ?_; rotate_left
     ·obtain ⟨⟨hx0, hx1, hx2, hx3, hx4, hx5, hx6, hx7⟩, _⟩ := hx; go_simp; try with_reducible rfl
     refine tkH 12 ?_ hS (fun wx hx => ?_) ?_; rotate_left
     ·obtain ⟨⟨hx0, hx1, hx2, hx3, hx4, hx5, hx6, hx7⟩, _⟩ := hx; go_simp; try with_reducible rfl
     refine tkH 13 ?_ hS (fun wx hx => ?_) ?_; rotate_left
     ·obtain ⟨⟨hx0, hx1, hx2, hx3, hx4, hx5, hx6, hx7⟩, _⟩ := hx; go_simp; try with_reducible rfl
     refine rdH 14 (fun K hK => ?_)
     go_simp
     go_wp2_with fail
     refine (D.out _).mono ?_
     rintro e w1 ⟨rfl, q1⟩
     have hS' := hS.later q1
     clear q1
     go_wp2_with fail
     refine hK.out _ _ hS' (fun hS => ?_)
     clear hK K hS'
     refine tkH 15 ?_ hS (fun wx hx => ?_) ?_; rotate_left
     ·obtain ⟨⟨hx0, hx1, hx2, hx3, hx4, hx5, hx6, hx7⟩, _⟩ := hx; go_simp; try with_reducible rfl
     refine tkH 16 ?_ hS (fun wx hx => ?_) ?_; rotate_left
     ·obtain ⟨⟨hx0, hx1, hx2, hx3, hx4, hx5, hx6, hx7⟩, _⟩ := hx; go_simp; try with_reducible rfl
     refine wpAnyH_done (by kernel_rfl) ?_ _
     go_simp
     go_wp2
     go_ret
     exact ⟨by rw [E.out]; rfl, hS.2⟩
end Go.Proofs.YtiadbiiiikhfaaaGreatDoor

namespace Go.Proofs.YtiadbiiiikhfaaaGreatDoor
section
open Go.RowKit Go.Maps
theorem all_next {p : Nat → Prop} {k : Nat} (h : ∀ j, j < k → p j) (q : p k) : ∀ j, j < k + 1 → p j := fun j hj => by
 rcases Nat.lt_or_ge j k with e | e
 ·exact h j e
 ·obtain rfl : j = k := by omega
  exact q
/-- The places of the puts among the first k structs (m numbers each; number kd the kind, number st the start). -/
def selP (F : Nat → Int) (m kd st : Nat) : Nat → List (Int × Int)
 | 0 => []
 | k + 1 => selP F m kd st k ++ (if F (k * m + kd) = 1 then [(F (k * m), F (k * m + st))] else [])
theorem selP_yes {F : Nat → Int} {m kd st k : Nat} (h : F (k * m + kd) = 1) : selP F m kd st (k + 1) = selP F m kd st k ++ [(F (k * m), F (k * m + st))] := by rw [selP, if_pos h]
theorem selP_no {F : Nat → Int} {m kd st k : Nat} (h : F (k * m + kd) ≠ 1) : selP F m kd st (k + 1) = selP F m kd st k := by rw [selP, if_neg h, List.append_nil]
theorem selP_le (F : Nat → Int) (m kd st : Nat) : ∀ k, (selP F m kd st k).length ≤ k
 | 0 => Nat.le_refl _
 | k + 1 => by
  have ih := selP_le F m kd st k
  by_cases h : F (k * m + kd) = 1
  ·rw [selP_yes h, List.length_append, List.length_singleton]; omega
  ·rw [selP_no h]; omega
theorem selP_mem {F : Nat → Int} {m kd st : Nat} (x y : Int) : ∀ k, (x, y) ∈ selP F m kd st k ↔ ∃ i, i < k ∧ F (i * m + kd) = 1 ∧ F (i * m) = x ∧ F (i * m + st) = y
 | 0 => by simp [selP]
 | k + 1 => by
  have ih := selP_mem (F := F) (m := m) (kd := kd) (st := st) x y k
  by_cases h : F (k * m + kd) = 1
  ·rw [selP_yes h, List.mem_append, ih, List.mem_singleton, Prod.mk.injEq]
   constructor
   ·rintro (⟨i, hi, r⟩ | ⟨rfl, rfl⟩)
    ·exact ⟨i, by omega, r⟩
    ·exact ⟨k, by omega, h, rfl, rfl⟩
   ·rintro ⟨i, hi, r, rx, ry⟩
    by_cases e : i = k
    ·subst e; exact Or.inr ⟨rx.symm, ry.symm⟩
    ·exact Or.inl ⟨i, by omega, r, rx, ry⟩
  ·rw [selP_no h, ih]
   constructor
   ·rintro ⟨i, hi, r⟩; exact ⟨i, by omega, r⟩
   ·rintro ⟨i, hi, r⟩
    by_cases e : i = k
    ·subst e; exact absurd r.1 h
    ·exact ⟨i, by omega, r⟩
/-- The numbers of a list of pairs. -/
def flat : List (Int × Int) → List Int
 | [] => []
 | p :: t => p.1 :: p.2 :: flat t
theorem flat_append (a b : List (Int × Int)) : flat (a ++ b) = flat a ++ flat b := by
 induction a with
 | nil => rfl
 | cons p t ih => simp [flat, ih]
theorem flat_length (a : List (Int × Int)) : (flat a).length = a.length * 2 := by
 induction a with
 | nil => rfl
 | cons p t ih => simp [flat, ih]; omega
theorem flat_at (a : List (Int × Int)) (i : Nat) (hi : i < a.length) : (flat a).getD (i * 2) 0 = (a[i]'hi).1 ∧ (flat a).getD (i * 2 + 1) 0 = (a[i]'hi).2 := by
 induction a generalizing i with
 | nil => simp at hi
 | cons p t ih =>
  match i, hi with
  | 0, _ => exact ⟨rfl, rfl⟩
  | i + 1, hi =>
   have := ih i (by simpa using hi)
   rw [show (i + 1) * 2 = i * 2 + 1 + 1 by omega]
   exact this
/-- A row of places that a call has made since w. -/
def Plc (w : World) (v : Value) (P : List (Int × Int)) (x : World) : Prop := OwnM x w.heap.size 105 2 v P.length (flat P) ∧ Below w.heap.size w x
theorem Plc.later {w x x' : World} {v : Value} {P : List (Int × Int)} (h : Plc w v P x) (hb : Below x.heap.size x x') : Plc w v P x' := ⟨h.1.later hb, h.2.trans (hb.mono h.2.size)⟩
theorem Plc.form {w x : World} {v : Value} {P : List (Int × Int)} (h : Plc w v P x) : ∃ ao cp, v = .slice ao P.length cp := h.1.form
theorem Plc.step {w x x' : World} {v v' : Value} {P : List (Int × Int)} {a b : Int} (h : Plc w v P x) (ho : x'.ownsRow w.heap.size 105 2 v' (P.length + 1) ((flat P).map (Value.int .i64) ++ [.int .i64 a, .int .i64 b])) (hg : x.grownBy x' v.ownBlock) : Plc w v' (P ++ [(a, b)]) x' := by
 refine ⟨?_, below_grownBy h.2 h.2.size (fun bb hbb => (h.1.block bb hbb).1) hg⟩
 unfold OwnM
 rw [flat_append, List.map_append, List.length_append]
 exact ho
theorem Plc.row {w x : World} {v : Value} {P : List (Int × Int)} (h : Plc w v P x) : Row x w.heap.size 2 P.length (fun p => (flat P).getD p 0) v := (h.1.own (flat_length P)).row.1
theorem infoz_place : (Tryz.prog.info? 105).map (fun i => (i.zero, i.size, i.bytes)) = some (some (.agg #[.int .i64 0, .int .i64 0]), 2, 16) := by kernel_rfl
def putP (nl : Nat) (l : Nat → Int) (nw : Nat) (k : Nat → Int) : List (Int × Int) := selP l 5 2 1 nl ++ selP k 4 3 2 nw
set_option maxRecDepth 100000 in
set_option maxHeartbeats 4000000 in
theorem putPlaces_any (nl : Nat) (l : Nat → Int) (nw : Nat) (kk : Nat → Int) (B : Nat) (v1 v2 : Value) (w : World) (h1 : Row w B 5 nl l v1) (h2 : Row w B 4 nw kk v2) (hl : nl ≤ 200) (hk : nw ≤ 200) :
  Calls Tryz.prog 95 #[v1, v2] w fun e w' => ∃ v, e = .returned v ∧ Plc w v (putP nl l nw kk) w' := by
 unfold putP
 obtain ⟨a1, c1, rfl⟩ := h1.form
 obtain ⟨a2, c2, rfl⟩ := h2.form
 have H1 : Hid (Row w B 5 nl l (.slice a1 nl c1)) := h1
 have H2 : Hid (Row w B 4 nw kk (.slice a2 nw c2)) := h2
 obtain ⟨i0, hi, hz0, hz1, hz2⟩ := info_parts infoz_place
 have HS0 : Hid (Plc w (.slice none 0 0) (selP l 5 2 1 0) w) := ⟨OwnM.nil _ _ _ _, Below.refl _ _⟩
 clear h1 h2
 go_enter Tryz.func95, Tryz.ntmps95
 go_wp2
 go_loopw [5, 12] (fun v i wr => ∃ (k : Nat), k ≤ nl ∧ i = .int .i64 k ∧ Hid (Plc w v (selP l 5 2 1 k) wr)) (fun _ i _ => nl - (intOf i).toNat)
 case atStart => exact ⟨0, Nat.zero_le _, rfl, HS0⟩
 case round =>
  clear HS0
  obtain ⟨k, hk, rfl, HS⟩ := hrel
  obtain ⟨ao, cp, rfl⟩ := HS.out.form
  by_cases hlt : k < nl
  case neg =>
   obtain rfl : nl = k := by omega
   have HS1 : Hid (Plc w (.slice ao (selP l 5 2 1 nl).length cp) (selP l 5 2 1 nl ++ selP kk 4 3 2 0) wr) := by
    unfold Hid
    rw [show selP kk 4 3 2 0 = [] from rfl, List.append_nil]
    exact HS.out
   clear HS
   go_wp2
   go_loopw [5, 30] (fun v i wr => ∃ (k : Nat), k ≤ nw ∧ i = .int .i64 k ∧ Hid (Plc w v (selP l 5 2 1 nl ++ selP kk 4 3 2 k) wr)) (fun _ i _ => nw - (intOf i).toNat)
   case atStart => exact ⟨0, Nat.zero_le _, rfl, HS1⟩
   case round =>
    clear HS1
    obtain ⟨k, hk, rfl, HS⟩ := hrel
    obtain ⟨ao, cp, rfl⟩ := HS.out.form
    by_cases hlt : k < nw
    case neg =>
     obtain rfl : nw = k := by omega
     go_wp2
     go_ret
     exact ⟨_, rfl, HS.out⟩
    obtain ⟨g, o, rfl, _, hg, x0, x1, x2, x3⟩ := (H2.out.later HS.out.2).at4 hlt
    obtain ⟨n0, N0⟩ : ∃ x, kk (k * 4) = x := ⟨_, rfl⟩
    rw [N0] at x0
    obtain ⟨n1, N1⟩ : ∃ x, kk (k * 4 + 1) = x := ⟨_, rfl⟩
    rw [N1] at x1
    obtain ⟨n2, N2⟩ : ∃ x, kk (k * 4 + 2) = x := ⟨_, rfl⟩
    rw [N2] at x2
    obtain ⟨n3, N3⟩ : ∃ x, kk (k * 4 + 3) = x := ⟨_, rfl⟩
    rw [N3] at x3
    have hP2 : Hid (Plc w (.slice ao (selP l 5 2 1 nl ++ selP kk 4 3 2 k).length cp) (selP l 5 2 1 nl ++ selP kk 4 3 2 k) (wr.alloc (.cells #[.int .i64 n0, .int .i64 n1, .int .i64 n2, .int .i64 n3] 55))) := HS.out.later (below_alloc _ _)
    by_cases hp : n3 = 1
    case neg =>
     have hd : (n3 == 1) = false := beq_eq_false_iff_ne.2 hp
     have E : Hid (Plc w (.slice ao (selP l 5 2 1 nl ++ selP kk 4 3 2 k).length cp) (selP l 5 2 1 nl ++ selP kk 4 3 2 (k + 1)) (wr.alloc (.cells #[.int .i64 n0, .int .i64 n1, .int .i64 n2, .int .i64 n3] 55))) := by
      unfold Hid
      rw [selP_no (by rw [N3]; exact hp)]
      exact hP2.out
     clear N0 N1 N2 N3 hp HS hP2
     go_wp2
     go_roundw
     case rel => exact ⟨k + 1, by omega, by go_num, E⟩
     case measure => simp [intOf]; omega
    subst hp
    have HL : Hid ((selP l 5 2 1 nl ++ selP kk 4 3 2 (k + 1)) = (selP l 5 2 1 nl ++ selP kk 4 3 2 k) ++ [(n0, n2)]) := by
     unfold Hid
     rw [selP_yes (by rw [N3])]
     rw [N0, N2, List.append_assoc]
    have hnle : (selP l 5 2 1 nl ++ selP kk 4 3 2 k).length ≤ 400 := by
     rw [List.length_append]
     have q0 := selP_le l 5 2 1 nl
     have q1 := selP_le kk 4 3 2 k
     omega
    obtain ⟨PP, hPP⟩ : ∃ PP, (selP l 5 2 1 nl ++ selP kk 4 3 2 k) = PP := ⟨_, rfl⟩
    rw [hPP] at HL hP2 hnle HS
    rw [hPP]
    have hP3 : Hid (Plc w (.slice ao PP.length cp) PP ((wr.alloc (.cells #[.int .i64 n0, .int .i64 n1, .int .i64 n2, .int .i64 1] 55)).alloc (.cells #[.int .i64 n0, .int .i64 n2] 105))) := hP2.out.later (below_alloc _ _)
    have hown := hP3.out.1
    have hsz : w.heap.size ≤ wr.heap.size := HS.out.2.size
    clear N0 N1 N2 N3 HS hP2 hPP
    go_wp2_with (at_builtin; refine wpList_append_own _ rfl _ _ 139 rfl w.heap.size 105 i0 (.agg #[.int .i64 0, .int .i64 0]) 2 16 Tryz.underlying139 hi hz0 hz1 hz2 rfl (by decide) _ _ _ rfl hown ⟨_, 0, none⟩ 1 1 [.int .i64 n0, .int .i64 n2] rfl rfl ?c1 ?c2 ?c3 ?c4 ?c5 ?_)
    case c1 =>
     intro q u hq
     match q, hq with
     | 0, hq => simp at hq; subst hq; simp [Addr.add]
     | 1, hq => simp at hq; subst hq; simp [Addr.add]
    case c2 =>
     intro u hu
     simp at hu
     rcases hu with rfl | rfl <;> rfl
    case c3 => unfold maxLen; omega
    case c4 => omega
    case c5 => simp; omega
    intro v' w2 ho hg2 _
    have E2 : Hid (Plc w v' (selP l 5 2 1 nl ++ selP kk 4 3 2 (k + 1)) w2) := by
     unfold Hid
     rw [HL.out]
     exact hP3.out.step ho hg2
    clear ho hg2 hown hP3 HL
    go_wp2
    go_roundw
    case rel => exact ⟨k + 1, by omega, by go_num, E2⟩
    case measure => simp [intOf]; omega
  obtain ⟨g, o, rfl, _, hg, x0, x1, x2, x3, x4⟩ := (H1.out.later HS.out.2).at5 hlt
  obtain ⟨n0, N0⟩ : ∃ x, l (k * 5) = x := ⟨_, rfl⟩
  rw [N0] at x0
  obtain ⟨n1, N1⟩ : ∃ x, l (k * 5 + 1) = x := ⟨_, rfl⟩
  rw [N1] at x1
  obtain ⟨n2, N2⟩ : ∃ x, l (k * 5 + 2) = x := ⟨_, rfl⟩
  rw [N2] at x2
  obtain ⟨n3, N3⟩ : ∃ x, l (k * 5 + 3) = x := ⟨_, rfl⟩
  rw [N3] at x3
  obtain ⟨n4, N4⟩ : ∃ x, l (k * 5 + 4) = x := ⟨_, rfl⟩
  rw [N4] at x4
  have hP2 : Hid (Plc w (.slice ao (selP l 5 2 1 k).length cp) (selP l 5 2 1 k) (wr.alloc (.cells #[.int .i64 n0, .int .i64 n1, .int .i64 n2, .int .i64 n3, .int .i64 n4] 40))) := HS.out.later (below_alloc _ _)
  by_cases hp : n2 = 1
  case neg =>
   have hd : (n2 == 1) = false := beq_eq_false_iff_ne.2 hp
   have E : Hid (Plc w (.slice ao (selP l 5 2 1 k).length cp) (selP l 5 2 1 (k + 1)) (wr.alloc (.cells #[.int .i64 n0, .int .i64 n1, .int .i64 n2, .int .i64 n3, .int .i64 n4] 40))) := by
    unfold Hid
    rw [selP_no (by rw [N2]; exact hp)]
    exact hP2.out
   clear N0 N1 N2 N3 N4 hp HS hP2
   go_wp2
   go_roundw
   case rel => exact ⟨k + 1, by omega, by go_num, E⟩
   case measure => simp [intOf]; omega
  subst hp
  have HL : Hid ((selP l 5 2 1 (k + 1)) = (selP l 5 2 1 k) ++ [(n0, n1)]) := by
   unfold Hid
   rw [selP_yes (by rw [N2])]
   rw [N0, N1]
  have hnle : (selP l 5 2 1 k).length ≤ 400 := by
   have q1 := selP_le l 5 2 1 k
   omega
  obtain ⟨PP, hPP⟩ : ∃ PP, (selP l 5 2 1 k) = PP := ⟨_, rfl⟩
  rw [hPP] at HL hP2 hnle HS
  rw [hPP]
  have hP3 : Hid (Plc w (.slice ao PP.length cp) PP ((wr.alloc (.cells #[.int .i64 n0, .int .i64 n1, .int .i64 1, .int .i64 n3, .int .i64 n4] 40)).alloc (.cells #[.int .i64 n0, .int .i64 n1] 105))) := hP2.out.later (below_alloc _ _)
  have hown := hP3.out.1
  have hsz : w.heap.size ≤ wr.heap.size := HS.out.2.size
  clear N0 N1 N2 N3 N4 HS hP2 hPP
  go_wp2_with (at_builtin; refine wpList_append_own _ rfl _ _ 139 rfl w.heap.size 105 i0 (.agg #[.int .i64 0, .int .i64 0]) 2 16 Tryz.underlying139 hi hz0 hz1 hz2 rfl (by decide) _ _ _ rfl hown ⟨_, 0, none⟩ 1 1 [.int .i64 n0, .int .i64 n1] rfl rfl ?c1 ?c2 ?c3 ?c4 ?c5 ?_)
  case c1 =>
   intro q u hq
   match q, hq with
   | 0, hq => simp at hq; subst hq; simp [Addr.add]
   | 1, hq => simp at hq; subst hq; simp [Addr.add]
  case c2 =>
   intro u hu
   simp at hu
   rcases hu with rfl | rfl <;> rfl
  case c3 => unfold maxLen; omega
  case c4 => omega
  case c5 => simp; omega
  intro v' w2 ho hg2 _
  have E2 : Hid (Plc w v' (selP l 5 2 1 (k + 1)) w2) := by
   unfold Hid
   rw [HL.out]
   exact hP3.out.step ho hg2
  clear ho hg2 hown hP3 HL
  go_wp2
  go_roundw
  case rel => exact ⟨k + 1, by omega, by go_num, E2⟩
  case measure => simp [intOf]; omega
theorem putP_needs {S : Sto} : (∀ x y, (x, y) ∈ putP S.nl S.l S.nw S.k → hasCell S S.nc x y) ↔ needs S := by
 unfold putP needs
 constructor
 ·intro h
  exact ⟨fun i hi q => h _ _ (List.mem_append.2 (Or.inr ((selP_mem _ _ _).2 ⟨i, hi, q, rfl, rfl⟩))), fun i hi q => h _ _ (List.mem_append.2 (Or.inl ((selP_mem _ _ _).2 ⟨i, hi, q, rfl, rfl⟩)))⟩
 ·intro h x y hm
  rcases List.mem_append.1 hm with q | q
  ·obtain ⟨i, hi, q1, rfl, rfl⟩ := (selP_mem _ _ _).1 q
   exact h.2 i hi q1
  ·obtain ⟨i, hi, q1, rfl, rfl⟩ := (selP_mem _ _ _).1 q
   exact h.1 i hi q1
theorem putP_wf {nl : Nat} {l : Nat → Int} {nw : Nat} {k : Nat → Int} (z1 : ∀ i, i < nl → lockF l i = 0) (z2 : ∀ i, i < nw → writeF k i = 0) {x y : Int} (h : (x, y) ∈ putP nl l nw k) : Wf x ∧ Wf y := by
 rcases List.mem_append.1 h with q | q
 ·obtain ⟨i, hi, q1, rfl, rfl⟩ := (selP_mem _ _ _).1 q
  have e := lockF_zero (z1 i hi)
  have f := faultOf_zero e.1
  exact ⟨wf_small f.1 (by omega), wf_small (by omega) e.2.2⟩
 ·obtain ⟨i, hi, q1, rfl, rfl⟩ := (selP_mem _ _ _).1 q
  have e := writeF_zero (z2 i hi)
  have f := faultOf_zero e.1
  exact ⟨wf_small f.1 (by omega), wf_small (by omega) e.2.2.2.2.1⟩
set_option maxRecDepth 100000 in
set_option maxHeartbeats 4000000 in
theorem putsHaveCells_any (S : Sto) (B : Nat) (v0 v1 v2 : Value) (r : Bool) (w : World) (h : St w B S v0 v1 v2) (hc : S.nc ≤ 200) (hl : S.nl ≤ 200) (hk : S.nw ≤ 200) (z0 : scan (cellF S.c) S.nc = 0) (z1 : scan (lockF S.l) S.nl = 0) (z2 : scan (writeF S.k) S.nw = 0) (hr : r = true ↔ needs S) :
  Calls Tryz.prog 51 #[.agg #[v0, v1, v2]] w fun e w' => e = .returned (.bool r) ∧ Below w.heap.size w w' := by
 obtain ⟨a0, c0, a1, c1, a2, c2, rfl, rfl, rfl⟩ := h.form
 have H : Hid (St w B S (.slice a0 S.nc c0) (.slice a1 S.nl c1) (.slice a2 S.nw c2)) := h
 have HR : Hid (r = true ↔ (∀ x y, (x, y) ∈ putP S.nl S.l S.nw S.k → hasCell S S.nc x y)) := hr.trans putP_needs.symm
 have HW : Hid (∀ x y, (x, y) ∈ putP S.nl S.l S.nw S.k → Wf x ∧ Wf y) := fun x y => putP_wf (scan_zero z1) (scan_zero z2)
 have Z0 : Hid (scan (cellF S.c) S.nc = 0) := z0
 clear h hr z0 z1 z2
 go_enter Tryz.func51, Tryz.ntmps51
 go_wp2_with fail
 refine (cellsByPlace_any S _ B _ ((H.out.alloc _).1) hc Z0.out).mono ?_
 rintro e w1 ⟨rfl, HP, hb1⟩
 have hB : Below w.heap.size w w1 := (below_alloc _ _).trans (hb1.mono (by simp))
 have hB3 := (Blk3.new w (.slice a0 S.nc c0) (.slice a1 S.nl c1) (.slice a2 S.nw c2) 28).later hb1
 have y1 := hB3.1.2.1
 have y2 := hB3.1.2.2
 have hsz : (w.alloc (.cells #[.slice a0 S.nc c0, .slice a1 S.nl c1, .slice a2 S.nw c2] 28)).heap.size = w.heap.size + 1 := by simp
 rw [hsz] at HP hb1
 rw [hsz]
 have HP1 : Hid (PM w1 (w.heap.size + 1) S.nc (cellM S S.nc)) := HP
 clear HP hb1 hB3 hsz
 go_wp2_with fail
 refine (putPlaces_any S.nl S.l S.nw S.k B _ _ w1 (H.out.later hB).2.1 (H.out.later hB).2.2 hl hk).mono ?_
 rintro e w2 ⟨v, rfl, HQ⟩
 obtain ⟨ao, cp, rfl⟩ := HQ.form
 obtain ⟨P, hP⟩ : ∃ P, putP S.nl S.l S.nw S.k = P := ⟨_, rfl⟩
 have hPl : P.length ≤ 400 := by
  rw [← hP, putP, List.length_append]
  have q0 := selP_le S.l 5 2 1 S.nl
  have q1 := selP_le S.k 4 3 2 S.nw
  omega
 rw [hP] at HR HW HQ
 rw [hP]
 clear hP y1 y2
 have HB2 : Hid (Below w.heap.size w w2) := hB.trans (HQ.2.mono hB.size)
 have HM : Hid (PM w2 (w.heap.size + 1) S.nc (cellM S S.nc)) := HP1.out.later HQ.2
 have HO : Hid (Row w2 w1.heap.size 2 P.length (fun p => (flat P).getD p 0) (.slice ao P.length cp)) := HQ.row
 clear HQ hB HP1 H
 go_wp2
 go_loopw [17] (fun i wr => ∃ (k : Nat), k ≤ P.length ∧ i = .int .i64 k ∧ Hid (∀ j, (hj : j < k) → (hj2 : j < P.length) → hasCell S S.nc (P[j]'hj2).1 (P[j]'hj2).2) ∧ Hid (Below w2.heap.size w2 wr)) (fun i _ => P.length - (intOf i).toNat)
 case atStart => exact ⟨0, Nat.zero_le _, rfl, fun j hj => absurd hj (Nat.not_lt_zero j), Below.refl _ _⟩
 case round =>
  obtain ⟨k, hk', rfl, HS, HE⟩ := hrel
  have HB3 : Hid (Below w.heap.size w wr) := HB2.out.trans (HE.out.mono HB2.out.size)
  by_cases hlt : k < P.length
  case neg =>
   have E : Hid (r = true) := HR.out.2 (fun x y hm => by
    obtain ⟨j, hj, e⟩ := List.mem_iff_getElem.1 hm
    have := HS.out j (by omega) hj
    rw [e] at this
    exact this)
   clear HS
   go_wp2
   go_ret
   exact ⟨by rw [E.out]; rfl, HB3.out⟩
  obtain ⟨g, o, ha, _, hg, hx⟩ := (HO.out.later HE.out).at hlt
  subst ha
  have x0 := hx 0 (by omega)
  have x1 := hx 1 (by omega)
  have hfa := flat_at P k hlt
  obtain ⟨n0, N0⟩ : ∃ x, (P[k]'hlt).1 = x := ⟨_, rfl⟩
  obtain ⟨n1, N1⟩ : ∃ x, (P[k]'hlt).2 = x := ⟨_, rfl⟩
  simp only [Nat.add_zero] at x0
  rw [hfa.1, N0] at x0
  rw [hfa.2, N1] at x1
  have hmem : (n0, n1) ∈ P := by rw [← N0, ← N1]; exact List.getElem_mem hlt
  have hwf := HW.out n0 n1 hmem
  have hM2 := (HM.out.later HE.out).alloc (.cells #[.int .i64 n0, .int .i64 n1] 105)
  have hlk := hM2.look hwf.1 hwf.2
  have HB4 : Hid (Below w2.heap.size w2 (wr.alloc (.cells #[.int .i64 n0, .int .i64 n1] 105))) := HE.out.alloc HE.out.size _
  have HB5 : Hid (Below w.heap.size w (wr.alloc (.cells #[.int .i64 n0, .int .i64 n1] 105))) := HB3.out.alloc HB3.out.size _
  obtain ⟨u, hu⟩ : ∃ u, (cellM S S.nc n0 n1).getD 0 = u := ⟨_, rfl⟩
  rw [hu] at hlk
  have hch := cellM_has S S.nc n0 n1
  cases hs : (cellM S S.nc n0 n1).isSome with
  | true =>
   rw [hs] at hlk hch
   have E : Hid (∀ j, (hj : j < k + 1) → (hj2 : j < P.length) → hasCell S S.nc (P[j]'hj2).1 (P[j]'hj2).2) := fun j hj hj2 => by
    by_cases e : j = k
    ·subst e; rw [N0, N1]; exact hch.1 rfl
    ·exact HS.out j (by omega) hj2
   clear hs hch hu hM2 hwf hmem hfa N0 N1 hx HS HE HB3
   go_wp2
   go_roundw
   case rel => exact ⟨k + 1, by omega, by go_num, E, HB4⟩
   case measure => simp [intOf]; omega
  | false =>
   rw [hs] at hlk hch
   have E : Hid (r = false) := by
    cases r with
    | false => rfl
    | true => exact absurd (hch.2 (HR.out.1 rfl n0 n1 hmem)) Bool.false_ne_true
   clear hs hch hu hM2 hwf hmem hfa N0 N1 hx HS HE HB3
   go_wp2
   go_ret
   exact ⟨by rw [E.out]; rfl, HB5.out⟩
end

section
open Go.RowKit Go.Maps
/-- What the loops of startsDiffer stand on. -/
def StartEnv (w : World) (S : Sto) (v0 v1 v2 : Value) (k : Nat) (x : World) : Prop := Blk3 x w.heap.size v0 v1 v2 ∧ PM x (w.heap.size + 1) k (writeM S k) ∧ Below w.heap.size w x
theorem StartEnv.later {w x x' : World} {S : Sto} {v0 v1 v2 : Value} {k : Nat} (h : StartEnv w S v0 v1 v2 k x) (hb : Below x.heap.size x x') : StartEnv w S v0 v1 v2 k x' :=
 ⟨h.1.later hb, h.2.1.later hb, h.2.2.trans (hb.mono h.2.2.size)⟩
set_option maxRecDepth 100000 in
set_option maxHeartbeats 4000000 in
theorem startsDiffer_any (S : Sto) (B : Nat) (v0 v1 v2 : Value) (r : Bool) (w : World) (h : St w B S v0 v1 v2) (hl : S.nl ≤ 200) (hk : S.nw ≤ 200) (z1 : scan (lockF S.l) S.nl = 0) (z2 : scan (writeF S.k) S.nw = 0) (hr : r = true ↔ once S) :
  Calls Tryz.prog 52 #[.agg #[v0, v1, v2]] w fun e w' => e = .returned (.bool r) ∧ Below w.heap.size w w' := by
 obtain ⟨a0, c0, a1, c1, a2, c2, rfl, rfl, rfl⟩ := h.form
 have H : Hid (St w B S (.slice a0 S.nc c0) (.slice a1 S.nl c1) (.slice a2 S.nw c2)) := h
 have HR : Hid (r = true ↔ once S) := hr
 have Z1 : Hid (∀ i, i < S.nl → lockF S.l i = 0) := scan_zero z1
 have Z2 : Hid (∀ i, i < S.nw → writeF S.k i = 0) := scan_zero z2
 clear h hr z1 z2
 have hmm := run_makeMap_i64
 have HE : Hid (StartEnv w S (.slice a0 S.nc c0) (.slice a1 S.nl c1) (.slice a2 S.nw c2) 0 ((w.alloc (.cells #[.slice a0 S.nc c0, .slice a1 S.nl c1, .slice a2 S.nw c2] 28)).alloc (.map #[] 0))) := by
  have hP := PM.made (w.alloc (.cells #[.slice a0 S.nc c0, .slice a1 S.nl c1, .slice a2 S.nw c2] 28))
  rw [show (w.alloc (.cells #[.slice a0 S.nc c0, .slice a1 S.nl c1, .slice a2 S.nw c2] 28)).heap.size = w.heap.size + 1 from by simp] at hP
  exact ⟨(Blk3.new w _ _ _ _).alloc _, hP, (below_alloc _ _).alloc (by simp) _⟩
 go_enter Tryz.func52, Tryz.ntmps52
 go_wp2
 go_loopw [20] (fun i wr => ∃ k : Nat, k ≤ S.nw ∧ i = .int .i64 k ∧ Hid (∀ j, j < k → onceW S j) ∧ Hid (StartEnv w S (.slice a0 S.nc c0) (.slice a1 S.nl c1) (.slice a2 S.nw c2) k wr)) (fun i _ => S.nw - (intOf i).toNat)
 case atStart => exact ⟨0, Nat.zero_le _, rfl, fun j hj => absurd hj (Nat.not_lt_zero j), HE⟩
 case round =>
  clear HE
  obtain ⟨k, hk', rfl, HS, HE⟩ := hrel
  by_cases hlt : k < S.nw
  case neg =>
   obtain rfl : k = S.nw := by omega
   have HW : Hid (∀ i, i < S.nw → onceW S i) := HS
   have y1 := HE.out.1.1.2.1
   clear HS
   go_wp2
   clear y1 hk' hlt
   go_loopw [44] (fun i wr => ∃ k : Nat, k ≤ S.nl ∧ i = .int .i64 k ∧ Hid (∀ j, j < k → onceL S j) ∧ Hid (StartEnv w S (.slice a0 S.nc c0) (.slice a1 S.nl c1) (.slice a2 S.nw c2) S.nw wr)) (fun i _ => S.nl - (intOf i).toNat)
   case atStart => exact ⟨0, Nat.zero_le _, rfl, fun j hj => absurd hj (Nat.not_lt_zero j), HE⟩
   case round =>
    clear HE
    obtain ⟨k, hk', rfl, HS, HE⟩ := hrel
    by_cases hlt : k < S.nl
    case neg =>
     have E : Hid (r = true) := HR.out.2 ⟨HW.out, fun i hi => HS.out i (by omega)⟩
     clear HS
     go_wp2
     go_ret
     exact ⟨by rw [E.out]; rfl, HE.out.2.2⟩
    obtain ⟨g, o, rfl, _, hg, x0, x1, x2, x3, x4⟩ := (H.out.2.1.later HE.out.2.2).at5 hlt
    obtain ⟨n0, N0⟩ : ∃ x, S.l (k * 5) = x := ⟨_, rfl⟩
    rw [N0] at x0
    obtain ⟨n1, N1⟩ : ∃ x, S.l (k * 5 + 1) = x := ⟨_, rfl⟩
    rw [N1] at x1
    obtain ⟨n2, N2⟩ : ∃ x, S.l (k * 5 + 2) = x := ⟨_, rfl⟩
    rw [N2] at x2
    obtain ⟨n3, N3⟩ : ∃ x, S.l (k * 5 + 3) = x := ⟨_, rfl⟩
    rw [N3] at x3
    obtain ⟨n4, N4⟩ : ∃ x, S.l (k * 5 + 4) = x := ⟨_, rfl⟩
    rw [N4] at x4
    have ZZ := lockF_zero (Z1.out k hlt)
    rw [N0, N1] at ZZ
    have hk2 := faultOf_zero ZZ.1
    have hw0 : Wf n0 := wf_small hk2.1 (by omega)
    have hw1 : Wf n1 := wf_small (by omega) (by omega)
    have hE2 : StartEnv w S (.slice a0 S.nc c0) (.slice (some ⟨g, o, none⟩) S.nl c1) (.slice a2 S.nw c2) S.nw (wr.alloc (.cells #[.int .i64 n0, .int .i64 n1, .int .i64 n2, .int .i64 n3, .int .i64 n4] 40)) := HE.out.later (below_alloc wr _)
    have PU : Hid (onceL S k ↔ ¬ hasWrite S S.nw n0 n1) := by
     unfold Hid onceL
     rw [N0, N1]
    clear N0 N1 N2 N3 N4 ZZ hk2
    have hlk := hE2.2.1.look hw0 hw1
    obtain ⟨u, hu⟩ : ∃ u, (writeM S S.nw n0 n1).getD 0 = u := ⟨_, rfl⟩
    rw [hu] at hlk
    clear hu
    by_cases hp : onceL S k
    ·have hs : (writeM S S.nw n0 n1).isSome = false := by
      cases hq : (writeM S S.nw n0 n1).isSome with
      | false => rfl
      | true => exact absurd ((writeM_has S _ _ _).1 hq) (PU.out.1 hp)
     rw [hs] at hlk
     clear hs
     have E : Hid (∀ j, j < k + 1 → onceL S j) := all_next HS.out hp
     have HE2 : Hid (StartEnv w S (.slice a0 S.nc c0) (.slice (some ⟨g, o, none⟩) S.nl c1) (.slice a2 S.nw c2) S.nw (wr.alloc (.cells #[.int .i64 n0, .int .i64 n1, .int .i64 n2, .int .i64 n3, .int .i64 n4] 40))) := hE2
     clear hE2 HS PU hp hw0 hw1
     go_wp2
     go_roundw
     case rel => exact ⟨k + 1, by omega, by go_num, E, HE2⟩
     case measure => simp [intOf]; omega
    ·have hs : (writeM S S.nw n0 n1).isSome = true := by
      refine (writeM_has S _ _ _).2 (Classical.byContradiction fun q => hp (PU.out.2 q))
     rw [hs] at hlk
     clear hs
     have E : Hid (r = false) := by
      cases r with
      | false => rfl
      | true => exact absurd ((HR.out.1 rfl).2 k hlt) hp
     have HE2 : Hid (StartEnv w S (.slice a0 S.nc c0) (.slice (some ⟨g, o, none⟩) S.nl c1) (.slice a2 S.nw c2) S.nw (wr.alloc (.cells #[.int .i64 n0, .int .i64 n1, .int .i64 n2, .int .i64 n3, .int .i64 n4] 40))) := hE2
     clear hE2 HS PU hp hw0 hw1
     go_wp2
     go_ret
     exact ⟨by rw [E.out]; rfl, HE2.out.2.2⟩
  obtain ⟨g, o, rfl, _, hg, x0, x1, x2, x3⟩ := (H.out.2.2.later HE.out.2.2).at4 hlt
  obtain ⟨n0, N0⟩ : ∃ x, S.k (k * 4) = x := ⟨_, rfl⟩
  rw [N0] at x0
  obtain ⟨n1, N1⟩ : ∃ x, S.k (k * 4 + 1) = x := ⟨_, rfl⟩
  rw [N1] at x1
  obtain ⟨n2, N2⟩ : ∃ x, S.k (k * 4 + 2) = x := ⟨_, rfl⟩
  rw [N2] at x2
  obtain ⟨n3, N3⟩ : ∃ x, S.k (k * 4 + 3) = x := ⟨_, rfl⟩
  rw [N3] at x3
  have ZZ := writeF_zero (Z2.out k hlt)
  rw [N0, N2, N3] at ZZ
  have hk2 := faultOf_zero ZZ.1
  have hw0 : Wf n0 := wf_small hk2.1 (by omega)
  have hw1 : Wf n2 := wf_small (by omega) (by omega)
  have hw2 : Wf n3 := wf_small (by omega) (by omega)
  have hE2 : StartEnv w S (.slice a0 S.nc c0) (.slice a1 S.nl c1) (.slice (some ⟨g, o, none⟩) S.nw c2) k ((wr.alloc (.cells #[.int .i64 n0, .int .i64 n1, .int .i64 n2, .int .i64 n3] 55)).alloc (.cells #[.int .i64 n0, .int .i64 n2] 105)) := (HE.out.later (below_alloc wr _)).later (below_alloc _ _)
  have PU : Hid (onceW S k ↔ ¬ hasWrite S k n0 n2) := by
   unfold Hid onceW
   rw [N0, N2]
  have NN : Hid (S.k (k * 4) = n0 ∧ S.k (k * 4 + 2) = n2 ∧ S.k (k * 4 + 3) = n3) := ⟨N0, N2, N3⟩
  clear N0 N1 N2 N3 ZZ hk2
  have hlk := hE2.2.1.look hw0 hw1
  obtain ⟨u, hu⟩ : ∃ u, (writeM S k n0 n2).getD 0 = u := ⟨_, rfl⟩
  rw [hu] at hlk
  clear hu
  by_cases hp : onceW S k
  ·have hs : (writeM S k n0 n2).isSome = false := by
    cases hq : (writeM S k n0 n2).isSome with
    | false => rfl
    | true => exact absurd ((writeM_has S _ _ _).1 hq) (PU.out.1 hp)
   rw [hs] at hlk
   clear hs
   have E : Hid (∀ j, j < k + 1 → onceW S j) := all_next HS.out hp
   have hP := hE2.2.1
   have hB2 := hE2.2.2
   have HB3 : Hid (Blk3 ((wr.alloc (.cells #[.int .i64 n0, .int .i64 n1, .int .i64 n2, .int .i64 n3] 55)).alloc (.cells #[.int .i64 n0, .int .i64 n2] 105)) w.heap.size (.slice a0 S.nc c0) (.slice a1 S.nl c1) (.slice (some ⟨g, o, none⟩) S.nw c2)) := hE2.1
   have hsz : w.heap.size < ((wr.alloc (.cells #[.int .i64 n0, .int .i64 n1, .int .i64 n2, .int .i64 n3] 55)).alloc (.cells #[.int .i64 n0, .int .i64 n2] 105)).heap.size := hE2.1.lt
   clear hE2 HS PU hp
   go_wp2_with (first | (at_mapUpdate; refine wpList_put _ rfl _ _ _ rfl (w.heap.size + 1) k _ rfl hP (small_maxLen (Nat.le_trans hk' hk)) n0 n2 n3 rfl rfl hw0 hw1 hw2 ?_; intro w4 hP4 hg4) | go_in)
   go_roundw
   case rel => exact ⟨k + 1, by omega, by go_num, E, ⟨HB3.out.kept (hg4.block _ hsz (by simp)), by rw [← NN.out.1, ← NN.out.2.1, ← NN.out.2.2] at hP4; exact hP4, below_grown hB2 (Nat.le_of_lt hsz) (Nat.le_succ _) hg4⟩⟩
   case measure => simp [intOf]; omega
  ·have hs : (writeM S k n0 n2).isSome = true := by
    refine (writeM_has S _ _ _).2 (Classical.byContradiction fun q => hp (PU.out.2 q))
   rw [hs] at hlk
   clear hs
   have E : Hid (r = false) := by
    cases r with
    | false => rfl
    | true => exact absurd ((HR.out.1 rfl).1 k hlt) hp
   have HE2 : Hid (StartEnv w S (.slice a0 S.nc c0) (.slice a1 S.nl c1) (.slice (some ⟨g, o, none⟩) S.nw c2) k ((wr.alloc (.cells #[.int .i64 n0, .int .i64 n1, .int .i64 n2, .int .i64 n3] 55)).alloc (.cells #[.int .i64 n0, .int .i64 n2] 105))) := hE2
   clear hE2 HS PU hp hw0 hw1 hw2
   go_wp2
   go_ret
   exact ⟨by rw [E.out]; rfl, HE2.out.2.2⟩
end
end Go.Proofs.YtiadbiiiikhfaaaGreatDoor

namespace Go.Proofs.YtiadbiiiikhfaaaGreatDoor
open Go.RowKit

theorem cellsFault_is (S : Sto) (v : Value) (B : Nat) (r : Int) (hr : scan (cellF S.c) S.nc = r) (w : World) (h : Row w B 3 S.nc S.c v) (hn : S.nc ≤ 200) :
  Calls Tryz.prog 48 #[v] w fun e w' => e = .returned (.int .i64 r) ∧ Below w.heap.size w w' :=
 (cellsFault_any S v B w h hn).mono fun e w' ⟨he, hw⟩ => ⟨by rw [he, hr], hw⟩
theorem locksFault_is (S : Sto) (v : Value) (B : Nat) (r : Int) (hr : scan (lockF S.l) S.nl = r) (w : World) (h : Row w B 5 S.nl S.l v) (hn : S.nl ≤ 200) :
  Calls Tryz.prog 49 #[v] w fun e w' => e = .returned (.int .i64 r) ∧ Below w.heap.size w w' :=
 (locksFault_any S v B w h hn).mono fun e w' ⟨he, hw⟩ => ⟨by rw [he, hr], hw⟩
theorem writesFault_is (S : Sto) (v : Value) (B : Nat) (r : Int) (hr : scan (writeF S.k) S.nw = r) (w : World) (h : Row w B 4 S.nw S.k v) (hn : S.nw ≤ 200) :
  Calls Tryz.prog 50 #[v] w fun e w' => e = .returned (.int .i64 r) ∧ Below w.heap.size w w' :=
 (writesFault_any S v B w h hn).mono fun e w' ⟨he, hw⟩ => ⟨by rw [he, hr], hw⟩
/-- What StoreFault stands on: its own copy of the store. -/
def BoxEnv (w : World) (B : Nat) (S : Sto) (v0 v1 v2 : Value) (x : World) : Prop := Blk3 x w.heap.size v0 v1 v2 ∧ St x B S v0 v1 v2 ∧ Below w.heap.size w x
theorem BoxEnv.later {w x x' : World} {B : Nat} {S : Sto} {v0 v1 v2 : Value} (h : BoxEnv w B S v0 v1 v2 x) (hb : Below x.heap.size x x') : BoxEnv w B S v0 v1 v2 x' :=
 ⟨h.1.later hb, h.2.1.later hb, h.2.2.trans (hb.mono h.2.2.size)⟩
set_option maxRecDepth 10000 in
set_option maxHeartbeats 4000000 in
theorem implFault_any (S : Sto) (v0 v1 v2 : Value) (B : Nat) (w : World) (h : St w B S v0 v1 v2) :
  Calls Tryz.prog 12 #[.agg #[v0, v1, v2]] w fun e w' => e = .returned (.int .i64 (storeF S)) ∧ Below w.heap.size w w' := by
 obtain ⟨a0, c0, a1, c1, a2, c2, rfl, rfl, rfl⟩ := h.form
 have HE : Hid (BoxEnv w B S (.slice a0 S.nc c0) (.slice a1 S.nl c1) (.slice a2 S.nw c2) (w.alloc (.cells #[.slice a0 S.nc c0, .slice a1 S.nl c1, .slice a2 S.nw c2] 28))) := ⟨Blk3.new w _ _ _ _, h.alloc _, below_alloc _ _⟩
 clear h
 by_cases m0 : 200 < S.nc
 ·have E : Hid (storeF S = 2) := by unfold Hid storeF; rw [if_pos (Or.inl m0)]
  go_enter Tryz.func12, Tryz.ntmps12
  go_wp2_with fail
  go_wp2
  go_ret
  exact ⟨by rw [E.out]; rfl, HE.out.2.2⟩
 have m0' : decide ((200 : Int) < (S.nc : Int)) = false := decide_eq_false (by omega)
 by_cases m1 : 200 < S.nl
 ·have E : Hid (storeF S = 2) := by unfold Hid storeF; rw [if_pos (Or.inr (Or.inl m1))]
  clear m0
  go_enter Tryz.func12, Tryz.ntmps12
  go_wp2_with fail
  go_wp2
  go_ret
  exact ⟨by rw [E.out]; rfl, HE.out.2.2⟩
 have m1' : decide ((200 : Int) < (S.nl : Int)) = false := decide_eq_false (by omega)
 by_cases m2 : 200 < S.nw
 ·have E : Hid (storeF S = 2) := by unfold Hid storeF; rw [if_pos (Or.inr (Or.inr m2))]
  clear m0 m1
  go_enter Tryz.func12, Tryz.ntmps12
  go_wp2_with fail
  go_wp2
  go_ret
  exact ⟨by rw [E.out]; rfl, HE.out.2.2⟩
 have m2' : decide ((200 : Int) < (S.nw : Int)) = false := decide_eq_false (by omega)
 have HM : Hid (¬ (200 < S.nc ∨ 200 < S.nl ∨ 200 < S.nw)) := by unfold Hid; omega
 have hc : Hid (S.nc ≤ 200 ∧ S.nl ≤ 200 ∧ S.nw ≤ 200) := ⟨by omega, by omega, by omega⟩
 clear m0 m1 m2
 by_cases z0 : scan (cellF S.c) S.nc = 0
 case neg =>
  obtain ⟨f, hf⟩ : ∃ f, scan (cellF S.c) S.nc = f := ⟨_, rfl⟩
  have E : Hid (storeF S = f) := by unfold Hid storeF; rw [if_neg HM.out, if_pos z0]; exact hf
  have hfn : (f == 0) = false := beq_eq_false_iff_ne.2 (by rw [← hf]; exact z0)
  have F0 : Hid (scan (cellF S.c) S.nc = f) := hf
  clear hf z0
  go_enter Tryz.func12, Tryz.ntmps12
  go_wp2_with fail
  refine (cellsFault_is S _ B f F0.out _ HE.out.2.1.1 hc.out.1).mono ?_
  rintro e w1 ⟨rfl, q1⟩
  have HE : Hid (BoxEnv w B S (.slice a0 S.nc c0) (.slice a1 S.nl c1) (.slice a2 S.nw c2) w1) := HE.out.later q1
  have p0 := HE.out.1.1.1
  have p1 := HE.out.1.1.2.1
  have p2 := HE.out.1.1.2.2
  clear q1
  go_wp2_with fail
  go_wp2
  go_ret
  exact ⟨by rw [E.out]; rfl, HE.out.2.2⟩
 have F0 : Hid (scan (cellF S.c) S.nc = 0) := z0
 have G0 : Hid (¬ scan (cellF S.c) S.nc ≠ 0) := fun h => h z0
 clear z0
 by_cases z0 : scan (lockF S.l) S.nl = 0
 case neg =>
  obtain ⟨f, hf⟩ : ∃ f, scan (lockF S.l) S.nl = f := ⟨_, rfl⟩
  have E : Hid (storeF S = f) := by unfold Hid storeF; rw [if_neg HM.out, if_neg G0.out, if_pos z0]; exact hf
  have hfn : (f == 0) = false := beq_eq_false_iff_ne.2 (by rw [← hf]; exact z0)
  have F1 : Hid (scan (lockF S.l) S.nl = f) := hf
  clear hf z0
  go_enter Tryz.func12, Tryz.ntmps12
  go_wp2_with fail
  refine (cellsFault_is S _ B 0 F0.out _ HE.out.2.1.1 hc.out.1).mono ?_
  rintro e w1 ⟨rfl, q1⟩
  have HE : Hid (BoxEnv w B S (.slice a0 S.nc c0) (.slice a1 S.nl c1) (.slice a2 S.nw c2) w1) := HE.out.later q1
  have p0 := HE.out.1.1.1
  have p1 := HE.out.1.1.2.1
  have p2 := HE.out.1.1.2.2
  clear q1
  go_wp2_with fail
  refine (locksFault_is S _ B f F1.out _ HE.out.2.1.2.1 hc.out.2.1).mono ?_
  rintro e w1 ⟨rfl, q1⟩
  have HE : Hid (BoxEnv w B S (.slice a0 S.nc c0) (.slice a1 S.nl c1) (.slice a2 S.nw c2) w1) := HE.out.later q1
  have p0 := HE.out.1.1.1
  have p1 := HE.out.1.1.2.1
  have p2 := HE.out.1.1.2.2
  clear q1
  go_wp2_with fail
  go_wp2
  go_ret
  exact ⟨by rw [E.out]; rfl, HE.out.2.2⟩
 have F1 : Hid (scan (lockF S.l) S.nl = 0) := z0
 have G1 : Hid (¬ scan (lockF S.l) S.nl ≠ 0) := fun h => h z0
 clear z0
 by_cases z0 : scan (writeF S.k) S.nw = 0
 case neg =>
  obtain ⟨f, hf⟩ : ∃ f, scan (writeF S.k) S.nw = f := ⟨_, rfl⟩
  have E : Hid (storeF S = f) := by unfold Hid storeF; rw [if_neg HM.out, if_neg G0.out, if_neg G1.out, if_pos z0]; exact hf
  have hfn : (f == 0) = false := beq_eq_false_iff_ne.2 (by rw [← hf]; exact z0)
  have F2 : Hid (scan (writeF S.k) S.nw = f) := hf
  clear hf z0
  go_enter Tryz.func12, Tryz.ntmps12
  go_wp2_with fail
  refine (cellsFault_is S _ B 0 F0.out _ HE.out.2.1.1 hc.out.1).mono ?_
  rintro e w1 ⟨rfl, q1⟩
  have HE : Hid (BoxEnv w B S (.slice a0 S.nc c0) (.slice a1 S.nl c1) (.slice a2 S.nw c2) w1) := HE.out.later q1
  have p0 := HE.out.1.1.1
  have p1 := HE.out.1.1.2.1
  have p2 := HE.out.1.1.2.2
  clear q1
  go_wp2_with fail
  refine (locksFault_is S _ B 0 F1.out _ HE.out.2.1.2.1 hc.out.2.1).mono ?_
  rintro e w1 ⟨rfl, q1⟩
  have HE : Hid (BoxEnv w B S (.slice a0 S.nc c0) (.slice a1 S.nl c1) (.slice a2 S.nw c2) w1) := HE.out.later q1
  have p0 := HE.out.1.1.1
  have p1 := HE.out.1.1.2.1
  have p2 := HE.out.1.1.2.2
  clear q1
  go_wp2_with fail
  refine (writesFault_is S _ B f F2.out _ HE.out.2.1.2.2 hc.out.2.2).mono ?_
  rintro e w1 ⟨rfl, q1⟩
  have HE : Hid (BoxEnv w B S (.slice a0 S.nc c0) (.slice a1 S.nl c1) (.slice a2 S.nw c2) w1) := HE.out.later q1
  have p0 := HE.out.1.1.1
  have p1 := HE.out.1.1.2.1
  have p2 := HE.out.1.1.2.2
  clear q1
  go_wp2_with fail
  go_wp2
  go_ret
  exact ⟨by rw [E.out]; rfl, HE.out.2.2⟩
 have F2 : Hid (scan (writeF S.k) S.nw = 0) := z0
 have G2 : Hid (¬ scan (writeF S.k) S.nw ≠ 0) := fun h => h z0
 clear z0
 by_cases y0 : needs S
 case neg =>
  have E : Hid (storeF S = 4) := by unfold Hid storeF; rw [if_neg HM.out, if_neg G0.out, if_neg G1.out, if_neg G2.out, if_pos y0]
  have Y : Hid (false = true ↔ needs S) := ⟨fun h => absurd h (by decide), fun h => absurd h y0⟩
  clear y0
  go_enter Tryz.func12, Tryz.ntmps12
  go_wp2_with fail
  refine (cellsFault_is S _ B 0 F0.out _ HE.out.2.1.1 hc.out.1).mono ?_
  rintro e w1 ⟨rfl, q1⟩
  have HE : Hid (BoxEnv w B S (.slice a0 S.nc c0) (.slice a1 S.nl c1) (.slice a2 S.nw c2) w1) := HE.out.later q1
  have p0 := HE.out.1.1.1
  have p1 := HE.out.1.1.2.1
  have p2 := HE.out.1.1.2.2
  clear q1
  go_wp2_with fail
  refine (locksFault_is S _ B 0 F1.out _ HE.out.2.1.2.1 hc.out.2.1).mono ?_
  rintro e w1 ⟨rfl, q1⟩
  have HE : Hid (BoxEnv w B S (.slice a0 S.nc c0) (.slice a1 S.nl c1) (.slice a2 S.nw c2) w1) := HE.out.later q1
  have p0 := HE.out.1.1.1
  have p1 := HE.out.1.1.2.1
  have p2 := HE.out.1.1.2.2
  clear q1
  go_wp2_with fail
  refine (writesFault_is S _ B 0 F2.out _ HE.out.2.1.2.2 hc.out.2.2).mono ?_
  rintro e w1 ⟨rfl, q1⟩
  have HE : Hid (BoxEnv w B S (.slice a0 S.nc c0) (.slice a1 S.nl c1) (.slice a2 S.nw c2) w1) := HE.out.later q1
  have p0 := HE.out.1.1.1
  have p1 := HE.out.1.1.2.1
  have p2 := HE.out.1.1.2.2
  clear q1
  go_wp2_with fail
  refine (putsHaveCells_any S B _ _ _ false _ HE.out.2.1 hc.out.1 hc.out.2.1 hc.out.2.2 F0.out F1.out F2.out Y.out).mono ?_
  rintro e w1 ⟨rfl, q1⟩
  have HE : Hid (BoxEnv w B S (.slice a0 S.nc c0) (.slice a1 S.nl c1) (.slice a2 S.nw c2) w1) := HE.out.later q1
  have p0 := HE.out.1.1.1
  have p1 := HE.out.1.1.2.1
  have p2 := HE.out.1.1.2.2
  clear q1
  go_wp2_with fail
  go_wp2
  go_ret
  exact ⟨by rw [E.out]; rfl, HE.out.2.2⟩
 have Y : Hid (needs S) := y0
 have G3 : Hid (¬ ¬ needs S) := fun h => h y0
 clear y0
 by_cases y0 : once S
 case neg =>
  have E : Hid (storeF S = 6) := by unfold Hid storeF; rw [if_neg HM.out, if_neg G0.out, if_neg G1.out, if_neg G2.out, if_neg G3.out, if_pos y0]
  have Z : Hid (false = true ↔ once S) := ⟨fun h => absurd h (by decide), fun h => absurd h y0⟩
  clear y0
  go_enter Tryz.func12, Tryz.ntmps12
  go_wp2_with fail
  refine (cellsFault_is S _ B 0 F0.out _ HE.out.2.1.1 hc.out.1).mono ?_
  rintro e w1 ⟨rfl, q1⟩
  have HE : Hid (BoxEnv w B S (.slice a0 S.nc c0) (.slice a1 S.nl c1) (.slice a2 S.nw c2) w1) := HE.out.later q1
  have p0 := HE.out.1.1.1
  have p1 := HE.out.1.1.2.1
  have p2 := HE.out.1.1.2.2
  clear q1
  go_wp2_with fail
  refine (locksFault_is S _ B 0 F1.out _ HE.out.2.1.2.1 hc.out.2.1).mono ?_
  rintro e w1 ⟨rfl, q1⟩
  have HE : Hid (BoxEnv w B S (.slice a0 S.nc c0) (.slice a1 S.nl c1) (.slice a2 S.nw c2) w1) := HE.out.later q1
  have p0 := HE.out.1.1.1
  have p1 := HE.out.1.1.2.1
  have p2 := HE.out.1.1.2.2
  clear q1
  go_wp2_with fail
  refine (writesFault_is S _ B 0 F2.out _ HE.out.2.1.2.2 hc.out.2.2).mono ?_
  rintro e w1 ⟨rfl, q1⟩
  have HE : Hid (BoxEnv w B S (.slice a0 S.nc c0) (.slice a1 S.nl c1) (.slice a2 S.nw c2) w1) := HE.out.later q1
  have p0 := HE.out.1.1.1
  have p1 := HE.out.1.1.2.1
  have p2 := HE.out.1.1.2.2
  clear q1
  go_wp2_with fail
  refine (putsHaveCells_any S B _ _ _ true _ HE.out.2.1 hc.out.1 hc.out.2.1 hc.out.2.2 F0.out F1.out F2.out ⟨fun _ => Y.out, fun _ => rfl⟩).mono ?_
  rintro e w1 ⟨rfl, q1⟩
  have HE : Hid (BoxEnv w B S (.slice a0 S.nc c0) (.slice a1 S.nl c1) (.slice a2 S.nw c2) w1) := HE.out.later q1
  have p0 := HE.out.1.1.1
  have p1 := HE.out.1.1.2.1
  have p2 := HE.out.1.1.2.2
  clear q1
  go_wp2_with fail
  refine (startsDiffer_any S B _ _ _ false _ HE.out.2.1 hc.out.2.1 hc.out.2.2 F1.out F2.out Z.out).mono ?_
  rintro e w1 ⟨rfl, q1⟩
  have HE : Hid (BoxEnv w B S (.slice a0 S.nc c0) (.slice a1 S.nl c1) (.slice a2 S.nw c2) w1) := HE.out.later q1
  have p0 := HE.out.1.1.1
  have p1 := HE.out.1.1.2.1
  have p2 := HE.out.1.1.2.2
  clear q1
  go_wp2_with fail
  go_wp2
  go_ret
  exact ⟨by rw [E.out]; rfl, HE.out.2.2⟩
 have E : Hid (storeF S = 0) := by unfold Hid storeF; rw [if_neg HM.out, if_neg G0.out, if_neg G1.out, if_neg G2.out, if_neg G3.out, if_neg (fun h => h y0)]
 have Z : Hid (once S) := y0
 clear y0
 go_enter Tryz.func12, Tryz.ntmps12
 go_wp2_with fail
 refine (cellsFault_is S _ B 0 F0.out _ HE.out.2.1.1 hc.out.1).mono ?_
 rintro e w1 ⟨rfl, q1⟩
 have HE : Hid (BoxEnv w B S (.slice a0 S.nc c0) (.slice a1 S.nl c1) (.slice a2 S.nw c2) w1) := HE.out.later q1
 have p0 := HE.out.1.1.1
 have p1 := HE.out.1.1.2.1
 have p2 := HE.out.1.1.2.2
 clear q1
 go_wp2_with fail
 refine (locksFault_is S _ B 0 F1.out _ HE.out.2.1.2.1 hc.out.2.1).mono ?_
 rintro e w1 ⟨rfl, q1⟩
 have HE : Hid (BoxEnv w B S (.slice a0 S.nc c0) (.slice a1 S.nl c1) (.slice a2 S.nw c2) w1) := HE.out.later q1
 have p0 := HE.out.1.1.1
 have p1 := HE.out.1.1.2.1
 have p2 := HE.out.1.1.2.2
 clear q1
 go_wp2_with fail
 refine (writesFault_is S _ B 0 F2.out _ HE.out.2.1.2.2 hc.out.2.2).mono ?_
 rintro e w1 ⟨rfl, q1⟩
 have HE : Hid (BoxEnv w B S (.slice a0 S.nc c0) (.slice a1 S.nl c1) (.slice a2 S.nw c2) w1) := HE.out.later q1
 have p0 := HE.out.1.1.1
 have p1 := HE.out.1.1.2.1
 have p2 := HE.out.1.1.2.2
 clear q1
 go_wp2_with fail
 refine (putsHaveCells_any S B _ _ _ true _ HE.out.2.1 hc.out.1 hc.out.2.1 hc.out.2.2 F0.out F1.out F2.out ⟨fun _ => Y.out, fun _ => rfl⟩).mono ?_
 rintro e w1 ⟨rfl, q1⟩
 have HE : Hid (BoxEnv w B S (.slice a0 S.nc c0) (.slice a1 S.nl c1) (.slice a2 S.nw c2) w1) := HE.out.later q1
 have p0 := HE.out.1.1.1
 have p1 := HE.out.1.1.2.1
 have p2 := HE.out.1.1.2.2
 clear q1
 go_wp2_with fail
 refine (startsDiffer_any S B _ _ _ true _ HE.out.2.1 hc.out.2.1 hc.out.2.2 F1.out F2.out ⟨fun _ => Z.out, fun _ => rfl⟩).mono ?_
 rintro e w1 ⟨rfl, q1⟩
 have HE : Hid (BoxEnv w B S (.slice a0 S.nc c0) (.slice a1 S.nl c1) (.slice a2 S.nw c2) w1) := HE.out.later q1
 have p0 := HE.out.1.1.1
 have p1 := HE.out.1.1.2.1
 have p2 := HE.out.1.1.2.2
 clear q1
 go_wp2_with fail
 go_wp2
 go_ret
 exact ⟨by rw [E.out]; rfl, HE.out.2.2⟩
end Go.Proofs.YtiadbiiiikhfaaaGreatDoor

namespace Go.Proofs.YtiadbiiiikhfaaaGreatDoor
open Go.RowKit

theorem ask_bad {S : Sto} {key : Int} (h : storeF S ≠ 0) : askF S key = storeF S := by unfold askF; rw [if_pos h]
theorem ask_key {S : Sto} {key : Int} (h : storeF S = 0) : askF S key = faultOf key := by unfold askF; rw [if_neg (fun q => q h)]
set_option maxRecDepth 10000 in
theorem askFault_any (S : Sto) (v0 v1 v2 : Value) (key : Int) (B : Nat) (w : World) (h : St w B S v0 v1 v2) :
  Calls Tryz.prog 31 #[.agg #[v0, v1, v2], .int .i64 key] w fun e w' => e = .returned (.int .i64 (askF S key)) ∧ Below w.heap.size w w' := by
 obtain ⟨a0, c0, a1, c1, a2, c2, rfl, rfl, rfl⟩ := h.form
 have H : Hid (St w B S (.slice a0 S.nc c0) (.slice a1 S.nl c1) (.slice a2 S.nw c2)) := h
 clear h
 by_cases hz : storeF S = 0
 ·have E : Hid (askF S key = faultOf key) := ask_key hz
  have Z : Hid (storeF S = 0) := hz
  clear hz
  obtain ⟨f, hf⟩ : ∃ f, Hid (faultOf key = f) := ⟨_, rfl⟩
  go_enter Tryz.func31, Tryz.ntmps31
  go_wp2_with fail
  refine (implFault_any S _ _ _ B _ (H.out.alloc _)).mono ?_
  rw [Z.out]
  rintro e w1 ⟨rfl, q1⟩
  have Q : Hid (Below w.heap.size w w1) := (below_alloc _ _).trans (q1.mono (by simp))
  clear q1
  go_wp2_with fail
  refine (keyFault_any key _).mono ?_
  rw [hf.out]
  rintro e w2 ⟨rfl, rfl⟩
  go_wp2
  go_ret
  exact ⟨by rw [E.out, hf.out]; rfl, Q.out⟩
 ·have E : Hid (askF S key = storeF S) := ask_bad hz
  obtain ⟨f, hf⟩ : ∃ f, storeF S = f := ⟨_, rfl⟩
  have HF : Hid (storeF S = f) := hf
  have hfn : (f == 0) = false := beq_eq_false_iff_ne.2 (by rw [← hf]; exact hz)
  clear hz hf
  go_enter Tryz.func31, Tryz.ntmps31
  go_wp2_with fail
  refine (implFault_any S _ _ _ B _ (H.out.alloc _)).mono ?_
  rw [HF.out]
  rintro e w1 ⟨rfl, q1⟩
  have Q : Hid (Below w.heap.size w w1) := (below_alloc _ _).trans (q1.mono (by simp))
  clear q1
  go_wp2
  go_ret
  exact ⟨by rw [E.out, HF.out]; rfl, Q.out⟩
set_option maxRecDepth 10000 in
theorem asked_any (S : Sto) (b : Nat) (v0 v1 v2 : Value) (key : Int) (w : World) (h : Lies w b S v0 v1 v2) :
  Calls Tryz.prog 40 #[.pointer (some ⟨b, 0, none⟩), .int .i64 key] w fun e w' => e = .returned (.int .i64 (askF S key)) ∧ Below w.heap.size w w' := by
 have H : Hid (Lies w b S v0 v1 v2) := h
 clear h
 by_cases hz : storeF S = 0
 ·have E : Hid (askF S key = faultOf key) := ask_key hz
  have Z : Hid (storeF S = 0) := hz
  clear hz
  obtain ⟨f, hf⟩ : ∃ f, Hid (faultOf key = f) := ⟨_, rfl⟩
  go_enter Tryz.func40, Tryz.ntmps40
  go_wp2_with fail
  refine (l2Fault_any S b _ _ _ _ H.out).mono ?_
  rw [Z.out]
  rintro e w1 ⟨rfl, q1⟩
  have Q : Hid (Below w.heap.size w w1) := q1
  clear q1
  go_wp2_with fail
  refine (l1Fault_any key _).mono ?_
  rw [hf.out]
  rintro e w2 ⟨rfl, rfl⟩
  go_wp2
  go_ret
  exact ⟨by rw [E.out, hf.out]; rfl, Q.out⟩
 ·have E : Hid (askF S key = storeF S) := ask_bad hz
  obtain ⟨f, hf⟩ : ∃ f, storeF S = f := ⟨_, rfl⟩
  have HF : Hid (storeF S = f) := hf
  have hfn : (f == 0) = false := beq_eq_false_iff_ne.2 (by rw [← hf]; exact hz)
  clear hz hf
  go_enter Tryz.func40, Tryz.ntmps40
  go_wp2_with fail
  refine (l2Fault_any S b _ _ _ _ H.out).mono ?_
  rw [HF.out]
  rintro e w1 ⟨rfl, q1⟩
  have Q : Hid (Below w.heap.size w w1) := q1
  clear q1
  go_wp2
  go_ret
  exact ⟨by rw [E.out, HF.out]; rfl, Q.out⟩
/-- What a function over a store stands on: its own copy of the store, and its result. -/
def CallEnv (w : World) (B : Nat) (S : Sto) (v0 v1 v2 r0 r1 : Value) (x : World) : Prop := Blk3 x w.heap.size v0 v1 v2 ∧ Blk2 x (w.heap.size + 1) r0 r1 ∧ St x B S v0 v1 v2 ∧ Below w.heap.size w x
theorem CallEnv.later {w x x' : World} {B : Nat} {S : Sto} {v0 v1 v2 r0 r1 : Value} (h : CallEnv w B S v0 v1 v2 r0 r1 x) (hb : Below x.heap.size x x') : CallEnv w B S v0 v1 v2 r0 r1 x' :=
 ⟨h.1.later hb, h.2.1.later hb, h.2.2.1.later hb, h.2.2.2.trans (hb.mono h.2.2.2.size)⟩
theorem CallEnv.new {w : World} {B : Nat} {S : Sto} {v0 v1 v2 : Value} (h : St w B S v0 v1 v2) (r0 r1 : Value) (t t' : TypeId) : CallEnv w B S v0 v1 v2 r0 r1 ((w.alloc (.cells #[v0, v1, v2] t)).alloc (.cells #[r0, r1] t')) := by
 refine ⟨(Blk3.new w _ _ _ _).alloc _, ?_, (h.alloc _).alloc _, (below_alloc _ _).alloc (by simp) _⟩
 have := Blk2.new (w.alloc (.cells #[v0, v1, v2] t)) r0 r1 t'
 rwa [World.size_alloc] at this
end Go.Proofs.YtiadbiiiikhfaaaGreatDoor

namespace Go.Proofs.YtiadbiiiikhfaaaGreatDoor
open Go.RowKit

def lockIs (l : Nat → Int) (a : Int) (i : Nat) : Prop := l (i * 5) = a
set_option maxRecDepth 10000 in
set_option maxHeartbeats 2000000 in
theorem l2Lock_anyO (S : Sto) (b oo : Nat) (v0 v1 v2 : Value) (a : Int) (w : World) (h : LiesO w b oo S v0 v1 v2) (hn : S.nl ≤ 200) :
  Calls Tryz.prog 87 #[.pointer (some ⟨b, oo, none⟩), .int .i64 a] w fun e w' => ∃ r : Int, e = .returned (.int .i64 r) ∧ FirstAt (lockIs S.l a) S.nl r ∧ w' = w := by
 obtain ⟨a0, c0, a1, c1, a2, c2, rfl, rfl, rfl⟩ := h.2.form
 have H : Hid (LiesO w b oo S (.slice a0 S.nc c0) (.slice a1 S.nl c1) (.slice a2 S.nw c2)) := h
 have p0 := h.1.2.1
 have hb := h.lt
 clear h
 go_enter Tryz.func87, Tryz.ntmps87
 go_wp2
 go_loop [5] (fun i => ∃ k : Nat, k ≤ S.nl ∧ i = .int .i64 k ∧ Hid (∀ j, j < k → ¬ lockIs S.l a j)) (fun i => S.nl - (intOf i).toNat)
 case atStart => exact ⟨0, Nat.zero_le _, rfl, fun j hj => absurd hj (Nat.not_lt_zero j)⟩
 case round =>
  obtain ⟨k, hk, rfl, HS⟩ := hrel
  by_cases hlt : k < S.nl
  case neg =>
   obtain rfl : k = S.nl := by omega
   go_wp2
   go_ret
   exact ⟨_, rfl, Or.inl ⟨rfl, HS.out⟩, rfl⟩
  obtain ⟨g, o, rfl, _, hg, x0, x1, x2, x3, x4⟩ := H.out.2.2.1.at5 hlt
  obtain ⟨n0, N0⟩ : ∃ x, S.l (k * 5) = x := ⟨_, rfl⟩
  rw [N0] at x0
  by_cases h0 : n0 = a
  ·have E : Hid (lockIs S.l a k) := N0.trans h0
   clear N0
   subst h0
   go_wp2
   go_ret
   exact ⟨_, rfl, Or.inr ⟨k, hlt, rfl, E.out, HS.out⟩, rfl⟩
  ·have E : Hid (∀ j, j < k + 1 → ¬ lockIs S.l a j) := all_next HS.out (fun q => h0 (N0.symm.trans q))
   have d0 : (n0 == a) = false := beq_eq_false_iff_ne.2 h0
   clear N0 HS h0
   go_wp2
   go_round
   case rel => exact ⟨k + 1, by omega, by go_num, E⟩
   case measure => simp [intOf]; omega
theorem l2Lock_isO (S : Sto) (b oo : Nat) (v0 v1 v2 : Value) (a r : Int) (w : World) (h : LiesO w b oo S v0 v1 v2) (hn : S.nl ≤ 200) (hr : FirstAt (lockIs S.l a) S.nl r) :
  Calls Tryz.prog 87 #[.pointer (some ⟨b, oo, none⟩), .int .i64 a] w fun e w' => e = .returned (.int .i64 r) ∧ w' = w :=
 (l2Lock_anyO S b oo v0 v1 v2 a w h hn).mono fun e w' ⟨r', he, hr', hw⟩ => ⟨by rw [he, hr.one hr'], hw⟩
theorem l2Lock_is (S : Sto) (b : Nat) (v0 v1 v2 : Value) (a r : Int) (w : World) (h : Lies w b S v0 v1 v2) (hn : S.nl ≤ 200) (hr : FirstAt (lockIs S.l a) S.nl r) :
  Calls Tryz.prog 87 #[.pointer (some ⟨b, 0, none⟩), .int .i64 a] w fun e w' => e = .returned (.int .i64 r) ∧ w' = w := l2Lock_isO S b 0 v0 v1 v2 a r w h hn hr
/-- A block of five cells, all zero, none frozen. -/
def Zero5 (x : World) (b : Nat) : Prop := (x.cell? ⟨b, 0, none⟩ = some (.int .i64 0) ∧ x.cell? ⟨b, 1, none⟩ = some (.int .i64 0) ∧ x.cell? ⟨b, 2, none⟩ = some (.int .i64 0) ∧ x.cell? ⟨b, 3, none⟩ = some (.int .i64 0) ∧ x.cell? ⟨b, 4, none⟩ = some (.int .i64 0)) ∧ x.frozen? ⟨b, 0, none⟩ = false ∧ x.frozen? ⟨b, 1, none⟩ = false ∧ x.frozen? ⟨b, 2, none⟩ = false ∧ x.frozen? ⟨b, 3, none⟩ = false ∧ x.frozen? ⟨b, 4, none⟩ = false
theorem Zero5.later {x x' : World} {b : Nat} (h : Zero5 x b) (hb : Below x.heap.size x x') : Zero5 x' b := by
 have hl : b < x.heap.size := World.block_lt_of_cell? x _ h.1.1
 obtain ⟨⟨h0, h1, h2, h3, h4⟩, f0, f1, f2, f3, f4⟩ := h
 exact ⟨⟨(hb.cell (p := ⟨b, 0, none⟩) hl).trans h0, (hb.cell (p := ⟨b, 1, none⟩) hl).trans h1, (hb.cell (p := ⟨b, 2, none⟩) hl).trans h2, (hb.cell (p := ⟨b, 3, none⟩) hl).trans h3, (hb.cell (p := ⟨b, 4, none⟩) hl).trans h4⟩,
  (hb.frozen (p := ⟨b, 0, none⟩) hl).trans f0, (hb.frozen (p := ⟨b, 1, none⟩) hl).trans f1, (hb.frozen (p := ⟨b, 2, none⟩) hl).trans f2, (hb.frozen (p := ⟨b, 3, none⟩) hl).trans f3, (hb.frozen (p := ⟨b, 4, none⟩) hl).trans f4⟩
theorem Zero5.new (w : World) (t : TypeId) : Zero5 (w.alloc (.cells #[.int .i64 0, .int .i64 0, .int .i64 0, .int .i64 0, .int .i64 0] t)) w.heap.size := by
 refine ⟨⟨World.cell?_alloc_mark w _ _ _ 0, World.cell?_alloc_mark w _ _ _ 1, World.cell?_alloc_mark w _ _ _ 2, World.cell?_alloc_mark w _ _ _ 3, World.cell?_alloc_mark w _ _ _ 4⟩, ?_, ?_, ?_, ?_, ?_⟩ <;> simp
/-- What lockOf tells: the first lock of a key, or none. -/
def LockTold (nl : Nat) (l : Nat → Int) (key : Int) (v : Value) : Prop :=
 (∃ i, i < nl ∧ lockIs l key i ∧ (∀ j, j < i → ¬ lockIs l key j) ∧ v = .tuple #[.agg #[.int .i64 (l (i * 5)), .int .i64 (l (i * 5 + 1)), .int .i64 (l (i * 5 + 2)), .int .i64 (l (i * 5 + 3)), .int .i64 (l (i * 5 + 4))], .bool true]) ∨
 ((∀ i, i < nl → ¬ lockIs l key i) ∧ v = .tuple #[.agg #[.int .i64 0, .int .i64 0, .int .i64 0, .int .i64 0, .int .i64 0], .bool false])
set_option maxRecDepth 100000 in
set_option maxHeartbeats 2000000 in
theorem lockOf_anyO (B b oo N : Nat) (m : Int → Int → Option Int) (nl : Nat) (l : Nat → Int) (nw : Nat) (k : Nat → Int) (g : Nat) (u1 u2 : Value) (key : Int) (w : World) (h : ColsO w B b oo N m nl l nw k g u1 u2) (hn : nl ≤ 200) :
  Calls Tryz.prog 46 #[.pointer (some ⟨b, oo, none⟩), .int .i64 key] w fun e w' => ∃ v, e = .returned v ∧ LockTold nl l key v ∧ Below w.heap.size w w' := by
 obtain ⟨a1, c1, rfl⟩ := h.2.2.2.2.1.form
 have H : Hid (Row w B 5 nl l (.slice a1 nl c1)) := h.2.2.2.2.1.row.1
 have p1 := h.2.2.1.1.2.1
 have hb := h.2.2.1.lt
 clear h
 go_enter Tryz.func46, Tryz.ntmps46
 go_wp2
 clear p1
 go_loopw [13] (fun i wr => ∃ q : Nat, q ≤ nl ∧ i = .int .i64 q ∧ Hid (∀ j, j < q → ¬ lockIs l key j) ∧ Hid (Below w.heap.size w wr ∧ Zero5 wr w.heap.size)) (fun i _ => nl - (intOf i).toNat)
 case atStart => exact ⟨0, Nat.zero_le _, rfl, fun j hj => absurd hj (Nat.not_lt_zero j), below_alloc _ _, Zero5.new w _⟩
 case round =>
  obtain ⟨q, hq, rfl, HS, HB⟩ := hrel
  by_cases hlt : q < nl
  case neg =>
   obtain rfl : q = nl := by omega
   obtain ⟨⟨t0, t1, t2, t3, t4⟩, f0, f1, f2, f3, f4⟩ := HB.out.2
   go_wp2
   refine bodyPost_ret (v := .tuple #[.agg #[.int .i64 0, .int .i64 0, .int .i64 0, .int .i64 0, .int .i64 0], .bool false]) (by simp [results, Tryz.results46, go_sem, t0, t1, t2, t3, t4]) rfl ⟨_, rfl, Or.inr ⟨HS.out, rfl⟩, ?_⟩
   exact ((((HB.out.1.setCell (Nat.le_refl _) _).setCell (Nat.le_refl _) _).setCell (Nat.le_refl _) _).setCell (Nat.le_refl _) _).setCell (Nat.le_refl _) _
  obtain ⟨g', o, rfl, _, hg, x0, x1, x2, x3, x4⟩ := (H.out.later HB.out.1).at5 hlt
  obtain ⟨n0, N0⟩ : ∃ x, l (q * 5) = x := ⟨_, rfl⟩
  rw [N0] at x0
  obtain ⟨n1, N1⟩ : ∃ x, l (q * 5 + 1) = x := ⟨_, rfl⟩
  rw [N1] at x1
  obtain ⟨n2, N2⟩ : ∃ x, l (q * 5 + 2) = x := ⟨_, rfl⟩
  rw [N2] at x2
  obtain ⟨n3, N3⟩ : ∃ x, l (q * 5 + 3) = x := ⟨_, rfl⟩
  rw [N3] at x3
  obtain ⟨n4, N4⟩ : ∃ x, l (q * 5 + 4) = x := ⟨_, rfl⟩
  rw [N4] at x4
  have hZ := HB.out.2.later (below_alloc wr (.cells #[.int .i64 n0, .int .i64 n1, .int .i64 n2, .int .i64 n3, .int .i64 n4] 40))
  have hB2 := HB.out.1.alloc HB.out.1.size (.cells #[.int .i64 n0, .int .i64 n1, .int .i64 n2, .int .i64 n3, .int .i64 n4] 40)
  have NN : Hid (l (q * 5) = n0 ∧ l (q * 5 + 1) = n1 ∧ l (q * 5 + 2) = n2 ∧ l (q * 5 + 3) = n3 ∧ l (q * 5 + 4) = n4) := ⟨N0, N1, N2, N3, N4⟩
  by_cases h0 : n0 = key
  ·have E : Hid (lockIs l key q) := N0.trans h0
   have hne : ¬ wr.heap.size = w.heap.size := fun e => by have := World.block_lt_of_cell? wr _ HB.out.2.1.1; simp at this; omega
   obtain ⟨⟨t0, t1, t2, t3, t4⟩, f0, f1, f2, f3, f4⟩ := hZ
   clear N0 N1 N2 N3 N4 HB
   subst h0
   go_wp2
   refine bodyPost_ret (v := .tuple #[.agg #[.int .i64 n0, .int .i64 n1, .int .i64 n2, .int .i64 n3, .int .i64 n4], .bool true]) (by simp [results, Tryz.results46, go_sem, t0, t1, t2, t3, t4]) rfl ⟨_, rfl, Or.inl ⟨q, hlt, E.out, HS.out, by rw [NN.out.1, NN.out.2.1, NN.out.2.2.1, NN.out.2.2.2.1, NN.out.2.2.2.2]⟩, ?_⟩
   exact ((((hB2.setCell (Nat.le_refl _) _).setCell (Nat.le_refl _) _).setCell (Nat.le_refl _) _).setCell (Nat.le_refl _) _).setCell (Nat.le_refl _) _
  ·have E : Hid (∀ j, j < q + 1 → ¬ lockIs l key j) := all_next HS.out (fun e => h0 (N0.symm.trans e))
   have HE : Hid (Below w.heap.size w (wr.alloc (.cells #[.int .i64 n0, .int .i64 n1, .int .i64 n2, .int .i64 n3, .int .i64 n4] 40)) ∧ Zero5 (wr.alloc (.cells #[.int .i64 n0, .int .i64 n1, .int .i64 n2, .int .i64 n3, .int .i64 n4] 40)) w.heap.size) := ⟨hB2, hZ⟩
   have d0 : (n0 == key) = false := beq_eq_false_iff_ne.2 h0
   clear N0 N1 N2 N3 N4 NN HS h0 hZ hB2 HB
   go_wp2
   go_roundw
   case rel => exact ⟨q + 1, by omega, by go_num, E, HE⟩
   case measure => simp [intOf]; omega
theorem lockOf_any (B b N : Nat) (m : Int → Int → Option Int) (nl : Nat) (l : Nat → Int) (nw : Nat) (k : Nat → Int) (g : Nat) (u1 u2 : Value) (key : Int) (w : World) (h : Cols w B b N m nl l nw k g u1 u2) (hn : nl ≤ 200) :
  Calls Tryz.prog 46 #[.pointer (some ⟨b, 0, none⟩), .int .i64 key] w fun e w' => ∃ v, e = .returned v ∧ LockTold nl l key v ∧ Below w.heap.size w w' := lockOf_anyO B b 0 N m nl l nw k g u1 u2 key w h hn
end Go.Proofs.YtiadbiiiikhfaaaGreatDoor

namespace Go.Proofs.YtiadbiiiikhfaaaGreatDoor
open Go.RowKit

def allQ : Nat → List (List Bool)
 | 0 => [[]]
 | n + 1 => (allQ n).flatMap fun A => [false :: A, true :: A]
theorem mem_allQ : ∀ (n : Nat) (A : List Bool), A.length = n → A ∈ allQ n
 | 0, [], _ => by simp [allQ]
 | 0, _ :: _, h => by simp at h
 | _ + 1, [], h => by simp at h
 | n + 1, x :: A, h => by
  have h1 := mem_allQ n A (by simpa using h)
  simp only [allQ, List.mem_flatMap]
  exact ⟨A, h1, by cases x <;> simp⟩
/-- Which operations are done: the literals of A, the first k calls, the one more. -/
def mkQ (n : Nat) (oL oC : Nat → Nat) (oE : Nat) (l0 : Array Bool) (A : List Bool) (e : Bool) (k : Nat) : Array Bool :=
 (fun x : Array Bool => if e then x.setIfInBounds oE true else x) <|
 (List.range n).foldl (fun l i => (fun l2 : Array Bool => if i < k then l2.setIfInBounds (oC i) true else l2) (if A.getD i false then l.setIfInBounds (oL i) true else l)) l0
def leftQ (e : Bool) : Nat := if e then 0 else 1
def remQ (n : Nat) (A : List Bool) (e : Bool) (k : Nat) : Nat := A.countP (fun x => !x) + (n - k) + leftQ e
def isQ (n : Nat) (oL : Nat → Nat) (A : List Bool) (j : Nat) : Bool := (List.range n).any fun i => oL i == j && A.getD i true == false
def chkQ1 (md : Region.Mode) (ops : Array Oper) (n : Nat) (oL oC : Nat → Nat) (oE : Nat) (l0 : Array Bool) (A : List Bool) (e : Bool) (k : Nat) : Bool :=
 !((List.range k).all fun i => A.getD i false) ||
 (if k == n then A == List.replicate n true
  else (!(Region.ready md ops (mkQ n oL oC oE l0 A e k)).isEmpty) &&
  ((Region.ready md ops (mkQ n oL oC oE l0 A e k)).all fun j => isQ n oL A j || (oE == j && !e) || (oC k == j && A.getD k false)) &&
  ((List.range n).all fun i => A.getD i true || ((mkQ n oL oC oE l0 A e k).setIfInBounds (oL i) true == mkQ n oL oC oE l0 (A.set i true) e k && remQ n (A.set i true) e k + 1 == remQ n A e k)) &&
  (e || ((mkQ n oL oC oE l0 A e k).setIfInBounds oE true == mkQ n oL oC oE l0 A true k)) &&
  (!A.getD k false || ((mkQ n oL oC oE l0 A e k).setIfInBounds (oC k) true == mkQ n oL oC oE l0 A e (k + 1) && remQ n A e (k + 1) + 1 == remQ n A e k)))
def chkQ (md : Region.Mode) (ops : Array Oper) (n : Nat) (oL oC : Nat → Nat) (oE : Nat) (l0 : Array Bool) : Bool :=
 (allQ n).all fun A => (List.range (n + 1)).all fun k => chkQ1 md ops n oL oC oE l0 A false k && chkQ1 md ops n oL oC oE l0 A true k
theorem chkQ_at {md : Region.Mode} {ops : Array Oper} {n : Nat} {oL oC : Nat → Nat} {oE : Nat} {l0 : Array Bool} (h : chkQ md ops n oL oC oE l0 = true) {A : List Bool} {e : Bool} {k : Nat} (hA : A.length = n) (hk : k ≤ n) : chkQ1 md ops n oL oC oE l0 A e k = true := by
 have := List.all_eq_true.1 (List.all_eq_true.1 h A (mem_allQ _ _ hA)) k (List.mem_range.2 (by omega))
 rw [Bool.and_eq_true] at this
 cases e
 ·exact this.1
 ·exact this.2
/-- An operation that hands on what stands. -/
def OpQ (ops : Array Oper) (Q : Exit → Act → World → Prop) (j : Nat) (a : Act) (x : World) (R : Act → World → Prop) : Prop :=
 ∃ o, ops[j]? = some o ∧ o.guard = none ∧ ∀ K : Act → World → Prop, (∀ a' x', R a' x' → K a' x') → Oper.wp Tryz.prog o a x K Q
theorem wpAnyH_concs {ops : Array Oper} {Q : Exit → Act → World → Prop} {md : Region.Mode} {S : World → Prop} (n : Nat) (oL oC : Nat → Nat) (oE : Nat) (l0 : Array Bool) (f : Nat) (Z : List Bool → Bool → Nat → Act → World → Prop)
  (hchk : chkQ md ops n oL oC oE l0 = true) (hlen : ∀ A e k a x, Z A e k a x → A.length = n ∧ k ≤ n ∧ ∀ i, i < k → A.getD i false = true) (hS : ∀ A e k a x, Z A e k a x → S x)
  (hlit : ∀ A e k a x i, Z A e k a x → i < n → A.getD i true = false → OpQ ops Q (oL i) a x (Z (A.set i true) e k))
  (hcall : ∀ A e k a x, Z A e k a x → k < n → A.getD k false = true → OpQ ops Q (oC k) a x (Z A e (k + 1)))
  (hone : ∀ A k a x, Z A false k a x → OpQ ops Q oE a x (Z A true k))
  (hend : ∀ e a x, Z (List.replicate n true) e n a x → wpAnyH Tryz.prog md ops Q S (leftQ e + f) (mkQ n oL oC oE l0 (List.replicate n true) e n) a x) :
  ∀ (c : Nat) (A : List Bool) (e : Bool) (k : Nat) (a : Act) (x : World), remQ n A e k = c → Z A e k a x → wpAnyH Tryz.prog md ops Q S (c + f) (mkQ n oL oC oE l0 A e k) a x := by
 have fin : ∀ (c : Nat) (A : List Bool) (e : Bool) (a : Act) (x : World), remQ n A e n = c → Z A e n a x → wpAnyH Tryz.prog md ops Q S (c + f) (mkQ n oL oC oE l0 A e n) a x := by
  intro c A e a x hr h
  obtain ⟨h1, h2, h3⟩ := hlen _ _ _ _ _ h
  have hc := chkQ_at (e := e) hchk h1 h2
  have hgo : ((List.range n).all fun i => A.getD i false) = true := List.all_eq_true.2 fun i hi => h3 i (List.mem_range.1 hi)
  unfold chkQ1 at hc
  rw [hgo, if_pos (beq_self_eq_true _)] at hc
  simp only [Bool.not_true, Bool.false_or, beq_iff_eq] at hc
  have hn : c = leftQ e := by
   rw [← hr, hc]
   unfold remQ
   rw [List.countP_replicate]
   simp
  rw [hn]
  rw [hc] at h ⊢
  exact hend e a x h
 intro c
 induction c with
 | zero =>
  intro A e k a x hr h
  have h1 := (hlen _ _ _ _ _ h).2.1
  obtain rfl : k = n := by unfold remQ at hr; omega
  exact fin 0 A e a x hr h
 | succ c ih =>
  intro A e k a x hr h
  by_cases hk : k = n
  ·subst hk
   exact fin (c + 1) A e a x hr h
  obtain ⟨q1, q2, q3⟩ := hlen _ _ _ _ _ h
  have h1 := chkQ_at (e := e) hchk q1 q2
  have hgo : ((List.range k).all fun i => A.getD i false) = true := List.all_eq_true.2 fun i hi => q3 i (List.mem_range.1 hi)
  unfold chkQ1 at h1
  rw [hgo, if_neg (by simp [hk])] at h1
  simp only [Bool.not_true, Bool.false_or, Bool.and_eq_true] at h1
  obtain ⟨⟨⟨⟨hne, hall⟩, hl⟩, he1⟩, hcl⟩ := h1
  rw [show c + 1 + f = (c + f) + 1 by omega]
  refine ⟨fun h0 => by rw [h0] at hne; simp at hne, fun j hj => ?_⟩
  have hj' := List.all_eq_true.1 hall j hj
  rw [Bool.or_eq_true, Bool.or_eq_true] at hj'
  rcases hj' with (hj' | hj') | hj'
  ·obtain ⟨i, hi, hij⟩ := List.any_eq_true.1 hj'
   rw [Bool.and_eq_true, beq_iff_eq, beq_iff_eq] at hij
   obtain ⟨hij, hAi⟩ := hij
   have hin : i < n := List.mem_range.1 hi
   subst hij
   have hcl' := List.all_eq_true.1 hl i hi
   rw [hAi] at hcl'
   simp only [Bool.false_or, Bool.and_eq_true, beq_iff_eq] at hcl'
   obtain ⟨o', ho, hg, hwp⟩ := hlit A e k a x i h hin hAi
   refine wpOp_step ho (fun K' hK => ?_)
   rw [if_pos (by simp [Region.wanted, hg])]
   refine hwp K' (fun a' x' h' => hK _ _ ⟨hS _ _ _ _ _ h', ?_⟩)
   rw [hcl'.1]
   exact ih _ _ _ _ _ (by have := hcl'.2; omega) h'
  ·rw [Bool.and_eq_true, beq_iff_eq] at hj'
   obtain ⟨rfl, he⟩ := hj'
   obtain rfl : e = false := by simpa using he
   simp only [Bool.false_or, beq_iff_eq] at he1
   obtain ⟨o', ho, hg, hwp⟩ := hone A k a x h
   refine wpOp_step ho (fun K' hK => ?_)
   rw [if_pos (by simp [Region.wanted, hg])]
   refine hwp K' (fun a' x' h' => hK _ _ ⟨hS _ _ _ _ _ h', ?_⟩)
   rw [he1]
   refine ih _ _ _ _ _ ?_ h'
   unfold remQ leftQ at hr ⊢
   simp only [Bool.false_eq_true, if_false, if_true] at hr ⊢
   omega
  ·rw [Bool.and_eq_true, beq_iff_eq] at hj'
   obtain ⟨hij, hAk⟩ := hj'
   subst hij
   rw [hAk] at hcl
   simp only [Bool.not_true, Bool.false_or, Bool.and_eq_true, beq_iff_eq] at hcl
   obtain ⟨o', ho, hg, hwp⟩ := hcall A e k a x h (by omega) hAk
   refine wpOp_step ho (fun K' hK => ?_)
   rw [if_pos (by simp [Region.wanted, hg])]
   refine hwp K' (fun a' x' h' => hK _ _ ⟨hS _ _ _ _ _ h', ?_⟩)
   rw [hcl.1]
   exact ih _ _ _ _ _ (by have := hcl.2; omega) h'
theorem actQ_ext {a b : Act} (hs : a.tmps.size = b.tmps.size) (hd : a.defers = b.defers) (he : ∀ t, a.eval (.tmp t) = b.eval (.tmp t)) : a = b := by
 obtain ⟨ta, da⟩ := a
 obtain ⟨tb, db⟩ := b
 simp only at hs hd
 subst hd
 have : ta = tb := by
  apply Array.ext hs
  intro i h1 h2
  have := he i
  simpa [Act.eval, Array.getD, h1, h2] using this
 rw [this]
theorem sizeQ_put (a : Act) (d : Option Tmp) (v : Value) : (a.put d v).tmps.size = a.tmps.size := by cases d <;> simp [Act.put]
theorem defersQ_put (a : Act) (d : Option Tmp) (v : Value) : (a.put d v).defers = a.defers := by cases d <;> rfl
/-- Slots laid one behind the other. -/
def putsQ : List (Nat × Value) → Act → Act
 | [], a => a
 | (t, v) :: l, a => putsQ l (a.put (some t) v)
/-- A frame that differs in these slots alone is the frame in which they are laid. -/
theorem putsQ_is : ∀ (l : List Nat) (a a' : Act), (∀ t ∈ l, t < a.tmps.size) → l.Nodup → a'.tmps.size = a.tmps.size → a'.defers = a.defers → (∀ t, t ∉ l → a'.eval (.tmp t) = a.eval (.tmp t)) → a' = putsQ (l.map fun t => (t, a'.eval (.tmp t))) a
 | [], a, a', _, _, hs, hd, he => actQ_ext hs hd (fun t => he t (by simp))
 | t :: l, a, a', hl, hn, hs, hd, he => by
  have hn' := List.nodup_cons.1 hn
  show a' = putsQ (l.map fun t => (t, a'.eval (.tmp t))) (a.put (some t) (a'.eval (.tmp t)))
  refine putsQ_is l _ a' (fun u hu => by rw [sizeQ_put]; exact hl u (List.mem_cons_of_mem _ hu)) hn'.2 (by rw [sizeQ_put]; exact hs) (by rw [defersQ_put]; exact hd) (fun u hu => ?_)
  by_cases e : u = t
  ·subst e
   rw [Act.eval_put_same _ _ _ (hl u List.mem_cons_self)]
  ·rw [Act.eval_put_ne _ _ _ _ (Ne.symm e)]
   exact he u (fun q => by rcases List.mem_cons.1 q with q | q; exact e q; exact hu q)
end Go.Proofs.YtiadbiiiikhfaaaGreatDoor

