/-
  Own text, merged of ColsN, ColsR, ColsU, StorP, ColsG, ColsK, DelB, StorA.
-/
import Derived.Test.YtjkchhcnochjlaaGreatDoorPk2
namespace Go.Proofs.YtjkchhcnochjlaaGreatDoor
open Go.RowKit

theorem below_dn {B : Nat} {a w : World} (h : Below B a w) (q : Nat) : Below B a (w.drewN q) := ⟨h.os, h.tape, h.output, h.size, h.block⟩
theorem orOf_neg (a b c d : Int) : orOf (cmpOf a b) (cmpOf c d) < 0 ↔ a < b ∨ a = b ∧ c < d := by
  unfold orOf cmpOf
  repeat' split
  all_goals omega
theorem wrap_pred (k : Nat) (h : 0 < k) (h2 : k ≤ 200) : IntKind.i64.wrap ((k : Int) - 1) = ((k - 1 : Nat) : Int) := by
  have e : (k : Int) - 1 = ((k - 1 : Nat) : Int) := by omega
  rw [e]
  simp [IntKind.wrap, IntKind.bits, IntKind.signed]
  omega
theorem cmpOf_neg (a b : Int) : cmpOf a b < 0 ↔ a < b := by
  unfold cmpOf
  repeat' split
  all_goals omega
/-- The element ahead and the one that is asked, and that nothing old has turned. -/
def PrevCell (w : World) (g o k N : Nat) (m0 m1 m2 n0 n1 n2 : Int) (x : World) : Prop := (x.cell? ⟨g, o + (k - 1) * 3, none⟩ = some (.int .i64 m0) ∧ x.cell? ⟨g, o + (k - 1) * 3 + 1, none⟩ = some (.int .i64 m1) ∧ x.cell? ⟨g, o + (k - 1) * 3 + 2, none⟩ = some (.int .i64 m2) ∧ x.cell? ⟨N, 0, none⟩ = some (.int .i64 n0) ∧ x.cell? ⟨N, 1, none⟩ = some (.int .i64 n1) ∧ x.cell? ⟨N, 2, none⟩ = some (.int .i64 n2)) ∧ Below w.heap.size w x
theorem PrevCell.later {w x x' : World} {g o k N : Nat} {m0 m1 m2 n0 n1 n2 : Int} (h : PrevCell w g o k N m0 m1 m2 n0 n1 n2 x) (hb : Below x.heap.size x x') : PrevCell w g o k N m0 m1 m2 n0 n1 n2 x' := by
  obtain ⟨⟨hx0, hx1, hx2, hx3, hx4, hx5⟩, hy⟩ := h
  exact ⟨⟨(hb.cell (World.block_lt_of_cell? x _ hx0)).trans hx0, (hb.cell (World.block_lt_of_cell? x _ hx1)).trans hx1, (hb.cell (World.block_lt_of_cell? x _ hx2)).trans hx2, (hb.cell (World.block_lt_of_cell? x _ hx3)).trans hx3, (hb.cell (World.block_lt_of_cell? x _ hx4)).trans hx4, (hb.cell (World.block_lt_of_cell? x _ hx5)).trans hx5⟩, hy.trans (hb.mono hy.size)⟩
set_option maxRecDepth 100000 in
set_option maxHeartbeats 4000000 in
theorem cellsFault_any (S : Sto) (v : Value) (B : Nat) (w : World) (h : Row w B 3 S.nc S.c v) (hn : S.nc ≤ 200) :
    Calls Tryz.prog 124 #[v] w fun e w' => e = .returned (.int .i64 (scan (cellF S.c) S.nc)) ∧ Below w.heap.size w w' := by
  obtain ⟨ao, cp, rfl⟩ := h.form
  have H : Hid (Row w B 3 S.nc S.c (.slice ao S.nc cp)) := h
  clear h
  go_enter Tryz.func124, Tryz.ntmps124
  go_wp2
  go_loopw [8] (fun i wr => ∃ k : Nat, k ≤ S.nc ∧ i = .int .i64 k ∧ Hid (scan (cellF S.c) k = 0) ∧ Below w.heap.size w wr) (fun i _ => S.nc - (intOf i).toNat)
  case atStart => exact ⟨0, Nat.zero_le _, rfl, rfl, Below.refl _ _⟩
  case round =>
    obtain ⟨k, hk, rfl, HS, hbw⟩ := hrel
    by_cases hlt : k < S.nc
    case neg =>
      have en : k = S.nc := by omega
      have E : Hid (scan (cellF S.c) S.nc = 0) := en ▸ HS.out
      clear HS
      go_wp2
      go_ret
      exact ⟨by rw [E.out]; rfl, hbw⟩
    obtain ⟨g, o, rfl, _, hg, x0, x1, x2⟩ := (H.out.later hbw).at3 hlt
    obtain ⟨n0, N0⟩ : ∃ x, S.c (k * 3) = x := ⟨_, rfl⟩
    rw [N0] at x0
    obtain ⟨n1, N1⟩ : ∃ x, S.c (k * 3 + 1) = x := ⟨_, rfl⟩
    rw [N1] at x1
    obtain ⟨n2, N2⟩ : ∃ x, S.c (k * 3 + 2) = x := ⟨_, rfl⟩
    rw [N2] at x2
    have NN : Hid (S.c (k * 3) = n0 ∧ S.c (k * 3 + 1) = n1 ∧ S.c (k * 3 + 2) = n2) := ⟨N0, N1, N2⟩
    clear N0 N1 N2
    by_cases h0 : faultOf n0 = 0
    case neg =>
      obtain ⟨f, hff⟩ : ∃ f, faultOf n0 = f := ⟨_, rfl⟩
      have L0 : Hid (∀ w, Calls Tryz.prog 159 #[.int .i64 n0] w fun e w' => e = .returned (.int .i64 f) ∧ w' = w) := fun w => hff ▸ keyFault_any n0 w
      have E : Hid (scan (cellF S.c) S.nc = f) := by
        have : cellF S.c k = f := by
          unfold cellF
          rw [NN.out.1, NN.out.2.1, NN.out.2.2]
          rw [if_pos h0]; exact hff
        exact (scan_stop HS.out (by rw [this, ← hff]; exact h0) hlt).trans this
      have hfn : (f == 0) = false := beq_eq_false_iff_ne.2 (by rw [← hff]; exact h0)
      clear hff h0 HS NN
      go_wp2_with fail
      refine (L0.out _).mono ?_
      rintro e w1 ⟨rfl, rfl⟩
      go_wp2
      go_ret
      exact ⟨by rw [E.out]; rfl, by first | exact hbw.alloc hbw.size _ | exact below_dn (hbw.alloc hbw.size _) _ | exact below_dn (below_dn (hbw.alloc hbw.size _) _) _⟩
    have L0 : Hid (∀ w, Calls Tryz.prog 159 #[.int .i64 n0] w fun e w' => e = .returned (.int .i64 0) ∧ w' = w) := fun w => h0 ▸ keyFault_any n0 w
    have G0 : Hid (faultOf n0 = 0) := h0
    clear h0
    by_cases h1 : 1 ≤ n1 ∧ n1 ≤ 100000
    case neg =>
      have L1 : Hid (decide (1 ≤ n1 ∧ n1 ≤ 100000) = false) := decide_eq_false h1
      have E : Hid (scan (cellF S.c) S.nc = 3) := by
        have : cellF S.c k = 3 := by
          unfold cellF
          rw [NN.out.1, NN.out.2.1, NN.out.2.2]
          rw [if_neg (fun h => h G0.out)]
          rw [if_pos (by omega)]
        exact (scan_stop HS.out (by rw [this]; decide) hlt).trans this
      clear h1 HS NN G0
      go_wp2_with fail
      refine (L0.out _).mono ?_
      rintro e w1 ⟨rfl, rfl⟩
      go_wp2_with fail
      refine (isTime_is _ false L1.out _).mono ?_
      rintro e w1 ⟨rfl, rfl⟩
      go_wp2
      go_ret
      exact ⟨by rw [E.out]; rfl, by first | exact hbw.alloc hbw.size _ | exact below_dn (hbw.alloc hbw.size _) _ | exact below_dn (below_dn (hbw.alloc hbw.size _) _) _⟩
    have L1 : Hid (decide (1 ≤ n1 ∧ n1 ≤ 100000) = true) := decide_eq_true h1
    have G1 : Hid (1 ≤ n1 ∧ n1 ≤ 100000) := h1
    clear h1
    by_cases h2 : 0 ≤ n2 ∧ n2 ≤ 9999
    case neg =>
      have L2 : Hid (decide (0 ≤ n2 ∧ n2 ≤ 9999) = false) := decide_eq_false h2
      have E : Hid (scan (cellF S.c) S.nc = 3) := by
        have : cellF S.c k = 3 := by
          unfold cellF
          rw [NN.out.1, NN.out.2.1, NN.out.2.2]
          rw [if_neg (fun h => h G0.out)]
          rw [if_pos (by omega)]
        exact (scan_stop HS.out (by rw [this]; decide) hlt).trans this
      clear h2 HS NN G0 G1
      go_wp2_with fail
      refine (L0.out _).mono ?_
      rintro e w1 ⟨rfl, rfl⟩
      go_wp2_with fail
      refine (isTime_is _ true L1.out _).mono ?_
      rintro e w1 ⟨rfl, rfl⟩
      go_wp2_with fail
      refine (isValue_is _ false L2.out _).mono ?_
      rintro e w1 ⟨rfl, rfl⟩
      go_wp2
      go_ret
      exact ⟨by rw [E.out]; rfl, by first | exact hbw.alloc hbw.size _ | exact below_dn (hbw.alloc hbw.size _) _ | exact below_dn (below_dn (hbw.alloc hbw.size _) _) _⟩
    have L2 : Hid (decide (0 ≤ n2 ∧ n2 ≤ 9999) = true) := decide_eq_true h2
    have G2 : Hid (0 ≤ n2 ∧ n2 ≤ 9999) := h2
    clear h2
    rcases Nat.eq_zero_or_pos k with hk0 | hk0
    · have E : Hid (scan (cellF S.c) (k + 1) = 0) := by
        have : cellF S.c k = 0 := by
          unfold cellF
          rw [NN.out.1, NN.out.2.1, NN.out.2.2]
          rw [if_neg (fun h => h G0.out)]
          have g1 := G1.out; have g2 := G2.out; rw [if_neg (by omega)]
          rw [if_neg (by omega)]
        exact scan_go HS.out this
      have dk : decide (0 < k) = false := decide_eq_false (by omega)
      clear HS NN G0 G1 G2 hk0
      go_wp2_with fail
      refine (L0.out _).mono ?_
      rintro e w1 ⟨rfl, rfl⟩
      go_wp2_with fail
      refine (isTime_is _ true L1.out _).mono ?_
      rintro e w1 ⟨rfl, rfl⟩
      go_wp2_with fail
      refine (isValue_is _ true L2.out _).mono ?_
      rintro e w1 ⟨rfl, rfl⟩
      go_wp2_with fail
      go_quiet (fail)
      go_wp2
      go_roundw
      case rel => exact ⟨k + 1, by omega, by go_num, E, by first | exact hbw.alloc hbw.size _ | exact below_dn (hbw.alloc hbw.size _) _ | exact below_dn (below_dn (hbw.alloc hbw.size _) _) _⟩
      case measure => simp [intOf]; omega
    obtain ⟨g', o', he, _, _, y0, y1, y2⟩ := (H.out.later hbw).at3 (k := k - 1) (by omega)
    simp only [Option.some.injEq, Addr.mk.injEq, and_true] at he
    obtain ⟨rfl, rfl⟩ := he
    obtain ⟨m0, M0⟩ : ∃ x, S.c ((k - 1) * 3) = x := ⟨_, rfl⟩
    rw [M0] at y0
    obtain ⟨m1, M1⟩ : ∃ x, S.c ((k - 1) * 3 + 1) = x := ⟨_, rfl⟩
    rw [M1] at y1
    obtain ⟨m2, M2⟩ : ∃ x, S.c ((k - 1) * 3 + 2) = x := ⟨_, rfl⟩
    rw [M2] at y2
    have MM : Hid (S.c ((k - 1) * 3) = m0 ∧ S.c ((k - 1) * 3 + 1) = m1) := ⟨M0, M1⟩
    clear M0 M1 M2
    have dk : decide (0 < k) = true := decide_eq_true hk0
    have hwr := wrap_pred k hk0 (by omega)
    have hkn : ((k - 1 : Nat) : Int) < (S.nc : Int) := by omega
    obtain ⟨r, HR⟩ : ∃ r, Hid (orOf (cmpOf m0 n0) (cmpOf m1 n1) = r) := ⟨_, rfl⟩
    have HO : Hid (r < 0 ↔ m0 < n0 ∨ m0 = n0 ∧ m1 < n1) := by unfold Hid; rw [← HR.out]; exact orOf_neg _ _ _ _
    have h0 : PrevCell w g o k wr.heap.size m0 m1 m2 n0 n1 n2 (wr.alloc (.cells #[.int .i64 n0, .int .i64 n1, .int .i64 n2] 212)).drew := ⟨⟨(World.cell?_alloc_lt _ _ _ hg).trans y0, (World.cell?_alloc_lt _ _ _ hg).trans y1, (World.cell?_alloc_lt _ _ _ hg).trans y2, World.cell?_alloc_mark wr _ _ _ 0, World.cell?_alloc_mark wr _ _ _ 1, World.cell?_alloc_mark wr _ _ _ 2⟩, (hbw.alloc hbw.size _).drew⟩
    by_cases hr : 0 ≤ r
    · have E : Hid (scan (cellF S.c) S.nc = 1) := by
        have : cellF S.c k = 1 := by
          unfold cellF
          rw [NN.out.1, NN.out.2.1, NN.out.2.2]
          rw [if_neg (fun h => h G0.out)]
          have g1 := G1.out; have g2 := G2.out; rw [if_neg (by omega)]
          rw [MM.out.1, MM.out.2]
          have ho := HO.out
          rw [if_pos (by omega)]
        exact (scan_stop HS.out (by rw [this]; decide) hlt).trans this
      have dr : decide (0 ≤ r) = true := decide_eq_true hr
      clear HS NN G0 G1 G2 MM HO hr
      go_wp2_with fail
      refine (L0.out _).mono ?_
      rintro e w1 ⟨rfl, rfl⟩
      go_wp2_with fail
      refine (isTime_is _ true L1.out _).mono ?_
      rintro e w1 ⟨rfl, rfl⟩
      go_wp2_with fail
      refine (isValue_is _ true L2.out _).mono ?_
      rintro e w1 ⟨rfl, rfl⟩
      go_wp2_with fail
      refine wp_region_held_drew (S := PrevCell w g o k wr.heap.size m0 m1 m2 n0 n1 n2) (by kernel_rfl) h0 (fun hS => ?_)
      clear h0
      refine tkH 0 ?_ hS (fun wx hx => ?_) ?_; rotate_left
      · obtain ⟨⟨hx0, hx1, hx2, hx3, hx4, hx5⟩, _⟩ := hx; go_simp; try with_reducible rfl
      refine tkH 1 ?_ hS (fun wx hx => ?_) ?_; rotate_left
      · obtain ⟨⟨hx0, hx1, hx2, hx3, hx4, hx5⟩, _⟩ := hx; go_simp; try with_reducible rfl
      refine tkH 2 ?_ hS (fun wx hx => ?_) ?_; rotate_left
      · obtain ⟨⟨hx0, hx1, hx2, hx3, hx4, hx5⟩, _⟩ := hx; go_simp; try with_reducible rfl
      refine tkH 3 ?_ hS (fun wx hx => ?_) ?_; rotate_left
      · obtain ⟨⟨hx0, hx1, hx2, hx3, hx4, hx5⟩, _⟩ := hx; go_simp; try with_reducible rfl
      refine tkH 4 ?_ hS (fun wx hx => ?_) ?_; rotate_left
      · obtain ⟨⟨hx0, hx1, hx2, hx3, hx4, hx5⟩, _⟩ := hx; go_simp; try with_reducible rfl
      refine tkH 5 ?_ hS (fun wx hx => ?_) ?_; rotate_left
      · obtain ⟨⟨hx0, hx1, hx2, hx3, hx4, hx5⟩, _⟩ := hx; go_simp; try with_reducible rfl
      refine tkH 6 ?_ hS (fun wx hx => ?_) ?_; rotate_left
      · obtain ⟨⟨hx0, hx1, hx2, hx3, hx4, hx5⟩, _⟩ := hx; go_simp; try with_reducible rfl
      refine tkH 7 ?_ hS (fun wx hx => ?_) ?_; rotate_left
      · obtain ⟨⟨hx0, hx1, hx2, hx3, hx4, hx5⟩, _⟩ := hx; go_simp; try with_reducible rfl
      refine tkH 8 ?_ hS (fun wx hx => ?_) ?_; rotate_left
      · obtain ⟨⟨hx0, hx1, hx2, hx3, hx4, hx5⟩, _⟩ := hx; go_simp; try with_reducible rfl
      refine rdH 9 (fun K hK => ?_)
      go_simp
      go_wp2_with fail
      refine (compareCells_is _ _ _ _ _ _ r HR.out _).mono ?_
      rintro e w1 ⟨rfl, q1⟩
      have hS' := hS.later q1
      clear q1
      go_wp2_with fail
      refine hK.out _ _ hS' (fun hS => ?_)
      clear hK K hS'
      refine tkH 10 ?_ hS (fun wx hx => ?_) ?_; rotate_left
      · obtain ⟨⟨hx0, hx1, hx2, hx3, hx4, hx5⟩, _⟩ := hx; go_simp; try with_reducible rfl
      refine tkH 11 ?_ hS (fun wx hx => ?_) ?_; rotate_left
      · obtain ⟨⟨hx0, hx1, hx2, hx3, hx4, hx5⟩, _⟩ := hx; go_simp; try with_reducible rfl
      refine wpAnyH_done (by kernel_rfl) ?_ _
      go_simp
      go_wp2
      go_ret
      exact ⟨by rw [E.out]; rfl, hS.2⟩
    · have E : Hid (scan (cellF S.c) (k + 1) = 0) := by
        have : cellF S.c k = 0 := by
          unfold cellF
          rw [NN.out.1, NN.out.2.1, NN.out.2.2]
          rw [if_neg (fun h => h G0.out)]
          have g1 := G1.out; have g2 := G2.out; rw [if_neg (by omega)]
          rw [MM.out.1, MM.out.2]
          have ho := HO.out
          rw [if_neg (by omega)]
        exact scan_go HS.out this
      have dr : decide (0 ≤ r) = false := decide_eq_false hr
      clear HS NN G0 G1 G2 MM HO hr
      go_wp2_with fail
      refine (L0.out _).mono ?_
      rintro e w1 ⟨rfl, rfl⟩
      go_wp2_with fail
      refine (isTime_is _ true L1.out _).mono ?_
      rintro e w1 ⟨rfl, rfl⟩
      go_wp2_with fail
      refine (isValue_is _ true L2.out _).mono ?_
      rintro e w1 ⟨rfl, rfl⟩
      go_wp2_with fail
      refine wp_region_held_drew (S := PrevCell w g o k wr.heap.size m0 m1 m2 n0 n1 n2) (by kernel_rfl) h0 (fun hS => ?_)
      clear h0
      refine tkH 0 ?_ hS (fun wx hx => ?_) ?_; rotate_left
      · obtain ⟨⟨hx0, hx1, hx2, hx3, hx4, hx5⟩, _⟩ := hx; go_simp; try with_reducible rfl
      refine tkH 1 ?_ hS (fun wx hx => ?_) ?_; rotate_left
      · obtain ⟨⟨hx0, hx1, hx2, hx3, hx4, hx5⟩, _⟩ := hx; go_simp; try with_reducible rfl
      refine tkH 2 ?_ hS (fun wx hx => ?_) ?_; rotate_left
      · obtain ⟨⟨hx0, hx1, hx2, hx3, hx4, hx5⟩, _⟩ := hx; go_simp; try with_reducible rfl
      refine tkH 3 ?_ hS (fun wx hx => ?_) ?_; rotate_left
      · obtain ⟨⟨hx0, hx1, hx2, hx3, hx4, hx5⟩, _⟩ := hx; go_simp; try with_reducible rfl
      refine tkH 4 ?_ hS (fun wx hx => ?_) ?_; rotate_left
      · obtain ⟨⟨hx0, hx1, hx2, hx3, hx4, hx5⟩, _⟩ := hx; go_simp; try with_reducible rfl
      refine tkH 5 ?_ hS (fun wx hx => ?_) ?_; rotate_left
      · obtain ⟨⟨hx0, hx1, hx2, hx3, hx4, hx5⟩, _⟩ := hx; go_simp; try with_reducible rfl
      refine tkH 6 ?_ hS (fun wx hx => ?_) ?_; rotate_left
      · obtain ⟨⟨hx0, hx1, hx2, hx3, hx4, hx5⟩, _⟩ := hx; go_simp; try with_reducible rfl
      refine tkH 7 ?_ hS (fun wx hx => ?_) ?_; rotate_left
      · obtain ⟨⟨hx0, hx1, hx2, hx3, hx4, hx5⟩, _⟩ := hx; go_simp; try with_reducible rfl
      refine tkH 8 ?_ hS (fun wx hx => ?_) ?_; rotate_left
      · obtain ⟨⟨hx0, hx1, hx2, hx3, hx4, hx5⟩, _⟩ := hx; go_simp; try with_reducible rfl
      refine rdH 9 (fun K hK => ?_)
      go_simp
      go_wp2_with fail
      refine (compareCells_is _ _ _ _ _ _ r HR.out _).mono ?_
      rintro e w1 ⟨rfl, q1⟩
      have hS' := hS.later q1
      clear q1
      go_wp2_with fail
      refine hK.out _ _ hS' (fun hS => ?_)
      clear hK K hS'
      refine tkH 10 ?_ hS (fun wx hx => ?_) ?_; rotate_left
      · obtain ⟨⟨hx0, hx1, hx2, hx3, hx4, hx5⟩, _⟩ := hx; go_simp; try with_reducible rfl
      refine tkH 11 ?_ hS (fun wx hx => ?_) ?_; rotate_left
      · obtain ⟨⟨hx0, hx1, hx2, hx3, hx4, hx5⟩, _⟩ := hx; go_simp; try with_reducible rfl
      refine wpAnyH_done (by kernel_rfl) ?_ _
      go_simp
      go_wp2
      go_roundw
      case rel => exact ⟨k + 1, by omega, by go_num, E, hS.2⟩
      case measure => simp [intOf]; omega

/-- The element ahead and the one that is asked, and that nothing old has turned. -/
def PrevLock (w : World) (g o k N : Nat) (m0 m1 m2 m3 m4 n0 n1 n2 n3 n4 : Int) (x : World) : Prop := (x.cell? ⟨g, o + (k - 1) * 5, none⟩ = some (.int .i64 m0) ∧ x.cell? ⟨g, o + (k - 1) * 5 + 1, none⟩ = some (.int .i64 m1) ∧ x.cell? ⟨g, o + (k - 1) * 5 + 2, none⟩ = some (.int .i64 m2) ∧ x.cell? ⟨g, o + (k - 1) * 5 + 3, none⟩ = some (.int .i64 m3) ∧ x.cell? ⟨g, o + (k - 1) * 5 + 4, none⟩ = some (.int .i64 m4) ∧ x.cell? ⟨N, 0, none⟩ = some (.int .i64 n0) ∧ x.cell? ⟨N, 1, none⟩ = some (.int .i64 n1) ∧ x.cell? ⟨N, 2, none⟩ = some (.int .i64 n2) ∧ x.cell? ⟨N, 3, none⟩ = some (.int .i64 n3) ∧ x.cell? ⟨N, 4, none⟩ = some (.int .i64 n4)) ∧ Below w.heap.size w x
theorem PrevLock.later {w x x' : World} {g o k N : Nat} {m0 m1 m2 m3 m4 n0 n1 n2 n3 n4 : Int} (h : PrevLock w g o k N m0 m1 m2 m3 m4 n0 n1 n2 n3 n4 x) (hb : Below x.heap.size x x') : PrevLock w g o k N m0 m1 m2 m3 m4 n0 n1 n2 n3 n4 x' := by
  obtain ⟨⟨hx0, hx1, hx2, hx3, hx4, hx5, hx6, hx7, hx8, hx9⟩, hy⟩ := h
  exact ⟨⟨(hb.cell (World.block_lt_of_cell? x _ hx0)).trans hx0, (hb.cell (World.block_lt_of_cell? x _ hx1)).trans hx1, (hb.cell (World.block_lt_of_cell? x _ hx2)).trans hx2, (hb.cell (World.block_lt_of_cell? x _ hx3)).trans hx3, (hb.cell (World.block_lt_of_cell? x _ hx4)).trans hx4, (hb.cell (World.block_lt_of_cell? x _ hx5)).trans hx5, (hb.cell (World.block_lt_of_cell? x _ hx6)).trans hx6, (hb.cell (World.block_lt_of_cell? x _ hx7)).trans hx7, (hb.cell (World.block_lt_of_cell? x _ hx8)).trans hx8, (hb.cell (World.block_lt_of_cell? x _ hx9)).trans hx9⟩, hy.trans (hb.mono hy.size)⟩
set_option maxRecDepth 100000 in
set_option maxHeartbeats 4000000 in
theorem locksFault_any (S : Sto) (v : Value) (B : Nat) (w : World) (h : Row w B 5 S.nl S.l v) (hn : S.nl ≤ 200) :
    Calls Tryz.prog 125 #[v] w fun e w' => e = .returned (.int .i64 (scan (lockF S.l) S.nl)) ∧ Below w.heap.size w w' := by
  obtain ⟨ao, cp, rfl⟩ := h.form
  have H : Hid (Row w B 5 S.nl S.l (.slice ao S.nl cp)) := h
  clear h
  go_enter Tryz.func125, Tryz.ntmps125
  go_wp2
  go_loopw [9] (fun i wr => ∃ k : Nat, k ≤ S.nl ∧ i = .int .i64 k ∧ Hid (scan (lockF S.l) k = 0) ∧ Below w.heap.size w wr) (fun i _ => S.nl - (intOf i).toNat)
  case atStart => exact ⟨0, Nat.zero_le _, rfl, rfl, Below.refl _ _⟩
  case round =>
    obtain ⟨k, hk, rfl, HS, hbw⟩ := hrel
    by_cases hlt : k < S.nl
    case neg =>
      have en : k = S.nl := by omega
      have E : Hid (scan (lockF S.l) S.nl = 0) := en ▸ HS.out
      clear HS
      go_wp2
      go_ret
      exact ⟨by rw [E.out]; rfl, hbw⟩
    obtain ⟨g, o, rfl, _, hg, x0, x1, x2, x3, x4⟩ := (H.out.later hbw).at5 hlt
    obtain ⟨n0, N0⟩ : ∃ x, S.l (k * 5) = x := ⟨_, rfl⟩
    rw [N0] at x0
    obtain ⟨n1, N1⟩ : ∃ x, S.l (k * 5 + 1) = x := ⟨_, rfl⟩
    rw [N1] at x1
    obtain ⟨n2, N2⟩ : ∃ x, S.l (k * 5 + 2) = x := ⟨_, rfl⟩
    rw [N2] at x2
    obtain ⟨n3, N3⟩ : ∃ x, S.l (k * 5 + 3) = x := ⟨_, rfl⟩
    rw [N3] at x3
    obtain ⟨n4, N4⟩ : ∃ x, S.l (k * 5 + 4) = x := ⟨_, rfl⟩
    rw [N4] at x4
    have NN : Hid (S.l (k * 5) = n0 ∧ S.l (k * 5 + 1) = n1 ∧ S.l (k * 5 + 2) = n2 ∧ S.l (k * 5 + 3) = n3 ∧ S.l (k * 5 + 4) = n4) := ⟨N0, N1, N2, N3, N4⟩
    clear N0 N1 N2 N3 N4
    by_cases h0 : faultOf n0 = 0
    case neg =>
      obtain ⟨f, hff⟩ : ∃ f, faultOf n0 = f := ⟨_, rfl⟩
      have L0 : Hid (∀ w, Calls Tryz.prog 159 #[.int .i64 n0] w fun e w' => e = .returned (.int .i64 f) ∧ w' = w) := fun w => hff ▸ keyFault_any n0 w
      have E : Hid (scan (lockF S.l) S.nl = f) := by
        have : lockF S.l k = f := by
          unfold lockF
          rw [NN.out.1, NN.out.2.1, NN.out.2.2.1, NN.out.2.2.2.1, NN.out.2.2.2.2]
          rw [if_pos h0]; exact hff
        exact (scan_stop HS.out (by rw [this, ← hff]; exact h0) hlt).trans this
      have hfn : (f == 0) = false := beq_eq_false_iff_ne.2 (by rw [← hff]; exact h0)
      clear hff h0 HS NN
      go_wp2_with fail
      refine (L0.out _).mono ?_
      rintro e w1 ⟨rfl, rfl⟩
      go_wp2
      go_ret
      exact ⟨by rw [E.out]; rfl, by first | exact hbw.alloc hbw.size _ | exact below_dn (hbw.alloc hbw.size _) _ | exact below_dn (below_dn (hbw.alloc hbw.size _) _) _⟩
    have L0 : Hid (∀ w, Calls Tryz.prog 159 #[.int .i64 n0] w fun e w' => e = .returned (.int .i64 0) ∧ w' = w) := fun w => h0 ▸ keyFault_any n0 w
    have G0 : Hid (faultOf n0 = 0) := h0
    clear h0
    by_cases h1 : faultOf n3 = 0
    case neg =>
      obtain ⟨f, hff⟩ : ∃ f, faultOf n3 = f := ⟨_, rfl⟩
      have L1 : Hid (∀ w, Calls Tryz.prog 159 #[.int .i64 n3] w fun e w' => e = .returned (.int .i64 f) ∧ w' = w) := fun w => hff ▸ keyFault_any n3 w
      have E : Hid (scan (lockF S.l) S.nl = f) := by
        have : lockF S.l k = f := by
          unfold lockF
          rw [NN.out.1, NN.out.2.1, NN.out.2.2.1, NN.out.2.2.2.1, NN.out.2.2.2.2]
          rw [if_neg (fun h => h G0.out)]
          rw [if_pos h1]; exact hff
        exact (scan_stop HS.out (by rw [this, ← hff]; exact h1) hlt).trans this
      have hfn : (f == 0) = false := beq_eq_false_iff_ne.2 (by rw [← hff]; exact h1)
      clear hff h1 HS NN G0
      go_wp2_with fail
      refine (L0.out _).mono ?_
      rintro e w1 ⟨rfl, rfl⟩
      go_wp2_with fail
      refine (L1.out _).mono ?_
      rintro e w1 ⟨rfl, rfl⟩
      go_wp2
      go_ret
      exact ⟨by rw [E.out]; rfl, by first | exact hbw.alloc hbw.size _ | exact below_dn (hbw.alloc hbw.size _) _ | exact below_dn (below_dn (hbw.alloc hbw.size _) _) _⟩
    have L1 : Hid (∀ w, Calls Tryz.prog 159 #[.int .i64 n3] w fun e w' => e = .returned (.int .i64 0) ∧ w' = w) := fun w => h1 ▸ keyFault_any n3 w
    have G1 : Hid (faultOf n3 = 0) := h1
    clear h1
    by_cases h2 : 1 ≤ n1 ∧ n1 ≤ 100000
    case neg =>
      have L2 : Hid (decide (1 ≤ n1 ∧ n1 ≤ 100000) = false) := decide_eq_false h2
      have E : Hid (scan (lockF S.l) S.nl = 3) := by
        have : lockF S.l k = 3 := by
          unfold lockF
          rw [NN.out.1, NN.out.2.1, NN.out.2.2.1, NN.out.2.2.2.1, NN.out.2.2.2.2]
          rw [if_neg (fun h => h G0.out)]
          rw [if_neg (fun h => h G1.out)]
          rw [if_pos (by omega)]
        exact (scan_stop HS.out (by rw [this]; decide) hlt).trans this
      clear h2 HS NN G0 G1
      go_wp2_with fail
      refine (L0.out _).mono ?_
      rintro e w1 ⟨rfl, rfl⟩
      go_wp2_with fail
      refine (L1.out _).mono ?_
      rintro e w1 ⟨rfl, rfl⟩
      go_wp2_with fail
      refine (isTime_is _ false L2.out _).mono ?_
      rintro e w1 ⟨rfl, rfl⟩
      go_wp2
      go_ret
      exact ⟨by rw [E.out]; rfl, by first | exact hbw.alloc hbw.size _ | exact below_dn (hbw.alloc hbw.size _) _ | exact below_dn (below_dn (hbw.alloc hbw.size _) _) _⟩
    have L2 : Hid (decide (1 ≤ n1 ∧ n1 ≤ 100000) = true) := decide_eq_true h2
    have G2 : Hid (1 ≤ n1 ∧ n1 ≤ 100000) := h2
    clear h2
    by_cases h3 : 1 ≤ n2 ∧ n2 ≤ 3
    case neg =>
      have L3 : Hid (decide (1 ≤ n2 ∧ n2 ≤ 3) = false) := decide_eq_false h3
      have E : Hid (scan (lockF S.l) S.nl = 3) := by
        have : lockF S.l k = 3 := by
          unfold lockF
          rw [NN.out.1, NN.out.2.1, NN.out.2.2.1, NN.out.2.2.2.1, NN.out.2.2.2.2]
          rw [if_neg (fun h => h G0.out)]
          rw [if_neg (fun h => h G1.out)]
          rw [if_pos (by omega)]
        exact (scan_stop HS.out (by rw [this]; decide) hlt).trans this
      clear h3 HS NN G0 G1 G2
      go_wp2_with fail
      refine (L0.out _).mono ?_
      rintro e w1 ⟨rfl, rfl⟩
      go_wp2_with fail
      refine (L1.out _).mono ?_
      rintro e w1 ⟨rfl, rfl⟩
      go_wp2_with fail
      refine (isTime_is _ true L2.out _).mono ?_
      rintro e w1 ⟨rfl, rfl⟩
      go_wp2_with fail
      refine (isLockKind_is _ false L3.out _).mono ?_
      rintro e w1 ⟨rfl, rfl⟩
      go_wp2
      go_ret
      exact ⟨by rw [E.out]; rfl, by first | exact hbw.alloc hbw.size _ | exact below_dn (hbw.alloc hbw.size _) _ | exact below_dn (below_dn (hbw.alloc hbw.size _) _) _⟩
    have L3 : Hid (decide (1 ≤ n2 ∧ n2 ≤ 3) = true) := decide_eq_true h3
    have G3 : Hid (1 ≤ n2 ∧ n2 ≤ 3) := h3
    clear h3
    by_cases h4 : 0 ≤ n4 ∧ n4 ≤ 100000
    case neg =>
      have L4 : Hid (decide (0 ≤ n4 ∧ n4 ≤ 100000) = false) := decide_eq_false h4
      have E : Hid (scan (lockF S.l) S.nl = 3) := by
        have : lockF S.l k = 3 := by
          unfold lockF
          rw [NN.out.1, NN.out.2.1, NN.out.2.2.1, NN.out.2.2.2.1, NN.out.2.2.2.2]
          rw [if_neg (fun h => h G0.out)]
          rw [if_neg (fun h => h G1.out)]
          rw [if_pos (by omega)]
        exact (scan_stop HS.out (by rw [this]; decide) hlt).trans this
      clear h4 HS NN G0 G1 G2 G3
      go_wp2_with fail
      refine (L0.out _).mono ?_
      rintro e w1 ⟨rfl, rfl⟩
      go_wp2_with fail
      refine (L1.out _).mono ?_
      rintro e w1 ⟨rfl, rfl⟩
      go_wp2_with fail
      refine (isTime_is _ true L2.out _).mono ?_
      rintro e w1 ⟨rfl, rfl⟩
      go_wp2_with fail
      refine (isLockKind_is _ true L3.out _).mono ?_
      rintro e w1 ⟨rfl, rfl⟩
      go_wp2_with fail
      refine (isUntil_is _ false L4.out _).mono ?_
      rintro e w1 ⟨rfl, rfl⟩
      go_wp2
      go_ret
      exact ⟨by rw [E.out]; rfl, by first | exact hbw.alloc hbw.size _ | exact below_dn (hbw.alloc hbw.size _) _ | exact below_dn (below_dn (hbw.alloc hbw.size _) _) _⟩
    have L4 : Hid (decide (0 ≤ n4 ∧ n4 ≤ 100000) = true) := decide_eq_true h4
    have G4 : Hid (0 ≤ n4 ∧ n4 ≤ 100000) := h4
    clear h4
    rcases Nat.eq_zero_or_pos k with hk0 | hk0
    · have E : Hid (scan (lockF S.l) (k + 1) = 0) := by
        have : lockF S.l k = 0 := by
          unfold lockF
          rw [NN.out.1, NN.out.2.1, NN.out.2.2.1, NN.out.2.2.2.1, NN.out.2.2.2.2]
          rw [if_neg (fun h => h G0.out)]
          rw [if_neg (fun h => h G1.out)]
          have g2 := G2.out; have g3 := G3.out; have g4 := G4.out; rw [if_neg (by omega)]
          rw [if_neg (by omega)]
        exact scan_go HS.out this
      have dk : decide (0 < k) = false := decide_eq_false (by omega)
      clear HS NN G0 G1 G2 G3 G4 hk0
      go_wp2_with fail
      refine (L0.out _).mono ?_
      rintro e w1 ⟨rfl, rfl⟩
      go_wp2_with fail
      refine (L1.out _).mono ?_
      rintro e w1 ⟨rfl, rfl⟩
      go_wp2_with fail
      refine (isTime_is _ true L2.out _).mono ?_
      rintro e w1 ⟨rfl, rfl⟩
      go_wp2_with fail
      refine (isLockKind_is _ true L3.out _).mono ?_
      rintro e w1 ⟨rfl, rfl⟩
      go_wp2_with fail
      refine (isUntil_is _ true L4.out _).mono ?_
      rintro e w1 ⟨rfl, rfl⟩
      go_wp2_with fail
      go_quiet (fail)
      go_wp2
      go_roundw
      case rel => exact ⟨k + 1, by omega, by go_num, E, by first | exact hbw.alloc hbw.size _ | exact below_dn (hbw.alloc hbw.size _) _ | exact below_dn (below_dn (hbw.alloc hbw.size _) _) _⟩
      case measure => simp [intOf]; omega
    obtain ⟨g', o', he, _, _, y0, y1, y2, y3, y4⟩ := (H.out.later hbw).at5 (k := k - 1) (by omega)
    simp only [Option.some.injEq, Addr.mk.injEq, and_true] at he
    obtain ⟨rfl, rfl⟩ := he
    obtain ⟨m0, M0⟩ : ∃ x, S.l ((k - 1) * 5) = x := ⟨_, rfl⟩
    rw [M0] at y0
    obtain ⟨m1, M1⟩ : ∃ x, S.l ((k - 1) * 5 + 1) = x := ⟨_, rfl⟩
    rw [M1] at y1
    obtain ⟨m2, M2⟩ : ∃ x, S.l ((k - 1) * 5 + 2) = x := ⟨_, rfl⟩
    rw [M2] at y2
    obtain ⟨m3, M3⟩ : ∃ x, S.l ((k - 1) * 5 + 3) = x := ⟨_, rfl⟩
    rw [M3] at y3
    obtain ⟨m4, M4⟩ : ∃ x, S.l ((k - 1) * 5 + 4) = x := ⟨_, rfl⟩
    rw [M4] at y4
    have MM : Hid (S.l ((k - 1) * 5) = m0 ∧ S.l ((k - 1) * 5 + 1) = m1) := ⟨M0, M1⟩
    clear M0 M1 M2 M3 M4
    have dk : decide (0 < k) = true := decide_eq_true hk0
    have hwr := wrap_pred k hk0 (by omega)
    have hkn : ((k - 1 : Nat) : Int) < (S.nl : Int) := by omega
    obtain ⟨r, HR⟩ : ∃ r, Hid (cmpOf m0 n0 = r) := ⟨_, rfl⟩
    have HO : Hid (r < 0 ↔ m0 < n0) := by unfold Hid; rw [← HR.out]; exact cmpOf_neg _ _
    have h0 : PrevLock w g o k wr.heap.size m0 m1 m2 m3 m4 n0 n1 n2 n3 n4 (wr.alloc (.cells #[.int .i64 n0, .int .i64 n1, .int .i64 n2, .int .i64 n3, .int .i64 n4] 162)).drew := ⟨⟨(World.cell?_alloc_lt _ _ _ hg).trans y0, (World.cell?_alloc_lt _ _ _ hg).trans y1, (World.cell?_alloc_lt _ _ _ hg).trans y2, (World.cell?_alloc_lt _ _ _ hg).trans y3, (World.cell?_alloc_lt _ _ _ hg).trans y4, World.cell?_alloc_mark wr _ _ _ 0, World.cell?_alloc_mark wr _ _ _ 1, World.cell?_alloc_mark wr _ _ _ 2, World.cell?_alloc_mark wr _ _ _ 3, World.cell?_alloc_mark wr _ _ _ 4⟩, (hbw.alloc hbw.size _).drew⟩
    by_cases hr : 0 ≤ r
    · have E : Hid (scan (lockF S.l) S.nl = 1) := by
        have : lockF S.l k = 1 := by
          unfold lockF
          rw [NN.out.1, NN.out.2.1, NN.out.2.2.1, NN.out.2.2.2.1, NN.out.2.2.2.2]
          rw [if_neg (fun h => h G0.out)]
          rw [if_neg (fun h => h G1.out)]
          have g2 := G2.out; have g3 := G3.out; have g4 := G4.out; rw [if_neg (by omega)]
          rw [MM.out.1]
          have ho := HO.out
          rw [if_pos (by omega)]
        exact (scan_stop HS.out (by rw [this]; decide) hlt).trans this
      have dr : decide (0 ≤ r) = true := decide_eq_true hr
      clear HS NN G0 G1 G2 G3 G4 MM HO hr
      go_wp2_with fail
      refine (L0.out _).mono ?_
      rintro e w1 ⟨rfl, rfl⟩
      go_wp2_with fail
      refine (L1.out _).mono ?_
      rintro e w1 ⟨rfl, rfl⟩
      go_wp2_with fail
      refine (isTime_is _ true L2.out _).mono ?_
      rintro e w1 ⟨rfl, rfl⟩
      go_wp2_with fail
      refine (isLockKind_is _ true L3.out _).mono ?_
      rintro e w1 ⟨rfl, rfl⟩
      go_wp2_with fail
      refine (isUntil_is _ true L4.out _).mono ?_
      rintro e w1 ⟨rfl, rfl⟩
      go_wp2_with fail
      refine wp_region_held_drew (S := PrevLock w g o k wr.heap.size m0 m1 m2 m3 m4 n0 n1 n2 n3 n4) (by kernel_rfl) h0 (fun hS => ?_)
      clear h0
      refine tkH 0 ?_ hS (fun wx hx => ?_) ?_; rotate_left
      · obtain ⟨⟨hx0, hx1, hx2, hx3, hx4, hx5, hx6, hx7, hx8, hx9⟩, _⟩ := hx; go_simp; try with_reducible rfl
      refine tkH 1 ?_ hS (fun wx hx => ?_) ?_; rotate_left
      · obtain ⟨⟨hx0, hx1, hx2, hx3, hx4, hx5, hx6, hx7, hx8, hx9⟩, _⟩ := hx; go_simp; try with_reducible rfl
      refine tkH 2 ?_ hS (fun wx hx => ?_) ?_; rotate_left
      · obtain ⟨⟨hx0, hx1, hx2, hx3, hx4, hx5, hx6, hx7, hx8, hx9⟩, _⟩ := hx; go_simp; try with_reducible rfl
      refine tkH 3 ?_ hS (fun wx hx => ?_) ?_; rotate_left
      · obtain ⟨⟨hx0, hx1, hx2, hx3, hx4, hx5, hx6, hx7, hx8, hx9⟩, _⟩ := hx; go_simp; try with_reducible rfl
      refine tkH 4 ?_ hS (fun wx hx => ?_) ?_; rotate_left
      · obtain ⟨⟨hx0, hx1, hx2, hx3, hx4, hx5, hx6, hx7, hx8, hx9⟩, _⟩ := hx; go_simp; try with_reducible rfl
      refine tkH 5 ?_ hS (fun wx hx => ?_) ?_; rotate_left
      · obtain ⟨⟨hx0, hx1, hx2, hx3, hx4, hx5, hx6, hx7, hx8, hx9⟩, _⟩ := hx; go_simp; try with_reducible rfl
      refine tkH 6 ?_ hS (fun wx hx => ?_) ?_; rotate_left
      · obtain ⟨⟨hx0, hx1, hx2, hx3, hx4, hx5, hx6, hx7, hx8, hx9⟩, _⟩ := hx; go_simp; try with_reducible rfl
      refine tkH 7 ?_ hS (fun wx hx => ?_) ?_; rotate_left
      · obtain ⟨⟨hx0, hx1, hx2, hx3, hx4, hx5, hx6, hx7, hx8, hx9⟩, _⟩ := hx; go_simp; try with_reducible rfl
      refine tkH 8 ?_ hS (fun wx hx => ?_) ?_; rotate_left
      · obtain ⟨⟨hx0, hx1, hx2, hx3, hx4, hx5, hx6, hx7, hx8, hx9⟩, _⟩ := hx; go_simp; try with_reducible rfl
      refine rdH 9 (fun K hK => ?_)
      go_simp
      go_wp2_with fail
      refine (compareLocks_is _ _ _ _ _ _ _ _ _ _ r HR.out _).mono ?_
      rintro e w1 ⟨rfl, q1⟩
      have hS' := hS.later q1
      clear q1
      go_wp2_with fail
      refine hK.out _ _ hS' (fun hS => ?_)
      clear hK K hS'
      refine tkH 10 ?_ hS (fun wx hx => ?_) ?_; rotate_left
      · obtain ⟨⟨hx0, hx1, hx2, hx3, hx4, hx5, hx6, hx7, hx8, hx9⟩, _⟩ := hx; go_simp; try with_reducible rfl
      refine tkH 11 ?_ hS (fun wx hx => ?_) ?_; rotate_left
      · obtain ⟨⟨hx0, hx1, hx2, hx3, hx4, hx5, hx6, hx7, hx8, hx9⟩, _⟩ := hx; go_simp; try with_reducible rfl
      refine wpAnyH_done (by kernel_rfl) ?_ _
      go_simp
      go_wp2
      go_ret
      exact ⟨by rw [E.out]; rfl, hS.2⟩
    · have E : Hid (scan (lockF S.l) (k + 1) = 0) := by
        have : lockF S.l k = 0 := by
          unfold lockF
          rw [NN.out.1, NN.out.2.1, NN.out.2.2.1, NN.out.2.2.2.1, NN.out.2.2.2.2]
          rw [if_neg (fun h => h G0.out)]
          rw [if_neg (fun h => h G1.out)]
          have g2 := G2.out; have g3 := G3.out; have g4 := G4.out; rw [if_neg (by omega)]
          rw [MM.out.1]
          have ho := HO.out
          rw [if_neg (by omega)]
        exact scan_go HS.out this
      have dr : decide (0 ≤ r) = false := decide_eq_false hr
      clear HS NN G0 G1 G2 G3 G4 MM HO hr
      go_wp2_with fail
      refine (L0.out _).mono ?_
      rintro e w1 ⟨rfl, rfl⟩
      go_wp2_with fail
      refine (L1.out _).mono ?_
      rintro e w1 ⟨rfl, rfl⟩
      go_wp2_with fail
      refine (isTime_is _ true L2.out _).mono ?_
      rintro e w1 ⟨rfl, rfl⟩
      go_wp2_with fail
      refine (isLockKind_is _ true L3.out _).mono ?_
      rintro e w1 ⟨rfl, rfl⟩
      go_wp2_with fail
      refine (isUntil_is _ true L4.out _).mono ?_
      rintro e w1 ⟨rfl, rfl⟩
      go_wp2_with fail
      refine wp_region_held_drew (S := PrevLock w g o k wr.heap.size m0 m1 m2 m3 m4 n0 n1 n2 n3 n4) (by kernel_rfl) h0 (fun hS => ?_)
      clear h0
      refine tkH 0 ?_ hS (fun wx hx => ?_) ?_; rotate_left
      · obtain ⟨⟨hx0, hx1, hx2, hx3, hx4, hx5, hx6, hx7, hx8, hx9⟩, _⟩ := hx; go_simp; try with_reducible rfl
      refine tkH 1 ?_ hS (fun wx hx => ?_) ?_; rotate_left
      · obtain ⟨⟨hx0, hx1, hx2, hx3, hx4, hx5, hx6, hx7, hx8, hx9⟩, _⟩ := hx; go_simp; try with_reducible rfl
      refine tkH 2 ?_ hS (fun wx hx => ?_) ?_; rotate_left
      · obtain ⟨⟨hx0, hx1, hx2, hx3, hx4, hx5, hx6, hx7, hx8, hx9⟩, _⟩ := hx; go_simp; try with_reducible rfl
      refine tkH 3 ?_ hS (fun wx hx => ?_) ?_; rotate_left
      · obtain ⟨⟨hx0, hx1, hx2, hx3, hx4, hx5, hx6, hx7, hx8, hx9⟩, _⟩ := hx; go_simp; try with_reducible rfl
      refine tkH 4 ?_ hS (fun wx hx => ?_) ?_; rotate_left
      · obtain ⟨⟨hx0, hx1, hx2, hx3, hx4, hx5, hx6, hx7, hx8, hx9⟩, _⟩ := hx; go_simp; try with_reducible rfl
      refine tkH 5 ?_ hS (fun wx hx => ?_) ?_; rotate_left
      · obtain ⟨⟨hx0, hx1, hx2, hx3, hx4, hx5, hx6, hx7, hx8, hx9⟩, _⟩ := hx; go_simp; try with_reducible rfl
      refine tkH 6 ?_ hS (fun wx hx => ?_) ?_; rotate_left
      · obtain ⟨⟨hx0, hx1, hx2, hx3, hx4, hx5, hx6, hx7, hx8, hx9⟩, _⟩ := hx; go_simp; try with_reducible rfl
      refine tkH 7 ?_ hS (fun wx hx => ?_) ?_; rotate_left
      · obtain ⟨⟨hx0, hx1, hx2, hx3, hx4, hx5, hx6, hx7, hx8, hx9⟩, _⟩ := hx; go_simp; try with_reducible rfl
      refine tkH 8 ?_ hS (fun wx hx => ?_) ?_; rotate_left
      · obtain ⟨⟨hx0, hx1, hx2, hx3, hx4, hx5, hx6, hx7, hx8, hx9⟩, _⟩ := hx; go_simp; try with_reducible rfl
      refine rdH 9 (fun K hK => ?_)
      go_simp
      go_wp2_with fail
      refine (compareLocks_is _ _ _ _ _ _ _ _ _ _ r HR.out _).mono ?_
      rintro e w1 ⟨rfl, q1⟩
      have hS' := hS.later q1
      clear q1
      go_wp2_with fail
      refine hK.out _ _ hS' (fun hS => ?_)
      clear hK K hS'
      refine tkH 10 ?_ hS (fun wx hx => ?_) ?_; rotate_left
      · obtain ⟨⟨hx0, hx1, hx2, hx3, hx4, hx5, hx6, hx7, hx8, hx9⟩, _⟩ := hx; go_simp; try with_reducible rfl
      refine tkH 11 ?_ hS (fun wx hx => ?_) ?_; rotate_left
      · obtain ⟨⟨hx0, hx1, hx2, hx3, hx4, hx5, hx6, hx7, hx8, hx9⟩, _⟩ := hx; go_simp; try with_reducible rfl
      refine wpAnyH_done (by kernel_rfl) ?_ _
      go_simp
      go_wp2
      go_roundw
      case rel => exact ⟨k + 1, by omega, by go_num, E, hS.2⟩
      case measure => simp [intOf]; omega

end Go.Proofs.YtjkchhcnochjlaaGreatDoor

namespace Go.Proofs.YtjkchhcnochjlaaGreatDoor
open Go.RowKit Go.Maps

theorem laid_out : laidOutB Tryz.prog = true := by kernel_rfl
theorem placeKeyed : Keyed Tryz.prog 260 := Keyed.of_law (deep_law_laid laid_out (m := 3) (by omega) (of_decide_eq_true (by kernel_rfl)) (by kernel_rfl) (by kernel_rfl))
def Wf (a : Int) : Prop := (Lit.int .i64 a).wf = true
theorem wf_small {a : Int} (h0 : 0 ≤ a) (h1 : a ≤ 100000) : Wf a := by
  have e0 : IntKind.i64.min = -9223372036854775808 := by decide
  have e1 : IntKind.i64.max = 9223372036854775807 := by decide
  unfold Wf
  simp [Lit.wf, e0, e1]
  omega
def place (a b : Int) : Value := .agg #[.int .i64 a, .int .i64 b]
def kp (a b : Int) : Lit := .string (keyBytes [.int .i64 a, .int .i64 b])
theorem kp_key (a b : Int) : WideAt.IsKeyLit (kp a b) := trivial
theorem keyOf_place {a b : Int} (ha : Wf a) (hb : Wf b) : keyOf Tryz.prog 260 (.agg #[.int .i64 a, .int .i64 b]) = some (kp a b) := by
  have h1 : Tryz.prog.keyType 260 = true := by kernel_rfl
  have h2 : Tryz.prog.cellsOf 260 = 2 := by kernel_rfl
  have h3 : Tryz.prog.cellsOf 2 = 1 := by kernel_rfl
  have h4 : ∃ m, Tryz.prog.types.size = m + 1 := ⟨Tryz.prog.types.size - 1, by kernel_rfl⟩
  obtain ⟨m, h4⟩ := h4
  unfold Wf at ha hb
  unfold keyOf
  simp only [Tryz.underlying260]
  rw [if_pos (by simp [h1, Value.formed, Tryz.underlying260, h2]), h4]
  unfold Program.keyLits
  simp only [Tryz.underlying260, Value.cells]
  rw [if_pos (by rw [h2]; exact ⟨rfl, by kernel_rfl⟩)]
  simp [Program.keyLits, Tryz.underlying2, h3, ha, hb, kp]
theorem kp_inj {a b c d : Int} (ha : Wf a) (hb : Wf b) (hc : Wf c) (hd : Wf d) (h : kp a b = kp c d) : a = c ∧ b = d := by
  have := placeKeyed.inj (keyOf_place ha hb) (by rw [h]; exact keyOf_place hc hd)
  simpa using this
/-- Block b is a map of at most n entries; it has m a b at the key (a, b). -/
def PM (w : World) (b n : Nat) (m : Int → Int → Option Int) : Prop :=
  ∃ D : DataW Unit, w.ownsMap Tryz.prog 260 (plainElem Tryz.prog 2) b n D ∧ ∀ x y, Wf x → Wf y → Maps.has D (kp x y) = (m x y).isSome ∧ D.atKey (kp x y) (.lit (.int .i64 0)) = .lit (.int .i64 ((m x y).getD 0))
theorem PM.made (w : World) : PM (w.alloc (.map #[] 0)) w.heap.size 0 (fun _ _ => none) := ⟨.map [], World.ownsMap_made w _ _ _, fun _ _ _ _ => ⟨rfl, rfl⟩⟩
theorem PM.lt {w : World} {b n : Nat} {m : Int → Int → Option Int} (h : PM w b n m) : b < w.heap.size := by
  obtain ⟨D, h, _⟩ := h; exact h.lt
theorem PM.mono {w : World} {b n n' : Nat} {m : Int → Int → Option Int} (h : PM w b n m) (hn : n ≤ n') : PM w b n' m := by
  obtain ⟨D, h, r⟩ := h; exact ⟨D, h.mono hn, r⟩
theorem PM.kept {w w' : World} {b n : Nat} {m : Int → Int → Option Int} (h : PM w b n m) (hb : w'.heap[b]? = w.heap[b]?) : PM w' b n m := by
  obtain ⟨D, ⟨es, clock, h1, h2⟩, r⟩ := h
  exact ⟨D, ⟨es, clock, hb.trans h1, h2⟩, r⟩
theorem PM.later {w w' : World} {b n : Nat} {m : Int → Int → Option Int} (h : PM w b n m) (hb : Below w.heap.size w w') : PM w' b n m := h.kept (hb.block b h.lt)
theorem PM.alloc {w : World} {b n : Nat} {m : Int → Int → Option Int} (h : PM w b n m) (o : Obj) : PM (w.alloc o) b n m := h.later ((Below.refl _ _).alloc (Nat.le_refl _) o)
theorem PM.setCell {w : World} {b n : Nat} {m : Int → Int → Option Int} (h : PM w b n m) {a : Addr} (ha : b ≠ a.block) (u : Value) : PM (w.setCell a u) b n m := h.kept (Below.heap_setCell w a u b ha)
theorem PM.congr {w : World} {b n : Nat} {m m' : Int → Int → Option Int} (h : PM w b n m) (e : ∀ x y, m x y = m' x y) : PM w b n m' := by
  obtain ⟨D, h1, r⟩ := h; exact ⟨D, h1, fun x y hx hy => by rw [← e]; exact r x y hx hy⟩
theorem zero_i64 (w : World) : (zeroValue 2).run Tryz.prog w = .ok (.int .i64 0) w := by kernel_rfl
/-- 'v, ok := m[k]'. -/
theorem PM.look {w : World} {b n : Nat} {m : Int → Int → Option Int} (h : PM w b n m) {x y : Int} (hx : Wf x) (hy : Wf y) :
    (Instr.lookup 225 (.map (some b)) (.agg #[.int .i64 x, .int .i64 y]) true).run Tryz.prog w = .ok (.tuple #[.int .i64 ((m x y).getD 0), .bool (m x y).isSome]) w := by
  obtain ⟨D, h, r⟩ := h
  obtain ⟨v, ps, hrun, hv⟩ := h.look_ok placeKeyed Tryz.underlying225 (zero_i64 w) (plainElem_int Tryz.underlying2 (by decide)) (keyOf_place hx hy)
  obtain ⟨c, rfl, hc, _⟩ := plainElem_int_inv Tryz.underlying2 hv
  rw [hrun, (r x y hx hy).1]
  have := congrArg Prod.fst hc
  rw [(r x y hx hy).2] at this
  simp at this
  rw [this]
def putM (m : Int → Int → Option Int) (a b v : Int) (x y : Int) : Option Int := if x = a ∧ y = b then some v else m x y
/-- 'm[k] = v'. -/
theorem PM.put {w : World} {b n : Nat} {m : Int → Int → Option Int} (h : PM w b n m) (hn : n < maxLen) {x y v : Int} (hx : Wf x) (hy : Wf y) (hv : Wf v) :
    ∃ w', (Instr.mapUpdate 225 (.map (some b)) (.agg #[.int .i64 x, .int .i64 y]) (.int .i64 v)).run Tryz.prog w = .ok () w' ∧ PM w' b (n + 1) (putM m x y v) ∧ w.grownBy w' (some b) := by
  obtain ⟨D, h, r⟩ := h
  obtain ⟨w', hrun, h', hg⟩ := h.update placeKeyed Tryz.underlying225 hn (keyOf_place hx hy) (plainElem_int Tryz.underlying2 hv)
  refine ⟨w', hrun, ⟨_, h', fun p q hp hq => ?_⟩, hg⟩
  unfold putM
  by_cases e : p = x ∧ q = y
  · obtain ⟨rfl, rfl⟩ := e
    rw [if_pos ⟨rfl, rfl⟩]
    exact ⟨has_put_same h.isMap (kp_key _ _) _, atKey_put_same h.isMap (kp_key _ _) _ _⟩
  · rw [if_neg e, has_put_other (fun q => e (kp_inj hp hq hx hy q)), atKey_put_other (fun q => e (kp_inj hp hq hx hy q))]
    exact r p q hp hq
theorem wpList_put (w : World) {ops : Array Oper} {rest : List Oper} {o : Oper} {a : Act} {Q : Exit → Act → World → Prop}
    (hg : o.guard = none) (mo x v : Operand) (hop : o.op = Op.mapUpdate 225 mo x v)
    (b n : Nat) (m : Int → Int → Option Int) (hm : a.eval mo = .map (some b)) (h : PM w b n m) (hn : n < maxLen) (p q u : Int) (hx : a.eval x = .agg #[.int .i64 p, .int .i64 q]) (hv : a.eval v = .int .i64 u) (hp : Wf p) (hq : Wf q) (hu : Wf u)
    (hK : ∀ w', PM w' b (n + 1) (putM m p q u) → w.grownBy w' (some b) → wpList Tryz.prog ops Q rest (a.put o.dst undef) w') :
    wpList Tryz.prog ops Q (o :: rest) a w := by
  refine wpList_plain hg fun K' hK' => ?_
  obtain ⟨w', hrun, r1, r2⟩ := h.put hn hp hq hu
  unfold Oper.wp
  simp [execOp, hop, hm, hx, hv, hrun, Result.andThen]
  exact hK' _ _ (hK w' r1 r2)
/-- What a map has behind n puts, put i at (p i, q i), of v i. -/
def puts (p q v : Nat → Int) : Nat → Int → Int → Option Int
  | 0, _, _ => none
  | n + 1, x, y => putM (puts p q v n) (p n) (q n) (v n) x y
theorem puts_has (p q v : Nat → Int) (x y : Int) : ∀ n, (puts p q v n x y).isSome = true ↔ ∃ i, i < n ∧ p i = x ∧ q i = y
  | 0 => by simp [puts]
  | n + 1 => by
    have ih := puts_has p q v x y n
    unfold puts putM
    by_cases e : x = p n ∧ y = q n
    · rw [if_pos e]
      exact ⟨fun _ => ⟨n, by omega, e.1.symm, e.2.symm⟩, fun _ => rfl⟩
    · rw [if_neg e, ih]
      constructor
      · rintro ⟨i, hi, h⟩; exact ⟨i, by omega, h⟩
      · rintro ⟨i, hi, h1, h2⟩
        by_cases hin : i = n
        · subst hin; exact absurd ⟨h1.symm, h2.symm⟩ e
        · exact ⟨i, by omega, h1, h2⟩
def cellM (S : Sto) (n : Nat) : Int → Int → Option Int := puts (fun i => S.c (i * 3)) (fun i => S.c (i * 3 + 1)) (fun i => S.c (i * 3 + 2)) n
def writeM (S : Sto) (n : Nat) : Int → Int → Option Int := puts (fun i => S.k (i * 4)) (fun i => S.k (i * 4 + 2)) (fun i => S.k (i * 4 + 3)) n
theorem cellM_has (S : Sto) (n : Nat) (x y : Int) : (cellM S n x y).isSome = true ↔ hasCell S n x y := puts_has _ _ _ x y n
theorem writeM_has (S : Sto) (n : Nat) (x y : Int) : (writeM S n x y).isSome = true ↔ hasWrite S n x y := puts_has _ _ _ x y n
end Go.Proofs.YtjkchhcnochjlaaGreatDoor

namespace Go.Proofs.YtjkchhcnochjlaaGreatDoor
open Go.RowKit Go.Maps

theorem scan_zero {g : Nat → Int} : ∀ {n : Nat}, scan g n = 0 → ∀ i, i < n → g i = 0
  | 0, _, i, hi => by omega
  | n + 1, h, i, hi => by
    unfold scan at h
    by_cases e : scan g n = 0
    · rw [if_pos e] at h
      by_cases hin : i = n
      · subst hin; exact h
      · exact scan_zero e i (by omega)
    · rw [if_neg e] at h; exact absurd h e
theorem faultOf_zero {a : Int} (h : faultOf a = 0) : 0 ≤ a ∧ a ≤ 199 := by
  by_cases e : a < 0 ∨ 199 < a
  · rw [faultOf_range e] at h; exact absurd h (by decide)
  · omega
theorem cellF_zero {c : Nat → Int} {i : Nat} (h : cellF c i = 0) : faultOf (c (i * 3)) = 0 ∧ 1 ≤ c (i * 3 + 1) ∧ c (i * 3 + 1) ≤ 100000 ∧ 0 ≤ c (i * 3 + 2) ∧ c (i * 3 + 2) ≤ 9999 := by
  unfold cellF at h
  by_cases h0 : faultOf (c (i * 3)) = 0
  · rw [if_neg (fun q => q h0)] at h
    refine ⟨h0, ?_⟩
    by_cases h1 : 1 ≤ c (i * 3 + 1) ∧ c (i * 3 + 1) ≤ 100000 ∧ 0 ≤ c (i * 3 + 2) ∧ c (i * 3 + 2) ≤ 9999
    · exact h1
    · rw [if_pos h1] at h; exact absurd h (by decide)
  · rw [if_pos h0] at h; exact absurd h h0
theorem lockF_zero {l : Nat → Int} {i : Nat} (h : lockF l i = 0) : faultOf (l (i * 5)) = 0 ∧ 1 ≤ l (i * 5 + 1) ∧ l (i * 5 + 1) ≤ 100000 := by
  unfold lockF at h
  by_cases h0 : faultOf (l (i * 5)) = 0
  · rw [if_neg (fun q => q h0)] at h
    refine ⟨h0, ?_⟩
    by_cases h2 : faultOf (l (i * 5 + 3)) = 0
    · rw [if_neg (fun q => q h2)] at h
      by_cases h1 : 1 ≤ l (i * 5 + 1) ∧ l (i * 5 + 1) ≤ 100000 ∧ 1 ≤ l (i * 5 + 2) ∧ l (i * 5 + 2) ≤ 3 ∧ 0 ≤ l (i * 5 + 4) ∧ l (i * 5 + 4) ≤ 100000
      · exact ⟨h1.1, h1.2.1⟩
      · rw [if_pos h1] at h; exact absurd h (by decide)
    · rw [if_pos h2] at h; exact absurd h h2
  · rw [if_pos h0] at h; exact absurd h h0
theorem writeF_zero {k : Nat → Int} {i : Nat} (h : writeF k i = 0) : faultOf (k (i * 4)) = 0 ∧ 1 ≤ k (i * 4 + 1) ∧ k (i * 4 + 1) ≤ 100000 ∧ 1 ≤ k (i * 4 + 2) ∧ k (i * 4 + 2) ≤ 100000 ∧ 1 ≤ k (i * 4 + 3) ∧ k (i * 4 + 3) ≤ 4 := by
  unfold writeF at h
  by_cases h0 : faultOf (k (i * 4)) = 0
  · rw [if_neg (fun q => q h0)] at h
    refine ⟨h0, ?_⟩
    by_cases h1 : 1 ≤ k (i * 4 + 1) ∧ k (i * 4 + 1) ≤ 100000 ∧ 1 ≤ k (i * 4 + 2) ∧ k (i * 4 + 2) ≤ 100000 ∧ 1 ≤ k (i * 4 + 3) ∧ k (i * 4 + 3) ≤ 4
    · exact h1
    · rw [if_pos h1] at h; exact absurd h (by decide)
  · rw [if_pos h0] at h; exact absurd h h0
theorem below_grown {B b : Nat} {w x x' : World} (h : Below B w x) (hB : B ≤ x.heap.size) (hb : B ≤ b) (g : x.grownBy x' (some b)) : Below B w x' :=
  ⟨g.os.trans h.os, g.tape.trans h.tape, g.output.trans h.output, Nat.le_trans h.size g.size, fun i hi => (g.block i (by omega) (by intro e; injection e with e; omega)).trans (h.block i hi)⟩
theorem run_makeMap_i64 (n : Int) (w : World) : (Instr.makeMap 225 (some (.int .i64 n))).run Tryz.prog w = .ok (.map (some w.heap.size)) (w.alloc (.map #[] 0)) := by
  simp [Instr.makeMap, run_underlying Tryz.underlying225, asInt, asIntOf, Result.andThen]
theorem small_maxLen {n : Nat} (h : n ≤ 200) : n < maxLen := Nat.lt_of_le_of_lt h (by decide)
set_option maxRecDepth 100000 in
theorem cellsByPlace_any (S : Sto) (v : Value) (B : Nat) (w : World) (h : Row w B 3 S.nc S.c v) (hn : S.nc ≤ 200) (hz : scan (cellF S.c) S.nc = 0) :
    Calls Tryz.prog 165 #[v] w fun e w' => e = .returned (.map (some w.heap.size)) ∧ PM w' w.heap.size S.nc (cellM S S.nc) ∧ Below w.heap.size w w' := by
  obtain ⟨ao, cp, rfl⟩ := h.form
  have H : Hid (Row w B 3 S.nc S.c (.slice ao S.nc cp)) := h
  have HZ : Hid (∀ i, i < S.nc → cellF S.c i = 0) := scan_zero hz
  clear h hz
  have hmm := run_makeMap_i64
  go_enter Tryz.func165, Tryz.ntmps165
  go_wp2
  go_loopw [11] (fun i wr => ∃ k : Nat, k ≤ S.nc ∧ i = .int .i64 k ∧ Hid (PM wr w.heap.size k (cellM S k)) ∧ Below w.heap.size w wr) (fun i _ => S.nc - (intOf i).toNat)
  case atStart => exact ⟨0, Nat.zero_le _, rfl, PM.made w, below_alloc _ _⟩
  case round =>
    obtain ⟨k, hk, rfl, HM, hbw⟩ := hrel
    by_cases hlt : k < S.nc
    case neg =>
      obtain rfl : k = S.nc := by omega
      go_wp2
      go_ret
      exact ⟨rfl, HM.out, hbw⟩
    obtain ⟨g, o, rfl, _, hg, x0, x1, x2⟩ := (H.out.later hbw).at3 hlt
    have HC := cellF_zero (HZ.out k hlt)
    have hk2 := faultOf_zero HC.1
    obtain ⟨n0, N0⟩ : ∃ x, S.c (k * 3) = x := ⟨_, rfl⟩
    obtain ⟨n1, N1⟩ : ∃ x, S.c (k * 3 + 1) = x := ⟨_, rfl⟩
    obtain ⟨n2, N2⟩ : ∃ x, S.c (k * 3 + 2) = x := ⟨_, rfl⟩
    rw [N0] at x0 hk2
    rw [N1] at x1
    rw [N2] at x2
    rw [N1, N2] at HC
    have hP := HM.out.alloc (.cells #[.int .i64 n0, .int .i64 n1, .int .i64 n2] 212)
    have hw0 : Wf n0 := wf_small hk2.1 (by omega)
    have hw1 : Wf n1 := wf_small (by omega) HC.2.2.1
    have hw2 : Wf n2 := wf_small HC.2.2.2.1 (by omega)
    have hb2 := hbw.alloc hbw.size (.cells #[.int .i64 n0, .int .i64 n1, .int .i64 n2] 212)
    have NN : Hid (S.c (k * 3) = n0 ∧ S.c (k * 3 + 1) = n1 ∧ S.c (k * 3 + 2) = n2) := ⟨N0, N1, N2⟩
    clear N0 N1 N2 HC hk2
    go_wp2_with (first | (at_mapUpdate; refine wpList_put _ rfl _ _ _ rfl w.heap.size k _ rfl hP (small_maxLen (Nat.le_trans hk hn)) n0 n1 n2 rfl rfl hw0 hw1 hw2 ?_; intro w1 hP1 hg1) | go_in)
    go_roundw
    case rel => exact ⟨k + 1, by omega, by go_num, by rw [← NN.out.1, ← NN.out.2.1, ← NN.out.2.2] at hP1; exact hP1, below_grown hb2 (Nat.le_trans hbw.size (by simp)) (Nat.le_refl _) hg1⟩
    case measure => simp [intOf]; omega
end Go.Proofs.YtjkchhcnochjlaaGreatDoor

namespace Go.Proofs.YtjkchhcnochjlaaGreatDoor
open Go.RowKit Go.Maps

theorem storeF_zero {S : Sto} (h : storeF S = 0) : (S.nc ≤ 200 ∧ S.nl ≤ 200 ∧ S.nw ≤ 200) ∧ scan (cellF S.c) S.nc = 0 ∧ scan (lockF S.l) S.nl = 0 ∧ scan (writeF S.k) S.nw = 0 ∧ needs S ∧ once S := by
  unfold storeF at h
  by_cases h0 : 200 < S.nc ∨ 200 < S.nl ∨ 200 < S.nw
  · rw [if_pos h0] at h; exact absurd h (by decide)
  rw [if_neg h0] at h
  by_cases h1 : scan (cellF S.c) S.nc = 0
  case neg => rw [if_pos h1] at h; exact absurd h h1
  rw [if_neg (fun q => q h1)] at h
  by_cases h2 : scan (lockF S.l) S.nl = 0
  case neg => rw [if_pos h2] at h; exact absurd h h2
  rw [if_neg (fun q => q h2)] at h
  by_cases h3 : scan (writeF S.k) S.nw = 0
  case neg => rw [if_pos h3] at h; exact absurd h h3
  rw [if_neg (fun q => q h3)] at h
  by_cases h4 : needs S
  case neg => rw [if_pos h4] at h; exact absurd h (by decide)
  rw [if_neg (fun q => q h4)] at h
  by_cases h5 : once S
  case neg => rw [if_pos h5] at h; exact absurd h (by decide)
  exact ⟨⟨by omega, by omega, by omega⟩, h1, h2, h3, h4, h5⟩
/-- The order of two pairs of numbers. -/
def pairLt (a b c d : Int) : Prop := a < c ∨ a = c ∧ b < d
theorem pairLt.trans {a b c d e f : Int} (h : pairLt a b c d) (h' : pairLt c d e f) : pairLt a b e f := by unfold pairLt at *; omega
theorem pairLt.ne {a b c d : Int} (h : pairLt a b c d) : ¬ (a = c ∧ b = d) := by unfold pairLt at h; omega
theorem rise_pairs {p q : Nat → Int} {n : Nat} (h : ∀ i, i + 1 < n → pairLt (p i) (q i) (p (i + 1)) (q (i + 1))) : ∀ j, j < n → ∀ i, i < j → pairLt (p i) (q i) (p j) (q j)
  | 0, _, i, hi => by omega
  | j + 1, hj, i, hi => by
    rcases Nat.lt_or_ge i j with e | e
    · exact (rise_pairs h j (by omega) i e).trans (h j hj)
    · obtain rfl : i = j := by omega
      exact h i hj
theorem cellF_next {c : Nat → Int} {i : Nat} (h : cellF c (i + 1) = 0) : pairLt (c (i * 3)) (c (i * 3 + 1)) (c ((i + 1) * 3)) (c ((i + 1) * 3 + 1)) := by
  have hz := cellF_zero h
  unfold cellF at h
  rw [if_neg (fun q => q hz.1), if_neg (fun q => q hz.2)] at h
  by_cases e : 0 < i + 1 ∧ ¬ (c ((i + 1 - 1) * 3) < c ((i + 1) * 3) ∨ c ((i + 1 - 1) * 3) = c ((i + 1) * 3) ∧ c ((i + 1 - 1) * 3 + 1) < c ((i + 1) * 3 + 1))
  · rw [if_pos e] at h; exact absurd h (by decide)
  · exact Classical.byContradiction fun q => e ⟨Nat.succ_pos i, q⟩
theorem cells_rise {S : Sto} (h : scan (cellF S.c) S.nc = 0) : ∀ j, j < S.nc → ∀ i, i < j → pairLt (S.c (i * 3)) (S.c (i * 3 + 1)) (S.c (j * 3)) (S.c (j * 3 + 1)) :=
  rise_pairs (p := fun i => S.c (i * 3)) (q := fun i => S.c (i * 3 + 1)) (fun i hi => cellF_next (scan_zero h (i + 1) hi))
theorem puts_at {p q v : Nat → Int} {x y : Int} {j : Nat} (hj : p j = x ∧ q j = y) : ∀ n, j < n → (∀ i, j < i → i < n → ¬ (p i = x ∧ q i = y)) → puts p q v n x y = some (v j)
  | 0, h, _ => by omega
  | n + 1, h, hu => by
    unfold puts putM
    by_cases e : j = n
    · subst e; rw [if_pos ⟨hj.1.symm, hj.2.symm⟩]
    · rw [if_neg (fun r => hu n (by omega) (by omega) ⟨r.1.symm, r.2.symm⟩)]
      exact puts_at hj n (by omega) (fun i h1 h2 => hu i h1 (by omega))
theorem cellM_at {S : Sto} (h : scan (cellF S.c) S.nc = 0) {a b : Int} {j : Nat} (hj : j < S.nc) (e : cellIs S.c a b j) : cellM S S.nc a b = some (S.c (j * 3 + 2)) := by
  refine puts_at (p := fun i => S.c (i * 3)) (q := fun i => S.c (i * 3 + 1)) (v := fun i => S.c (i * 3 + 2)) e S.nc hj (fun i h1 h2 q => ?_)
  refine (cells_rise h i h2 j h1).ne ⟨e.1.trans q.1.symm, e.2.trans q.2.symm⟩
end Go.Proofs.YtjkchhcnochjlaaGreatDoor

namespace Go.Proofs.YtjkchhcnochjlaaGreatDoor
open Go.RowKit

set_option maxRecDepth 10000 in
set_option maxHeartbeats 4000000 in
theorem l2Writes_anyO (S : Sto) (b oo : Nat) (v0 v1 v2 : Value) (w : World) (h : LiesO w b oo S v0 v1 v2) (hn : S.nw ≤ 200) :
    Calls Tryz.prog 114 #[.pointer (some ⟨b, oo, none⟩)] w fun e w' => e = .returned (.int .i64 (scan (writeF S.k) S.nw)) ∧ Below w.heap.size w w' := by
  obtain ⟨a0, c0, a1, c1, a2, c2, rfl, rfl, rfl⟩ := h.2.form
  have H : Hid (LiesO w b oo S (.slice a0 S.nc c0) (.slice a1 S.nl c1) (.slice a2 S.nw c2)) := h
  have p0 := h.1.2.2
  have hb := h.lt
  clear h
  go_enter Tryz.func114, Tryz.ntmps114
  go_wp2
  go_loopw [3] (fun i wr => ∃ k : Nat, k ≤ S.nw ∧ i = .int .i64 k ∧ Hid (scan (writeF S.k) k = 0) ∧ Below w.heap.size w wr) (fun i _ => S.nw - (intOf i).toNat)
  case atStart => exact ⟨0, Nat.zero_le _, rfl, rfl, Below.refl _ _⟩
  case round =>
    obtain ⟨k, hk, rfl, HS, hbw⟩ := hrel
    have e0 := (hbw.cell (p := ⟨b, oo + 2, none⟩) hb).trans p0
    have hbr : b < wr.heap.size := Nat.lt_of_lt_of_le hb hbw.size
    by_cases hlt : k < S.nw
    case neg =>
      have en : k = S.nw := by omega
      have E : Hid (scan (writeF S.k) S.nw = 0) := en ▸ HS.out
      clear HS
      go_wp2
      go_ret
      exact ⟨by rw [E.out]; rfl, hbw⟩
    obtain ⟨g, o, rfl, _, hg, x0, x1, x2, x3⟩ := (H.out.2.2.2.later hbw).at4 hlt
    obtain ⟨n0, N0⟩ : ∃ x, S.k (k * 4) = x := ⟨_, rfl⟩
    rw [N0] at x0
    obtain ⟨n1, N1⟩ : ∃ x, S.k (k * 4 + 1) = x := ⟨_, rfl⟩
    rw [N1] at x1
    obtain ⟨n2, N2⟩ : ∃ x, S.k (k * 4 + 2) = x := ⟨_, rfl⟩
    rw [N2] at x2
    obtain ⟨n3, N3⟩ : ∃ x, S.k (k * 4 + 3) = x := ⟨_, rfl⟩
    rw [N3] at x3
    have NN : Hid (S.k (k * 4) = n0 ∧ S.k (k * 4 + 1) = n1 ∧ S.k (k * 4 + 2) = n2 ∧ S.k (k * 4 + 3) = n3) := ⟨N0, N1, N2, N3⟩
    clear N0 N1 N2 N3
    by_cases h0 : faultOf n0 = 0
    case neg =>
      obtain ⟨f, hff⟩ : ∃ f, faultOf n0 = f := ⟨_, rfl⟩
      have L0 : Hid (∀ w, Calls Tryz.prog 118 #[.int .i64 n0] w fun e w' => e = .returned (.int .i64 f) ∧ w' = w) := fun w => hff ▸ l1Fault_any n0 w
      have E : Hid (scan (writeF S.k) S.nw = f) := by
        have : writeF S.k k = f := by
          unfold writeF
          rw [NN.out.1, NN.out.2.1, NN.out.2.2.1, NN.out.2.2.2]
          rw [if_pos h0]; exact hff
        exact (scan_stop HS.out (by rw [this, ← hff]; exact h0) hlt).trans this
      have hfn : (f == 0) = false := beq_eq_false_iff_ne.2 (by rw [← hff]; exact h0)
      clear hff h0 HS NN
      go_wp2_with fail
      refine (L0.out _).mono ?_
      rintro e w1 ⟨rfl, rfl⟩
      go_wp2
      go_ret
      exact ⟨by rw [E.out]; rfl, by first | exact hbw.alloc hbw.size _ | exact below_dr (hbw.alloc hbw.size _) _ | exact below_dr (below_dr (hbw.alloc hbw.size _) _) _⟩
    have L0 : Hid (∀ w, Calls Tryz.prog 118 #[.int .i64 n0] w fun e w' => e = .returned (.int .i64 0) ∧ w' = w) := fun w => h0 ▸ l1Fault_any n0 w
    have G0 : Hid (faultOf n0 = 0) := h0
    clear h0
    by_cases h1 : 1 ≤ n1 ∧ n1 ≤ 100000
    case neg =>
      have L1 : Hid (decide (1 ≤ n1 ∧ n1 ≤ 100000) = false) := decide_eq_false h1
      have E : Hid (scan (writeF S.k) S.nw = 3) := by
        have : writeF S.k k = 3 := by
          unfold writeF
          rw [NN.out.1, NN.out.2.1, NN.out.2.2.1, NN.out.2.2.2]
          rw [if_neg (fun h => h G0.out)]
          rw [if_pos (by omega)]
        exact (scan_stop HS.out (by rw [this]; decide) hlt).trans this
      clear h1 HS NN G0
      go_wp2_with fail
      refine (L0.out _).mono ?_
      rintro e w1 ⟨rfl, rfl⟩
      go_wp2_with fail
      refine (l2Ts_is _ false L1.out _).mono ?_
      rintro e w1 ⟨rfl, rfl⟩
      go_wp2
      go_ret
      exact ⟨by rw [E.out]; rfl, by first | exact hbw.alloc hbw.size _ | exact below_dr (hbw.alloc hbw.size _) _ | exact below_dr (below_dr (hbw.alloc hbw.size _) _) _⟩
    have L1 : Hid (decide (1 ≤ n1 ∧ n1 ≤ 100000) = true) := decide_eq_true h1
    have G1 : Hid (1 ≤ n1 ∧ n1 ≤ 100000) := h1
    clear h1
    by_cases h2 : 1 ≤ n2 ∧ n2 ≤ 100000
    case neg =>
      have L2 : Hid (decide (1 ≤ n2 ∧ n2 ≤ 100000) = false) := decide_eq_false h2
      have E : Hid (scan (writeF S.k) S.nw = 3) := by
        have : writeF S.k k = 3 := by
          unfold writeF
          rw [NN.out.1, NN.out.2.1, NN.out.2.2.1, NN.out.2.2.2]
          rw [if_neg (fun h => h G0.out)]
          rw [if_pos (by omega)]
        exact (scan_stop HS.out (by rw [this]; decide) hlt).trans this
      clear h2 HS NN G0 G1
      go_wp2_with fail
      refine (L0.out _).mono ?_
      rintro e w1 ⟨rfl, rfl⟩
      go_wp2_with fail
      refine (l2Ts_is _ true L1.out _).mono ?_
      rintro e w1 ⟨rfl, rfl⟩
      go_wp2_with fail
      refine (l2Ts_is _ false L2.out _).mono ?_
      rintro e w1 ⟨rfl, rfl⟩
      go_wp2
      go_ret
      exact ⟨by rw [E.out]; rfl, by first | exact hbw.alloc hbw.size _ | exact below_dr (hbw.alloc hbw.size _) _ | exact below_dr (below_dr (hbw.alloc hbw.size _) _) _⟩
    have L2 : Hid (decide (1 ≤ n2 ∧ n2 ≤ 100000) = true) := decide_eq_true h2
    have G2 : Hid (1 ≤ n2 ∧ n2 ≤ 100000) := h2
    clear h2
    by_cases h3 : 1 ≤ n3 ∧ n3 ≤ 4
    case neg =>
      have L3 : Hid (decide (1 ≤ n3 ∧ n3 ≤ 4) = false) := decide_eq_false h3
      have E : Hid (scan (writeF S.k) S.nw = 3) := by
        have : writeF S.k k = 3 := by
          unfold writeF
          rw [NN.out.1, NN.out.2.1, NN.out.2.2.1, NN.out.2.2.2]
          rw [if_neg (fun h => h G0.out)]
          rw [if_pos (by omega)]
        exact (scan_stop HS.out (by rw [this]; decide) hlt).trans this
      clear h3 HS NN G0 G1 G2
      go_wp2_with fail
      refine (L0.out _).mono ?_
      rintro e w1 ⟨rfl, rfl⟩
      go_wp2_with fail
      refine (l2Ts_is _ true L1.out _).mono ?_
      rintro e w1 ⟨rfl, rfl⟩
      go_wp2_with fail
      refine (l2Ts_is _ true L2.out _).mono ?_
      rintro e w1 ⟨rfl, rfl⟩
      go_wp2_with fail
      refine (l1In_is _ _ _ false L3.out _).mono ?_
      rintro e w1 ⟨rfl, rfl⟩
      go_wp2
      go_ret
      exact ⟨by rw [E.out]; rfl, by first | exact hbw.alloc hbw.size _ | exact below_dr (hbw.alloc hbw.size _) _ | exact below_dr (below_dr (hbw.alloc hbw.size _) _) _⟩
    have L3 : Hid (decide (1 ≤ n3 ∧ n3 ≤ 4) = true) := decide_eq_true h3
    have G3 : Hid (1 ≤ n3 ∧ n3 ≤ 4) := h3
    clear h3
    rcases Nat.eq_zero_or_pos k with hk0 | hk0
    · by_cases q4 : n3 = 4
      · by_cases q5 : n1 = n2
        · have E : Hid (scan (writeF S.k) (k + 1) = 0) := by
            have : writeF S.k k = 0 := by
              unfold writeF
              rw [NN.out.1, NN.out.2.1, NN.out.2.2.1, NN.out.2.2.2]
              rw [if_neg (fun h => h G0.out)]
              have g1 := G1.out; have g2 := G2.out; have g3 := G3.out; rw [if_neg (by omega)]
              have hft : fits S.k k := by unfold fits; rw [NN.out.2.1, NN.out.2.2.1, NN.out.2.2.2]; omega
              rw [if_neg (by rintro (h | h); exact absurd h (by omega); exact h hft)]
            exact scan_go HS.out this
          have dk : decide (0 < k) = false := decide_eq_false (by omega)
          have w4 : (n3 == 4) = true := beq_iff_eq.2 q4
          have w6 : (n3 != 4) = false := by rw [q4]; rfl
          have w5 : (n1 != n2) = false := by rw [q5]; exact bne_self_eq_false _
          clear HS NN G0 G1 G2 G3 q4 q5 hk0
          go_wp2_with fail
          refine (L0.out _).mono ?_
          rintro e w1 ⟨rfl, rfl⟩
          go_wp2_with fail
          refine (l2Ts_is _ true L1.out _).mono ?_
          rintro e w1 ⟨rfl, rfl⟩
          go_wp2_with fail
          refine (l2Ts_is _ true L2.out _).mono ?_
          rintro e w1 ⟨rfl, rfl⟩
          go_wp2_with fail
          refine (l1In_is _ _ _ true L3.out _).mono ?_
          rintro e w1 ⟨rfl, rfl⟩
          go_wp2_with fail
          go_quiet (fail)
          go_wp2_with fail
          try go_quiet (fail)
          go_wp2
          go_roundw
          case rel => exact ⟨k + 1, by omega, by go_num, E, by first | exact hbw.alloc hbw.size _ | exact below_dr (hbw.alloc hbw.size _) _ | exact below_dr (below_dr (hbw.alloc hbw.size _) _) _⟩
          case measure => simp [intOf]; omega
        · have E : Hid (scan (writeF S.k) S.nw = 1) := by
            have : writeF S.k k = 1 := by
              unfold writeF
              rw [NN.out.1, NN.out.2.1, NN.out.2.2.1, NN.out.2.2.2]
              rw [if_neg (fun h => h G0.out)]
              have g1 := G1.out; have g2 := G2.out; have g3 := G3.out; rw [if_neg (by omega)]
              rw [if_pos (Or.inr (fun q => by unfold fits at q; rw [NN.out.2.1, NN.out.2.2.1, NN.out.2.2.2] at q; omega))]
            exact (scan_stop HS.out (by rw [this]; decide) hlt).trans this
          have dk : decide (0 < k) = false := decide_eq_false (by omega)
          have w4 : (n3 == 4) = true := beq_iff_eq.2 q4
          have w5 : (n1 != n2) = true := bne_iff_ne.2 q5
          clear HS NN G0 G1 G2 G3 q4 q5 hk0
          go_wp2_with fail
          refine (L0.out _).mono ?_
          rintro e w1 ⟨rfl, rfl⟩
          go_wp2_with fail
          refine (l2Ts_is _ true L1.out _).mono ?_
          rintro e w1 ⟨rfl, rfl⟩
          go_wp2_with fail
          refine (l2Ts_is _ true L2.out _).mono ?_
          rintro e w1 ⟨rfl, rfl⟩
          go_wp2_with fail
          refine (l1In_is _ _ _ true L3.out _).mono ?_
          rintro e w1 ⟨rfl, rfl⟩
          go_wp2_with fail
          go_quiet (fail)
          go_wp2_with fail
          try go_quiet (fail)
          go_wp2
          go_ret
          exact ⟨by rw [E.out]; rfl, by first | exact hbw.alloc hbw.size _ | exact below_dr (hbw.alloc hbw.size _) _ | exact below_dr (below_dr (hbw.alloc hbw.size _) _) _⟩
      · by_cases q5 : n1 ≤ n2
        · have E : Hid (scan (writeF S.k) S.nw = 1) := by
            have : writeF S.k k = 1 := by
              unfold writeF
              rw [NN.out.1, NN.out.2.1, NN.out.2.2.1, NN.out.2.2.2]
              rw [if_neg (fun h => h G0.out)]
              have g1 := G1.out; have g2 := G2.out; have g3 := G3.out; rw [if_neg (by omega)]
              rw [if_pos (Or.inr (fun q => by unfold fits at q; rw [NN.out.2.1, NN.out.2.2.1, NN.out.2.2.2] at q; omega))]
            exact (scan_stop HS.out (by rw [this]; decide) hlt).trans this
          have dk : decide (0 < k) = false := decide_eq_false (by omega)
          have w4 : (n3 == 4) = false := beq_eq_false_iff_ne.2 q4
          have w6 : (n3 != 4) = true := bne_iff_ne.2 q4
          have w5 : decide (n1 ≤ n2) = true := decide_eq_true q5
          clear HS NN G0 G1 G2 G3 q4 q5 hk0
          go_wp2_with fail
          refine (L0.out _).mono ?_
          rintro e w1 ⟨rfl, rfl⟩
          go_wp2_with fail
          refine (l2Ts_is _ true L1.out _).mono ?_
          rintro e w1 ⟨rfl, rfl⟩
          go_wp2_with fail
          refine (l2Ts_is _ true L2.out _).mono ?_
          rintro e w1 ⟨rfl, rfl⟩
          go_wp2_with fail
          refine (l1In_is _ _ _ true L3.out _).mono ?_
          rintro e w1 ⟨rfl, rfl⟩
          go_wp2_with fail
          go_quiet (fail)
          go_wp2_with fail
          try go_quiet (fail)
          go_wp2
          go_ret
          exact ⟨by rw [E.out]; rfl, by first | exact hbw.alloc hbw.size _ | exact below_dr (hbw.alloc hbw.size _) _ | exact below_dr (below_dr (hbw.alloc hbw.size _) _) _⟩
        · have E : Hid (scan (writeF S.k) (k + 1) = 0) := by
            have : writeF S.k k = 0 := by
              unfold writeF
              rw [NN.out.1, NN.out.2.1, NN.out.2.2.1, NN.out.2.2.2]
              rw [if_neg (fun h => h G0.out)]
              have g1 := G1.out; have g2 := G2.out; have g3 := G3.out; rw [if_neg (by omega)]
              have hft : fits S.k k := by unfold fits; rw [NN.out.2.1, NN.out.2.2.1, NN.out.2.2.2]; omega
              rw [if_neg (by rintro (h | h); exact absurd h (by omega); exact h hft)]
            exact scan_go HS.out this
          have dk : decide (0 < k) = false := decide_eq_false (by omega)
          have w4 : (n3 == 4) = false := beq_eq_false_iff_ne.2 q4
          have w6 : (n3 != 4) = true := bne_iff_ne.2 q4
          have w5 : decide (n1 ≤ n2) = false := decide_eq_false q5
          clear HS NN G0 G1 G2 G3 q4 q5 hk0
          go_wp2_with fail
          refine (L0.out _).mono ?_
          rintro e w1 ⟨rfl, rfl⟩
          go_wp2_with fail
          refine (l2Ts_is _ true L1.out _).mono ?_
          rintro e w1 ⟨rfl, rfl⟩
          go_wp2_with fail
          refine (l2Ts_is _ true L2.out _).mono ?_
          rintro e w1 ⟨rfl, rfl⟩
          go_wp2_with fail
          refine (l1In_is _ _ _ true L3.out _).mono ?_
          rintro e w1 ⟨rfl, rfl⟩
          go_wp2_with fail
          go_quiet (fail)
          go_wp2_with fail
          try go_quiet (fail)
          go_wp2
          go_roundw
          case rel => exact ⟨k + 1, by omega, by go_num, E, by first | exact hbw.alloc hbw.size _ | exact below_dr (hbw.alloc hbw.size _) _ | exact below_dr (below_dr (hbw.alloc hbw.size _) _) _⟩
          case measure => simp [intOf]; omega
    obtain ⟨g', o', he, _, _, y0, y1, _, _⟩ := (H.out.2.2.2.later hbw).at4 (k := k - 1) (by omega)
    simp only [Option.some.injEq, Addr.mk.injEq, and_true] at he
    obtain ⟨rfl, rfl⟩ := he
    obtain ⟨m0, M0⟩ : ∃ x, S.k ((k - 1) * 4) = x := ⟨_, rfl⟩
    rw [M0] at y0
    obtain ⟨m1, M1⟩ : ∃ x, S.k ((k - 1) * 4 + 1) = x := ⟨_, rfl⟩
    rw [M1] at y1
    have MM : Hid (S.k ((k - 1) * 4) = m0 ∧ S.k ((k - 1) * 4 + 1) = m1) := ⟨M0, M1⟩
    clear M0 M1
    have dk : decide (0 < k) = true := decide_eq_true hk0
    by_cases r1 : n0 < m0
    · have E : Hid (scan (writeF S.k) S.nw = 1) := by
        have : writeF S.k k = 1 := by
          unfold writeF
          rw [NN.out.1, NN.out.2.1, NN.out.2.2.1, NN.out.2.2.2]
          rw [if_neg (fun h => h G0.out)]
          have g1 := G1.out; have g2 := G2.out; have g3 := G3.out; rw [if_neg (by omega)]
          rw [MM.out.1, MM.out.2]
          rw [if_pos (Or.inl (by omega))]
        exact (scan_stop HS.out (by rw [this]; decide) hlt).trans this
      clear HS NN G0 G1 G2 G3 MM
      go_wp2_with fail
      refine (L0.out _).mono ?_
      rintro e w1 ⟨rfl, rfl⟩
      go_wp2_with fail
      refine (l2Ts_is _ true L1.out _).mono ?_
      rintro e w1 ⟨rfl, rfl⟩
      go_wp2_with fail
      refine (l2Ts_is _ true L2.out _).mono ?_
      rintro e w1 ⟨rfl, rfl⟩
      go_wp2_with fail
      refine (l1In_is _ _ _ true L3.out _).mono ?_
      rintro e w1 ⟨rfl, rfl⟩
      go_wp2_with fail
      go_quiet (fail)
      go_wp2
      go_ret
      exact ⟨by rw [E.out]; rfl, by first | exact hbw.alloc hbw.size _ | exact below_dr (hbw.alloc hbw.size _) _ | exact below_dr (below_dr (hbw.alloc hbw.size _) _) _⟩
    by_cases r2 : n0 = m0
    · by_cases r3 : n1 ≤ m1
      · have E : Hid (scan (writeF S.k) S.nw = 1) := by
          have : writeF S.k k = 1 := by
            unfold writeF
            rw [NN.out.1, NN.out.2.1, NN.out.2.2.1, NN.out.2.2.2]
            rw [if_neg (fun h => h G0.out)]
            have g1 := G1.out; have g2 := G2.out; have g3 := G3.out; rw [if_neg (by omega)]
            rw [MM.out.1, MM.out.2]
            rw [if_pos (Or.inl (by omega))]
          exact (scan_stop HS.out (by rw [this]; decide) hlt).trans this
        have s1 : decide (n0 < m0) = false := decide_eq_false r1
        have s2 : (n0 == m0) = true := beq_iff_eq.2 r2
        have s3 : decide (n1 ≤ m1) = true := decide_eq_true r3
        clear HS NN G0 G1 G2 G3 MM r1 r2
        go_wp2_with fail
        refine (L0.out _).mono ?_
        rintro e w1 ⟨rfl, rfl⟩
        go_wp2_with fail
        refine (l2Ts_is _ true L1.out _).mono ?_
        rintro e w1 ⟨rfl, rfl⟩
        go_wp2_with fail
        refine (l2Ts_is _ true L2.out _).mono ?_
        rintro e w1 ⟨rfl, rfl⟩
        go_wp2_with fail
        refine (l1In_is _ _ _ true L3.out _).mono ?_
        rintro e w1 ⟨rfl, rfl⟩
        go_wp2_with fail
        go_quiet (fail)
        go_wp2
        go_ret
        exact ⟨by rw [E.out]; rfl, by first | exact hbw.alloc hbw.size _ | exact below_dr (hbw.alloc hbw.size _) _ | exact below_dr (below_dr (hbw.alloc hbw.size _) _) _⟩
      · by_cases q4 : n3 = 4
        · by_cases q5 : n1 = n2
          · have E : Hid (scan (writeF S.k) (k + 1) = 0) := by
              have : writeF S.k k = 0 := by
                unfold writeF
                rw [NN.out.1, NN.out.2.1, NN.out.2.2.1, NN.out.2.2.2]
                rw [if_neg (fun h => h G0.out)]
                have g1 := G1.out; have g2 := G2.out; have g3 := G3.out; rw [if_neg (by omega)]
                rw [MM.out.1, MM.out.2]
                have hft : fits S.k k := by unfold fits; rw [NN.out.2.1, NN.out.2.2.1, NN.out.2.2.2]; omega
                rw [if_neg (by rintro (h | h); exact absurd h (by omega); exact h hft)]
              exact scan_go HS.out this
            have s1 : decide (n0 < m0) = false := decide_eq_false r1
            have s2 : (n0 == m0) = true := beq_iff_eq.2 r2
            have s3 : decide (n1 ≤ m1) = false := decide_eq_false r3
            have w4 : (n3 == 4) = true := beq_iff_eq.2 q4
            have w6 : (n3 != 4) = false := by rw [q4]; rfl
            have w5 : (n1 != n2) = false := by rw [q5]; exact bne_self_eq_false _
            clear HS NN G0 G1 G2 G3 q4 q5 MM r1 r2 r3
            go_wp2_with fail
            refine (L0.out _).mono ?_
            rintro e w1 ⟨rfl, rfl⟩
            go_wp2_with fail
            refine (l2Ts_is _ true L1.out _).mono ?_
            rintro e w1 ⟨rfl, rfl⟩
            go_wp2_with fail
            refine (l2Ts_is _ true L2.out _).mono ?_
            rintro e w1 ⟨rfl, rfl⟩
            go_wp2_with fail
            refine (l1In_is _ _ _ true L3.out _).mono ?_
            rintro e w1 ⟨rfl, rfl⟩
            go_wp2_with fail
            go_quiet (fail)
            go_wp2_with fail
            try go_quiet (fail)
            go_wp2
            go_roundw
            case rel => exact ⟨k + 1, by omega, by go_num, E, by first | exact hbw.alloc hbw.size _ | exact below_dr (hbw.alloc hbw.size _) _ | exact below_dr (below_dr (hbw.alloc hbw.size _) _) _⟩
            case measure => simp [intOf]; omega
          · have E : Hid (scan (writeF S.k) S.nw = 1) := by
              have : writeF S.k k = 1 := by
                unfold writeF
                rw [NN.out.1, NN.out.2.1, NN.out.2.2.1, NN.out.2.2.2]
                rw [if_neg (fun h => h G0.out)]
                have g1 := G1.out; have g2 := G2.out; have g3 := G3.out; rw [if_neg (by omega)]
                rw [MM.out.1, MM.out.2]
                rw [if_pos (Or.inr (fun q => by unfold fits at q; rw [NN.out.2.1, NN.out.2.2.1, NN.out.2.2.2] at q; omega))]
              exact (scan_stop HS.out (by rw [this]; decide) hlt).trans this
            have s1 : decide (n0 < m0) = false := decide_eq_false r1
            have s2 : (n0 == m0) = true := beq_iff_eq.2 r2
            have s3 : decide (n1 ≤ m1) = false := decide_eq_false r3
            have w4 : (n3 == 4) = true := beq_iff_eq.2 q4
            have w5 : (n1 != n2) = true := bne_iff_ne.2 q5
            clear HS NN G0 G1 G2 G3 q4 q5 MM r1 r2 r3
            go_wp2_with fail
            refine (L0.out _).mono ?_
            rintro e w1 ⟨rfl, rfl⟩
            go_wp2_with fail
            refine (l2Ts_is _ true L1.out _).mono ?_
            rintro e w1 ⟨rfl, rfl⟩
            go_wp2_with fail
            refine (l2Ts_is _ true L2.out _).mono ?_
            rintro e w1 ⟨rfl, rfl⟩
            go_wp2_with fail
            refine (l1In_is _ _ _ true L3.out _).mono ?_
            rintro e w1 ⟨rfl, rfl⟩
            go_wp2_with fail
            go_quiet (fail)
            go_wp2_with fail
            try go_quiet (fail)
            go_wp2
            go_ret
            exact ⟨by rw [E.out]; rfl, by first | exact hbw.alloc hbw.size _ | exact below_dr (hbw.alloc hbw.size _) _ | exact below_dr (below_dr (hbw.alloc hbw.size _) _) _⟩
        · by_cases q5 : n1 ≤ n2
          · have E : Hid (scan (writeF S.k) S.nw = 1) := by
              have : writeF S.k k = 1 := by
                unfold writeF
                rw [NN.out.1, NN.out.2.1, NN.out.2.2.1, NN.out.2.2.2]
                rw [if_neg (fun h => h G0.out)]
                have g1 := G1.out; have g2 := G2.out; have g3 := G3.out; rw [if_neg (by omega)]
                rw [MM.out.1, MM.out.2]
                rw [if_pos (Or.inr (fun q => by unfold fits at q; rw [NN.out.2.1, NN.out.2.2.1, NN.out.2.2.2] at q; omega))]
              exact (scan_stop HS.out (by rw [this]; decide) hlt).trans this
            have s1 : decide (n0 < m0) = false := decide_eq_false r1
            have s2 : (n0 == m0) = true := beq_iff_eq.2 r2
            have s3 : decide (n1 ≤ m1) = false := decide_eq_false r3
            have w4 : (n3 == 4) = false := beq_eq_false_iff_ne.2 q4
            have w6 : (n3 != 4) = true := bne_iff_ne.2 q4
            have w5 : decide (n1 ≤ n2) = true := decide_eq_true q5
            clear HS NN G0 G1 G2 G3 q4 q5 MM r1 r2 r3
            go_wp2_with fail
            refine (L0.out _).mono ?_
            rintro e w1 ⟨rfl, rfl⟩
            go_wp2_with fail
            refine (l2Ts_is _ true L1.out _).mono ?_
            rintro e w1 ⟨rfl, rfl⟩
            go_wp2_with fail
            refine (l2Ts_is _ true L2.out _).mono ?_
            rintro e w1 ⟨rfl, rfl⟩
            go_wp2_with fail
            refine (l1In_is _ _ _ true L3.out _).mono ?_
            rintro e w1 ⟨rfl, rfl⟩
            go_wp2_with fail
            go_quiet (fail)
            go_wp2_with fail
            try go_quiet (fail)
            go_wp2
            go_ret
            exact ⟨by rw [E.out]; rfl, by first | exact hbw.alloc hbw.size _ | exact below_dr (hbw.alloc hbw.size _) _ | exact below_dr (below_dr (hbw.alloc hbw.size _) _) _⟩
          · have E : Hid (scan (writeF S.k) (k + 1) = 0) := by
              have : writeF S.k k = 0 := by
                unfold writeF
                rw [NN.out.1, NN.out.2.1, NN.out.2.2.1, NN.out.2.2.2]
                rw [if_neg (fun h => h G0.out)]
                have g1 := G1.out; have g2 := G2.out; have g3 := G3.out; rw [if_neg (by omega)]
                rw [MM.out.1, MM.out.2]
                have hft : fits S.k k := by unfold fits; rw [NN.out.2.1, NN.out.2.2.1, NN.out.2.2.2]; omega
                rw [if_neg (by rintro (h | h); exact absurd h (by omega); exact h hft)]
              exact scan_go HS.out this
            have s1 : decide (n0 < m0) = false := decide_eq_false r1
            have s2 : (n0 == m0) = true := beq_iff_eq.2 r2
            have s3 : decide (n1 ≤ m1) = false := decide_eq_false r3
            have w4 : (n3 == 4) = false := beq_eq_false_iff_ne.2 q4
            have w6 : (n3 != 4) = true := bne_iff_ne.2 q4
            have w5 : decide (n1 ≤ n2) = false := decide_eq_false q5
            clear HS NN G0 G1 G2 G3 q4 q5 MM r1 r2 r3
            go_wp2_with fail
            refine (L0.out _).mono ?_
            rintro e w1 ⟨rfl, rfl⟩
            go_wp2_with fail
            refine (l2Ts_is _ true L1.out _).mono ?_
            rintro e w1 ⟨rfl, rfl⟩
            go_wp2_with fail
            refine (l2Ts_is _ true L2.out _).mono ?_
            rintro e w1 ⟨rfl, rfl⟩
            go_wp2_with fail
            refine (l1In_is _ _ _ true L3.out _).mono ?_
            rintro e w1 ⟨rfl, rfl⟩
            go_wp2_with fail
            go_quiet (fail)
            go_wp2_with fail
            try go_quiet (fail)
            go_wp2
            go_roundw
            case rel => exact ⟨k + 1, by omega, by go_num, E, by first | exact hbw.alloc hbw.size _ | exact below_dr (hbw.alloc hbw.size _) _ | exact below_dr (below_dr (hbw.alloc hbw.size _) _) _⟩
            case measure => simp [intOf]; omega
    · by_cases q4 : n3 = 4
      · by_cases q5 : n1 = n2
        · have E : Hid (scan (writeF S.k) (k + 1) = 0) := by
            have : writeF S.k k = 0 := by
              unfold writeF
              rw [NN.out.1, NN.out.2.1, NN.out.2.2.1, NN.out.2.2.2]
              rw [if_neg (fun h => h G0.out)]
              have g1 := G1.out; have g2 := G2.out; have g3 := G3.out; rw [if_neg (by omega)]
              rw [MM.out.1, MM.out.2]
              have hft : fits S.k k := by unfold fits; rw [NN.out.2.1, NN.out.2.2.1, NN.out.2.2.2]; omega
              rw [if_neg (by rintro (h | h); exact absurd h (by omega); exact h hft)]
            exact scan_go HS.out this
          have s1 : decide (n0 < m0) = false := decide_eq_false r1
          have s2 : (n0 == m0) = false := beq_eq_false_iff_ne.2 r2
          have w4 : (n3 == 4) = true := beq_iff_eq.2 q4
          have w6 : (n3 != 4) = false := by rw [q4]; rfl
          have w5 : (n1 != n2) = false := by rw [q5]; exact bne_self_eq_false _
          clear HS NN G0 G1 G2 G3 q4 q5 MM r1 r2
          go_wp2_with fail
          refine (L0.out _).mono ?_
          rintro e w1 ⟨rfl, rfl⟩
          go_wp2_with fail
          refine (l2Ts_is _ true L1.out _).mono ?_
          rintro e w1 ⟨rfl, rfl⟩
          go_wp2_with fail
          refine (l2Ts_is _ true L2.out _).mono ?_
          rintro e w1 ⟨rfl, rfl⟩
          go_wp2_with fail
          refine (l1In_is _ _ _ true L3.out _).mono ?_
          rintro e w1 ⟨rfl, rfl⟩
          go_wp2_with fail
          go_quiet (fail)
          go_wp2_with fail
          try go_quiet (fail)
          go_wp2
          go_roundw
          case rel => exact ⟨k + 1, by omega, by go_num, E, by first | exact hbw.alloc hbw.size _ | exact below_dr (hbw.alloc hbw.size _) _ | exact below_dr (below_dr (hbw.alloc hbw.size _) _) _⟩
          case measure => simp [intOf]; omega
        · have E : Hid (scan (writeF S.k) S.nw = 1) := by
            have : writeF S.k k = 1 := by
              unfold writeF
              rw [NN.out.1, NN.out.2.1, NN.out.2.2.1, NN.out.2.2.2]
              rw [if_neg (fun h => h G0.out)]
              have g1 := G1.out; have g2 := G2.out; have g3 := G3.out; rw [if_neg (by omega)]
              rw [MM.out.1, MM.out.2]
              rw [if_pos (Or.inr (fun q => by unfold fits at q; rw [NN.out.2.1, NN.out.2.2.1, NN.out.2.2.2] at q; omega))]
            exact (scan_stop HS.out (by rw [this]; decide) hlt).trans this
          have s1 : decide (n0 < m0) = false := decide_eq_false r1
          have s2 : (n0 == m0) = false := beq_eq_false_iff_ne.2 r2
          have w4 : (n3 == 4) = true := beq_iff_eq.2 q4
          have w5 : (n1 != n2) = true := bne_iff_ne.2 q5
          clear HS NN G0 G1 G2 G3 q4 q5 MM r1 r2
          go_wp2_with fail
          refine (L0.out _).mono ?_
          rintro e w1 ⟨rfl, rfl⟩
          go_wp2_with fail
          refine (l2Ts_is _ true L1.out _).mono ?_
          rintro e w1 ⟨rfl, rfl⟩
          go_wp2_with fail
          refine (l2Ts_is _ true L2.out _).mono ?_
          rintro e w1 ⟨rfl, rfl⟩
          go_wp2_with fail
          refine (l1In_is _ _ _ true L3.out _).mono ?_
          rintro e w1 ⟨rfl, rfl⟩
          go_wp2_with fail
          go_quiet (fail)
          go_wp2_with fail
          try go_quiet (fail)
          go_wp2
          go_ret
          exact ⟨by rw [E.out]; rfl, by first | exact hbw.alloc hbw.size _ | exact below_dr (hbw.alloc hbw.size _) _ | exact below_dr (below_dr (hbw.alloc hbw.size _) _) _⟩
      · by_cases q5 : n1 ≤ n2
        · have E : Hid (scan (writeF S.k) S.nw = 1) := by
            have : writeF S.k k = 1 := by
              unfold writeF
              rw [NN.out.1, NN.out.2.1, NN.out.2.2.1, NN.out.2.2.2]
              rw [if_neg (fun h => h G0.out)]
              have g1 := G1.out; have g2 := G2.out; have g3 := G3.out; rw [if_neg (by omega)]
              rw [MM.out.1, MM.out.2]
              rw [if_pos (Or.inr (fun q => by unfold fits at q; rw [NN.out.2.1, NN.out.2.2.1, NN.out.2.2.2] at q; omega))]
            exact (scan_stop HS.out (by rw [this]; decide) hlt).trans this
          have s1 : decide (n0 < m0) = false := decide_eq_false r1
          have s2 : (n0 == m0) = false := beq_eq_false_iff_ne.2 r2
          have w4 : (n3 == 4) = false := beq_eq_false_iff_ne.2 q4
          have w6 : (n3 != 4) = true := bne_iff_ne.2 q4
          have w5 : decide (n1 ≤ n2) = true := decide_eq_true q5
          clear HS NN G0 G1 G2 G3 q4 q5 MM r1 r2
          go_wp2_with fail
          refine (L0.out _).mono ?_
          rintro e w1 ⟨rfl, rfl⟩
          go_wp2_with fail
          refine (l2Ts_is _ true L1.out _).mono ?_
          rintro e w1 ⟨rfl, rfl⟩
          go_wp2_with fail
          refine (l2Ts_is _ true L2.out _).mono ?_
          rintro e w1 ⟨rfl, rfl⟩
          go_wp2_with fail
          refine (l1In_is _ _ _ true L3.out _).mono ?_
          rintro e w1 ⟨rfl, rfl⟩
          go_wp2_with fail
          go_quiet (fail)
          go_wp2_with fail
          try go_quiet (fail)
          go_wp2
          go_ret
          exact ⟨by rw [E.out]; rfl, by first | exact hbw.alloc hbw.size _ | exact below_dr (hbw.alloc hbw.size _) _ | exact below_dr (below_dr (hbw.alloc hbw.size _) _) _⟩
        · have E : Hid (scan (writeF S.k) (k + 1) = 0) := by
            have : writeF S.k k = 0 := by
              unfold writeF
              rw [NN.out.1, NN.out.2.1, NN.out.2.2.1, NN.out.2.2.2]
              rw [if_neg (fun h => h G0.out)]
              have g1 := G1.out; have g2 := G2.out; have g3 := G3.out; rw [if_neg (by omega)]
              rw [MM.out.1, MM.out.2]
              have hft : fits S.k k := by unfold fits; rw [NN.out.2.1, NN.out.2.2.1, NN.out.2.2.2]; omega
              rw [if_neg (by rintro (h | h); exact absurd h (by omega); exact h hft)]
            exact scan_go HS.out this
          have s1 : decide (n0 < m0) = false := decide_eq_false r1
          have s2 : (n0 == m0) = false := beq_eq_false_iff_ne.2 r2
          have w4 : (n3 == 4) = false := beq_eq_false_iff_ne.2 q4
          have w6 : (n3 != 4) = true := bne_iff_ne.2 q4
          have w5 : decide (n1 ≤ n2) = false := decide_eq_false q5
          clear HS NN G0 G1 G2 G3 q4 q5 MM r1 r2
          go_wp2_with fail
          refine (L0.out _).mono ?_
          rintro e w1 ⟨rfl, rfl⟩
          go_wp2_with fail
          refine (l2Ts_is _ true L1.out _).mono ?_
          rintro e w1 ⟨rfl, rfl⟩
          go_wp2_with fail
          refine (l2Ts_is _ true L2.out _).mono ?_
          rintro e w1 ⟨rfl, rfl⟩
          go_wp2_with fail
          refine (l1In_is _ _ _ true L3.out _).mono ?_
          rintro e w1 ⟨rfl, rfl⟩
          go_wp2_with fail
          go_quiet (fail)
          go_wp2_with fail
          try go_quiet (fail)
          go_wp2
          go_roundw
          case rel => exact ⟨k + 1, by omega, by go_num, E, by first | exact hbw.alloc hbw.size _ | exact below_dr (hbw.alloc hbw.size _) _ | exact below_dr (below_dr (hbw.alloc hbw.size _) _) _⟩
          case measure => simp [intOf]; omega
end Go.Proofs.YtjkchhcnochjlaaGreatDoor

namespace Go.Proofs.YtjkchhcnochjlaaGreatDoor
section
open Go.RowKit
/-- The first place below n at which p holds, or -1. -/
def FirstAt (p : Nat → Prop) (n : Nat) (r : Int) : Prop := (r = -1 ∧ ∀ i, i < n → ¬ p i) ∨ ∃ i : Nat, i < n ∧ r = i ∧ p i ∧ ∀ j, j < i → ¬ p j
theorem FirstAt.at {p : Nat → Prop} {n : Nat} {i : Nat} (h : FirstAt p n i) : i < n ∧ p i ∧ ∀ j, j < i → ¬ p j := by
  rcases h with ⟨e, _⟩ | ⟨j, hj, e, hp, hq⟩
  · omega
  · obtain rfl : i = j := by omega
    exact ⟨hj, hp, hq⟩

set_option maxRecDepth 10000 in
set_option maxHeartbeats 2000000 in
theorem l2Cell_anyO (S : Sto) (b oo : Nat) (v0 v1 v2 : Value) (a s : Int) (w : World) (h : LiesO w b oo S v0 v1 v2) (hn : S.nc ≤ 200) :
    Calls Tryz.prog 155 #[.pointer (some ⟨b, oo, none⟩), .int .i64 a, .int .i64 s] w fun e w' => ∃ r : Int, e = .returned (.int .i64 r) ∧ FirstAt (cellIs S.c a s) S.nc r ∧ w' = w := by
  obtain ⟨a0, c0, a1, c1, a2, c2, rfl, rfl, rfl⟩ := h.2.form
  have H : Hid (LiesO w b oo S (.slice a0 S.nc c0) (.slice a1 S.nl c1) (.slice a2 S.nw c2)) := h
  have p0 := h.1.1
  have hb := h.lt
  clear h
  go_enter Tryz.func155, Tryz.ntmps155
  go_wp2
  go_loop [7] (fun i => ∃ k : Nat, k ≤ S.nc ∧ i = .int .i64 k ∧ Hid (∀ j, j < k → ¬ cellIs S.c a s j)) (fun i => S.nc - (intOf i).toNat)
  case atStart => exact ⟨0, Nat.zero_le _, rfl, fun j hj => absurd hj (Nat.not_lt_zero j)⟩
  case round =>
    obtain ⟨k, hk, rfl, HS⟩ := hrel
    by_cases hlt : k < S.nc
    case neg =>
      obtain rfl : k = S.nc := by omega
      go_wp2
      go_ret
      exact ⟨_, rfl, Or.inl ⟨rfl, HS.out⟩, rfl⟩
    obtain ⟨g, o, rfl, _, hg, x0, x1, x2⟩ := H.out.2.1.at3 hlt
    obtain ⟨n0, N0⟩ : ∃ x, S.c (k * 3) = x := ⟨_, rfl⟩
    obtain ⟨n1, N1⟩ : ∃ x, S.c (k * 3 + 1) = x := ⟨_, rfl⟩
    rw [N0] at x0; rw [N1] at x1
    by_cases h0 : n0 = a
    · by_cases h1 : n1 = s
      · have E : Hid (cellIs S.c a s k) := ⟨N0.trans h0, N1.trans h1⟩
        clear N0 N1
        subst h0 h1
        go_wp2
        go_ret
        exact ⟨_, rfl, Or.inr ⟨k, hlt, rfl, E.out, HS.out⟩, rfl⟩
      · have E : Hid (∀ j, j < k + 1 → ¬ cellIs S.c a s j) := fun j hj => by
          rcases Nat.lt_or_ge j k with h | h
          · exact HS.out j h
          · obtain rfl : j = k := by omega
            exact fun q => h1 (N1.symm.trans q.2)
        have d1 : (n1 == s) = false := beq_eq_false_iff_ne.2 h1
        clear N0 N1 HS h1
        subst h0
        go_wp2
        go_round
        case rel => exact ⟨k + 1, by omega, by go_num, E⟩
        case measure => simp [intOf]; omega
    · have E : Hid (∀ j, j < k + 1 → ¬ cellIs S.c a s j) := fun j hj => by
        rcases Nat.lt_or_ge j k with h | h
        · exact HS.out j h
        · obtain rfl : j = k := by omega
          exact fun q => h0 (N0.symm.trans q.1)
      have d0 : (n0 == a) = false := beq_eq_false_iff_ne.2 h0
      clear N0 N1 HS h0
      go_wp2
      go_round
      case rel => exact ⟨k + 1, by omega, by go_num, E⟩
      case measure => simp [intOf]; omega
set_option maxRecDepth 10000 in
set_option maxHeartbeats 2000000 in
theorem l2Write_anyO (S : Sto) (b oo : Nat) (v0 v1 v2 : Value) (a s : Int) (w : World) (h : LiesO w b oo S v0 v1 v2) (hn : S.nw ≤ 200) :
    Calls Tryz.prog 54 #[.pointer (some ⟨b, oo, none⟩), .int .i64 a, .int .i64 s] w fun e w' => ∃ r : Int, e = .returned (.int .i64 r) ∧ FirstAt (writeIs S.k a s) S.nw r ∧ w' = w := by
  obtain ⟨a0, c0, a1, c1, a2, c2, rfl, rfl, rfl⟩ := h.2.form
  have H : Hid (LiesO w b oo S (.slice a0 S.nc c0) (.slice a1 S.nl c1) (.slice a2 S.nw c2)) := h
  have p0 := h.1.2.2
  have hb := h.lt
  clear h
  go_enter Tryz.func54, Tryz.ntmps54
  go_wp2
  go_loop [7] (fun i => ∃ k : Nat, k ≤ S.nw ∧ i = .int .i64 k ∧ Hid (∀ j, j < k → ¬ writeIs S.k a s j)) (fun i => S.nw - (intOf i).toNat)
  case atStart => exact ⟨0, Nat.zero_le _, rfl, fun j hj => absurd hj (Nat.not_lt_zero j)⟩
  case round =>
    obtain ⟨k, hk, rfl, HS⟩ := hrel
    by_cases hlt : k < S.nw
    case neg =>
      obtain rfl : k = S.nw := by omega
      go_wp2
      go_ret
      exact ⟨_, rfl, Or.inl ⟨rfl, HS.out⟩, rfl⟩
    obtain ⟨g, o, rfl, _, hg, x0, x1, x2, x3⟩ := H.out.2.2.2.at4 hlt
    obtain ⟨n0, N0⟩ : ∃ x, S.k (k * 4) = x := ⟨_, rfl⟩
    obtain ⟨n1, N1⟩ : ∃ x, S.k (k * 4 + 2) = x := ⟨_, rfl⟩
    rw [N0] at x0; rw [N1] at x2
    by_cases h0 : n0 = a
    · by_cases h1 : n1 = s
      · have E : Hid (writeIs S.k a s k) := ⟨N0.trans h0, N1.trans h1⟩
        clear N0 N1
        subst h0 h1
        go_wp2
        go_ret
        exact ⟨_, rfl, Or.inr ⟨k, hlt, rfl, E.out, HS.out⟩, rfl⟩
      · have E : Hid (∀ j, j < k + 1 → ¬ writeIs S.k a s j) := fun j hj => by
          rcases Nat.lt_or_ge j k with h | h
          · exact HS.out j h
          · obtain rfl : j = k := by omega
            exact fun q => h1 (N1.symm.trans q.2)
        have d1 : (n1 == s) = false := beq_eq_false_iff_ne.2 h1
        clear N0 N1 HS h1
        subst h0
        go_wp2
        go_round
        case rel => exact ⟨k + 1, by omega, by go_num, E⟩
        case measure => simp [intOf]; omega
    · have E : Hid (∀ j, j < k + 1 → ¬ writeIs S.k a s j) := fun j hj => by
        rcases Nat.lt_or_ge j k with h | h
        · exact HS.out j h
        · obtain rfl : j = k := by omega
          exact fun q => h0 (N0.symm.trans q.1)
      have d0 : (n0 == a) = false := beq_eq_false_iff_ne.2 h0
      clear N0 N1 HS h0
      go_wp2
      go_round
      case rel => exact ⟨k + 1, by omega, by go_num, E⟩
      case measure => simp [intOf]; omega
end

section
open Go.RowKit
theorem FirstAt.one {p : Nat → Prop} {n : Nat} {r r' : Int} (h : FirstAt p n r) (h' : FirstAt p n r') : r = r' := by
  rcases h with ⟨rfl, h⟩ | ⟨i, hi, rfl, hp, hq⟩ <;> rcases h' with ⟨rfl, h'⟩ | ⟨j, hj, rfl, hp', hq'⟩
  · rfl
  · exact absurd hp' (h j hj)
  · exact absurd hp (h' i hi)
  · rcases Nat.lt_trichotomy i j with e | e | e
    · exact absurd hp (hq' i e)
    · rw [e]
    · exact absurd hp' (hq j e)
theorem FirstAt.get (p : Nat → Prop) : ∀ n, ∃ r, FirstAt p n r
  | 0 => ⟨-1, Or.inl ⟨rfl, fun i hi => absurd hi (Nat.not_lt_zero i)⟩⟩
  | n + 1 => by
    obtain ⟨r, h⟩ := FirstAt.get p n
    rcases h with ⟨rfl, h⟩ | ⟨i, hi, rfl, hp, hq⟩
    · by_cases hn : p n
      · exact ⟨n, Or.inr ⟨n, by omega, rfl, hn, h⟩⟩
      · refine ⟨-1, Or.inl ⟨rfl, fun i hi => ?_⟩⟩
        rcases Nat.lt_or_ge i n with e | e
        · exact h i e
        · obtain rfl : i = n := by omega
          exact hn
    · exact ⟨i, Or.inr ⟨i, by omega, rfl, hp, hq⟩⟩
theorem LiesO.drewN {w : World} {b oo : Nat} {S : Sto} {v0 v1 v2 : Value} (h : LiesO w b oo S v0 v1 v2) (q : Nat) : LiesO (w.drewN q) b oo S v0 v1 v2 := h
theorem l2Cell_isO (S : Sto) (b oo : Nat) (v0 v1 v2 : Value) (a s r : Int) (w : World) (h : LiesO w b oo S v0 v1 v2) (hn : S.nc ≤ 200) (hr : FirstAt (cellIs S.c a s) S.nc r) :
    Calls Tryz.prog 155 #[.pointer (some ⟨b, oo, none⟩), .int .i64 a, .int .i64 s] w fun e w' => e = .returned (.int .i64 r) ∧ w' = w :=
  (l2Cell_anyO S b oo v0 v1 v2 a s w h hn).mono fun e w' ⟨r', he, hr', hw⟩ => ⟨by rw [he, hr.one hr'], hw⟩
theorem l2Write_isO (S : Sto) (b oo : Nat) (v0 v1 v2 : Value) (a s r : Int) (w : World) (h : LiesO w b oo S v0 v1 v2) (hn : S.nw ≤ 200) (hr : FirstAt (writeIs S.k a s) S.nw r) :
    Calls Tryz.prog 54 #[.pointer (some ⟨b, oo, none⟩), .int .i64 a, .int .i64 s] w fun e w' => e = .returned (.int .i64 r) ∧ w' = w :=
  (l2Write_anyO S b oo v0 v1 v2 a s w h hn).mono fun e w' ⟨r', he, hr', hw⟩ => ⟨by rw [he, hr.one hr'], hw⟩

set_option maxRecDepth 10000 in
set_option maxHeartbeats 4000000 in
theorem l2Needs_anyO (S : Sto) (b oo : Nat) (v0 v1 v2 : Value) (r : Bool) (w : World) (h : LiesO w b oo S v0 v1 v2) (hc : S.nc ≤ 200) (hl : S.nl ≤ 200) (hk : S.nw ≤ 200) (hr : r = true ↔ needs S) :
    Calls Tryz.prog 115 #[.pointer (some ⟨b, oo, none⟩)] w fun e w' => e = .returned (.bool r) ∧ Below w.heap.size w w' := by
  obtain ⟨a0, c0, a1, c1, a2, c2, rfl, rfl, rfl⟩ := h.2.form
  have H : Hid (LiesO w b oo S (.slice a0 S.nc c0) (.slice a1 S.nl c1) (.slice a2 S.nw c2)) := h
  have HR : Hid (r = true ↔ needs S) := hr
  clear h hr
  go_enter Tryz.func115, Tryz.ntmps115
  go_wp2
  go_loopw [3] (fun i wr => ∃ k : Nat, k ≤ S.nw ∧ i = .int .i64 k ∧ Hid (∀ j, j < k → putW S j) ∧ Hid (Below w.heap.size w wr)) (fun i _ => S.nw - (intOf i).toNat)
  case atStart => exact ⟨0, Nat.zero_le _, rfl, fun j hj => absurd hj (Nat.not_lt_zero j), Below.refl _ _⟩
  case round =>
    obtain ⟨k, hk', rfl, HS, HB⟩ := hrel
    have HL : Hid (LiesO wr b oo S (.slice a0 S.nc c0) (.slice a1 S.nl c1) (.slice a2 S.nw c2)) := H.out.later HB.out
    have e2 := HL.out.1.2.2
    by_cases hlt : k < S.nw
    case pos =>
      obtain ⟨g, o, rfl, _, hg, x0, x1, x2, x3⟩ := HL.out.2.2.2.at4 hlt
      obtain ⟨n0, N0⟩ : ∃ x, S.k (k * 4) = x := ⟨_, rfl⟩
      obtain ⟨n2, N2⟩ : ∃ x, S.k (k * 4 + 2) = x := ⟨_, rfl⟩
      obtain ⟨n3, N3⟩ : ∃ x, S.k (k * 4 + 3) = x := ⟨_, rfl⟩
      rw [N0] at x0; rw [N2] at x2; rw [N3] at x3
      have NN : Hid (S.k (k * 4) = n0 ∧ S.k (k * 4 + 2) = n2 ∧ S.k (k * 4 + 3) = n3) := ⟨N0, N2, N3⟩
      clear N0 N2 N3
      have NX : Hid (putW S k → ∀ j, j < k + 1 → putW S j) := fun q j hj => by
        rcases Nat.lt_or_ge j k with h | h
        · exact HS.out j h
        · obtain rfl : j = k := by omega
          exact q
      by_cases h3 : n3 = 1
      · obtain ⟨c, HF⟩ : ∃ c, Hid (FirstAt (cellIs S.c n0 n2) S.nc c) := FirstAt.get _ _
        have LC : Hid (∀ n, Calls Tryz.prog 155 #[.pointer (some ⟨b, oo, none⟩), .int .i64 n0, .int .i64 n2] (wr.drewN n) fun e w' => e = .returned (.int .i64 c) ∧ w' = wr.drewN n) := fun n => l2Cell_isO S b oo _ _ _ n0 n2 c _ (HL.out.drewN n) hc HF.out
        by_cases hcn : c < 0
        · have E : Hid (r = false) := by
            cases r with
            | false => rfl
            | true =>
              obtain ⟨i, hi, hp⟩ := (HR.out.1 rfl).1 k hlt (NN.out.2.2.trans h3)
              rw [NN.out.1, NN.out.2.1] at hp
              rcases HF.out with ⟨_, q⟩ | ⟨i', _, e, _⟩
              · exact absurd hp (q i hi)
              · omega
          have d : decide (c < 0) = true := decide_eq_true hcn
          clear NN NX HF HS hcn
          subst h3
          go_wp2_with fail
          go_quiet (first | (go_at_call 155; refine Calls.quiet_of_same (LC.out _)))
          go_wp2
          go_ret
          exact ⟨by rw [E.out]; rfl, below_dr HB.out _⟩
        · have E : Hid (∀ j, j < k + 1 → putW S j) := NX.out (fun _ => by
            rcases HF.out with ⟨e, _⟩ | ⟨i', hi, _, hp, _⟩
            · omega
            · exact ⟨i', hi, by rw [NN.out.1, NN.out.2.1]; exact hp⟩)
          have d : decide (c < 0) = false := decide_eq_false hcn
          clear NN NX HF HS hcn
          subst h3
          go_wp2_with fail
          go_quiet (first | (go_at_call 155; refine Calls.quiet_of_same (LC.out _)))
          go_wp2
          go_roundw
          case rel => exact ⟨k + 1, by omega, by go_num, E, below_dr HB.out _⟩
          case measure => simp [intOf]; omega
      · have E : Hid (∀ j, j < k + 1 → putW S j) := NX.out (fun q => absurd (NN.out.2.2.symm.trans q) h3)
        have d : (n3 == 1) = false := beq_eq_false_iff_ne.2 h3
        clear NN NX HS h3
        go_wp2_with fail
        go_quiet (fail)
        go_wp2
        go_roundw
        case rel => exact ⟨k + 1, by omega, by go_num, E, below_dr HB.out _⟩
        case measure => simp [intOf]; omega
    case neg =>
      have HW : Hid (∀ i, i < S.nw → putW S i) := fun i hi => HS.out i (by omega)
      clear HS HL
      go_wp2
      clear e2 hk' hlt
      go_loopw [4] (fun i wr => ∃ k : Nat, k ≤ S.nl ∧ i = .int .i64 k ∧ Hid (∀ j, j < k → putL S j) ∧ Hid (Below w.heap.size w wr)) (fun i _ => S.nl - (intOf i).toNat)
      case atStart => exact ⟨0, Nat.zero_le _, rfl, fun j hj => absurd hj (Nat.not_lt_zero j), HB⟩
      case round =>
        clear HB
        obtain ⟨k, hk', rfl, HS, HB⟩ := hrel
        have HL : Hid (LiesO wr b oo S (.slice a0 S.nc c0) (.slice a1 S.nl c1) (.slice a2 S.nw c2)) := H.out.later HB.out
        have e1 := HL.out.1.2.1
        by_cases hlt : k < S.nl
        case neg =>
          have E : Hid (r = true) := HR.out.2 ⟨HW.out, fun i hi => HS.out i (by omega)⟩
          clear HS HL
          go_wp2
          go_ret
          exact ⟨by rw [E.out]; rfl, HB.out⟩
        obtain ⟨g, o, rfl, _, hg, x0, x1, x2, x3, x4⟩ := HL.out.2.2.1.at5 hlt
        obtain ⟨n0, N0⟩ : ∃ x, S.l (k * 5) = x := ⟨_, rfl⟩
        obtain ⟨n1, N1⟩ : ∃ x, S.l (k * 5 + 1) = x := ⟨_, rfl⟩
        obtain ⟨n2, N2⟩ : ∃ x, S.l (k * 5 + 2) = x := ⟨_, rfl⟩
        rw [N0] at x0; rw [N1] at x1; rw [N2] at x2
        have NN : Hid (S.l (k * 5) = n0 ∧ S.l (k * 5 + 1) = n1 ∧ S.l (k * 5 + 2) = n2) := ⟨N0, N1, N2⟩
        clear N0 N1 N2
        have NX : Hid (putL S k → ∀ j, j < k + 1 → putL S j) := fun q j hj => by
          rcases Nat.lt_or_ge j k with h | h
          · exact HS.out j h
          · obtain rfl : j = k := by omega
            exact q
        by_cases h3 : n2 = 1
        · obtain ⟨c, HF⟩ : ∃ c, Hid (FirstAt (cellIs S.c n0 n1) S.nc c) := FirstAt.get _ _
          have LC : Hid (∀ n, Calls Tryz.prog 155 #[.pointer (some ⟨b, oo, none⟩), .int .i64 n0, .int .i64 n1] (wr.drewN n) fun e w' => e = .returned (.int .i64 c) ∧ w' = wr.drewN n) := fun n => l2Cell_isO S b oo _ _ _ n0 n1 c _ (HL.out.drewN n) hc HF.out
          by_cases hcn : c < 0
          · have E : Hid (r = false) := by
              cases r with
              | false => rfl
              | true =>
                obtain ⟨i, hi, hp⟩ := (HR.out.1 rfl).2 k hlt (NN.out.2.2.trans h3)
                rw [NN.out.1, NN.out.2.1] at hp
                rcases HF.out with ⟨_, q⟩ | ⟨i', _, e, _⟩
                · exact absurd hp (q i hi)
                · omega
            have d : decide (c < 0) = true := decide_eq_true hcn
            clear NN NX HF HS hcn
            subst h3
            go_wp2_with fail
            go_quiet (first | (go_at_call 155; refine Calls.quiet_of_same (LC.out _)))
            go_wp2
            go_ret
            exact ⟨by rw [E.out]; rfl, below_dr HB.out _⟩
          · have E : Hid (∀ j, j < k + 1 → putL S j) := NX.out (fun _ => by
              rcases HF.out with ⟨e, _⟩ | ⟨i', hi, _, hp, _⟩
              · omega
              · exact ⟨i', hi, by rw [NN.out.1, NN.out.2.1]; exact hp⟩)
            have d : decide (c < 0) = false := decide_eq_false hcn
            clear NN NX HF HS hcn
            subst h3
            go_wp2_with fail
            go_quiet (first | (go_at_call 155; refine Calls.quiet_of_same (LC.out _)))
            go_wp2
            go_roundw
            case rel => exact ⟨k + 1, by omega, by go_num, E, below_dr HB.out _⟩
            case measure => simp [intOf]; omega
        · have E : Hid (∀ j, j < k + 1 → putL S j) := NX.out (fun q => absurd (NN.out.2.2.symm.trans q) h3)
          have d : (n2 == 1) = false := beq_eq_false_iff_ne.2 h3
          clear NN NX HS h3
          go_wp2_with fail
          go_quiet (fail)
          go_wp2
          go_roundw
          case rel => exact ⟨k + 1, by omega, by go_num, E, below_dr HB.out _⟩
          case measure => simp [intOf]; omega
end

section
open Go.RowKit
set_option maxRecDepth 10000 in
set_option maxHeartbeats 4000000 in
theorem l2Once_anyO (S : Sto) (b oo : Nat) (v0 v1 v2 : Value) (r : Bool) (w : World) (h : LiesO w b oo S v0 v1 v2) (hl : S.nl ≤ 200) (hk : S.nw ≤ 200) (hr : r = true ↔ once S) :
    Calls Tryz.prog 116 #[.pointer (some ⟨b, oo, none⟩)] w fun e w' => e = .returned (.bool r) ∧ Below w.heap.size w w' := by
  obtain ⟨a0, c0, a1, c1, a2, c2, rfl, rfl, rfl⟩ := h.2.form
  have H : Hid (LiesO w b oo S (.slice a0 S.nc c0) (.slice a1 S.nl c1) (.slice a2 S.nw c2)) := h
  have HR : Hid (r = true ↔ once S) := hr
  clear h hr
  go_enter Tryz.func116, Tryz.ntmps116
  go_wp2
  go_loopw [3] (fun i wr => ∃ k : Nat, k ≤ S.nw ∧ i = .int .i64 k ∧ Hid (∀ j, j < k → onceW S j) ∧ Hid (Below w.heap.size w wr)) (fun i _ => S.nw - (intOf i).toNat)
  case atStart => exact ⟨0, Nat.zero_le _, rfl, fun j hj => absurd hj (Nat.not_lt_zero j), Below.refl _ _⟩
  case round =>
    obtain ⟨k, hk', rfl, HS, HB⟩ := hrel
    have HL : Hid (LiesO wr b oo S (.slice a0 S.nc c0) (.slice a1 S.nl c1) (.slice a2 S.nw c2)) := H.out.later HB.out
    have e2 := HL.out.1.2.2
    by_cases hlt : k < S.nw
    case pos =>
      obtain ⟨g, o, rfl, _, hg, x0, x1, x2, x3⟩ := HL.out.2.2.2.at4 hlt
      obtain ⟨n0, N0⟩ : ∃ x, S.k (k * 4) = x := ⟨_, rfl⟩
      obtain ⟨n2, N2⟩ : ∃ x, S.k (k * 4 + 2) = x := ⟨_, rfl⟩
      rw [N0] at x0; rw [N2] at x2
      have NN : Hid (S.k (k * 4) = n0 ∧ S.k (k * 4 + 2) = n2) := ⟨N0, N2⟩
      clear N0 N2
      obtain ⟨c, HF⟩ : ∃ c, Hid (FirstAt (writeIs S.k n0 n2) S.nw c) := FirstAt.get _ _
      have LC : Hid (∀ n, Calls Tryz.prog 54 #[.pointer (some ⟨b, oo, none⟩), .int .i64 n0, .int .i64 n2] (wr.drewN n) fun e w' => e = .returned (.int .i64 c) ∧ w' = wr.drewN n) := fun n => l2Write_isO S b oo _ _ _ n0 n2 c _ (HL.out.drewN n) hk HF.out
      have me : Hid (writeIs S.k n0 n2 k) := NN.out
      by_cases hcn : c = k
      · have E : Hid (∀ j, j < k + 1 → onceW S j) := fun j hj => by
          rcases Nat.lt_or_ge j k with h | h
          · exact HS.out j h
          · obtain rfl : j = k := by omega
            rintro ⟨i, hi, hp⟩
            rw [NN.out.1, NN.out.2] at hp
            rcases HF.out with ⟨e, _⟩ | ⟨i', _, e, _, q⟩
            · omega
            · exact q i (by omega) hp
        clear NN HF HS me
        subst hcn
        go_wp2_with fail
        go_quiet (first | (go_at_call 54; refine Calls.quiet_of_same (LC.out _)))
        go_wp2
        go_roundw
        case rel => exact ⟨k + 1, by omega, by go_num, E, below_dr HB.out _⟩
        case measure => simp [intOf]; omega
      · have E : Hid (r = false) := by
          cases r with
          | false => rfl
          | true =>
            have q := (HR.out.1 rfl).1 k hlt
            rcases HF.out with ⟨_, q'⟩ | ⟨i', hi', e, hp, q'⟩
            · exact absurd me.out (q' k hlt)
            · refine absurd ⟨i', ?_, by rw [NN.out.1, NN.out.2]; exact hp⟩ q
              rcases Nat.lt_or_ge k i' with h | h
              · exact absurd me.out (q' k h)
              · omega
        have d : (c != (k : Int)) = true := bne_iff_ne.2 hcn
        clear NN HF HS me hcn
        go_wp2_with fail
        go_quiet (first | (go_at_call 54; refine Calls.quiet_of_same (LC.out _)))
        go_wp2
        go_ret
        exact ⟨by rw [E.out]; rfl, below_dr HB.out _⟩
    case neg =>
      have HW : Hid (∀ i, i < S.nw → onceW S i) := fun i hi => HS.out i (by omega)
      clear HS HL
      go_wp2
      clear e2 hk' hlt
      go_loopw [4] (fun i wr => ∃ k : Nat, k ≤ S.nl ∧ i = .int .i64 k ∧ Hid (∀ j, j < k → onceL S j) ∧ Hid (Below w.heap.size w wr)) (fun i _ => S.nl - (intOf i).toNat)
      case atStart => exact ⟨0, Nat.zero_le _, rfl, fun j hj => absurd hj (Nat.not_lt_zero j), HB⟩
      case round =>
        clear HB
        obtain ⟨k, hk', rfl, HS, HB⟩ := hrel
        have HL : Hid (LiesO wr b oo S (.slice a0 S.nc c0) (.slice a1 S.nl c1) (.slice a2 S.nw c2)) := H.out.later HB.out
        have e1 := HL.out.1.2.1
        by_cases hlt : k < S.nl
        case neg =>
          have E : Hid (r = true) := HR.out.2 ⟨HW.out, fun i hi => HS.out i (by omega)⟩
          clear HS HL
          go_wp2
          go_ret
          exact ⟨by rw [E.out]; rfl, HB.out⟩
        obtain ⟨g, o, rfl, _, hg, x0, x1, x2, x3, x4⟩ := HL.out.2.2.1.at5 hlt
        obtain ⟨n0, N0⟩ : ∃ x, S.l (k * 5) = x := ⟨_, rfl⟩
        obtain ⟨n1, N1⟩ : ∃ x, S.l (k * 5 + 1) = x := ⟨_, rfl⟩
        rw [N0] at x0; rw [N1] at x1
        have NN : Hid (S.l (k * 5) = n0 ∧ S.l (k * 5 + 1) = n1) := ⟨N0, N1⟩
        clear N0 N1
        obtain ⟨c, HF⟩ : ∃ c, Hid (FirstAt (writeIs S.k n0 n1) S.nw c) := FirstAt.get _ _
        have LC : Hid (∀ n, Calls Tryz.prog 54 #[.pointer (some ⟨b, oo, none⟩), .int .i64 n0, .int .i64 n1] (wr.drewN n) fun e w' => e = .returned (.int .i64 c) ∧ w' = wr.drewN n) := fun n => l2Write_isO S b oo _ _ _ n0 n1 c _ (HL.out.drewN n) hk HF.out
        by_cases hcn : 0 ≤ c
        · have E : Hid (r = false) := by
            cases r with
            | false => rfl
            | true =>
              have q := (HR.out.1 rfl).2 k hlt
              rcases HF.out with ⟨e, _⟩ | ⟨i', hi', e, hp, q'⟩
              · omega
              · exact absurd ⟨i', hi', by rw [NN.out.1, NN.out.2]; exact hp⟩ q
          have d : decide (0 ≤ c) = true := decide_eq_true hcn
          clear NN HF HS hcn
          go_wp2_with fail
          go_quiet (first | (go_at_call 54; refine Calls.quiet_of_same (LC.out _)))
          go_wp2
          go_ret
          exact ⟨by rw [E.out]; rfl, below_dr HB.out _⟩
        · have E : Hid (∀ j, j < k + 1 → onceL S j) := fun j hj => by
            rcases Nat.lt_or_ge j k with h | h
            · exact HS.out j h
            · obtain rfl : j = k := by omega
              rintro ⟨i, hi, hp⟩
              rw [NN.out.1, NN.out.2] at hp
              rcases HF.out with ⟨_, q⟩ | ⟨i', _, e, _⟩
              · exact q i hi hp
              · omega
          have d : decide (0 ≤ c) = false := decide_eq_false hcn
          clear NN HF HS hcn
          go_wp2_with fail
          go_quiet (first | (go_at_call 54; refine Calls.quiet_of_same (LC.out _)))
          go_wp2
          go_roundw
          case rel => exact ⟨k + 1, by omega, by go_num, E, below_dr HB.out _⟩
          case measure => simp [intOf]; omega
end

section
open Go.RowKit
theorem l2Cells_isO (S : Sto) (b oo : Nat) (v0 v1 v2 : Value) (r : Int) (hr : scan (cellF S.c) S.nc = r) (w x : World) (h : LiesO w b oo S v0 v1 v2) (hb : Below w.heap.size w x) (hn : S.nc ≤ 200) :
    Calls Tryz.prog 112 #[.pointer (some ⟨b, oo, none⟩)] x fun e w' => e = .returned (.int .i64 r) ∧ Below w.heap.size w w' :=
  (l2Cells_anyO S b oo v0 v1 v2 x (h.later hb) hn).mono fun e w' ⟨he, hw⟩ => ⟨by rw [he, hr], hb.trans (hw.mono hb.size)⟩
theorem l2Locks_isO (S : Sto) (b oo : Nat) (v0 v1 v2 : Value) (r : Int) (hr : scan (lockF S.l) S.nl = r) (w x : World) (h : LiesO w b oo S v0 v1 v2) (hb : Below w.heap.size w x) (hn : S.nl ≤ 200) :
    Calls Tryz.prog 113 #[.pointer (some ⟨b, oo, none⟩)] x fun e w' => e = .returned (.int .i64 r) ∧ Below w.heap.size w w' :=
  (l2Locks_anyO S b oo v0 v1 v2 x (h.later hb) hn).mono fun e w' ⟨he, hw⟩ => ⟨by rw [he, hr], hb.trans (hw.mono hb.size)⟩
theorem l2Writes_isO (S : Sto) (b oo : Nat) (v0 v1 v2 : Value) (r : Int) (hr : scan (writeF S.k) S.nw = r) (w x : World) (h : LiesO w b oo S v0 v1 v2) (hb : Below w.heap.size w x) (hn : S.nw ≤ 200) :
    Calls Tryz.prog 114 #[.pointer (some ⟨b, oo, none⟩)] x fun e w' => e = .returned (.int .i64 r) ∧ Below w.heap.size w w' :=
  (l2Writes_anyO S b oo v0 v1 v2 x (h.later hb) hn).mono fun e w' ⟨he, hw⟩ => ⟨by rw [he, hr], hb.trans (hw.mono hb.size)⟩
set_option maxRecDepth 10000 in
set_option maxHeartbeats 4000000 in
theorem l2Fault_anyO (S : Sto) (b oo : Nat) (v0 v1 v2 : Value) (w : World) (h : LiesO w b oo S v0 v1 v2) :
    Calls Tryz.prog 80 #[.pointer (some ⟨b, oo, none⟩)] w fun e w' => e = .returned (.int .i64 (storeF S)) ∧ Below w.heap.size w w' := by
  obtain ⟨a0, c0, a1, c1, a2, c2, rfl, rfl, rfl⟩ := h.2.form
  have H : Hid (LiesO w b oo S (.slice a0 S.nc c0) (.slice a1 S.nl c1) (.slice a2 S.nw c2)) := h
  obtain ⟨⟨p0, p1, p2⟩, _⟩ := h
  by_cases m0 : 200 < S.nc
  · have E : Hid (storeF S = 2) := by unfold Hid storeF; rw [if_pos (Or.inl m0)]
    go_enter Tryz.func80, Tryz.ntmps80
    go_wp2_with fail
    go_wp2
    go_ret
    exact ⟨by rw [E.out]; rfl, Below.refl _ _⟩
  have m0' : decide ((200 : Int) < (S.nc : Int)) = false := decide_eq_false (by omega)
  by_cases m1 : 200 < S.nl
  · have E : Hid (storeF S = 2) := by unfold Hid storeF; rw [if_pos (Or.inr (Or.inl m1))]
    clear m0
    go_enter Tryz.func80, Tryz.ntmps80
    go_wp2_with fail
    go_wp2
    go_ret
    exact ⟨by rw [E.out]; rfl, Below.refl _ _⟩
  have m1' : decide ((200 : Int) < (S.nl : Int)) = false := decide_eq_false (by omega)
  by_cases m2 : 200 < S.nw
  · have E : Hid (storeF S = 2) := by unfold Hid storeF; rw [if_pos (Or.inr (Or.inr m2))]
    clear m0 m1
    go_enter Tryz.func80, Tryz.ntmps80
    go_wp2_with fail
    go_wp2
    go_ret
    exact ⟨by rw [E.out]; rfl, Below.refl _ _⟩
  have m2' : decide ((200 : Int) < (S.nw : Int)) = false := decide_eq_false (by omega)
  have HM : Hid (¬ (200 < S.nc ∨ 200 < S.nl ∨ 200 < S.nw)) := by unfold Hid; omega
  have hc : Hid (S.nc ≤ 200 ∧ S.nl ≤ 200 ∧ S.nw ≤ 200) := ⟨by omega, by omega, by omega⟩
  clear m0 m1 m2
  have HB : Hid (Below w.heap.size w w) := Below.refl _ _
  by_cases z0 : scan (cellF S.c) S.nc = 0
  case neg =>
    obtain ⟨f, hf⟩ : ∃ f, scan (cellF S.c) S.nc = f := ⟨_, rfl⟩
    have E : Hid (storeF S = f) := by unfold Hid storeF; rw [if_neg HM.out, if_pos z0]; exact hf
    have hfn : (f == 0) = false := beq_eq_false_iff_ne.2 (by rw [← hf]; exact z0)
    have F0 : Hid (scan (cellF S.c) S.nc = f) := hf
    clear hf z0
    go_enter Tryz.func80, Tryz.ntmps80
    go_wp2_with fail
    refine (l2Cells_isO S b oo _ _ _ f F0.out _ _ H.out HB.out hc.out.1).mono ?_
    rintro e w1 ⟨rfl, q1⟩
    have HB : Hid (Below w.heap.size w w1) := q1
    clear q1
    go_wp2_with fail
    go_wp2
    go_ret
    exact ⟨by rw [E.out]; rfl, HB.out⟩
  have F0 : Hid (scan (cellF S.c) S.nc = 0) := z0
  have G0 : Hid (¬ scan (cellF S.c) S.nc ≠ 0) := fun h => h z0
  clear z0
  by_cases z0 : scan (lockF S.l) S.nl = 0
  case neg =>
    obtain ⟨f, hf⟩ : ∃ f, scan (lockF S.l) S.nl = f := ⟨_, rfl⟩
    have E : Hid (storeF S = f) := by unfold Hid storeF; rw [if_neg HM.out, if_neg G0.out, if_pos z0]; exact hf
    have hfn : (f == 0) = false := beq_eq_false_iff_ne.2 (by rw [← hf]; exact z0)
    have F1 : Hid (scan (lockF S.l) S.nl = f) := hf
    clear hf z0
    go_enter Tryz.func80, Tryz.ntmps80
    go_wp2_with fail
    refine (l2Cells_isO S b oo _ _ _ 0 F0.out _ _ H.out HB.out hc.out.1).mono ?_
    rintro e w1 ⟨rfl, q1⟩
    have HB : Hid (Below w.heap.size w w1) := q1
    clear q1
    go_wp2_with fail
    refine (l2Locks_isO S b oo _ _ _ f F1.out _ _ H.out HB.out hc.out.2.1).mono ?_
    rintro e w1 ⟨rfl, q1⟩
    have HB : Hid (Below w.heap.size w w1) := q1
    clear q1
    go_wp2_with fail
    go_wp2
    go_ret
    exact ⟨by rw [E.out]; rfl, HB.out⟩
  have F1 : Hid (scan (lockF S.l) S.nl = 0) := z0
  have G1 : Hid (¬ scan (lockF S.l) S.nl ≠ 0) := fun h => h z0
  clear z0
  by_cases z0 : scan (writeF S.k) S.nw = 0
  case neg =>
    obtain ⟨f, hf⟩ : ∃ f, scan (writeF S.k) S.nw = f := ⟨_, rfl⟩
    have E : Hid (storeF S = f) := by unfold Hid storeF; rw [if_neg HM.out, if_neg G0.out, if_neg G1.out, if_pos z0]; exact hf
    have hfn : (f == 0) = false := beq_eq_false_iff_ne.2 (by rw [← hf]; exact z0)
    have F2 : Hid (scan (writeF S.k) S.nw = f) := hf
    clear hf z0
    go_enter Tryz.func80, Tryz.ntmps80
    go_wp2_with fail
    refine (l2Cells_isO S b oo _ _ _ 0 F0.out _ _ H.out HB.out hc.out.1).mono ?_
    rintro e w1 ⟨rfl, q1⟩
    have HB : Hid (Below w.heap.size w w1) := q1
    clear q1
    go_wp2_with fail
    refine (l2Locks_isO S b oo _ _ _ 0 F1.out _ _ H.out HB.out hc.out.2.1).mono ?_
    rintro e w1 ⟨rfl, q1⟩
    have HB : Hid (Below w.heap.size w w1) := q1
    clear q1
    go_wp2_with fail
    refine (l2Writes_isO S b oo _ _ _ f F2.out _ _ H.out HB.out hc.out.2.2).mono ?_
    rintro e w1 ⟨rfl, q1⟩
    have HB : Hid (Below w.heap.size w w1) := q1
    clear q1
    go_wp2_with fail
    go_wp2
    go_ret
    exact ⟨by rw [E.out]; rfl, HB.out⟩
  have F2 : Hid (scan (writeF S.k) S.nw = 0) := z0
  have G2 : Hid (¬ scan (writeF S.k) S.nw ≠ 0) := fun h => h z0
  clear z0
  by_cases y0 : needs S
  case neg =>
    have E : Hid (storeF S = 4) := by unfold Hid storeF; rw [if_neg HM.out, if_neg G0.out, if_neg G1.out, if_neg G2.out, if_pos y0]
    have Y : Hid (false = true ↔ needs S) := ⟨fun h => absurd h (by decide), fun h => absurd h y0⟩
    clear y0
    go_enter Tryz.func80, Tryz.ntmps80
    go_wp2_with fail
    refine (l2Cells_isO S b oo _ _ _ 0 F0.out _ _ H.out HB.out hc.out.1).mono ?_
    rintro e w1 ⟨rfl, q1⟩
    have HB : Hid (Below w.heap.size w w1) := q1
    clear q1
    go_wp2_with fail
    refine (l2Locks_isO S b oo _ _ _ 0 F1.out _ _ H.out HB.out hc.out.2.1).mono ?_
    rintro e w1 ⟨rfl, q1⟩
    have HB : Hid (Below w.heap.size w w1) := q1
    clear q1
    go_wp2_with fail
    refine (l2Writes_isO S b oo _ _ _ 0 F2.out _ _ H.out HB.out hc.out.2.2).mono ?_
    rintro e w1 ⟨rfl, q1⟩
    have HB : Hid (Below w.heap.size w w1) := q1
    clear q1
    go_wp2_with fail
    refine (l2Needs_anyO S b oo _ _ _ false _ (H.out.later HB.out) hc.out.1 hc.out.2.1 hc.out.2.2 Y.out).mono ?_
    rintro e w1 ⟨rfl, q1⟩
    have HB : Hid (Below w.heap.size w w1) := HB.out.trans (q1.mono HB.out.size)
    clear q1
    go_wp2
    go_ret
    exact ⟨by rw [E.out]; rfl, HB.out⟩
  have Y : Hid (needs S) := y0
  have G3 : Hid (¬ ¬ needs S) := fun h => h y0
  clear y0
  by_cases y0 : once S
  case neg =>
    have E : Hid (storeF S = 6) := by unfold Hid storeF; rw [if_neg HM.out, if_neg G0.out, if_neg G1.out, if_neg G2.out, if_neg G3.out, if_pos y0]
    have Z : Hid (false = true ↔ once S) := ⟨fun h => absurd h (by decide), fun h => absurd h y0⟩
    clear y0
    go_enter Tryz.func80, Tryz.ntmps80
    go_wp2_with fail
    refine (l2Cells_isO S b oo _ _ _ 0 F0.out _ _ H.out HB.out hc.out.1).mono ?_
    rintro e w1 ⟨rfl, q1⟩
    have HB : Hid (Below w.heap.size w w1) := q1
    clear q1
    go_wp2_with fail
    refine (l2Locks_isO S b oo _ _ _ 0 F1.out _ _ H.out HB.out hc.out.2.1).mono ?_
    rintro e w1 ⟨rfl, q1⟩
    have HB : Hid (Below w.heap.size w w1) := q1
    clear q1
    go_wp2_with fail
    refine (l2Writes_isO S b oo _ _ _ 0 F2.out _ _ H.out HB.out hc.out.2.2).mono ?_
    rintro e w1 ⟨rfl, q1⟩
    have HB : Hid (Below w.heap.size w w1) := q1
    clear q1
    go_wp2_with fail
    refine (l2Needs_anyO S b oo _ _ _ true _ (H.out.later HB.out) hc.out.1 hc.out.2.1 hc.out.2.2 ⟨fun _ => Y.out, fun _ => rfl⟩).mono ?_
    rintro e w1 ⟨rfl, q1⟩
    have HB : Hid (Below w.heap.size w w1) := HB.out.trans (q1.mono HB.out.size)
    clear q1
    go_wp2_with fail
    refine (l2Once_anyO S b oo _ _ _ false _ (H.out.later HB.out) hc.out.2.1 hc.out.2.2 Z.out).mono ?_
    rintro e w1 ⟨rfl, q1⟩
    have HB : Hid (Below w.heap.size w w1) := HB.out.trans (q1.mono HB.out.size)
    clear q1
    go_wp2
    go_ret
    exact ⟨by rw [E.out]; rfl, HB.out⟩
  have E : Hid (storeF S = 0) := by unfold Hid storeF; rw [if_neg HM.out, if_neg G0.out, if_neg G1.out, if_neg G2.out, if_neg G3.out, if_neg (fun h => h y0)]
  have Z : Hid (once S) := y0
  clear y0
  go_enter Tryz.func80, Tryz.ntmps80
  go_wp2_with fail
  refine (l2Cells_isO S b oo _ _ _ 0 F0.out _ _ H.out HB.out hc.out.1).mono ?_
  rintro e w1 ⟨rfl, q1⟩
  have HB : Hid (Below w.heap.size w w1) := q1
  clear q1
  go_wp2_with fail
  refine (l2Locks_isO S b oo _ _ _ 0 F1.out _ _ H.out HB.out hc.out.2.1).mono ?_
  rintro e w1 ⟨rfl, q1⟩
  have HB : Hid (Below w.heap.size w w1) := q1
  clear q1
  go_wp2_with fail
  refine (l2Writes_isO S b oo _ _ _ 0 F2.out _ _ H.out HB.out hc.out.2.2).mono ?_
  rintro e w1 ⟨rfl, q1⟩
  have HB : Hid (Below w.heap.size w w1) := q1
  clear q1
  go_wp2_with fail
  refine (l2Needs_anyO S b oo _ _ _ true _ (H.out.later HB.out) hc.out.1 hc.out.2.1 hc.out.2.2 ⟨fun _ => Y.out, fun _ => rfl⟩).mono ?_
  rintro e w1 ⟨rfl, q1⟩
  have HB : Hid (Below w.heap.size w w1) := HB.out.trans (q1.mono HB.out.size)
  clear q1
  go_wp2_with fail
  refine (l2Once_anyO S b oo _ _ _ true _ (H.out.later HB.out) hc.out.2.1 hc.out.2.2 ⟨fun _ => Z.out, fun _ => rfl⟩).mono ?_
  rintro e w1 ⟨rfl, q1⟩
  have HB : Hid (Below w.heap.size w w1) := HB.out.trans (q1.mono HB.out.size)
  clear q1
  go_wp2
  go_ret
  exact ⟨by rw [E.out]; rfl, HB.out⟩

end
end Go.Proofs.YtjkchhcnochjlaaGreatDoor

namespace Go.Proofs.YtjkchhcnochjlaaGreatDoor
section
open Go.RowKit Go.Lib
/-- Block g is a row of N cells of type e. -/
def Blkk (x : World) (g : Nat) (e : TypeId) (N : Nat) : Prop := ∃ cur, x.heap[g]? = some (.cells cur e) ∧ cur.size = N
theorem Blkk.kept {x x' : World} {g : Nat} {e : TypeId} {N : Nat} (h : Blkk x g e N) (hb : x'.heap[g]? = x.heap[g]?) : Blkk x' g e N := by
  obtain ⟨cur, h1, h2⟩ := h
  exact ⟨cur, hb.trans h1, h2⟩
theorem Blkk.lt {x : World} {g : Nat} {e : TypeId} {N : Nat} (h : Blkk x g e N) : g < x.heap.size := by
  obtain ⟨cur, h1, _⟩ := h
  exact (Array.getElem?_eq_some_iff.1 h1).1
theorem Blkk.set {x : World} {g : Nat} {e : TypeId} {N : Nat} (h : Blkk x g e N) (o : Nat) (u : Value) : Blkk (x.setCell ⟨g, o, none⟩ u) g e N := by
  obtain ⟨cur, h1, h2⟩ := h
  refine ⟨cur.setIfInBounds o u, ?_, by simpa using h2⟩
  simp [World.setCell, Array.getElem?_modify, h1]
theorem Blkk.sets {g : Nat} {e : TypeId} {N : Nat} : ∀ (vs : List Value) (o : Nat) (x : World), Blkk x g e N → Blkk (x.setCells g o vs) g e N
  | [], _, _, h => h
  | v :: r, o, _, h => Blkk.sets r (o + 1) _ (h.set o v)
theorem Blkk.cell {x : World} {g : Nat} {e : TypeId} {N : Nat} (h : Blkk x g e N) {p : Nat} (hp : p < N) : (∃ u, x.cell? ⟨g, p, none⟩ = some u) ∧ x.frozen? ⟨g, p, none⟩ = false := by
  obtain ⟨cur, h1, h2⟩ := h
  refine ⟨⟨cur[p]'(by omega), ?_⟩, ?_⟩
  · simp [World.cell?, h1]
  · simp [World.frozen?, h1]
theorem own_of {x : World} {B g : Nat} {e : TypeId} {m n cap : Nat} {F : Nat → Int} (h : Blkk x g e (cap * m)) (hB : B ≤ g) (hn : n ≤ cap) (hc : cap ≤ maxLen) (hF : ∀ p, p < n * m → x.cell? ⟨g, p, none⟩ = some (.int .i64 (F p))) : Own x B e m n F (.slice (some ⟨g, 0, none⟩) n cap) := by
  obtain ⟨cur, h1, h2⟩ := h
  refine ⟨vals_length _ _, Or.inr ⟨g, cap, cur, rfl, hB, h1, hn, hc, h2, ?_⟩⟩
  apply List.ext_getElem?
  intro p
  rcases Nat.lt_or_ge p (n * m) with hp | hp
  · rw [vals_at F _ p hp]
    have hle : n * m ≤ cap * m := Nat.mul_le_mul_right m hn
    have := hF p hp
    have hps : p < cur.size := by omega
    simp [World.cell?, h1, hps] at this
    rw [List.getElem?_take, if_pos hp]
    simp [hps, this]
  · rw [List.getElem?_eq_none (by rw [List.length_take]; omega), List.getElem?_eq_none (by rw [vals_length]; exact hp)]
theorem Own.parts {x : World} {B : Nat} {e : TypeId} {m n : Nat} {F : Nat → Int} {v : Value} (h : Own x B e m n F v) : (v = .slice none 0 0 ∧ n = 0) ∨ ∃ g cap, v = .slice (some ⟨g, 0, none⟩) n cap ∧ B ≤ g ∧ n ≤ cap ∧ cap ≤ maxLen ∧ Blkk x g e (cap * m) ∧ ∀ p, p < n * m → x.cell? ⟨g, p, none⟩ = some (.int .i64 (F p)) := by
  have hr := h.row.1
  rcases h.2 with q | ⟨g, cap, cur, rfl, hg, hw, h1, h2, h3, _⟩
  · exact Or.inl q
  · refine Or.inr ⟨g, cap, rfl, hg, h1, h2, ⟨cur, hw, h3⟩, fun p hp => ?_⟩
    have hn : 0 < n := Nat.pos_of_ne_zero (fun e => by subst e; simp at hp)
    obtain ⟨ao, cp, hv, hr⟩ := hr
    obtain ⟨g', o', e, _, _, hc⟩ := hr hn
    simp at hv
    obtain ⟨rfl, rfl⟩ := hv
    simp at e
    obtain ⟨rfl, rfl⟩ := e
    have := hc p hp
    rwa [Nat.zero_add] at this
theorem grown_sets (g : Nat) : ∀ (vs : List Value) (o : Nat) (w : World), w.grownBy (w.setCells g o vs) (some g)
  | [], _, _ => ⟨rfl, rfl, rfl, Nat.le_refl _, fun _ _ _ => rfl⟩
  | v :: r, o, w => by
    have ih := grown_sets g r (o + 1) (w.setCell ⟨g, o, none⟩ v)
    refine ⟨ih.os, ih.tape, ih.output, Nat.le_trans (by simp) ih.size, fun i hi hne => (ih.block i (by simpa using hi) hne).trans (Below.heap_setCell w _ _ i (fun e => hne (by rw [e])))⟩
end

section
open Go.RowKit Go.Lib
theorem Own.congr {x : World} {B : Nat} {e : TypeId} {m n : Nat} {F G : Nat → Int} {v : Value} (h : Own x B e m n F v) (hF : ∀ p, p < n * m → F p = G p) : Own x B e m n G v := by
  have hv : vals F (n * m) = vals G (n * m) := by
    unfold vals
    refine List.map_congr_left (fun p hp => ?_)
    rw [hF p (List.mem_range.1 hp)]
  unfold Own at *
  rw [← hv]
  exact h
end
end Go.Proofs.YtjkchhcnochjlaaGreatDoor

namespace Go.Proofs.YtjkchhcnochjlaaGreatDoor
open Go.RowKit Go.Maps

/-- Block b holds columns: a map that has m, a row of locks, a row of writes; all of them lie from B on. -/
def Cols (x : World) (B b N : Nat) (m : Int → Int → Option Int) (nl : Nat) (l : Nat → Int) (nw : Nat) (k : Nat → Int) (g : Nat) (u1 u2 : Value) : Prop :=
  B ≤ b ∧ B ≤ g ∧ Blk3 x b (.map (some g)) u1 u2 ∧ PM x g N m ∧ Own x B 162 5 nl l u1 ∧ Own x B 121 4 nw k u2
theorem Cols.later {x x' : World} {B b N : Nat} {m : Int → Int → Option Int} {nl : Nat} {l : Nat → Int} {nw : Nat} {k : Nat → Int} {g : Nat} {u1 u2 : Value} (h : Cols x B b N m nl l nw k g u1 u2) (hb : Below x.heap.size x x') : Cols x' B b N m nl l nw k g u1 u2 :=
  ⟨h.1, h.2.1, h.2.2.1.later hb, h.2.2.2.1.later hb, h.2.2.2.2.1.later hb, h.2.2.2.2.2.later hb⟩
theorem Cols.mono {x : World} {B B' b N : Nat} {m : Int → Int → Option Int} {nl : Nat} {l : Nat → Int} {nw : Nat} {k : Nat → Int} {g : Nat} {u1 u2 : Value} (h : Cols x B b N m nl l nw k g u1 u2) (hB : B' ≤ B) : Cols x B' b N m nl l nw k g u1 u2 :=
  ⟨Nat.le_trans hB h.1, Nat.le_trans hB h.2.1, h.2.2.1, h.2.2.2.1, h.2.2.2.2.1.mono hB, h.2.2.2.2.2.mono hB⟩
/-- From place oo of block b on lie three cells, none frozen. -/
def Blk3O (x : World) (b oo : Nat) (a0 a1 a2 : Value) : Prop :=
  (x.cell? ⟨b, oo, none⟩ = some a0 ∧ x.cell? ⟨b, oo + 1, none⟩ = some a1 ∧ x.cell? ⟨b, oo + 2, none⟩ = some a2) ∧ x.frozen? ⟨b, oo, none⟩ = false ∧ x.frozen? ⟨b, oo + 1, none⟩ = false ∧ x.frozen? ⟨b, oo + 2, none⟩ = false
theorem Blk3O.kept {x x' : World} {b oo : Nat} {a0 a1 a2 : Value} (h : Blk3O x b oo a0 a1 a2) (hb : x'.heap[b]? = x.heap[b]?) : Blk3O x' b oo a0 a1 a2 := by
  obtain ⟨⟨h0, h1, h2⟩, f0, f1, f2⟩ := h
  exact ⟨⟨(World.cell?_of_block (w := x) (a := ⟨b, oo, none⟩) hb).trans h0, (World.cell?_of_block (w := x) (a := ⟨b, oo + 1, none⟩) hb).trans h1, (World.cell?_of_block (w := x) (a := ⟨b, oo + 2, none⟩) hb).trans h2⟩,
    (World.frozen?_of_block (w := x) (a := ⟨b, oo, none⟩) hb).trans f0, (World.frozen?_of_block (w := x) (a := ⟨b, oo + 1, none⟩) hb).trans f1, (World.frozen?_of_block (w := x) (a := ⟨b, oo + 2, none⟩) hb).trans f2⟩
theorem Blk3O.lt {x : World} {b oo : Nat} {a0 a1 a2 : Value} (h : Blk3O x b oo a0 a1 a2) : b < x.heap.size := World.block_lt_of_cell? x ⟨b, oo, none⟩ h.1.1
theorem Blk3O.later {x x' : World} {b oo : Nat} {a0 a1 a2 : Value} (h : Blk3O x b oo a0 a1 a2) (hb : Below x.heap.size x x') : Blk3O x' b oo a0 a1 a2 := h.kept (hb.block b h.lt)
theorem Blk3O.alloc {x : World} {b oo : Nat} {a0 a1 a2 : Value} (h : Blk3O x b oo a0 a1 a2) (o : Obj) : Blk3O (x.alloc o) b oo a0 a1 a2 := h.later (below_alloc _ _)
theorem Blk3.o {x : World} {b : Nat} {a0 a1 a2 : Value} (h : Blk3 x b a0 a1 a2) : Blk3O x b 0 a0 a1 a2 := h
/-- Columns that lie from place oo of block b on. -/
def ColsO (x : World) (B b oo N : Nat) (m : Int → Int → Option Int) (nl : Nat) (l : Nat → Int) (nw : Nat) (k : Nat → Int) (g : Nat) (u1 u2 : Value) : Prop :=
  B ≤ b ∧ B ≤ g ∧ Blk3O x b oo (.map (some g)) u1 u2 ∧ PM x g N m ∧ Own x B 162 5 nl l u1 ∧ Own x B 121 4 nw k u2
theorem ColsO.later {x x' : World} {B b oo N : Nat} {m : Int → Int → Option Int} {nl : Nat} {l : Nat → Int} {nw : Nat} {k : Nat → Int} {g : Nat} {u1 u2 : Value} (h : ColsO x B b oo N m nl l nw k g u1 u2) (hb : Below x.heap.size x x') : ColsO x' B b oo N m nl l nw k g u1 u2 :=
  ⟨h.1, h.2.1, h.2.2.1.later hb, h.2.2.2.1.later hb, h.2.2.2.2.1.later hb, h.2.2.2.2.2.later hb⟩
theorem Cols.o {x : World} {B b N : Nat} {m : Int → Int → Option Int} {nl : Nat} {l : Nat → Int} {nw : Nat} {k : Nat → Int} {g : Nat} {u1 u2 : Value} (h : Cols x B b N m nl l nw k g u1 u2) : ColsO x B b 0 N m nl l nw k g u1 u2 := h
def StoBox (w : World) (v0 v1 v2 : Value) (x : World) : Prop := Blk3 x w.heap.size v0 v1 v2 ∧ Below w.heap.size w x
theorem StoBox.later {w x x' : World} {v0 v1 v2 : Value} (h : StoBox w v0 v1 v2 x) (hb : Below x.heap.size x x') : StoBox w v0 v1 v2 x' := ⟨h.1.later hb, h.2.trans (hb.mono h.2.size)⟩
theorem cellsByPlace_ex (S : Sto) (v : Value) (B : Nat) (w : World) (h : Row w B 3 S.nc S.c v) (hn : S.nc ≤ 200) (hz : scan (cellF S.c) S.nc = 0) :
    Calls Tryz.prog 165 #[v] w fun e w' => ∃ g, e = .returned (.map (some g)) ∧ w.heap.size ≤ g ∧ PM w' g S.nc (cellM S S.nc) ∧ Below w.heap.size w w' :=
  (cellsByPlace_any S v B w h hn hz).mono fun _ _ ⟨he, hP, hb⟩ => ⟨_, he, Nat.le_refl _, hP, hb⟩
theorem own_in {w : World} {B : Nat} {e : TypeId} {m n : Nat} {F : Nat → Int} {v : Value} (h : Own w B e m n F v) : ∀ k, v.ownBlock = some k → B ≤ k ∧ k < w.heap.size := by
  intro k hk
  rcases h.2 with ⟨rfl, _⟩ | ⟨g, cap, cur, rfl, hg, hw, _⟩
  · simp [Value.ownBlock] at hk
  · simp [Value.ownBlock] at hk
    subst hk
    exact ⟨hg, (Array.getElem?_eq_some_iff.1 hw).1⟩
/-- The columns' block, the map, the two rows: all in blocks of their own. -/
def ApartC (b g : Nat) (u1 u2 : Value) : Prop := g ≠ b ∧ (∀ q, u1.ownBlock = some q → q ≠ b ∧ q ≠ g) ∧ (∀ q, u2.ownBlock = some q → q ≠ b ∧ q ≠ g) ∧ ∀ q, u1.ownBlock = some q → u2.ownBlock ≠ some q
set_option maxRecDepth 100000 in
set_option maxHeartbeats 2000000 in
theorem columnsOf_apart (S : Sto) (B : Nat) (v0 v1 v2 : Value) (w : World) (h : St w B S v0 v1 v2) (hc : S.nc ≤ 200) (hl : S.nl ≤ 200) (hk : S.nw ≤ 200) (z0 : scan (cellF S.c) S.nc = 0) :
    Calls Tryz.prog 173 #[.agg #[v0, v1, v2]] w fun e w' => ∃ b g u1 u2, e = .returned (.pointer (some ⟨b, 0, none⟩)) ∧ Cols w' w.heap.size b S.nc (cellM S S.nc) S.nl S.l S.nw S.k g u1 u2 ∧ ApartC b g u1 u2 ∧ Below w.heap.size w w' := by
  obtain ⟨a0, c0, a1, c1, a2, c2, rfl, rfl, rfl⟩ := h.form
  have H : Hid (St w B S (.slice a0 S.nc c0) (.slice a1 S.nl c1) (.slice a2 S.nw c2)) := h
  have Z0 : Hid (scan (cellF S.c) S.nc = 0) := z0
  clear h z0
  go_enter Tryz.func173, Tryz.ntmps173
  go_wp2_with fail
  have h0 : StoBox w (.slice a0 S.nc c0) (.slice a1 S.nl c1) (.slice a2 S.nw c2) (w.alloc (.cells #[.slice a0 S.nc c0, .slice a1 S.nl c1, .slice a2 S.nw c2] 126)).drew := ⟨Blk3.new w _ _ _ _, (below_alloc _ _).drew⟩
  refine wp_region_held_drew (S := StoBox w (.slice a0 S.nc c0) (.slice a1 S.nl c1) (.slice a2 S.nw c2)) (by kernel_rfl) h0 (fun hS => ?_)
  clear h0
  refine tkH 0 ?_ hS (fun wx hx => ?_) ?_; rotate_left
  · obtain ⟨⟨⟨hx0, hx1, hx2⟩, _⟩, _⟩ := hx; go_simp; try with_reducible rfl
  refine tkH 1 ?_ hS (fun wx hx => ?_) ?_; rotate_left
  · obtain ⟨⟨⟨hx0, hx1, hx2⟩, _⟩, _⟩ := hx; go_simp; try with_reducible rfl
  refine tkH 3 ?_ hS (fun wx hx => ?_) ?_; rotate_left
  · obtain ⟨⟨⟨hx0, hx1, hx2⟩, _⟩, _⟩ := hx; go_simp; try with_reducible rfl
  refine tkH 4 ?_ hS (fun wx hx => ?_) ?_; rotate_left
  · obtain ⟨⟨⟨hx0, hx1, hx2⟩, _⟩, _⟩ := hx; go_simp; try with_reducible rfl
  refine tkH 6 ?_ hS (fun wx hx => ?_) ?_; rotate_left
  · obtain ⟨⟨⟨hx0, hx1, hx2⟩, _⟩, _⟩ := hx; go_simp; try with_reducible rfl
  refine tkH 7 ?_ hS (fun wx hx => ?_) ?_; rotate_left
  · obtain ⟨⟨⟨hx0, hx1, hx2⟩, _⟩, _⟩ := hx; go_simp; try with_reducible rfl
  refine rdH 2 (fun K hK => ?_)
  go_simp
  go_wp2_with fail
  refine (cellsByPlace_ex S _ B _ (H.out.later hS.2).1 hc Z0.out).mono ?_
  rintro e w1 ⟨g, rfl, hg, HP, hb1⟩
  have P1 : Hid (w.heap.size ≤ g ∧ PM w1 g S.nc (cellM S S.nc)) := ⟨Nat.le_trans hS.2.size hg, HP⟩
  have z1 : Hid (g < w1.heap.size) := HP.lt
  have hS' := hS.later hb1
  clear hg HP hb1
  go_wp2_with fail
  refine hK.out _ _ hS' (fun hS => ?_)
  clear hK K hS'
  refine rdH 5 (fun K hK => ?_)
  go_simp
  go_wp2_with fail
  refine (cloneLocks_any S.nl S.l _ B _ (H.out.later hS.2).2.1 (by omega)).mono ?_
  rintro e w2 ⟨u1, rfl, ho, hb2⟩
  obtain ⟨b1, d1, rfl⟩ := ho.form
  have P2 : Hid ((w.heap.size ≤ g ∧ PM w2 g S.nc (cellM S S.nc)) ∧ Own w2 w.heap.size 162 5 S.nl S.l (.slice b1 S.nl d1)) := ⟨⟨P1.out.1, P1.out.2.later hb2⟩, ho.mono hS.2.size⟩
  have z12 : Hid (w1.heap.size ≤ w2.heap.size) := hb2.size
  have B2 : Hid (∀ q, (Value.slice b1 S.nl d1).ownBlock = some q → w1.heap.size ≤ q ∧ q < w2.heap.size) := fun q hq => own_in ho q hq
  have hS' := hS.later hb2
  clear ho hb2 P1
  go_wp2_with fail
  refine hK.out _ _ hS' (fun hS => ?_)
  clear hK K hS'
  refine rdH 8 (fun K hK => ?_)
  go_simp
  go_wp2_with fail
  refine (cloneWrites_any S.nw S.k _ B _ (H.out.later hS.2).2.2 (by omega)).mono ?_
  rintro e w3 ⟨u2, rfl, ho, hb3⟩
  obtain ⟨b2, d2, rfl⟩ := ho.form
  have P3 : Hid (((w.heap.size ≤ g ∧ PM w3 g S.nc (cellM S S.nc)) ∧ Own w3 w.heap.size 162 5 S.nl S.l (.slice b1 S.nl d1)) ∧ Own w3 w.heap.size 121 4 S.nw S.k (.slice b2 S.nw d2)) := ⟨⟨⟨P2.out.1.1, P2.out.1.2.later hb3⟩, P2.out.2.later hb3⟩, ho.mono hS.2.size⟩
  have B3 : Hid (∀ q, (Value.slice b2 S.nw d2).ownBlock = some q → w2.heap.size ≤ q ∧ q < w3.heap.size) := fun q hq => own_in ho q hq
  have z23 : Hid (w1.heap.size ≤ w2.heap.size ∧ w2.heap.size ≤ w3.heap.size) := ⟨z12.out, hb3.size⟩
  have hS' := hS.later hb3
  have hS3 : Hid (w.heap.size ≤ w3.heap.size) := hS'.2.size
  clear ho hb3 P2
  go_wp2_with fail
  refine hK.out _ _ hS' (fun hS => ?_)
  clear hK K hS'
  refine tkH 9 ?_ hS (fun wx hx => ?_) ?_; rotate_left
  · obtain ⟨⟨⟨hx0, hx1, hx2⟩, _⟩, _⟩ := hx; go_simp; try with_reducible rfl
  refine rdH 10 (fun K hK => ?_)
  go_simp
  refine hK.out _ _ (hS.later (below_alloc w3 _)) (fun hS => ?_)
  clear hK K
  refine tkH 11 ?_ hS (fun wx hx => ?_) ?_; rotate_left
  · obtain ⟨⟨⟨hx0, hx1, hx2⟩, _⟩, _⟩ := hx; go_simp; try with_reducible rfl
  refine wpAnyH_done (by kernel_rfl) ?_ _
  go_simp
  go_wp2
  go_ret
  exact ⟨_, g, _, _, rfl, ⟨hS3.out, P3.out.1.1.1, Blk3.new w3 _ _ _ _, P3.out.1.1.2.alloc _, P3.out.1.2.alloc _, P3.out.2.alloc _⟩, ⟨by have := z1.out; have := z23.out; omega, fun q hq => by have := B2.out q hq; have := z1.out; have := z23.out; omega, fun q hq => by have := B3.out q hq; have := z1.out; have := z23.out; omega, fun q hq e => by have := B2.out q hq; have := B3.out q e; omega⟩, hS.2⟩
end Go.Proofs.YtjkchhcnochjlaaGreatDoor

