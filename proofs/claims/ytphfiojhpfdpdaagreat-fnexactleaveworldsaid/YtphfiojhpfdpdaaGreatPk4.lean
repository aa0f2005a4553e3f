/-
  Own text, merged of ColsN, ColsR, ColsU, StorP, GrpE, WldG, WldH, WldI, WldJ, TxnD, TxnE, TxnG.
-/
import Derived.Test.YtphfiojhpfdpdaaGreatPk3
namespace Go.Proofs.YtphfiojhpfdpdaaGreat
open Go.RowKit

theorem below_dn {B : Nat} {a w : World} (h : Below B a w) (q : Nat) : Below B a (w.drewN q) := ⟨h.os, h.tape, h.output, h.size, h.block⟩
theorem orOf_neg (a b c d : Int) : orOf (cmpOf a b) (cmpOf c d) < 0 ↔ a < b ∨ a = b ∧ c < d := by
  unfold orOf cmpOf
  repeat' split
  all_goals omega
theorem wrap_pred (k : Nat) (h : 0 < k) (h2 : k ≤ 200) : IntKind.i64.wrap ((k : Int) - 1) = ((k - 1 : Nat) : Int) := by
  have e : (k : Int) - 1 = ((k - 1 : Nat) : Int) := by omega
  rw [e]
  simp [IntKind.wrap, IntKind.bits, IntKind.signed]
  omega
theorem cmpOf_neg (a b : Int) : cmpOf a b < 0 ↔ a < b := by
  unfold cmpOf
  repeat' split
  all_goals omega
/-- The element ahead and the one that is asked, and that nothing old has turned. -/
def PrevCell (w : World) (g o k N : Nat) (m0 m1 m2 n0 n1 n2 : Int) (x : World) : Prop := (x.cell? ⟨g, o + (k - 1) * 3, none⟩ = some (.int .i64 m0) ∧ x.cell? ⟨g, o + (k - 1) * 3 + 1, none⟩ = some (.int .i64 m1) ∧ x.cell? ⟨g, o + (k - 1) * 3 + 2, none⟩ = some (.int .i64 m2) ∧ x.cell? ⟨N, 0, none⟩ = some (.int .i64 n0) ∧ x.cell? ⟨N, 1, none⟩ = some (.int .i64 n1) ∧ x.cell? ⟨N, 2, none⟩ = some (.int .i64 n2)) ∧ Below w.heap.size w x
theorem PrevCell.later {w x x' : World} {g o k N : Nat} {m0 m1 m2 n0 n1 n2 : Int} (h : PrevCell w g o k N m0 m1 m2 n0 n1 n2 x) (hb : Below x.heap.size x x') : PrevCell w g o k N m0 m1 m2 n0 n1 n2 x' := by
  obtain ⟨⟨hx0, hx1, hx2, hx3, hx4, hx5⟩, hy⟩ := h
  exact ⟨⟨(hb.cell (World.block_lt_of_cell? x _ hx0)).trans hx0, (hb.cell (World.block_lt_of_cell? x _ hx1)).trans hx1, (hb.cell (World.block_lt_of_cell? x _ hx2)).trans hx2, (hb.cell (World.block_lt_of_cell? x _ hx3)).trans hx3, (hb.cell (World.block_lt_of_cell? x _ hx4)).trans hx4, (hb.cell (World.block_lt_of_cell? x _ hx5)).trans hx5⟩, hy.trans (hb.mono hy.size)⟩
set_option maxRecDepth 100000 in
set_option maxHeartbeats 4000000 in
theorem cellsFault_any (S : Sto) (v : Value) (B : Nat) (w : World) (h : Row w B 3 S.nc S.c v) (hn : S.nc ≤ 200) :
    Calls Tryz.prog 141 #[v] w fun e w' => e = .returned (.int .i64 (scan (cellF S.c) S.nc)) ∧ Below w.heap.size w w' := by
  obtain ⟨ao, cp, rfl⟩ := h.form
  have H : Hid (Row w B 3 S.nc S.c (.slice ao S.nc cp)) := h
  clear h
  go_enter Tryz.func141, Tryz.ntmps141
  go_wp2
  go_loopw [8] (fun i wr => ∃ k : Nat, k ≤ S.nc ∧ i = .int .i64 k ∧ Hid (scan (cellF S.c) k = 0) ∧ Below w.heap.size w wr) (fun i _ => S.nc - (intOf i).toNat)
  case atStart => exact ⟨0, Nat.zero_le _, rfl, rfl, Below.refl _ _⟩
  case round =>
    obtain ⟨k, hk, rfl, HS, hbw⟩ := hrel
    by_cases hlt : k < S.nc
    case neg =>
      have en : k = S.nc := by omega
      have E : Hid (scan (cellF S.c) S.nc = 0) := en ▸ HS.out
      clear HS
      go_wp2
      go_ret
      exact ⟨by rw [E.out]; rfl, hbw⟩
    obtain ⟨g, o, rfl, _, hg, x0, x1, x2⟩ := (H.out.later hbw).at3 hlt
    obtain ⟨n0, N0⟩ : ∃ x, S.c (k * 3) = x := ⟨_, rfl⟩
    rw [N0] at x0
    obtain ⟨n1, N1⟩ : ∃ x, S.c (k * 3 + 1) = x := ⟨_, rfl⟩
    rw [N1] at x1
    obtain ⟨n2, N2⟩ : ∃ x, S.c (k * 3 + 2) = x := ⟨_, rfl⟩
    rw [N2] at x2
    have NN : Hid (S.c (k * 3) = n0 ∧ S.c (k * 3 + 1) = n1 ∧ S.c (k * 3 + 2) = n2) := ⟨N0, N1, N2⟩
    clear N0 N1 N2
    by_cases h0 : faultOf n0 = 0
    case neg =>
      obtain ⟨f, hff⟩ : ∃ f, faultOf n0 = f := ⟨_, rfl⟩
      have L0 : Hid (∀ w, Calls Tryz.prog 121 #[.int .i64 n0] w fun e w' => e = .returned (.int .i64 f) ∧ w' = w) := fun w => hff ▸ keyFault_any n0 w
      have E : Hid (scan (cellF S.c) S.nc = f) := by
        have : cellF S.c k = f := by
          unfold cellF
          rw [NN.out.1, NN.out.2.1, NN.out.2.2]
          rw [if_pos h0]; exact hff
        exact (scan_stop HS.out (by rw [this, ← hff]; exact h0) hlt).trans this
      have hfn : (f == 0) = false := beq_eq_false_iff_ne.2 (by rw [← hff]; exact h0)
      clear hff h0 HS NN
      go_wp2_with fail
      refine (L0.out _).mono ?_
      rintro e w1 ⟨rfl, rfl⟩
      go_wp2
      go_ret
      exact ⟨by rw [E.out]; rfl, by first | exact hbw.alloc hbw.size _ | exact below_dn (hbw.alloc hbw.size _) _ | exact below_dn (below_dn (hbw.alloc hbw.size _) _) _⟩
    have L0 : Hid (∀ w, Calls Tryz.prog 121 #[.int .i64 n0] w fun e w' => e = .returned (.int .i64 0) ∧ w' = w) := fun w => h0 ▸ keyFault_any n0 w
    have G0 : Hid (faultOf n0 = 0) := h0
    clear h0
    by_cases h1 : 1 ≤ n1 ∧ n1 ≤ 100000
    case neg =>
      have L1 : Hid (decide (1 ≤ n1 ∧ n1 ≤ 100000) = false) := decide_eq_false h1
      have E : Hid (scan (cellF S.c) S.nc = 3) := by
        have : cellF S.c k = 3 := by
          unfold cellF
          rw [NN.out.1, NN.out.2.1, NN.out.2.2]
          rw [if_neg (fun h => h G0.out)]
          rw [if_pos (by omega)]
        exact (scan_stop HS.out (by rw [this]; decide) hlt).trans this
      clear h1 HS NN G0
      go_wp2_with fail
      refine (L0.out _).mono ?_
      rintro e w1 ⟨rfl, rfl⟩
      go_wp2_with fail
      refine (isTime_is _ false L1.out _).mono ?_
      rintro e w1 ⟨rfl, rfl⟩
      go_wp2
      go_ret
      exact ⟨by rw [E.out]; rfl, by first | exact hbw.alloc hbw.size _ | exact below_dn (hbw.alloc hbw.size _) _ | exact below_dn (below_dn (hbw.alloc hbw.size _) _) _⟩
    have L1 : Hid (decide (1 ≤ n1 ∧ n1 ≤ 100000) = true) := decide_eq_true h1
    have G1 : Hid (1 ≤ n1 ∧ n1 ≤ 100000) := h1
    clear h1
    by_cases h2 : 0 ≤ n2 ∧ n2 ≤ 9999
    case neg =>
      have L2 : Hid (decide (0 ≤ n2 ∧ n2 ≤ 9999) = false) := decide_eq_false h2
      have E : Hid (scan (cellF S.c) S.nc = 3) := by
        have : cellF S.c k = 3 := by
          unfold cellF
          rw [NN.out.1, NN.out.2.1, NN.out.2.2]
          rw [if_neg (fun h => h G0.out)]
          rw [if_pos (by omega)]
        exact (scan_stop HS.out (by rw [this]; decide) hlt).trans this
      clear h2 HS NN G0 G1
      go_wp2_with fail
      refine (L0.out _).mono ?_
      rintro e w1 ⟨rfl, rfl⟩
      go_wp2_with fail
      refine (isTime_is _ true L1.out _).mono ?_
      rintro e w1 ⟨rfl, rfl⟩
      go_wp2_with fail
      refine (isValue_is _ false L2.out _).mono ?_
      rintro e w1 ⟨rfl, rfl⟩
      go_wp2
      go_ret
      exact ⟨by rw [E.out]; rfl, by first | exact hbw.alloc hbw.size _ | exact below_dn (hbw.alloc hbw.size _) _ | exact below_dn (below_dn (hbw.alloc hbw.size _) _) _⟩
    have L2 : Hid (decide (0 ≤ n2 ∧ n2 ≤ 9999) = true) := decide_eq_true h2
    have G2 : Hid (0 ≤ n2 ∧ n2 ≤ 9999) := h2
    clear h2
    rcases Nat.eq_zero_or_pos k with hk0 | hk0
    · have E : Hid (scan (cellF S.c) (k + 1) = 0) := by
        have : cellF S.c k = 0 := by
          unfold cellF
          rw [NN.out.1, NN.out.2.1, NN.out.2.2]
          rw [if_neg (fun h => h G0.out)]
          have g1 := G1.out; have g2 := G2.out; rw [if_neg (by omega)]
          rw [if_neg (by omega)]
        exact scan_go HS.out this
      have dk : decide (0 < k) = false := decide_eq_false (by omega)
      clear HS NN G0 G1 G2 hk0
      go_wp2_with fail
      refine (L0.out _).mono ?_
      rintro e w1 ⟨rfl, rfl⟩
      go_wp2_with fail
      refine (isTime_is _ true L1.out _).mono ?_
      rintro e w1 ⟨rfl, rfl⟩
      go_wp2_with fail
      refine (isValue_is _ true L2.out _).mono ?_
      rintro e w1 ⟨rfl, rfl⟩
      go_wp2_with fail
      go_quiet (fail)
      go_wp2
      go_roundw
      case rel => exact ⟨k + 1, by omega, by go_num, E, by first | exact hbw.alloc hbw.size _ | exact below_dn (hbw.alloc hbw.size _) _ | exact below_dn (below_dn (hbw.alloc hbw.size _) _) _⟩
      case measure => simp [intOf]; omega
    obtain ⟨g', o', he, _, _, y0, y1, y2⟩ := (H.out.later hbw).at3 (k := k - 1) (by omega)
    simp only [Option.some.injEq, Addr.mk.injEq, and_true] at he
    obtain ⟨rfl, rfl⟩ := he
    obtain ⟨m0, M0⟩ : ∃ x, S.c ((k - 1) * 3) = x := ⟨_, rfl⟩
    rw [M0] at y0
    obtain ⟨m1, M1⟩ : ∃ x, S.c ((k - 1) * 3 + 1) = x := ⟨_, rfl⟩
    rw [M1] at y1
    obtain ⟨m2, M2⟩ : ∃ x, S.c ((k - 1) * 3 + 2) = x := ⟨_, rfl⟩
    rw [M2] at y2
    have MM : Hid (S.c ((k - 1) * 3) = m0 ∧ S.c ((k - 1) * 3 + 1) = m1) := ⟨M0, M1⟩
    clear M0 M1 M2
    have dk : decide (0 < k) = true := decide_eq_true hk0
    have hwr := wrap_pred k hk0 (by omega)
    have hkn : ((k - 1 : Nat) : Int) < (S.nc : Int) := by omega
    obtain ⟨r, HR⟩ : ∃ r, Hid (orOf (cmpOf m0 n0) (cmpOf m1 n1) = r) := ⟨_, rfl⟩
    have HO : Hid (r < 0 ↔ m0 < n0 ∨ m0 = n0 ∧ m1 < n1) := by unfold Hid; rw [← HR.out]; exact orOf_neg _ _ _ _
    have h0 : PrevCell w g o k wr.heap.size m0 m1 m2 n0 n1 n2 (wr.alloc (.cells #[.int .i64 n0, .int .i64 n1, .int .i64 n2] 202)).drew := ⟨⟨(World.cell?_alloc_lt _ _ _ hg).trans y0, (World.cell?_alloc_lt _ _ _ hg).trans y1, (World.cell?_alloc_lt _ _ _ hg).trans y2, World.cell?_alloc_mark wr _ _ _ 0, World.cell?_alloc_mark wr _ _ _ 1, World.cell?_alloc_mark wr _ _ _ 2⟩, (hbw.alloc hbw.size _).drew⟩
    by_cases hr : 0 ≤ r
    · have E : Hid (scan (cellF S.c) S.nc = 1) := by
        have : cellF S.c k = 1 := by
          unfold cellF
          rw [NN.out.1, NN.out.2.1, NN.out.2.2]
          rw [if_neg (fun h => h G0.out)]
          have g1 := G1.out; have g2 := G2.out; rw [if_neg (by omega)]
          rw [MM.out.1, MM.out.2]
          have ho := HO.out
          rw [if_pos (by omega)]
        exact (scan_stop HS.out (by rw [this]; decide) hlt).trans this
      have dr : decide (0 ≤ r) = true := decide_eq_true hr
      clear HS NN G0 G1 G2 MM HO hr
      go_wp2_with fail
      refine (L0.out _).mono ?_
      rintro e w1 ⟨rfl, rfl⟩
      go_wp2_with fail
      refine (isTime_is _ true L1.out _).mono ?_
      rintro e w1 ⟨rfl, rfl⟩
      go_wp2_with fail
      refine (isValue_is _ true L2.out _).mono ?_
      rintro e w1 ⟨rfl, rfl⟩
      go_wp2_with fail
      refine wp_region_held_drew (S := PrevCell w g o k wr.heap.size m0 m1 m2 n0 n1 n2) (by kernel_rfl) h0 (fun hS => ?_)
      clear h0
      refine tkH 0 ?_ hS (fun wx hx => ?_) ?_; rotate_left
      · obtain ⟨⟨hx0, hx1, hx2, hx3, hx4, hx5⟩, _⟩ := hx; go_simp; try with_reducible rfl
      refine tkH 1 ?_ hS (fun wx hx => ?_) ?_; rotate_left
      · obtain ⟨⟨hx0, hx1, hx2, hx3, hx4, hx5⟩, _⟩ := hx; go_simp; try with_reducible rfl
      refine tkH 2 ?_ hS (fun wx hx => ?_) ?_; rotate_left
      · obtain ⟨⟨hx0, hx1, hx2, hx3, hx4, hx5⟩, _⟩ := hx; go_simp; try with_reducible rfl
      refine tkH 3 ?_ hS (fun wx hx => ?_) ?_; rotate_left
      · obtain ⟨⟨hx0, hx1, hx2, hx3, hx4, hx5⟩, _⟩ := hx; go_simp; try with_reducible rfl
      refine tkH 4 ?_ hS (fun wx hx => ?_) ?_; rotate_left
      · obtain ⟨⟨hx0, hx1, hx2, hx3, hx4, hx5⟩, _⟩ := hx; go_simp; try with_reducible rfl
      refine tkH 5 ?_ hS (fun wx hx => ?_) ?_; rotate_left
      · obtain ⟨⟨hx0, hx1, hx2, hx3, hx4, hx5⟩, _⟩ := hx; go_simp; try with_reducible rfl
      refine tkH 6 ?_ hS (fun wx hx => ?_) ?_; rotate_left
      · obtain ⟨⟨hx0, hx1, hx2, hx3, hx4, hx5⟩, _⟩ := hx; go_simp; try with_reducible rfl
      refine tkH 7 ?_ hS (fun wx hx => ?_) ?_; rotate_left
      · obtain ⟨⟨hx0, hx1, hx2, hx3, hx4, hx5⟩, _⟩ := hx; go_simp; try with_reducible rfl
      refine tkH 8 ?_ hS (fun wx hx => ?_) ?_; rotate_left
      · obtain ⟨⟨hx0, hx1, hx2, hx3, hx4, hx5⟩, _⟩ := hx; go_simp; try with_reducible rfl
      refine rdH 9 (fun K hK => ?_)
      go_simp
      go_wp2_with fail
      refine (compareCells_is _ _ _ _ _ _ r HR.out _).mono ?_
      rintro e w1 ⟨rfl, q1⟩
      have hS' := hS.later q1
      clear q1
      go_wp2_with fail
      refine hK.out _ _ hS' (fun hS => ?_)
      clear hK K hS'
      refine tkH 10 ?_ hS (fun wx hx => ?_) ?_; rotate_left
      · obtain ⟨⟨hx0, hx1, hx2, hx3, hx4, hx5⟩, _⟩ := hx; go_simp; try with_reducible rfl
      refine tkH 11 ?_ hS (fun wx hx => ?_) ?_; rotate_left
      · obtain ⟨⟨hx0, hx1, hx2, hx3, hx4, hx5⟩, _⟩ := hx; go_simp; try with_reducible rfl
      refine wpAnyH_done (by kernel_rfl) ?_ _
      go_simp
      go_wp2
      go_ret
      exact ⟨by rw [E.out]; rfl, hS.2⟩
    · have E : Hid (scan (cellF S.c) (k + 1) = 0) := by
        have : cellF S.c k = 0 := by
          unfold cellF
          rw [NN.out.1, NN.out.2.1, NN.out.2.2]
          rw [if_neg (fun h => h G0.out)]
          have g1 := G1.out; have g2 := G2.out; rw [if_neg (by omega)]
          rw [MM.out.1, MM.out.2]
          have ho := HO.out
          rw [if_neg (by omega)]
        exact scan_go HS.out this
      have dr : decide (0 ≤ r) = false := decide_eq_false hr
      clear HS NN G0 G1 G2 MM HO hr
      go_wp2_with fail
      refine (L0.out _).mono ?_
      rintro e w1 ⟨rfl, rfl⟩
      go_wp2_with fail
      refine (isTime_is _ true L1.out _).mono ?_
      rintro e w1 ⟨rfl, rfl⟩
      go_wp2_with fail
      refine (isValue_is _ true L2.out _).mono ?_
      rintro e w1 ⟨rfl, rfl⟩
      go_wp2_with fail
      refine wp_region_held_drew (S := PrevCell w g o k wr.heap.size m0 m1 m2 n0 n1 n2) (by kernel_rfl) h0 (fun hS => ?_)
      clear h0
      refine tkH 0 ?_ hS (fun wx hx => ?_) ?_; rotate_left
      · obtain ⟨⟨hx0, hx1, hx2, hx3, hx4, hx5⟩, _⟩ := hx; go_simp; try with_reducible rfl
      refine tkH 1 ?_ hS (fun wx hx => ?_) ?_; rotate_left
      · obtain ⟨⟨hx0, hx1, hx2, hx3, hx4, hx5⟩, _⟩ := hx; go_simp; try with_reducible rfl
      refine tkH 2 ?_ hS (fun wx hx => ?_) ?_; rotate_left
      · obtain ⟨⟨hx0, hx1, hx2, hx3, hx4, hx5⟩, _⟩ := hx; go_simp; try with_reducible rfl
      refine tkH 3 ?_ hS (fun wx hx => ?_) ?_; rotate_left
      · obtain ⟨⟨hx0, hx1, hx2, hx3, hx4, hx5⟩, _⟩ := hx; go_simp; try with_reducible rfl
      refine tkH 4 ?_ hS (fun wx hx => ?_) ?_; rotate_left
      · obtain ⟨⟨hx0, hx1, hx2, hx3, hx4, hx5⟩, _⟩ := hx; go_simp; try with_reducible rfl
      refine tkH 5 ?_ hS (fun wx hx => ?_) ?_; rotate_left
      · obtain ⟨⟨hx0, hx1, hx2, hx3, hx4, hx5⟩, _⟩ := hx; go_simp; try with_reducible rfl
      refine tkH 6 ?_ hS (fun wx hx => ?_) ?_; rotate_left
      · obtain ⟨⟨hx0, hx1, hx2, hx3, hx4, hx5⟩, _⟩ := hx; go_simp; try with_reducible rfl
      refine tkH 7 ?_ hS (fun wx hx => ?_) ?_; rotate_left
      · obtain ⟨⟨hx0, hx1, hx2, hx3, hx4, hx5⟩, _⟩ := hx; go_simp; try with_reducible rfl
      refine tkH 8 ?_ hS (fun wx hx => ?_) ?_; rotate_left
      · obtain ⟨⟨hx0, hx1, hx2, hx3, hx4, hx5⟩, _⟩ := hx; go_simp; try with_reducible rfl
      refine rdH 9 (fun K hK => ?_)
      go_simp
      go_wp2_with fail
      refine (compareCells_is _ _ _ _ _ _ r HR.out _).mono ?_
      rintro e w1 ⟨rfl, q1⟩
      have hS' := hS.later q1
      clear q1
      go_wp2_with fail
      refine hK.out _ _ hS' (fun hS => ?_)
      clear hK K hS'
      refine tkH 10 ?_ hS (fun wx hx => ?_) ?_; rotate_left
      · obtain ⟨⟨hx0, hx1, hx2, hx3, hx4, hx5⟩, _⟩ := hx; go_simp; try with_reducible rfl
      refine tkH 11 ?_ hS (fun wx hx => ?_) ?_; rotate_left
      · obtain ⟨⟨hx0, hx1, hx2, hx3, hx4, hx5⟩, _⟩ := hx; go_simp; try with_reducible rfl
      refine wpAnyH_done (by kernel_rfl) ?_ _
      go_simp
      go_wp2
      go_roundw
      case rel => exact ⟨k + 1, by omega, by go_num, E, hS.2⟩
      case measure => simp [intOf]; omega

/-- The element ahead and the one that is asked, and that nothing old has turned. -/
def PrevLock (w : World) (g o k N : Nat) (m0 m1 m2 m3 m4 n0 n1 n2 n3 n4 : Int) (x : World) : Prop := (x.cell? ⟨g, o + (k - 1) * 5, none⟩ = some (.int .i64 m0) ∧ x.cell? ⟨g, o + (k - 1) * 5 + 1, none⟩ = some (.int .i64 m1) ∧ x.cell? ⟨g, o + (k - 1) * 5 + 2, none⟩ = some (.int .i64 m2) ∧ x.cell? ⟨g, o + (k - 1) * 5 + 3, none⟩ = some (.int .i64 m3) ∧ x.cell? ⟨g, o + (k - 1) * 5 + 4, none⟩ = some (.int .i64 m4) ∧ x.cell? ⟨N, 0, none⟩ = some (.int .i64 n0) ∧ x.cell? ⟨N, 1, none⟩ = some (.int .i64 n1) ∧ x.cell? ⟨N, 2, none⟩ = some (.int .i64 n2) ∧ x.cell? ⟨N, 3, none⟩ = some (.int .i64 n3) ∧ x.cell? ⟨N, 4, none⟩ = some (.int .i64 n4)) ∧ Below w.heap.size w x
theorem PrevLock.later {w x x' : World} {g o k N : Nat} {m0 m1 m2 m3 m4 n0 n1 n2 n3 n4 : Int} (h : PrevLock w g o k N m0 m1 m2 m3 m4 n0 n1 n2 n3 n4 x) (hb : Below x.heap.size x x') : PrevLock w g o k N m0 m1 m2 m3 m4 n0 n1 n2 n3 n4 x' := by
  obtain ⟨⟨hx0, hx1, hx2, hx3, hx4, hx5, hx6, hx7, hx8, hx9⟩, hy⟩ := h
  exact ⟨⟨(hb.cell (World.block_lt_of_cell? x _ hx0)).trans hx0, (hb.cell (World.block_lt_of_cell? x _ hx1)).trans hx1, (hb.cell (World.block_lt_of_cell? x _ hx2)).trans hx2, (hb.cell (World.block_lt_of_cell? x _ hx3)).trans hx3, (hb.cell (World.block_lt_of_cell? x _ hx4)).trans hx4, (hb.cell (World.block_lt_of_cell? x _ hx5)).trans hx5, (hb.cell (World.block_lt_of_cell? x _ hx6)).trans hx6, (hb.cell (World.block_lt_of_cell? x _ hx7)).trans hx7, (hb.cell (World.block_lt_of_cell? x _ hx8)).trans hx8, (hb.cell (World.block_lt_of_cell? x _ hx9)).trans hx9⟩, hy.trans (hb.mono hy.size)⟩
set_option maxRecDepth 100000 in
set_option maxHeartbeats 4000000 in
theorem locksFault_any (S : Sto) (v : Value) (B : Nat) (w : World) (h : Row w B 5 S.nl S.l v) (hn : S.nl ≤ 200) :
    Calls Tryz.prog 142 #[v] w fun e w' => e = .returned (.int .i64 (scan (lockF S.l) S.nl)) ∧ Below w.heap.size w w' := by
  obtain ⟨ao, cp, rfl⟩ := h.form
  have H : Hid (Row w B 5 S.nl S.l (.slice ao S.nl cp)) := h
  clear h
  go_enter Tryz.func142, Tryz.ntmps142
  go_wp2
  go_loopw [9] (fun i wr => ∃ k : Nat, k ≤ S.nl ∧ i = .int .i64 k ∧ Hid (scan (lockF S.l) k = 0) ∧ Below w.heap.size w wr) (fun i _ => S.nl - (intOf i).toNat)
  case atStart => exact ⟨0, Nat.zero_le _, rfl, rfl, Below.refl _ _⟩
  case round =>
    obtain ⟨k, hk, rfl, HS, hbw⟩ := hrel
    by_cases hlt : k < S.nl
    case neg =>
      have en : k = S.nl := by omega
      have E : Hid (scan (lockF S.l) S.nl = 0) := en ▸ HS.out
      clear HS
      go_wp2
      go_ret
      exact ⟨by rw [E.out]; rfl, hbw⟩
    obtain ⟨g, o, rfl, _, hg, x0, x1, x2, x3, x4⟩ := (H.out.later hbw).at5 hlt
    obtain ⟨n0, N0⟩ : ∃ x, S.l (k * 5) = x := ⟨_, rfl⟩
    rw [N0] at x0
    obtain ⟨n1, N1⟩ : ∃ x, S.l (k * 5 + 1) = x := ⟨_, rfl⟩
    rw [N1] at x1
    obtain ⟨n2, N2⟩ : ∃ x, S.l (k * 5 + 2) = x := ⟨_, rfl⟩
    rw [N2] at x2
    obtain ⟨n3, N3⟩ : ∃ x, S.l (k * 5 + 3) = x := ⟨_, rfl⟩
    rw [N3] at x3
    obtain ⟨n4, N4⟩ : ∃ x, S.l (k * 5 + 4) = x := ⟨_, rfl⟩
    rw [N4] at x4
    have NN : Hid (S.l (k * 5) = n0 ∧ S.l (k * 5 + 1) = n1 ∧ S.l (k * 5 + 2) = n2 ∧ S.l (k * 5 + 3) = n3 ∧ S.l (k * 5 + 4) = n4) := ⟨N0, N1, N2, N3, N4⟩
    clear N0 N1 N2 N3 N4
    by_cases h0 : faultOf n0 = 0
    case neg =>
      obtain ⟨f, hff⟩ : ∃ f, faultOf n0 = f := ⟨_, rfl⟩
      have L0 : Hid (∀ w, Calls Tryz.prog 121 #[.int .i64 n0] w fun e w' => e = .returned (.int .i64 f) ∧ w' = w) := fun w => hff ▸ keyFault_any n0 w
      have E : Hid (scan (lockF S.l) S.nl = f) := by
        have : lockF S.l k = f := by
          unfold lockF
          rw [NN.out.1, NN.out.2.1, NN.out.2.2.1, NN.out.2.2.2.1, NN.out.2.2.2.2]
          rw [if_pos h0]; exact hff
        exact (scan_stop HS.out (by rw [this, ← hff]; exact h0) hlt).trans this
      have hfn : (f == 0) = false := beq_eq_false_iff_ne.2 (by rw [← hff]; exact h0)
      clear hff h0 HS NN
      go_wp2_with fail
      refine (L0.out _).mono ?_
      rintro e w1 ⟨rfl, rfl⟩
      go_wp2
      go_ret
      exact ⟨by rw [E.out]; rfl, by first | exact hbw.alloc hbw.size _ | exact below_dn (hbw.alloc hbw.size _) _ | exact below_dn (below_dn (hbw.alloc hbw.size _) _) _⟩
    have L0 : Hid (∀ w, Calls Tryz.prog 121 #[.int .i64 n0] w fun e w' => e = .returned (.int .i64 0) ∧ w' = w) := fun w => h0 ▸ keyFault_any n0 w
    have G0 : Hid (faultOf n0 = 0) := h0
    clear h0
    by_cases h1 : faultOf n3 = 0
    case neg =>
      obtain ⟨f, hff⟩ : ∃ f, faultOf n3 = f := ⟨_, rfl⟩
      have L1 : Hid (∀ w, Calls Tryz.prog 121 #[.int .i64 n3] w fun e w' => e = .returned (.int .i64 f) ∧ w' = w) := fun w => hff ▸ keyFault_any n3 w
      have E : Hid (scan (lockF S.l) S.nl = f) := by
        have : lockF S.l k = f := by
          unfold lockF
          rw [NN.out.1, NN.out.2.1, NN.out.2.2.1, NN.out.2.2.2.1, NN.out.2.2.2.2]
          rw [if_neg (fun h => h G0.out)]
          rw [if_pos h1]; exact hff
        exact (scan_stop HS.out (by rw [this, ← hff]; exact h1) hlt).trans this
      have hfn : (f == 0) = false := beq_eq_false_iff_ne.2 (by rw [← hff]; exact h1)
      clear hff h1 HS NN G0
      go_wp2_with fail
      refine (L0.out _).mono ?_
      rintro e w1 ⟨rfl, rfl⟩
      go_wp2_with fail
      refine (L1.out _).mono ?_
      rintro e w1 ⟨rfl, rfl⟩
      go_wp2
      go_ret
      exact ⟨by rw [E.out]; rfl, by first | exact hbw.alloc hbw.size _ | exact below_dn (hbw.alloc hbw.size _) _ | exact below_dn (below_dn (hbw.alloc hbw.size _) _) _⟩
    have L1 : Hid (∀ w, Calls Tryz.prog 121 #[.int .i64 n3] w fun e w' => e = .returned (.int .i64 0) ∧ w' = w) := fun w => h1 ▸ keyFault_any n3 w
    have G1 : Hid (faultOf n3 = 0) := h1
    clear h1
    by_cases h2 : 1 ≤ n1 ∧ n1 ≤ 100000
    case neg =>
      have L2 : Hid (decide (1 ≤ n1 ∧ n1 ≤ 100000) = false) := decide_eq_false h2
      have E : Hid (scan (lockF S.l) S.nl = 3) := by
        have : lockF S.l k = 3 := by
          unfold lockF
          rw [NN.out.1, NN.out.2.1, NN.out.2.2.1, NN.out.2.2.2.1, NN.out.2.2.2.2]
          rw [if_neg (fun h => h G0.out)]
          rw [if_neg (fun h => h G1.out)]
          rw [if_pos (by omega)]
        exact (scan_stop HS.out (by rw [this]; decide) hlt).trans this
      clear h2 HS NN G0 G1
      go_wp2_with fail
      refine (L0.out _).mono ?_
      rintro e w1 ⟨rfl, rfl⟩
      go_wp2_with fail
      refine (L1.out _).mono ?_
      rintro e w1 ⟨rfl, rfl⟩
      go_wp2_with fail
      refine (isTime_is _ false L2.out _).mono ?_
      rintro e w1 ⟨rfl, rfl⟩
      go_wp2
      go_ret
      exact ⟨by rw [E.out]; rfl, by first | exact hbw.alloc hbw.size _ | exact below_dn (hbw.alloc hbw.size _) _ | exact below_dn (below_dn (hbw.alloc hbw.size _) _) _⟩
    have L2 : Hid (decide (1 ≤ n1 ∧ n1 ≤ 100000) = true) := decide_eq_true h2
    have G2 : Hid (1 ≤ n1 ∧ n1 ≤ 100000) := h2
    clear h2
    by_cases h3 : 1 ≤ n2 ∧ n2 ≤ 3
    case neg =>
      have L3 : Hid (decide (1 ≤ n2 ∧ n2 ≤ 3) = false) := decide_eq_false h3
      have E : Hid (scan (lockF S.l) S.nl = 3) := by
        have : lockF S.l k = 3 := by
          unfold lockF
          rw [NN.out.1, NN.out.2.1, NN.out.2.2.1, NN.out.2.2.2.1, NN.out.2.2.2.2]
          rw [if_neg (fun h => h G0.out)]
          rw [if_neg (fun h => h G1.out)]
          rw [if_pos (by omega)]
        exact (scan_stop HS.out (by rw [this]; decide) hlt).trans this
      clear h3 HS NN G0 G1 G2
      go_wp2_with fail
      refine (L0.out _).mono ?_
      rintro e w1 ⟨rfl, rfl⟩
      go_wp2_with fail
      refine (L1.out _).mono ?_
      rintro e w1 ⟨rfl, rfl⟩
      go_wp2_with fail
      refine (isTime_is _ true L2.out _).mono ?_
      rintro e w1 ⟨rfl, rfl⟩
      go_wp2_with fail
      refine (isLockKind_is _ false L3.out _).mono ?_
      rintro e w1 ⟨rfl, rfl⟩
      go_wp2
      go_ret
      exact ⟨by rw [E.out]; rfl, by first | exact hbw.alloc hbw.size _ | exact below_dn (hbw.alloc hbw.size _) _ | exact below_dn (below_dn (hbw.alloc hbw.size _) _) _⟩
    have L3 : Hid (decide (1 ≤ n2 ∧ n2 ≤ 3) = true) := decide_eq_true h3
    have G3 : Hid (1 ≤ n2 ∧ n2 ≤ 3) := h3
    clear h3
    by_cases h4 : 0 ≤ n4 ∧ n4 ≤ 100000
    case neg =>
      have L4 : Hid (decide (0 ≤ n4 ∧ n4 ≤ 100000) = false) := decide_eq_false h4
      have E : Hid (scan (lockF S.l) S.nl = 3) := by
        have : lockF S.l k = 3 := by
          unfold lockF
          rw [NN.out.1, NN.out.2.1, NN.out.2.2.1, NN.out.2.2.2.1, NN.out.2.2.2.2]
          rw [if_neg (fun h => h G0.out)]
          rw [if_neg (fun h => h G1.out)]
          rw [if_pos (by omega)]
        exact (scan_stop HS.out (by rw [this]; decide) hlt).trans this
      clear h4 HS NN G0 G1 G2 G3
      go_wp2_with fail
      refine (L0.out _).mono ?_
      rintro e w1 ⟨rfl, rfl⟩
      go_wp2_with fail
      refine (L1.out _).mono ?_
      rintro e w1 ⟨rfl, rfl⟩
      go_wp2_with fail
      refine (isTime_is _ true L2.out _).mono ?_
      rintro e w1 ⟨rfl, rfl⟩
      go_wp2_with fail
      refine (isLockKind_is _ true L3.out _).mono ?_
      rintro e w1 ⟨rfl, rfl⟩
      go_wp2_with fail
      refine (isUntil_is _ false L4.out _).mono ?_
      rintro e w1 ⟨rfl, rfl⟩
      go_wp2
      go_ret
      exact ⟨by rw [E.out]; rfl, by first | exact hbw.alloc hbw.size _ | exact below_dn (hbw.alloc hbw.size _) _ | exact below_dn (below_dn (hbw.alloc hbw.size _) _) _⟩
    have L4 : Hid (decide (0 ≤ n4 ∧ n4 ≤ 100000) = true) := decide_eq_true h4
    have G4 : Hid (0 ≤ n4 ∧ n4 ≤ 100000) := h4
    clear h4
    rcases Nat.eq_zero_or_pos k with hk0 | hk0
    · have E : Hid (scan (lockF S.l) (k + 1) = 0) := by
        have : lockF S.l k = 0 := by
          unfold lockF
          rw [NN.out.1, NN.out.2.1, NN.out.2.2.1, NN.out.2.2.2.1, NN.out.2.2.2.2]
          rw [if_neg (fun h => h G0.out)]
          rw [if_neg (fun h => h G1.out)]
          have g2 := G2.out; have g3 := G3.out; have g4 := G4.out; rw [if_neg (by omega)]
          rw [if_neg (by omega)]
        exact scan_go HS.out this
      have dk : decide (0 < k) = false := decide_eq_false (by omega)
      clear HS NN G0 G1 G2 G3 G4 hk0
      go_wp2_with fail
      refine (L0.out _).mono ?_
      rintro e w1 ⟨rfl, rfl⟩
      go_wp2_with fail
      refine (L1.out _).mono ?_
      rintro e w1 ⟨rfl, rfl⟩
      go_wp2_with fail
      refine (isTime_is _ true L2.out _).mono ?_
      rintro e w1 ⟨rfl, rfl⟩
      go_wp2_with fail
      refine (isLockKind_is _ true L3.out _).mono ?_
      rintro e w1 ⟨rfl, rfl⟩
      go_wp2_with fail
      refine (isUntil_is _ true L4.out _).mono ?_
      rintro e w1 ⟨rfl, rfl⟩
      go_wp2_with fail
      go_quiet (fail)
      go_wp2
      go_roundw
      case rel => exact ⟨k + 1, by omega, by go_num, E, by first | exact hbw.alloc hbw.size _ | exact below_dn (hbw.alloc hbw.size _) _ | exact below_dn (below_dn (hbw.alloc hbw.size _) _) _⟩
      case measure => simp [intOf]; omega
    obtain ⟨g', o', he, _, _, y0, y1, y2, y3, y4⟩ := (H.out.later hbw).at5 (k := k - 1) (by omega)
    simp only [Option.some.injEq, Addr.mk.injEq, and_true] at he
    obtain ⟨rfl, rfl⟩ := he
    obtain ⟨m0, M0⟩ : ∃ x, S.l ((k - 1) * 5) = x := ⟨_, rfl⟩
    rw [M0] at y0
    obtain ⟨m1, M1⟩ : ∃ x, S.l ((k - 1) * 5 + 1) = x := ⟨_, rfl⟩
    rw [M1] at y1
    obtain ⟨m2, M2⟩ : ∃ x, S.l ((k - 1) * 5 + 2) = x := ⟨_, rfl⟩
    rw [M2] at y2
    obtain ⟨m3, M3⟩ : ∃ x, S.l ((k - 1) * 5 + 3) = x := ⟨_, rfl⟩
    rw [M3] at y3
    obtain ⟨m4, M4⟩ : ∃ x, S.l ((k - 1) * 5 + 4) = x := ⟨_, rfl⟩
    rw [M4] at y4
    have MM : Hid (S.l ((k - 1) * 5) = m0 ∧ S.l ((k - 1) * 5 + 1) = m1) := ⟨M0, M1⟩
    clear M0 M1 M2 M3 M4
    have dk : decide (0 < k) = true := decide_eq_true hk0
    have hwr := wrap_pred k hk0 (by omega)
    have hkn : ((k - 1 : Nat) : Int) < (S.nl : Int) := by omega
    obtain ⟨r, HR⟩ : ∃ r, Hid (cmpOf m0 n0 = r) := ⟨_, rfl⟩
    have HO : Hid (r < 0 ↔ m0 < n0) := by unfold Hid; rw [← HR.out]; exact cmpOf_neg _ _
    have h0 : PrevLock w g o k wr.heap.size m0 m1 m2 m3 m4 n0 n1 n2 n3 n4 (wr.alloc (.cells #[.int .i64 n0, .int .i64 n1, .int .i64 n2, .int .i64 n3, .int .i64 n4] 209)).drew := ⟨⟨(World.cell?_alloc_lt _ _ _ hg).trans y0, (World.cell?_alloc_lt _ _ _ hg).trans y1, (World.cell?_alloc_lt _ _ _ hg).trans y2, (World.cell?_alloc_lt _ _ _ hg).trans y3, (World.cell?_alloc_lt _ _ _ hg).trans y4, World.cell?_alloc_mark wr _ _ _ 0, World.cell?_alloc_mark wr _ _ _ 1, World.cell?_alloc_mark wr _ _ _ 2, World.cell?_alloc_mark wr _ _ _ 3, World.cell?_alloc_mark wr _ _ _ 4⟩, (hbw.alloc hbw.size _).drew⟩
    by_cases hr : 0 ≤ r
    · have E : Hid (scan (lockF S.l) S.nl = 1) := by
        have : lockF S.l k = 1 := by
          unfold lockF
          rw [NN.out.1, NN.out.2.1, NN.out.2.2.1, NN.out.2.2.2.1, NN.out.2.2.2.2]
          rw [if_neg (fun h => h G0.out)]
          rw [if_neg (fun h => h G1.out)]
          have g2 := G2.out; have g3 := G3.out; have g4 := G4.out; rw [if_neg (by omega)]
          rw [MM.out.1]
          have ho := HO.out
          rw [if_pos (by omega)]
        exact (scan_stop HS.out (by rw [this]; decide) hlt).trans this
      have dr : decide (0 ≤ r) = true := decide_eq_true hr
      clear HS NN G0 G1 G2 G3 G4 MM HO hr
      go_wp2_with fail
      refine (L0.out _).mono ?_
      rintro e w1 ⟨rfl, rfl⟩
      go_wp2_with fail
      refine (L1.out _).mono ?_
      rintro e w1 ⟨rfl, rfl⟩
      go_wp2_with fail
      refine (isTime_is _ true L2.out _).mono ?_
      rintro e w1 ⟨rfl, rfl⟩
      go_wp2_with fail
      refine (isLockKind_is _ true L3.out _).mono ?_
      rintro e w1 ⟨rfl, rfl⟩
      go_wp2_with fail
      refine (isUntil_is _ true L4.out _).mono ?_
      rintro e w1 ⟨rfl, rfl⟩
      go_wp2_with fail
      refine wp_region_held_drew (S := PrevLock w g o k wr.heap.size m0 m1 m2 m3 m4 n0 n1 n2 n3 n4) (by kernel_rfl) h0 (fun hS => ?_)
      clear h0
      refine tkH 0 ?_ hS (fun wx hx => ?_) ?_; rotate_left
      · obtain ⟨⟨hx0, hx1, hx2, hx3, hx4, hx5, hx6, hx7, hx8, hx9⟩, _⟩ := hx; go_simp; try with_reducible rfl
      refine tkH 1 ?_ hS (fun wx hx => ?_) ?_; rotate_left
      · obtain ⟨⟨hx0, hx1, hx2, hx3, hx4, hx5, hx6, hx7, hx8, hx9⟩, _⟩ := hx; go_simp; try with_reducible rfl
      refine tkH 2 ?_ hS (fun wx hx => ?_) ?_; rotate_left
      · obtain ⟨⟨hx0, hx1, hx2, hx3, hx4, hx5, hx6, hx7, hx8, hx9⟩, _⟩ := hx; go_simp; try with_reducible rfl
      refine tkH 3 ?_ hS (fun wx hx => ?_) ?_; rotate_left
      · obtain ⟨⟨hx0, hx1, hx2, hx3, hx4, hx5, hx6, hx7, hx8, hx9⟩, _⟩ := hx; go_simp; try with_reducible rfl
      refine tkH 4 ?_ hS (fun wx hx => ?_) ?_; rotate_left
      · obtain ⟨⟨hx0, hx1, hx2, hx3, hx4, hx5, hx6, hx7, hx8, hx9⟩, _⟩ := hx; go_simp; try with_reducible rfl
      refine tkH 5 ?_ hS (fun wx hx => ?_) ?_; rotate_left
      · obtain ⟨⟨hx0, hx1, hx2, hx3, hx4, hx5, hx6, hx7, hx8, hx9⟩, _⟩ := hx; go_simp; try with_reducible rfl
      refine tkH 6 ?_ hS (fun wx hx => ?_) ?_; rotate_left
      · obtain ⟨⟨hx0, hx1, hx2, hx3, hx4, hx5, hx6, hx7, hx8, hx9⟩, _⟩ := hx; go_simp; try with_reducible rfl
      refine tkH 7 ?_ hS (fun wx hx => ?_) ?_; rotate_left
      · obtain ⟨⟨hx0, hx1, hx2, hx3, hx4, hx5, hx6, hx7, hx8, hx9⟩, _⟩ := hx; go_simp; try with_reducible rfl
      refine tkH 8 ?_ hS (fun wx hx => ?_) ?_; rotate_left
      · obtain ⟨⟨hx0, hx1, hx2, hx3, hx4, hx5, hx6, hx7, hx8, hx9⟩, _⟩ := hx; go_simp; try with_reducible rfl
      refine rdH 9 (fun K hK => ?_)
      go_simp
      go_wp2_with fail
      refine (compareLocks_is _ _ _ _ _ _ _ _ _ _ r HR.out _).mono ?_
      rintro e w1 ⟨rfl, q1⟩
      have hS' := hS.later q1
      clear q1
      go_wp2_with fail
      refine hK.out _ _ hS' (fun hS => ?_)
      clear hK K hS'
      refine tkH 10 ?_ hS (fun wx hx => ?_) ?_; rotate_left
      · obtain ⟨⟨hx0, hx1, hx2, hx3, hx4, hx5, hx6, hx7, hx8, hx9⟩, _⟩ := hx; go_simp; try with_reducible rfl
      refine tkH 11 ?_ hS (fun wx hx => ?_) ?_; rotate_left
      · obtain ⟨⟨hx0, hx1, hx2, hx3, hx4, hx5, hx6, hx7, hx8, hx9⟩, _⟩ := hx; go_simp; try with_reducible rfl
      refine wpAnyH_done (by kernel_rfl) ?_ _
      go_simp
      go_wp2
      go_ret
      exact ⟨by rw [E.out]; rfl, hS.2⟩
    · have E : Hid (scan (lockF S.l) (k + 1) = 0) := by
        have : lockF S.l k = 0 := by
          unfold lockF
          rw [NN.out.1, NN.out.2.1, NN.out.2.2.1, NN.out.2.2.2.1, NN.out.2.2.2.2]
          rw [if_neg (fun h => h G0.out)]
          rw [if_neg (fun h => h G1.out)]
          have g2 := G2.out; have g3 := G3.out; have g4 := G4.out; rw [if_neg (by omega)]
          rw [MM.out.1]
          have ho := HO.out
          rw [if_neg (by omega)]
        exact scan_go HS.out this
      have dr : decide (0 ≤ r) = false := decide_eq_false hr
      clear HS NN G0 G1 G2 G3 G4 MM HO hr
      go_wp2_with fail
      refine (L0.out _).mono ?_
      rintro e w1 ⟨rfl, rfl⟩
      go_wp2_with fail
      refine (L1.out _).mono ?_
      rintro e w1 ⟨rfl, rfl⟩
      go_wp2_with fail
      refine (isTime_is _ true L2.out _).mono ?_
      rintro e w1 ⟨rfl, rfl⟩
      go_wp2_with fail
      refine (isLockKind_is _ true L3.out _).mono ?_
      rintro e w1 ⟨rfl, rfl⟩
      go_wp2_with fail
      refine (isUntil_is _ true L4.out _).mono ?_
      rintro e w1 ⟨rfl, rfl⟩
      go_wp2_with fail
      refine wp_region_held_drew (S := PrevLock w g o k wr.heap.size m0 m1 m2 m3 m4 n0 n1 n2 n3 n4) (by kernel_rfl) h0 (fun hS => ?_)
      clear h0
      refine tkH 0 ?_ hS (fun wx hx => ?_) ?_; rotate_left
      · obtain ⟨⟨hx0, hx1, hx2, hx3, hx4, hx5, hx6, hx7, hx8, hx9⟩, _⟩ := hx; go_simp; try with_reducible rfl
      refine tkH 1 ?_ hS (fun wx hx => ?_) ?_; rotate_left
      · obtain ⟨⟨hx0, hx1, hx2, hx3, hx4, hx5, hx6, hx7, hx8, hx9⟩, _⟩ := hx; go_simp; try with_reducible rfl
      refine tkH 2 ?_ hS (fun wx hx => ?_) ?_; rotate_left
      · obtain ⟨⟨hx0, hx1, hx2, hx3, hx4, hx5, hx6, hx7, hx8, hx9⟩, _⟩ := hx; go_simp; try with_reducible rfl
      refine tkH 3 ?_ hS (fun wx hx => ?_) ?_; rotate_left
      · obtain ⟨⟨hx0, hx1, hx2, hx3, hx4, hx5, hx6, hx7, hx8, hx9⟩, _⟩ := hx; go_simp; try with_reducible rfl
      refine tkH 4 ?_ hS (fun wx hx => ?_) ?_; rotate_left
      · obtain ⟨⟨hx0, hx1, hx2, hx3, hx4, hx5, hx6, hx7, hx8, hx9⟩, _⟩ := hx; go_simp; try with_reducible rfl
      refine tkH 5 ?_ hS (fun wx hx => ?_) ?_; rotate_left
      · obtain ⟨⟨hx0, hx1, hx2, hx3, hx4, hx5, hx6, hx7, hx8, hx9⟩, _⟩ := hx; go_simp; try with_reducible rfl
      refine tkH 6 ?_ hS (fun wx hx => ?_) ?_; rotate_left
      · obtain ⟨⟨hx0, hx1, hx2, hx3, hx4, hx5, hx6, hx7, hx8, hx9⟩, _⟩ := hx; go_simp; try with_reducible rfl
      refine tkH 7 ?_ hS (fun wx hx => ?_) ?_; rotate_left
      · obtain ⟨⟨hx0, hx1, hx2, hx3, hx4, hx5, hx6, hx7, hx8, hx9⟩, _⟩ := hx; go_simp; try with_reducible rfl
      refine tkH 8 ?_ hS (fun wx hx => ?_) ?_; rotate_left
      · obtain ⟨⟨hx0, hx1, hx2, hx3, hx4, hx5, hx6, hx7, hx8, hx9⟩, _⟩ := hx; go_simp; try with_reducible rfl
      refine rdH 9 (fun K hK => ?_)
      go_simp
      go_wp2_with fail
      refine (compareLocks_is _ _ _ _ _ _ _ _ _ _ r HR.out _).mono ?_
      rintro e w1 ⟨rfl, q1⟩
      have hS' := hS.later q1
      clear q1
      go_wp2_with fail
      refine hK.out _ _ hS' (fun hS => ?_)
      clear hK K hS'
      refine tkH 10 ?_ hS (fun wx hx => ?_) ?_; rotate_left
      · obtain ⟨⟨hx0, hx1, hx2, hx3, hx4, hx5, hx6, hx7, hx8, hx9⟩, _⟩ := hx; go_simp; try with_reducible rfl
      refine tkH 11 ?_ hS (fun wx hx => ?_) ?_; rotate_left
      · obtain ⟨⟨hx0, hx1, hx2, hx3, hx4, hx5, hx6, hx7, hx8, hx9⟩, _⟩ := hx; go_simp; try with_reducible rfl
      refine wpAnyH_done (by kernel_rfl) ?_ _
      go_simp
      go_wp2
      go_roundw
      case rel => exact ⟨k + 1, by omega, by go_num, E, hS.2⟩
      case measure => simp [intOf]; omega

end Go.Proofs.YtphfiojhpfdpdaaGreat

namespace Go.Proofs.YtphfiojhpfdpdaaGreat
open Go.RowKit Go.Maps

theorem laid_out : laidOutB Tryz.prog = true := by kernel_rfl
theorem placeKeyed : Keyed Tryz.prog 200 := Keyed.of_law (deep_law_laid laid_out (m := 3) (by omega) (of_decide_eq_true (by kernel_rfl)) (by kernel_rfl) (by kernel_rfl))
def Wf (a : Int) : Prop := (Lit.int .i64 a).wf = true
theorem wf_small {a : Int} (h0 : 0 ≤ a) (h1 : a ≤ 100000) : Wf a := by
  have e0 : IntKind.i64.min = -9223372036854775808 := by decide
  have e1 : IntKind.i64.max = 9223372036854775807 := by decide
  unfold Wf
  simp [Lit.wf, e0, e1]
  omega
def place (a b : Int) : Value := .agg #[.int .i64 a, .int .i64 b]
def kp (a b : Int) : Lit := .string (keyBytes [.int .i64 a, .int .i64 b])
theorem kp_key (a b : Int) : WideAt.IsKeyLit (kp a b) := trivial
theorem keyOf_place {a b : Int} (ha : Wf a) (hb : Wf b) : keyOf Tryz.prog 200 (.agg #[.int .i64 a, .int .i64 b]) = some (kp a b) := by
  have h1 : Tryz.prog.keyType 200 = true := by kernel_rfl
  have h2 : Tryz.prog.cellsOf 200 = 2 := by kernel_rfl
  have h3 : Tryz.prog.cellsOf 2 = 1 := by kernel_rfl
  have h4 : ∃ m, Tryz.prog.types.size = m + 1 := ⟨Tryz.prog.types.size - 1, by kernel_rfl⟩
  obtain ⟨m, h4⟩ := h4
  unfold Wf at ha hb
  unfold keyOf
  simp only [Tryz.underlying200]
  rw [if_pos (by simp [h1, Value.formed, Tryz.underlying200, h2]), h4]
  unfold Program.keyLits
  simp only [Tryz.underlying200, Value.cells]
  rw [if_pos (by rw [h2]; exact ⟨rfl, by kernel_rfl⟩)]
  simp [Program.keyLits, Tryz.underlying2, h3, ha, hb, kp]
theorem kp_inj {a b c d : Int} (ha : Wf a) (hb : Wf b) (hc : Wf c) (hd : Wf d) (h : kp a b = kp c d) : a = c ∧ b = d := by
  have := placeKeyed.inj (keyOf_place ha hb) (by rw [h]; exact keyOf_place hc hd)
  simpa using this
/-- Block b is a map of at most n entries; it has m a b at the key (a, b). -/
def PM (w : World) (b n : Nat) (m : Int → Int → Option Int) : Prop :=
  ∃ D : DataW Unit, w.ownsMap Tryz.prog 200 (plainElem Tryz.prog 2) b n D ∧ ∀ x y, Wf x → Wf y → Maps.has D (kp x y) = (m x y).isSome ∧ D.atKey (kp x y) (.lit (.int .i64 0)) = .lit (.int .i64 ((m x y).getD 0))
theorem PM.made (w : World) : PM (w.alloc (.map #[] 0)) w.heap.size 0 (fun _ _ => none) := ⟨.map [], World.ownsMap_made w _ _ _, fun _ _ _ _ => ⟨rfl, rfl⟩⟩
theorem PM.lt {w : World} {b n : Nat} {m : Int → Int → Option Int} (h : PM w b n m) : b < w.heap.size := by
  obtain ⟨D, h, _⟩ := h; exact h.lt
theorem PM.mono {w : World} {b n n' : Nat} {m : Int → Int → Option Int} (h : PM w b n m) (hn : n ≤ n') : PM w b n' m := by
  obtain ⟨D, h, r⟩ := h; exact ⟨D, h.mono hn, r⟩
theorem PM.kept {w w' : World} {b n : Nat} {m : Int → Int → Option Int} (h : PM w b n m) (hb : w'.heap[b]? = w.heap[b]?) : PM w' b n m := by
  obtain ⟨D, ⟨es, clock, h1, h2⟩, r⟩ := h
  exact ⟨D, ⟨es, clock, hb.trans h1, h2⟩, r⟩
theorem PM.later {w w' : World} {b n : Nat} {m : Int → Int → Option Int} (h : PM w b n m) (hb : Below w.heap.size w w') : PM w' b n m := h.kept (hb.block b h.lt)
theorem PM.alloc {w : World} {b n : Nat} {m : Int → Int → Option Int} (h : PM w b n m) (o : Obj) : PM (w.alloc o) b n m := h.later ((Below.refl _ _).alloc (Nat.le_refl _) o)
theorem PM.setCell {w : World} {b n : Nat} {m : Int → Int → Option Int} (h : PM w b n m) {a : Addr} (ha : b ≠ a.block) (u : Value) : PM (w.setCell a u) b n m := h.kept (Below.heap_setCell w a u b ha)
theorem PM.congr {w : World} {b n : Nat} {m m' : Int → Int → Option Int} (h : PM w b n m) (e : ∀ x y, m x y = m' x y) : PM w b n m' := by
  obtain ⟨D, h1, r⟩ := h; exact ⟨D, h1, fun x y hx hy => by rw [← e]; exact r x y hx hy⟩
theorem zero_i64 (w : World) : (zeroValue 2).run Tryz.prog w = .ok (.int .i64 0) w := by kernel_rfl
/-- 'v, ok := m[k]'. -/
theorem PM.look {w : World} {b n : Nat} {m : Int → Int → Option Int} (h : PM w b n m) {x y : Int} (hx : Wf x) (hy : Wf y) :
    (Instr.lookup 169 (.map (some b)) (.agg #[.int .i64 x, .int .i64 y]) true).run Tryz.prog w = .ok (.tuple #[.int .i64 ((m x y).getD 0), .bool (m x y).isSome]) w := by
  obtain ⟨D, h, r⟩ := h
  obtain ⟨v, ps, hrun, hv⟩ := h.look_ok placeKeyed Tryz.underlying169 (zero_i64 w) (plainElem_int Tryz.underlying2 (by decide)) (keyOf_place hx hy)
  obtain ⟨c, rfl, hc, _⟩ := plainElem_int_inv Tryz.underlying2 hv
  rw [hrun, (r x y hx hy).1]
  have := congrArg Prod.fst hc
  rw [(r x y hx hy).2] at this
  simp at this
  rw [this]
def putM (m : Int → Int → Option Int) (a b v : Int) (x y : Int) : Option Int := if x = a ∧ y = b then some v else m x y
/-- 'm[k] = v'. -/
theorem PM.put {w : World} {b n : Nat} {m : Int → Int → Option Int} (h : PM w b n m) (hn : n < maxLen) {x y v : Int} (hx : Wf x) (hy : Wf y) (hv : Wf v) :
    ∃ w', (Instr.mapUpdate 169 (.map (some b)) (.agg #[.int .i64 x, .int .i64 y]) (.int .i64 v)).run Tryz.prog w = .ok () w' ∧ PM w' b (n + 1) (putM m x y v) ∧ w.grownBy w' (some b) := by
  obtain ⟨D, h, r⟩ := h
  obtain ⟨w', hrun, h', hg⟩ := h.update placeKeyed Tryz.underlying169 hn (keyOf_place hx hy) (plainElem_int Tryz.underlying2 hv)
  refine ⟨w', hrun, ⟨_, h', fun p q hp hq => ?_⟩, hg⟩
  unfold putM
  by_cases e : p = x ∧ q = y
  · obtain ⟨rfl, rfl⟩ := e
    rw [if_pos ⟨rfl, rfl⟩]
    exact ⟨has_put_same h.isMap (kp_key _ _) _, atKey_put_same h.isMap (kp_key _ _) _ _⟩
  · rw [if_neg e, has_put_other (fun q => e (kp_inj hp hq hx hy q)), atKey_put_other (fun q => e (kp_inj hp hq hx hy q))]
    exact r p q hp hq
theorem wpList_put (w : World) {ops : Array Oper} {rest : List Oper} {o : Oper} {a : Act} {Q : Exit → Act → World → Prop}
    (hg : o.guard = none) (mo x v : Operand) (hop : o.op = Op.mapUpdate 169 mo x v)
    (b n : Nat) (m : Int → Int → Option Int) (hm : a.eval mo = .map (some b)) (h : PM w b n m) (hn : n < maxLen) (p q u : Int) (hx : a.eval x = .agg #[.int .i64 p, .int .i64 q]) (hv : a.eval v = .int .i64 u) (hp : Wf p) (hq : Wf q) (hu : Wf u)
    (hK : ∀ w', PM w' b (n + 1) (putM m p q u) → w.grownBy w' (some b) → wpList Tryz.prog ops Q rest (a.put o.dst undef) w') :
    wpList Tryz.prog ops Q (o :: rest) a w := by
  refine wpList_plain hg fun K' hK' => ?_
  obtain ⟨w', hrun, r1, r2⟩ := h.put hn hp hq hu
  unfold Oper.wp
  simp [execOp, hop, hm, hx, hv, hrun, Result.andThen]
  exact hK' _ _ (hK w' r1 r2)
/-- What a map has behind n puts, put i at (p i, q i), of v i. -/
def puts (p q v : Nat → Int) : Nat → Int → Int → Option Int
  | 0, _, _ => none
  | n + 1, x, y => putM (puts p q v n) (p n) (q n) (v n) x y
theorem puts_has (p q v : Nat → Int) (x y : Int) : ∀ n, (puts p q v n x y).isSome = true ↔ ∃ i, i < n ∧ p i = x ∧ q i = y
  | 0 => by simp [puts]
  | n + 1 => by
    have ih := puts_has p q v x y n
    unfold puts putM
    by_cases e : x = p n ∧ y = q n
    · rw [if_pos e]
      exact ⟨fun _ => ⟨n, by omega, e.1.symm, e.2.symm⟩, fun _ => rfl⟩
    · rw [if_neg e, ih]
      constructor
      · rintro ⟨i, hi, h⟩; exact ⟨i, by omega, h⟩
      · rintro ⟨i, hi, h1, h2⟩
        by_cases hin : i = n
        · subst hin; exact absurd ⟨h1.symm, h2.symm⟩ e
        · exact ⟨i, by omega, h1, h2⟩
def cellM (S : Sto) (n : Nat) : Int → Int → Option Int := puts (fun i => S.c (i * 3)) (fun i => S.c (i * 3 + 1)) (fun i => S.c (i * 3 + 2)) n
def writeM (S : Sto) (n : Nat) : Int → Int → Option Int := puts (fun i => S.k (i * 4)) (fun i => S.k (i * 4 + 2)) (fun i => S.k (i * 4 + 3)) n
theorem cellM_has (S : Sto) (n : Nat) (x y : Int) : (cellM S n x y).isSome = true ↔ hasCell S n x y := puts_has _ _ _ x y n
theorem writeM_has (S : Sto) (n : Nat) (x y : Int) : (writeM S n x y).isSome = true ↔ hasWrite S n x y := puts_has _ _ _ x y n
end Go.Proofs.YtphfiojhpfdpdaaGreat

namespace Go.Proofs.YtphfiojhpfdpdaaGreat
open Go.RowKit Go.Maps

theorem scan_zero {g : Nat → Int} : ∀ {n : Nat}, scan g n = 0 → ∀ i, i < n → g i = 0
  | 0, _, i, hi => by omega
  | n + 1, h, i, hi => by
    unfold scan at h
    by_cases e : scan g n = 0
    · rw [if_pos e] at h
      by_cases hin : i = n
      · subst hin; exact h
      · exact scan_zero e i (by omega)
    · rw [if_neg e] at h; exact absurd h e
theorem faultOf_zero {a : Int} (h : faultOf a = 0) : 0 ≤ a ∧ a ≤ 199 := by
  by_cases e : a < 0 ∨ 199 < a
  · rw [faultOf_range e] at h; exact absurd h (by decide)
  · omega
theorem cellF_zero {c : Nat → Int} {i : Nat} (h : cellF c i = 0) : faultOf (c (i * 3)) = 0 ∧ 1 ≤ c (i * 3 + 1) ∧ c (i * 3 + 1) ≤ 100000 ∧ 0 ≤ c (i * 3 + 2) ∧ c (i * 3 + 2) ≤ 9999 := by
  unfold cellF at h
  by_cases h0 : faultOf (c (i * 3)) = 0
  · rw [if_neg (fun q => q h0)] at h
    refine ⟨h0, ?_⟩
    by_cases h1 : 1 ≤ c (i * 3 + 1) ∧ c (i * 3 + 1) ≤ 100000 ∧ 0 ≤ c (i * 3 + 2) ∧ c (i * 3 + 2) ≤ 9999
    · exact h1
    · rw [if_pos h1] at h; exact absurd h (by decide)
  · rw [if_pos h0] at h; exact absurd h h0
theorem lockF_zero {l : Nat → Int} {i : Nat} (h : lockF l i = 0) : faultOf (l (i * 5)) = 0 ∧ 1 ≤ l (i * 5 + 1) ∧ l (i * 5 + 1) ≤ 100000 := by
  unfold lockF at h
  by_cases h0 : faultOf (l (i * 5)) = 0
  · rw [if_neg (fun q => q h0)] at h
    refine ⟨h0, ?_⟩
    by_cases h2 : faultOf (l (i * 5 + 3)) = 0
    · rw [if_neg (fun q => q h2)] at h
      by_cases h1 : 1 ≤ l (i * 5 + 1) ∧ l (i * 5 + 1) ≤ 100000 ∧ 1 ≤ l (i * 5 + 2) ∧ l (i * 5 + 2) ≤ 3 ∧ 0 ≤ l (i * 5 + 4) ∧ l (i * 5 + 4) ≤ 100000
      · exact ⟨h1.1, h1.2.1⟩
      · rw [if_pos h1] at h; exact absurd h (by decide)
    · rw [if_pos h2] at h; exact absurd h h2
  · rw [if_pos h0] at h; exact absurd h h0
theorem writeF_zero {k : Nat → Int} {i : Nat} (h : writeF k i = 0) : faultOf (k (i * 4)) = 0 ∧ 1 ≤ k (i * 4 + 1) ∧ k (i * 4 + 1) ≤ 100000 ∧ 1 ≤ k (i * 4 + 2) ∧ k (i * 4 + 2) ≤ 100000 ∧ 1 ≤ k (i * 4 + 3) ∧ k (i * 4 + 3) ≤ 4 := by
  unfold writeF at h
  by_cases h0 : faultOf (k (i * 4)) = 0
  · rw [if_neg (fun q => q h0)] at h
    refine ⟨h0, ?_⟩
    by_cases h1 : 1 ≤ k (i * 4 + 1) ∧ k (i * 4 + 1) ≤ 100000 ∧ 1 ≤ k (i * 4 + 2) ∧ k (i * 4 + 2) ≤ 100000 ∧ 1 ≤ k (i * 4 + 3) ∧ k (i * 4 + 3) ≤ 4
    · exact h1
    · rw [if_pos h1] at h; exact absurd h (by decide)
  · rw [if_pos h0] at h; exact absurd h h0
theorem below_grown {B b : Nat} {w x x' : World} (h : Below B w x) (hB : B ≤ x.heap.size) (hb : B ≤ b) (g : x.grownBy x' (some b)) : Below B w x' :=
  ⟨g.os.trans h.os, g.tape.trans h.tape, g.output.trans h.output, Nat.le_trans h.size g.size, fun i hi => (g.block i (by omega) (by intro e; injection e with e; omega)).trans (h.block i hi)⟩
theorem run_makeMap_i64 (n : Int) (w : World) : (Instr.makeMap 169 (some (.int .i64 n))).run Tryz.prog w = .ok (.map (some w.heap.size)) (w.alloc (.map #[] 0)) := by
  simp [Instr.makeMap, run_underlying Tryz.underlying169, asInt, asIntOf, Result.andThen]
theorem small_maxLen {n : Nat} (h : n ≤ 200) : n < maxLen := Nat.lt_of_le_of_lt h (by decide)
set_option maxRecDepth 100000 in
theorem cellsByPlace_any (S : Sto) (v : Value) (B : Nat) (w : World) (h : Row w B 3 S.nc S.c v) (hn : S.nc ≤ 200) (hz : scan (cellF S.c) S.nc = 0) :
    Calls Tryz.prog 162 #[v] w fun e w' => e = .returned (.map (some w.heap.size)) ∧ PM w' w.heap.size S.nc (cellM S S.nc) ∧ Below w.heap.size w w' := by
  obtain ⟨ao, cp, rfl⟩ := h.form
  have H : Hid (Row w B 3 S.nc S.c (.slice ao S.nc cp)) := h
  have HZ : Hid (∀ i, i < S.nc → cellF S.c i = 0) := scan_zero hz
  clear h hz
  have hmm := run_makeMap_i64
  go_enter Tryz.func162, Tryz.ntmps162
  go_wp2
  go_loopw [11] (fun i wr => ∃ k : Nat, k ≤ S.nc ∧ i = .int .i64 k ∧ Hid (PM wr w.heap.size k (cellM S k)) ∧ Below w.heap.size w wr) (fun i _ => S.nc - (intOf i).toNat)
  case atStart => exact ⟨0, Nat.zero_le _, rfl, PM.made w, below_alloc _ _⟩
  case round =>
    obtain ⟨k, hk, rfl, HM, hbw⟩ := hrel
    by_cases hlt : k < S.nc
    case neg =>
      obtain rfl : k = S.nc := by omega
      go_wp2
      go_ret
      exact ⟨rfl, HM.out, hbw⟩
    obtain ⟨g, o, rfl, _, hg, x0, x1, x2⟩ := (H.out.later hbw).at3 hlt
    have HC := cellF_zero (HZ.out k hlt)
    have hk2 := faultOf_zero HC.1
    obtain ⟨n0, N0⟩ : ∃ x, S.c (k * 3) = x := ⟨_, rfl⟩
    obtain ⟨n1, N1⟩ : ∃ x, S.c (k * 3 + 1) = x := ⟨_, rfl⟩
    obtain ⟨n2, N2⟩ : ∃ x, S.c (k * 3 + 2) = x := ⟨_, rfl⟩
    rw [N0] at x0 hk2
    rw [N1] at x1
    rw [N2] at x2
    rw [N1, N2] at HC
    have hP := HM.out.alloc (.cells #[.int .i64 n0, .int .i64 n1, .int .i64 n2] 202)
    have hw0 : Wf n0 := wf_small hk2.1 (by omega)
    have hw1 : Wf n1 := wf_small (by omega) HC.2.2.1
    have hw2 : Wf n2 := wf_small HC.2.2.2.1 (by omega)
    have hb2 := hbw.alloc hbw.size (.cells #[.int .i64 n0, .int .i64 n1, .int .i64 n2] 202)
    have NN : Hid (S.c (k * 3) = n0 ∧ S.c (k * 3 + 1) = n1 ∧ S.c (k * 3 + 2) = n2) := ⟨N0, N1, N2⟩
    clear N0 N1 N2 HC hk2
    go_wp2_with (first | (at_mapUpdate; refine wpList_put _ rfl _ _ _ rfl w.heap.size k _ rfl hP (small_maxLen (Nat.le_trans hk hn)) n0 n1 n2 rfl rfl hw0 hw1 hw2 ?_; intro w1 hP1 hg1) | go_in)
    go_roundw
    case rel => exact ⟨k + 1, by omega, by go_num, by rw [← NN.out.1, ← NN.out.2.1, ← NN.out.2.2] at hP1; exact hP1, below_grown hb2 (Nat.le_trans hbw.size (by simp)) (Nat.le_refl _) hg1⟩
    case measure => simp [intOf]; omega
end Go.Proofs.YtphfiojhpfdpdaaGreat

namespace Go.Proofs.YtphfiojhpfdpdaaGreat
open Go.RowKit Go.Maps

theorem storeF_zero {S : Sto} (h : storeF S = 0) : (S.nc ≤ 200 ∧ S.nl ≤ 200 ∧ S.nw ≤ 200) ∧ scan (cellF S.c) S.nc = 0 ∧ scan (lockF S.l) S.nl = 0 ∧ scan (writeF S.k) S.nw = 0 ∧ needs S ∧ once S := by
  unfold storeF at h
  by_cases h0 : 200 < S.nc ∨ 200 < S.nl ∨ 200 < S.nw
  · rw [if_pos h0] at h; exact absurd h (by decide)
  rw [if_neg h0] at h
  by_cases h1 : scan (cellF S.c) S.nc = 0
  case neg => rw [if_pos h1] at h; exact absurd h h1
  rw [if_neg (fun q => q h1)] at h
  by_cases h2 : scan (lockF S.l) S.nl = 0
  case neg => rw [if_pos h2] at h; exact absurd h h2
  rw [if_neg (fun q => q h2)] at h
  by_cases h3 : scan (writeF S.k) S.nw = 0
  case neg => rw [if_pos h3] at h; exact absurd h h3
  rw [if_neg (fun q => q h3)] at h
  by_cases h4 : needs S
  case neg => rw [if_pos h4] at h; exact absurd h (by decide)
  rw [if_neg (fun q => q h4)] at h
  by_cases h5 : once S
  case neg => rw [if_pos h5] at h; exact absurd h (by decide)
  exact ⟨⟨by omega, by omega, by omega⟩, h1, h2, h3, h4, h5⟩
/-- The order of two pairs of numbers. -/
def pairLt (a b c d : Int) : Prop := a < c ∨ a = c ∧ b < d
theorem pairLt.trans {a b c d e f : Int} (h : pairLt a b c d) (h' : pairLt c d e f) : pairLt a b e f := by unfold pairLt at *; omega
theorem pairLt.ne {a b c d : Int} (h : pairLt a b c d) : ¬ (a = c ∧ b = d) := by unfold pairLt at h; omega
theorem rise_pairs {p q : Nat → Int} {n : Nat} (h : ∀ i, i + 1 < n → pairLt (p i) (q i) (p (i + 1)) (q (i + 1))) : ∀ j, j < n → ∀ i, i < j → pairLt (p i) (q i) (p j) (q j)
  | 0, _, i, hi => by omega
  | j + 1, hj, i, hi => by
    rcases Nat.lt_or_ge i j with e | e
    · exact (rise_pairs h j (by omega) i e).trans (h j hj)
    · obtain rfl : i = j := by omega
      exact h i hj
theorem cellF_next {c : Nat → Int} {i : Nat} (h : cellF c (i + 1) = 0) : pairLt (c (i * 3)) (c (i * 3 + 1)) (c ((i + 1) * 3)) (c ((i + 1) * 3 + 1)) := by
  have hz := cellF_zero h
  unfold cellF at h
  rw [if_neg (fun q => q hz.1), if_neg (fun q => q hz.2)] at h
  by_cases e : 0 < i + 1 ∧ ¬ (c ((i + 1 - 1) * 3) < c ((i + 1) * 3) ∨ c ((i + 1 - 1) * 3) = c ((i + 1) * 3) ∧ c ((i + 1 - 1) * 3 + 1) < c ((i + 1) * 3 + 1))
  · rw [if_pos e] at h; exact absurd h (by decide)
  · exact Classical.byContradiction fun q => e ⟨Nat.succ_pos i, q⟩
theorem cells_rise {S : Sto} (h : scan (cellF S.c) S.nc = 0) : ∀ j, j < S.nc → ∀ i, i < j → pairLt (S.c (i * 3)) (S.c (i * 3 + 1)) (S.c (j * 3)) (S.c (j * 3 + 1)) :=
  rise_pairs (p := fun i => S.c (i * 3)) (q := fun i => S.c (i * 3 + 1)) (fun i hi => cellF_next (scan_zero h (i + 1) hi))
theorem puts_at {p q v : Nat → Int} {x y : Int} {j : Nat} (hj : p j = x ∧ q j = y) : ∀ n, j < n → (∀ i, j < i → i < n → ¬ (p i = x ∧ q i = y)) → puts p q v n x y = some (v j)
  | 0, h, _ => by omega
  | n + 1, h, hu => by
    unfold puts putM
    by_cases e : j = n
    · subst e; rw [if_pos ⟨hj.1.symm, hj.2.symm⟩]
    · rw [if_neg (fun r => hu n (by omega) (by omega) ⟨r.1.symm, r.2.symm⟩)]
      exact puts_at hj n (by omega) (fun i h1 h2 => hu i h1 (by omega))
theorem cellM_at {S : Sto} (h : scan (cellF S.c) S.nc = 0) {a b : Int} {j : Nat} (hj : j < S.nc) (e : cellIs S.c a b j) : cellM S S.nc a b = some (S.c (j * 3 + 2)) := by
  refine puts_at (p := fun i => S.c (i * 3)) (q := fun i => S.c (i * 3 + 1)) (v := fun i => S.c (i * 3 + 2)) e S.nc hj (fun i h1 h2 q => ?_)
  refine (cells_rise h i h2 j h1).ne ⟨e.1.trans q.1.symm, e.2.trans q.2.symm⟩
end Go.Proofs.YtphfiojhpfdpdaaGreat

namespace Go.Proofs.YtphfiojhpfdpdaaGreat
section
open Go.RowKit
/-- Has a store a key that is not in a range? -/
def strayS (S : Sto) (fr tto : Int) : Prop := keepN S.c 3 fr (tto - 1) S.nc ≠ S.nc ∨ keepN S.l 5 fr (tto - 1) S.nl ≠ S.nl ∨ keepN S.k 4 fr (tto - 1) S.nw ≠ S.nw
instance (S : Sto) (fr tto : Int) : Decidable (strayS S fr tto) := by unfold strayS; exact inferInstance
noncomputable def oneF (F : Nat → Int) (S : Nat → Sto) (i : Nat) : Int := if storeF (S i) ≠ 0 then storeF (S i) else if strayS (S i) (F (i * 3)) (F (i * 3 + 1)) then 3 else 0
def fullG (n : Nat) (S : Nat → Sto) : Prop := 200 < sumN (fun i => (S i).nc) n ∨ 200 < sumN (fun i => (S i).nl) n ∨ 200 < sumN (fun i => (S i).nw) n
instance (n : Nat) (S : Nat → Sto) : Decidable (fullG n S) := by unfold fullG; exact inferInstance
noncomputable def groupsF (nr : Nat) (F : Nat → Int) (n : Nat) (S : Nat → Sto) : Int :=
  if rangesF nr F ≠ 0 then rangesF nr F else if n ≠ nr then 1 else if scan (oneF F S) n ≠ 0 then scan (oneF F S) n else if fullG n S then 2 else 0
theorem keep_all {F : Nat → Int} {m : Nat} {a b : Int} : ∀ n, keepN F m a b n = n ↔ ∀ i, i < n → a ≤ F (i * m) ∧ F (i * m) ≤ b
  | 0 => ⟨fun _ i hi => absurd hi (Nat.not_lt_zero i), fun _ => rfl⟩
  | n + 1 => by
    have ih := keep_all (F := F) (m := m) (a := a) (b := b) n
    have hle := keep_le F m a b n
    by_cases h : a ≤ F (n * m) ∧ F (n * m) ≤ b
    · rw [(keep_yes h).2]
      refine ⟨fun e i hi => ?_, fun q => by have := ih.2 (fun i hi => q i (by omega)); omega⟩
      rcases Nat.lt_or_ge i n with q | q
      · exact ih.1 (by omega) i q
      · obtain rfl : i = n := by omega
        exact h
    · rw [(keep_no h).2]
      exact ⟨fun e => by omega, fun q => absurd (q n (by omega)) h⟩
theorem sum_le {f : Nat → Nat} {c : Nat} : ∀ n, (∀ i, i < n → f i ≤ c) → sumN f n ≤ n * c
  | 0, _ => by simp [sumN]
  | n + 1, h => by
    have := sum_le n (fun i hi => h i (by omega))
    have h2 := h n (by omega)
    show sumN f n + f n ≤ (n + 1) * c
    rw [Nat.succ_mul]
    omega
theorem Good.to {n : Nat} {F : Nat → Int} (h : Good n F) : ∀ d i, i + d + 1 = n → F (i * 3 + 1) ≤ 200
  | 0, i, e => by
    have := h.last
    rw [show n - 1 = i by omega] at this
    omega
  | d + 1, i, e => by
    have h1 := h.to d (i + 1) (by omega)
    have h2 := h.lt (i + 1) (by omega)
    have h3 := h.next i (by omega)
    omega
theorem Good.fromZ {n : Nat} {F : Nat → Int} (h : Good n F) : ∀ i, i < n → 0 ≤ F (i * 3)
  | 0, _ => by have := h.first; simp; omega
  | i + 1, hi => by
    have h1 := h.fromZ i (by omega)
    have h2 := h.lt i (by omega)
    have h3 := h.next i hi
    omega
theorem Good.bounds {n : Nat} {F : Nat → Int} (h : Good n F) (i : Nat) (hi : i < n) : 0 ≤ F (i * 3) ∧ F (i * 3) < F (i * 3 + 1) ∧ F (i * 3 + 1) ≤ 200 :=
  ⟨h.fromZ i hi, h.lt i hi, h.to (n - 1 - i) i (by omega)⟩

def OutE (w : World) (b oo : Nat) (v0 v1 v2 u0 u1 u2 : Value) (q : Nat) (x : World) : Prop :=
  Below w.heap.size w x ∧ (x.cell? ⟨b, oo, none⟩ = some v0 ∧ x.cell? ⟨b, oo + 1, none⟩ = some v1 ∧ x.cell? ⟨b, oo + 2, none⟩ = some v2) ∧ Blk3 x q u0 u1 u2
set_option maxRecDepth 100000 in
set_option maxHeartbeats 4000000 in
theorem l7Outside_any (S : Sto) (b oo : Nat) (v0 v1 v2 : Value) (fr tto ep : Int) (w : World) (h : LiesO w b oo S v0 v1 v2) (hn : S.nc ≤ 200 ∧ S.nl ≤ 200 ∧ S.nw ≤ 200) (ht : 0 ≤ tto ∧ tto ≤ 200) :
    Calls Tryz.prog 105 #[.pointer (some ⟨b, oo, none⟩), .agg #[.int .i64 fr, .int .i64 tto, .int .i64 ep]] w fun e w' => e = .returned (.bool (decide (strayS S fr tto))) ∧ Below w.heap.size w w' := by
  obtain ⟨a0, c0, a1, c1, a2, c2, rfl, rfl, rfl⟩ := h.2.form
  have H : Hid (LiesO w b oo S (.slice a0 S.nc c0) (.slice a1 S.nl c1) (.slice a2 S.nw c2)) := h
  have HT : Hid ((S.nc ≤ 200 ∧ S.nl ≤ 200 ∧ S.nw ≤ 200) ∧ 0 ≤ tto ∧ tto ≤ 200) := ⟨hn, ht⟩
  obtain ⟨x0, hx0⟩ : ∃ x, keepN S.c 3 fr (tto - 1) S.nc = x := ⟨_, rfl⟩
  obtain ⟨x1, hx1⟩ : ∃ x, keepN S.l 5 fr (tto - 1) S.nl = x := ⟨_, rfl⟩
  obtain ⟨x2, hx2⟩ : ∃ x, keepN S.k 4 fr (tto - 1) S.nw = x := ⟨_, rfl⟩
  have HP : Hid ((partS S fr tto).nc = x0 ∧ (partS S fr tto).nl = x1 ∧ (partS S fr tto).nw = x2) := ⟨hx0, hx1, hx2⟩
  have HS : Hid (strayS S fr tto ↔ (x0 ≠ S.nc ∨ x1 ≠ S.nl ∨ x2 ≠ S.nw)) := by unfold Hid strayS; rw [hx0, hx1, hx2]
  clear h hn ht hx0 hx1 hx2
  go_enter Tryz.func105, Tryz.ntmps105
  go_wp2_with fail
  refine (l2Part_anyO S b oo _ _ _ fr tto _ (H.out.later (below_alloc _ _)) HT.out.1 HT.out.2).mono ?_
  rintro e w1 ⟨d0, e0, d1, e1, d2, e2, rfl, _, q1⟩
  rw [HP.out.1, HP.out.2.1, HP.out.2.2]
  have B1 : Below w.heap.size w w1 := (below_alloc w _).trans (q1.mono (by simp))
  have hb := H.out.lt
  have L2 : Hid (OutE w b oo (.slice a0 S.nc c0) (.slice a1 S.nl c1) (.slice a2 S.nw c2) (.slice d0 x0 e0) (.slice d1 x1 e1) (.slice d2 x2 e2) w1.heap.size (w1.alloc (.cells #[.slice d0 x0 e0, .slice d1 x1 e1, .slice d2 x2 e2] 149))) := ⟨B1.trans ((below_alloc _ _).mono B1.size), ((H.out.later B1).later (below_alloc _ _)).1, Blk3.new _ _ _ _ _⟩
  clear q1 B1
  go_wp2_with fail
  generalize w1.alloc (.cells #[.slice d0 x0 e0, .slice d1 x1 e1, .slice d2 x2 e2] 149) = w2 at L2 ⊢
  obtain ⟨HB, ⟨p0, p1, p2⟩, ⟨y0, y1, y2⟩, _⟩ := L2.out
  have HB' : Hid (Below w.heap.size w w2) := HB
  clear HB H HP L2
  by_cases h0 : x0 = S.nc
  case neg =>
    have d : ((x0 : Int) != (S.nc : Int)) = true := bne_iff_ne.2 (by omega)
    have E : Hid (decide (strayS S fr tto) = true) := decide_eq_true (HS.out.2 (Or.inl h0))
    clear h0 HS
    go_quiet (fail)
    go_wp2
    go_ret
    exact ⟨by rw [E.out]; rfl, below_dr HB'.out _⟩
  by_cases h1 : x1 = S.nl
  case neg =>
    have d : ((x1 : Int) != (S.nl : Int)) = true := bne_iff_ne.2 (by omega)
    have E : Hid (decide (strayS S fr tto) = true) := decide_eq_true (HS.out.2 (Or.inr (Or.inl h1)))
    subst h0
    clear h1 HS
    go_quiet (fail)
    go_wp2
    go_ret
    exact ⟨by rw [E.out]; rfl, below_dr HB'.out _⟩
  by_cases h2 : x2 = S.nw
  case neg =>
    have d : ((x2 : Int) != (S.nw : Int)) = true := bne_iff_ne.2 (by omega)
    have E : Hid (decide (strayS S fr tto) = true) := decide_eq_true (HS.out.2 (Or.inr (Or.inr h2)))
    subst h0 h1
    clear h2 HS
    go_quiet (fail)
    go_wp2
    go_ret
    exact ⟨by rw [E.out]; rfl, below_dr HB'.out _⟩
  have E : Hid (decide (strayS S fr tto) = false) := decide_eq_false (fun q => by have := HS.out.1 q; omega)
  subst h0 h1 h2
  clear HS
  go_quiet (fail)
  go_wp2
  go_ret
  exact ⟨by rw [E.out]; rfl, below_dr HB'.out _⟩
end

section
open Go.RowKit
theorem sum_small {f : Nat → Nat} {n k : Nat} (h : ∀ i, i < n → f i ≤ 200) (hn : n ≤ 6) (hk : k ≤ n) : sumN f k ≤ 1200 := by
  have h1 := sum_le (f := f) (c := 200) k (fun i hi => h i (by omega))
  have h2 : k * 200 ≤ 6 * 200 := Nat.mul_le_mul_right 200 (by omega)
  omega
end
end Go.Proofs.YtphfiojhpfdpdaaGreat

namespace Go.Proofs.YtphfiojhpfdpdaaGreat
open Go.RowKit

set_option maxHeartbeats 1000000 in
theorem l5Fault_at (a b : Int) (g : Nat) (w : World) (c0 : w.cell? ⟨g, 1, none⟩ = some (.int .i64 a)) (c1 : w.cell? ⟨g, 2, none⟩ = some (.int .i64 b)) :
    Calls Tryz.prog 72 #[.pointer (some ⟨g, 1, none⟩)] w fun e w' => e = .returned (.int .i64 (oFault a b)) ∧ ∃ n, w' = w.drewN n := by
  by_cases h1 : a < 1
  · rw [oFault_range (by omega)]
    go_enter Tryz.func72, Tryz.ntmps72
    go_wp2
    first | (go_ret; exact ⟨rfl, rfl⟩) | (go_ret; exact ⟨rfl, 0, rfl⟩) | (go_quiet (fail); go_wp2; go_ret; exact ⟨rfl, _, rfl⟩)
  by_cases h2 : 100000 < a
  · rw [oFault_range (by omega)]
    have d1 : decide (a ≤ 100000) = false := decide_eq_false (by omega)
    go_enter Tryz.func72, Tryz.ntmps72
    go_wp2
    first | (go_ret; exact ⟨rfl, rfl⟩) | (go_ret; exact ⟨rfl, 0, rfl⟩) | (go_quiet (fail); go_wp2; go_ret; exact ⟨rfl, _, rfl⟩)
  have d1 : decide (a ≤ 100000) = true := decide_eq_true (by omega)
  by_cases h3 : b < 1
  · rw [oFault_range (by omega)]
    go_enter Tryz.func72, Tryz.ntmps72
    go_wp2
    first | (go_ret; exact ⟨rfl, rfl⟩) | (go_ret; exact ⟨rfl, 0, rfl⟩) | (go_quiet (fail); go_wp2; go_ret; exact ⟨rfl, _, rfl⟩)
  by_cases h4 : 100000 < b
  · rw [oFault_range (by omega)]
    have d2 : decide (b ≤ 100000) = false := decide_eq_false (by omega)
    go_enter Tryz.func72, Tryz.ntmps72
    go_wp2
    first | (go_ret; exact ⟨rfl, rfl⟩) | (go_ret; exact ⟨rfl, 0, rfl⟩) | (go_quiet (fail); go_wp2; go_ret; exact ⟨rfl, _, rfl⟩)
  have d2 : decide (b ≤ 100000) = true := decide_eq_true (by omega)
  by_cases h5 : b < a
  · rw [oFault_form (by omega) h5]
    go_enter Tryz.func72, Tryz.ntmps72
    go_wp2
    first | (go_ret; exact ⟨rfl, rfl⟩) | (go_ret; exact ⟨rfl, 0, rfl⟩) | (go_quiet (fail); go_wp2; go_ret; exact ⟨rfl, _, rfl⟩)
  · rw [oFault_ok (by omega) h5]
    go_enter Tryz.func72, Tryz.ntmps72
    go_wp2
    first | (go_ret; exact ⟨rfl, rfl⟩) | (go_ret; exact ⟨rfl, 0, rfl⟩) | (go_quiet (fail); go_wp2; go_ret; exact ⟨rfl, _, rfl⟩)
/-- Block b holds a world, in it groups: their two lists, and all that is in them. -/
def LiesW (w : World) (b nr : Nat) (F : Nat → Int) (n : Nat) (S : Nat → Sto) (V : Nat → Nat → Value) (vr vs : Value) : Prop := (w.cell? ⟨b, 3, none⟩ = some vr ∧ w.cell? ⟨b, 4, none⟩ = some vs) ∧ Grs w 0 nr F n S V vr vs
theorem LiesW.lt {w : World} {b nr : Nat} {F : Nat → Int} {n : Nat} {S : Nat → Sto} {V : Nat → Nat → Value} {vr vs : Value} (h : LiesW w b nr F n S V vr vs) : b < w.heap.size := World.block_lt_of_cell? w ⟨b, 3, none⟩ h.1.1
theorem LiesW.later {w w' : World} {b nr : Nat} {F : Nat → Int} {n : Nat} {S : Nat → Sto} {V : Nat → Nat → Value} {vr vs : Value} (h : LiesW w b nr F n S V vr vs) (hb : Below w.heap.size w w') : LiesW w' b nr F n S V vr vs :=
  ⟨⟨(hb.cell (p := ⟨b, 3, none⟩) h.lt).trans h.1.1, (hb.cell (p := ⟨b, 4, none⟩) h.lt).trans h.1.2⟩, h.2.later hb⟩
set_option maxRecDepth 100000 in
set_option maxHeartbeats 4000000 in
theorem l7Full_at (nr : Nat) (F : Nat → Int) (n : Nat) (S : Nat → Sto) (V : Nat → Nat → Value) (vr vs : Value) (b : Nat) (w : World) (h : LiesW w b nr F n S V vr vs) (hn : n ≤ 6) (hs : ∀ i, i < n → (S i).nc ≤ 200 ∧ (S i).nl ≤ 200 ∧ (S i).nw ≤ 200) :
    Calls Tryz.prog 106 #[.pointer (some ⟨b, 3, none⟩)] w fun e w' => e = .returned (.bool (decide (fullG n S))) ∧ Below w.heap.size w w' := by
  obtain ⟨a0, c0, a1, c1, rfl, rfl⟩ := h.2.form
  have H : Hid (LiesW w b nr F n S V (.slice a0 nr c0) (.slice a1 n c1)) := h
  have HN : Hid (∀ i, i < n → (S i).nc ≤ 200 ∧ (S i).nl ≤ 200 ∧ (S i).nw ≤ 200) := hs
  clear h hs
  go_enter Tryz.func106, Tryz.ntmps106
  go_wp2
  go_loopw [3, 4, 5, 6] (fun x y z i wr => ∃ (k p0 p1 p2 : Nat), k ≤ n ∧ x = .int .i64 p0 ∧ y = .int .i64 p1 ∧ z = .int .i64 p2 ∧ i = .int .i64 k ∧ Hid (p0 = sumN (fun i => (S i).nc) k ∧ p1 = sumN (fun i => (S i).nl) k ∧ p2 = sumN (fun i => (S i).nw) k) ∧ Hid (Below w.heap.size w wr)) (fun _ _ _ i _ => n - (intOf i).toNat)
  case atStart => exact ⟨0, 0, 0, 0, Nat.zero_le _, rfl, rfl, rfl, rfl, ⟨rfl, rfl, rfl⟩, Below.refl _ _⟩
  case round =>
    obtain ⟨k, p0, p1, p2, hk, rfl, rfl, rfl, rfl, HS, hR⟩ := hrel
    have hl0 := (H.out.later hR.out).1.2
    have q0 : p0 ≤ 1200 := by rw [HS.out.1]; exact sum_small (fun i hi => (HN.out i hi).1) hn hk
    have q1 : p1 ≤ 1200 := by rw [HS.out.2.1]; exact sum_small (fun i hi => (HN.out i hi).2.1) hn hk
    have q2 : p2 ≤ 1200 := by rw [HS.out.2.2]; exact sum_small (fun i hi => (HN.out i hi).2.2) hn hk
    by_cases hlt : k < n
    · obtain ⟨g, o, rfl, _, hg, ⟨b0, b1, b2⟩, sk⟩ := (H.out.later hR.out).2.2.at hlt
      obtain ⟨i0, d0, i1, d1, i2, d2, e0, e1, e2⟩ := sk.form
      rw [e0] at b0
      rw [e1] at b1
      rw [e2] at b2
      clear sk e0 e1 e2
      obtain ⟨n0, hn0⟩ : ∃ x, (S k).nc = x := ⟨_, rfl⟩
      obtain ⟨n1, hn1⟩ : ∃ x, (S k).nl = x := ⟨_, rfl⟩
      obtain ⟨n2, hn2⟩ : ∃ x, (S k).nw = x := ⟨_, rfl⟩
      rw [hn0] at b0
      rw [hn1] at b1
      rw [hn2] at b2
      have hB := HN.out k hlt
      rw [hn0, hn1, hn2] at hB
      obtain ⟨m0, m1, m2⟩ := hB
      have HS1 : Hid (p0 + n0 = sumN (fun i => (S i).nc) (k + 1) ∧ p1 + n1 = sumN (fun i => (S i).nl) (k + 1) ∧ p2 + n2 = sumN (fun i => (S i).nw) (k + 1)) := by
        refine ⟨?_, ?_, ?_⟩
        · show _ = sumN (fun i => (S i).nc) k + (S k).nc
          rw [HS.out.1, hn0]
        · show _ = sumN (fun i => (S i).nl) k + (S k).nl
          rw [HS.out.2.1, hn1]
        · show _ = sumN (fun i => (S i).nw) k + (S k).nw
          rw [HS.out.2.2, hn2]
      clear hn0 hn1 hn2 HS
      go_wp2
      go_roundw
      case rel => exact ⟨k + 1, p0 + n0, p1 + n1, p2 + n2, by omega, by go_num, by go_num, by go_num, by go_num, HS1, hR⟩
      case measure => simp [intOf]; omega
    · obtain rfl : k = n := by omega
      have HF : Hid (fullG k S ↔ (200 < p0 ∨ 200 < p1 ∨ 200 < p2)) := by unfold Hid fullG; rw [← HS.out.1, ← HS.out.2.1, ← HS.out.2.2]
      clear HS
      by_cases r0 : 200 < p0
      · have d : decide ((200 : Int) < (p0 : Int)) = true := decide_eq_true (by omega)
        have E : Hid (decide (fullG k S) = true) := decide_eq_true (HF.out.2 (Or.inl r0))
        clear r0 HF
        go_wp2
        go_ret
        exact ⟨by rw [E.out]; rfl, hR.out⟩
      have d0 : decide ((200 : Int) < (p0 : Int)) = false := decide_eq_false (by omega)
      by_cases r1 : 200 < p1
      · have d : decide ((200 : Int) < (p1 : Int)) = true := decide_eq_true (by omega)
        have E : Hid (decide (fullG k S) = true) := decide_eq_true (HF.out.2 (Or.inr (Or.inl r1)))
        clear r0 r1 HF
        go_wp2
        go_ret
        exact ⟨by rw [E.out]; rfl, hR.out⟩
      have d1 : decide ((200 : Int) < (p1 : Int)) = false := decide_eq_false (by omega)
      by_cases r2 : 200 < p2
      · have d : decide ((200 : Int) < (p2 : Int)) = true := decide_eq_true (by omega)
        have E : Hid (decide (fullG k S) = true) := decide_eq_true (HF.out.2 (Or.inr (Or.inr r2)))
        clear r0 r1 r2 HF
        go_wp2
        go_ret
        exact ⟨by rw [E.out]; rfl, hR.out⟩
      have d2 : decide ((200 : Int) < (p2 : Int)) = false := decide_eq_false (by omega)
      have E : Hid (decide (fullG k S) = false) := decide_eq_false (fun q => by have := HF.out.1 q; omega)
      clear r0 r1 r2 HF
      go_wp2
      go_ret
      exact ⟨by rw [E.out]; rfl, hR.out⟩
set_option maxRecDepth 100000 in
set_option maxHeartbeats 8000000 in
theorem l7Fault_at (nr : Nat) (F : Nat → Int) (n : Nat) (S : Nat → Sto) (V : Nat → Nat → Value) (vr vs : Value) (b : Nat) (w : World) (h : LiesW w b nr F n S V vr vs) (hr : nr ≤ 9223372036854775807) (hn : n ≤ 9223372036854775807) :
    Calls Tryz.prog 73 #[.pointer (some ⟨b, 3, none⟩)] w fun e w' => e = .returned (.int .i64 (groupsF nr F n S)) ∧ Below w.heap.size w w' := by
  obtain ⟨a0, c0, a1, c1, rfl, rfl⟩ := h.2.form
  have H : Hid (LiesW w b nr F n S V (.slice a0 nr c0) (.slice a1 n c1)) := h
  obtain ⟨p0, p1⟩ := h.1
  clear h
  obtain ⟨f, hf⟩ : ∃ f, rangesF nr F = f := ⟨_, rfl⟩
  have HF : Hid (rangesF nr F = f) := hf
  go_enter Tryz.func73, Tryz.ntmps73
  go_wp2_with fail
  refine (l6Fault_any _ 0 nr F _ H.out.2.1 hr).mono ?_
  rw [hf]
  rintro e w1 ⟨rfl, q1⟩
  have B1 : Hid (Below w.heap.size w w1) := q1
  clear q1 hf p0 p1
  by_cases hz : f = 0
  case neg =>
    have d : (f == 0) = false := beq_eq_false_iff_ne.2 hz
    have d' : (f != 0) = true := bne_iff_ne.2 hz
    have E : Hid (groupsF nr F n S = f) := by unfold Hid groupsF; rw [HF.out, if_pos hz]
    clear hz HF
    go_wp2
    go_ret
    exact ⟨by rw [E.out]; rfl, B1.out⟩
  subst hz
  have G : Hid (Good nr F) := good_of HF.out
  obtain ⟨p0, p1⟩ := (H.out.later B1.out).1
  by_cases hnn : n = nr
  case neg =>
    have d : ((n : Int) != (nr : Int)) = true := bne_iff_ne.2 (by omega)
    have E : Hid (groupsF nr F n S = 1) := by unfold Hid groupsF; rw [HF.out, if_neg (by decide), if_pos hnn]
    clear HF hnn
    go_wp2_with fail
    go_quiet (fail)
    go_wp2
    go_ret
    exact ⟨by rw [E.out]; rfl, below_dr B1.out _⟩
  have HG : Hid (groupsF nr F n S = if scan (oneF F S) n ≠ 0 then scan (oneF F S) n else if fullG n S then 2 else 0) := by unfold Hid groupsF; rw [HF.out, if_neg (by decide), if_neg (fun q => q hnn)]
  have hn6 : n ≤ 6 := by have := G.out.n6; omega
  subst hnn
  clear HF
  go_wp2_with fail
  go_quiet (fail)
  go_wp2_with fail
  clear p0 p1
  go_loopw [4] (fun i wr => ∃ k : Nat, k ≤ n ∧ i = .int .i64 k ∧ Hid (scan (oneF F S) k = 0) ∧ Hid (Below w.heap.size w wr)) (fun i _ => n - (intOf i).toNat)
  case atStart => exact ⟨0, Nat.zero_le _, rfl, rfl, below_dr B1.out _⟩
  case round =>
    obtain ⟨k, hk, rfl, HS, hR⟩ := hrel
    have HL : Hid (LiesW wr b n F n S V (.slice a0 n c0) (.slice a1 n c1)) := H.out.later hR.out
    obtain ⟨p0, p1⟩ := HL.out.1
    by_cases hlt : k < n
    · obtain ⟨g, o, rfl, _, hg, ⟨b0, b1, b2⟩, sk⟩ := HL.out.2.2.at hlt
      obtain ⟨gr, oR, rfl, _, hgr, t0, t1, t2⟩ := HL.out.2.1.at3 hlt
      have LS : Hid (LiesO wr g (o + k * 3) (S k) (V k 0) (V k 1) (V k 2)) := ⟨⟨b0, b1, b2⟩, sk⟩
      clear b0 b1 b2 sk t0 t1 t2
      obtain ⟨fs, hfs⟩ : ∃ x, storeF (S k) = x := ⟨_, rfl⟩
      have HFS : Hid (storeF (S k) = fs) := hfs
      go_wp2_with fail
      refine (l2Fault_anyO (S k) g (o + k * 3) _ _ _ _ LS.out).mono ?_
      rw [hfs]
      rintro e w3 ⟨rfl, q3⟩
      have B3 : Hid (Below w.heap.size w w3) := hR.out.trans (q3.mono hR.out.size)
      have LS3 : Hid (LiesO w3 g (o + k * 3) (S k) (V k 0) (V k 1) (V k 2)) := LS.out.later q3
      clear q3 hfs p0 p1 LS
      by_cases hz : fs = 0
      case neg =>
        have d : (fs == 0) = false := beq_eq_false_iff_ne.2 hz
        have d' : (fs != 0) = true := bne_iff_ne.2 hz
        have E : Hid (groupsF n F n S = fs) := by
          have h1 : oneF F S k = fs := by unfold oneF; rw [HFS.out, if_pos hz]
          have h2 : scan (oneF F S) n = fs := (scan_stop HS.out (by rw [h1]; exact hz) hlt).trans h1
          unfold Hid
          rw [HG.out, h2, if_pos hz]
        clear hz HFS HG HS
        go_wp2
        go_ret
        exact ⟨by rw [E.out]; rfl, B3.out⟩
      subst hz
      obtain ⟨p0, p1⟩ := (H.out.later B3.out).1
      obtain ⟨gr', oR', he, _, _, t0, t1, t2⟩ := (H.out.later B3.out).2.1.at3 hlt
      simp only [Option.some.injEq, Addr.mk.injEq, and_true] at he
      obtain ⟨rfl, rfl⟩ := he
      obtain ⟨fr, hfr⟩ : ∃ x, F (k * 3) = x := ⟨_, rfl⟩
      obtain ⟨tto, hto⟩ : ∃ x, F (k * 3 + 1) = x := ⟨_, rfl⟩
      obtain ⟨ep, hep⟩ : ∃ x, F (k * 3 + 2) = x := ⟨_, rfl⟩
      rw [hfr] at t0
      rw [hto] at t1
      rw [hep] at t2
      have HFT : Hid (F (k * 3) = fr ∧ F (k * 3 + 1) = tto) := ⟨hfr, hto⟩
      have hbd : Hid (0 ≤ tto ∧ tto ≤ 200) := by
        have := G.out.bounds k hlt
        rw [hfr, hto] at this
        exact ⟨by omega, by omega⟩
      clear hfr hto hep
      have Z := storeF_zero HFS.out
      have HZ : Hid ((S k).nc ≤ 200 ∧ (S k).nl ≤ 200 ∧ (S k).nw ≤ 200) := Z.1
      clear Z
      go_wp2_with fail
      refine (l7Outside_any (S k) g (o + k * 3) _ _ _ fr tto ep _ LS3.out HZ.out hbd.out).mono ?_
      by_cases hst : strayS (S k) fr tto
      · rw [decide_eq_true hst]
        rintro e w4 ⟨rfl, q4⟩
        have B4 : Hid (Below w.heap.size w w4) := B3.out.trans (q4.mono B3.out.size)
        have E : Hid (groupsF n F n S = 3) := by
          have h1 : oneF F S k = 3 := by unfold oneF; rw [HFS.out, if_neg (by decide), HFT.out.1, HFT.out.2, if_pos hst]
          have h2 : scan (oneF F S) n = 3 := (scan_stop HS.out (by rw [h1]; decide) hlt).trans h1
          unfold Hid
          rw [HG.out, h2, if_pos (by decide)]
        clear q4 hst HFS HG HS p0 p1 t0 t1 t2
        go_wp2
        go_ret
        exact ⟨by rw [E.out]; rfl, B4.out⟩
      · rw [decide_eq_false hst]
        rintro e w4 ⟨rfl, q4⟩
        have B4 : Hid (Below w.heap.size w w4) := B3.out.trans (q4.mono B3.out.size)
        have HS1 : Hid (scan (oneF F S) (k + 1) = 0) := scan_go HS.out (by unfold oneF; rw [HFS.out, if_neg (by decide), HFT.out.1, HFT.out.2, if_neg hst])
        clear q4 hst HFS HS p0 p1 t0 t1 t2
        go_wp2
        go_roundw
        case rel => exact ⟨k + 1, by omega, by go_num, HS1, B4⟩
        case measure => simp [intOf]; omega
    · obtain rfl : k = n := by omega
      have HSS : Hid (∀ i, i < k → (S i).nc ≤ 200 ∧ (S i).nl ≤ 200 ∧ (S i).nw ≤ 200) := fun i hi => by
        have h1 := scan_zero HS.out i hi
        unfold oneF at h1
        split at h1
        · rename_i q; exact absurd h1 q
        · rename_i q; exact (storeF_zero (Classical.not_not.1 q)).1
      have E : Hid (groupsF k F k S = if fullG k S then 2 else 0) := by unfold Hid; rw [HG.out, HS.out, if_neg (by decide)]
      clear HS HG hlt
      go_wp2_with fail
      refine (l7Full_at k F k S V _ _ b _ HL.out hn6 HSS.out).mono ?_
      by_cases hfu : fullG k S
      · rw [decide_eq_true hfu]
        have E2 : Hid (groupsF k F k S = 2) := by unfold Hid; rw [E.out, if_pos hfu]
        rintro e w4 ⟨rfl, q4⟩
        have B4 : Hid (Below w.heap.size w w4) := hR.out.trans (q4.mono hR.out.size)
        clear q4 hfu E
        go_wp2
        go_ret
        exact ⟨by rw [E2.out]; rfl, B4.out⟩
      · rw [decide_eq_false hfu]
        have E2 : Hid (groupsF k F k S = 0) := by unfold Hid; rw [E.out, if_neg hfu]
        rintro e w4 ⟨rfl, q4⟩
        have B4 : Hid (Below w.heap.size w w4) := hR.out.trans (q4.mono hR.out.size)
        clear q4 hfu E
        go_wp2
        go_ret
        exact ⟨by rw [E2.out]; rfl, B4.out⟩
end Go.Proofs.YtphfiojhpfdpdaaGreat

namespace Go.Proofs.YtphfiojhpfdpdaaGreat
open Go.RowKit

/-- A transaction that lies in block b from cell q on. -/
def LiesX (w : World) (b q : Nat) (s c u st a : Int) (n : Nat) (F : Nat → Int) (y : Value) : Prop :=
  (w.cell? ⟨b, q, none⟩ = some (.int .i64 s) ∧ w.cell? ⟨b, q + 1, none⟩ = some (.int .i64 c) ∧ w.cell? ⟨b, q + 2, none⟩ = some (.int .i64 u) ∧ w.cell? ⟨b, q + 3, none⟩ = some (.int .i64 st) ∧ w.cell? ⟨b, q + 4, none⟩ = some (.int .i64 a) ∧ w.cell? ⟨b, q + 5, none⟩ = some y) ∧ Row w 0 3 n F y ∧ CapOk y
theorem LiesX.lt {w : World} {b q : Nat} {s c u st a : Int} {n : Nat} {F : Nat → Int} {y : Value} (h : LiesX w b q s c u st a n F y) : b < w.heap.size := World.block_lt_of_cell? w ⟨b, q, none⟩ h.1.1
theorem LiesX.later {w x : World} {b q : Nat} {s c u st a : Int} {n : Nat} {F : Nat → Int} {y : Value} (h : LiesX w b q s c u st a n F y) (hb : Below w.heap.size w x) : LiesX x b q s c u st a n F y := by
  have hk : ∀ i, x.cell? ⟨b, i, none⟩ = w.cell? ⟨b, i, none⟩ := fun i => hb.cell (p := ⟨b, i, none⟩) h.lt
  obtain ⟨⟨h0, h1, h2, h3, h4, h5⟩, hr, hc⟩ := h
  exact ⟨⟨(hk _).trans h0, (hk _).trans h1, (hk _).trans h2, (hk _).trans h3, (hk _).trans h4, (hk _).trans h5⟩, hr.later hb, hc⟩

set_option maxRecDepth 100000 in
set_option maxHeartbeats 4000000 in
theorem l8Fault_at (b q6 : Nat) (s c u st a : Int) (n : Nat) (F : Nat → Int) (y : Value) (w : World) (h : LiesX w b q6 s c u st a n F y) (hn : n ≤ 9223372036854775807) :
    Calls Tryz.prog 74 #[.pointer (some ⟨b, q6, none⟩)] w fun e w' => e = .returned (.int .i64 (txnF s c u st a n F)) ∧ Below w.heap.size w w' := by
  obtain ⟨ao, cp, rfl⟩ := h.2.1.form
  have hcp : n ≤ cp := h.2.2 _ _ _ rfl
  have H : Hid (LiesX w b q6 s c u st a n F (.slice ao n cp)) := h
  obtain ⟨⟨p0, p1, p2, p3, p4, p5⟩, _⟩ := h
  by_cases h0 : 1 ≤ s ∧ s ≤ 100000
  case neg =>
    have D0 : Hid (decide (1 ≤ s ∧ s ≤ 100000) = false) := decide_eq_false h0
    have E : Hid (txnF s c u st a n F = 3) := txnF_range (Or.inl h0)
    clear h0
    go_enter Tryz.func74, Tryz.ntmps74
    go_wp2_with fail
    refine (tsT_is _ _ D0.out _).mono ?_
    rintro e w9 ⟨rfl, hw9⟩
    obtain rfl := hw9.symm
    go_wp2
    go_ret
    exact ⟨by rw [E.out]; rfl, Below.refl _ _⟩
  have D0 : Hid (decide (1 ≤ s ∧ s ≤ 100000) = true) := decide_eq_true h0
  by_cases h1 : 0 ≤ c ∧ c ≤ 100000
  case neg =>
    have D1 : Hid (decide (0 ≤ c ∧ c ≤ 100000) = false) := decide_eq_false h1
    have E : Hid (txnF s c u st a n F = 3) := txnF_range (Or.inr (Or.inl h1))
    clear h0 h1
    go_enter Tryz.func74, Tryz.ntmps74
    go_wp2_with fail
    refine (tsT_is _ _ D0.out _).mono ?_
    rintro e w9 ⟨rfl, hw9⟩
    obtain rfl := hw9.symm
    go_wp2_with fail
    refine (inT_is _ _ _ _ D1.out _).mono ?_
    rintro e w9 ⟨rfl, hw9⟩
    obtain rfl := hw9.symm
    go_wp2
    go_ret
    exact ⟨by rw [E.out]; rfl, Below.refl _ _⟩
  have D1 : Hid (decide (0 ≤ c ∧ c ≤ 100000) = true) := decide_eq_true h1
  by_cases h2 : 0 ≤ u ∧ u ≤ 100000
  case neg =>
    have D2 : Hid (decide (0 ≤ u ∧ u ≤ 100000) = false) := decide_eq_false h2
    have E : Hid (txnF s c u st a n F = 3) := txnF_range (Or.inr (Or.inr (Or.inl h2)))
    clear h0 h1 h2
    go_enter Tryz.func74, Tryz.ntmps74
    go_wp2_with fail
    refine (tsT_is _ _ D0.out _).mono ?_
    rintro e w9 ⟨rfl, hw9⟩
    obtain rfl := hw9.symm
    go_wp2_with fail
    refine (inT_is _ _ _ _ D1.out _).mono ?_
    rintro e w9 ⟨rfl, hw9⟩
    obtain rfl := hw9.symm
    go_wp2_with fail
    refine (inT_is _ _ _ _ D2.out _).mono ?_
    rintro e w9 ⟨rfl, hw9⟩
    obtain rfl := hw9.symm
    go_wp2
    go_ret
    exact ⟨by rw [E.out]; rfl, Below.refl _ _⟩
  have D2 : Hid (decide (0 ≤ u ∧ u ≤ 100000) = true) := decide_eq_true h2
  by_cases h3 : 1 ≤ st ∧ st ≤ 7
  case neg =>
    have D3 : Hid (decide (1 ≤ st ∧ st ≤ 7) = false) := decide_eq_false h3
    have E : Hid (txnF s c u st a n F = 3) := txnF_range (Or.inr (Or.inr (Or.inr h3)))
    clear h0 h1 h2 h3
    go_enter Tryz.func74, Tryz.ntmps74
    go_wp2_with fail
    refine (tsT_is _ _ D0.out _).mono ?_
    rintro e w9 ⟨rfl, hw9⟩
    obtain rfl := hw9.symm
    go_wp2_with fail
    refine (inT_is _ _ _ _ D1.out _).mono ?_
    rintro e w9 ⟨rfl, hw9⟩
    obtain rfl := hw9.symm
    go_wp2_with fail
    refine (inT_is _ _ _ _ D2.out _).mono ?_
    rintro e w9 ⟨rfl, hw9⟩
    obtain rfl := hw9.symm
    go_wp2_with fail
    refine (inT_is _ _ _ _ D3.out _).mono ?_
    rintro e w9 ⟨rfl, hw9⟩
    obtain rfl := hw9.symm
    go_wp2
    go_ret
    exact ⟨by rw [E.out]; rfl, Below.refl _ _⟩
  have D3 : Hid (decide (1 ≤ st ∧ st ≤ 7) = true) := decide_eq_true h3
  have HI : Hid (InB s c u st) := ⟨h0, h1, h2, h3⟩
  clear h0 h1 h2 h3
  by_cases hm : n < 1 ∨ 12 < n
  · have D4 : Hid (decide (1 ≤ (n : Int) ∧ (n : Int) ≤ 12) = false) := decide_eq_false (by omega)
    have E : Hid (txnF s c u st a n F = 2) := txnF_many HI.out hm
    clear hm
    go_enter Tryz.func74, Tryz.ntmps74
    go_wp2_with fail
    refine (tsT_is _ _ D0.out _).mono ?_
    rintro e w9 ⟨rfl, hw9⟩
    obtain rfl := hw9.symm
    go_wp2_with fail
    refine (inT_is _ _ _ _ D1.out _).mono ?_
    rintro e w9 ⟨rfl, hw9⟩
    obtain rfl := hw9.symm
    go_wp2_with fail
    refine (inT_is _ _ _ _ D2.out _).mono ?_
    rintro e w9 ⟨rfl, hw9⟩
    obtain rfl := hw9.symm
    go_wp2_with fail
    refine (inT_is _ _ _ _ D3.out _).mono ?_
    rintro e w9 ⟨rfl, hw9⟩
    obtain rfl := hw9.symm
    go_wp2_with fail
    refine (inT_is _ _ _ _ D4.out _).mono ?_
    rintro e w9 ⟨rfl, hw9⟩
    obtain rfl := hw9.symm
    go_wp2
    go_ret
    exact ⟨by rw [E.out]; rfl, Below.refl _ _⟩
  have D4 : Hid (decide (1 ≤ (n : Int) ∧ (n : Int) ≤ 12) = true) := decide_eq_true (by omega)
  have HM : Hid (¬ (n < 1 ∨ 12 < n)) := hm
  have hn1 : 1 ≤ n := by omega
  have hn12 : n ≤ 12 := by omega
  clear hm hn
  go_enter Tryz.func74, Tryz.ntmps74
  go_wp2_with fail
  refine (tsT_is _ _ D0.out _).mono ?_
  rintro e w9 ⟨rfl, hw9⟩
  obtain rfl := hw9.symm
  go_wp2_with fail
  refine (inT_is _ _ _ _ D1.out _).mono ?_
  rintro e w9 ⟨rfl, hw9⟩
  obtain rfl := hw9.symm
  go_wp2_with fail
  refine (inT_is _ _ _ _ D2.out _).mono ?_
  rintro e w9 ⟨rfl, hw9⟩
  obtain rfl := hw9.symm
  go_wp2_with fail
  refine (inT_is _ _ _ _ D3.out _).mono ?_
  rintro e w9 ⟨rfl, hw9⟩
  obtain rfl := hw9.symm
  go_wp2_with fail
  refine (inT_is _ _ _ _ D4.out _).mono ?_
  rintro e w9 ⟨rfl, hw9⟩
  obtain rfl := hw9.symm
  obtain ⟨f, hf⟩ : ∃ f, itemsF F n 0 = f := ⟨_, rfl⟩
  have HF : Hid (itemsF F n 0 = f) := hf
  clear hf D0 D1 D2 D3 D4
  go_wp2
  go_loopw [4] (fun i wr => ∃ k : Nat, k ≤ n ∧ i = .int .i64 k ∧ Hid (itemsF F (n - k) k = f) ∧ Hid (Below w.heap.size w wr)) (fun i _ => n - (intOf i).toNat)
  case atStart => exact ⟨0, Nat.zero_le _, rfl, HF, Below.refl _ _⟩
  case round =>
    obtain ⟨k, hk, rfl, HS, HB⟩ := hrel
    obtain ⟨⟨p0, p1, p2, p3, p4, p5⟩, hrow, _⟩ := H.out.later HB.out
    by_cases hlt : k < n
    case neg =>
      have en : n - k = 0 := by omega
      have E0 : Hid (itemsF F n 0 = 0) := by
        have := HS.out
        rw [en, itemsF] at this
        rw [HF.out, this]; exact rfl
      clear HS HF
      by_cases h4 : 0 ≤ a ∧ a ≤ n
      case neg =>
        have D5 : Hid (decide (0 ≤ a ∧ a ≤ (n : Int)) = false) := decide_eq_false h4
        have E : Hid (txnF s c u st a n F = 3) := txnF_at HI.out HM.out E0.out h4
        clear h4 en
        go_wp2_with fail
        refine (inT_is _ _ _ _ D5.out _).mono ?_
        rintro e w9 ⟨rfl, hw9⟩
        obtain rfl := hw9.symm
        go_wp2
        go_ret
        exact ⟨by rw [E.out]; rfl, HB.out⟩
      have D5 : Hid (decide (0 ≤ a ∧ a ≤ (n : Int)) = true) := decide_eq_true h4
      have HA : Hid (0 ≤ a ∧ a ≤ n) := h4
      clear h4 en
      obtain ⟨_, _, _, hst1, hst7⟩ := HI.out
      have h7 : st = 1 ∨ st = 2 ∨ st = 3 ∨ st = 4 ∨ st = 5 ∨ st = 6 ∨ st = 7 := by omega
      clear hst1 hst7
      rcases h7 with rfl | h7
      · by_cases hc : c = 0
        · have E : Hid (txnF s c u 1 a n F = 0) := txnF_ok HI.out HM.out E0.out HA.out (by omega)
          subst hc
          go_wp2_with fail
          refine (inT_is _ _ _ _ D5.out _).mono ?_
          rintro e w9 ⟨rfl, hw9⟩
          obtain rfl := hw9.symm
          go_wp2_with fail
          go_quiet (fail)
          go_wp2
          go_ret
          exact ⟨by rw [E.out]; rfl, below_dt HB.out _⟩
        · have E : Hid (txnF s c u 1 a n F = 1) := txnF_form HI.out HM.out E0.out HA.out (Or.inr ⟨rfl, hc⟩)
          have d : (c != 0) = true := bne_iff_ne.2 hc
          clear hc
          go_wp2_with fail
          refine (inT_is _ _ _ _ D5.out _).mono ?_
          rintro e w9 ⟨rfl, hw9⟩
          obtain rfl := hw9.symm
          go_wp2_with fail
          go_quiet (fail)
          go_wp2
          go_ret
          exact ⟨by rw [E.out]; rfl, below_dt HB.out _⟩
      have hc : c ≤ s ∨ s < c := by omega
      rcases h7 with rfl | rfl | rfl | h7
      iterate 3
        rcases hc with hc | hc
        · have E := (show Hid (txnF s c u _ a n F = 1) from txnF_form HI.out HM.out E0.out HA.out (Or.inl ⟨by omega, hc⟩))
          have d : decide (c ≤ s) = true := decide_eq_true hc
          clear hc
          go_wp2_with fail
          refine (inT_is _ _ _ _ D5.out _).mono ?_
          rintro e w9 ⟨rfl, hw9⟩
          obtain rfl := hw9.symm
          go_wp2_with fail
          go_quiet (fail)
          go_wp2
          go_ret
          exact ⟨by rw [E.out]; rfl, below_dt HB.out _⟩
        · have E := (show Hid (txnF s c u _ a n F = 0) from txnF_ok HI.out HM.out E0.out HA.out (by omega))
          have d : decide (c ≤ s) = false := decide_eq_false (by omega)
          clear hc
          go_wp2_with fail
          refine (inT_is _ _ _ _ D5.out _).mono ?_
          rintro e w9 ⟨rfl, hw9⟩
          obtain rfl := hw9.symm
          go_wp2_with fail
          go_quiet (fail)
          go_wp2
          go_ret
          exact ⟨by rw [E.out]; rfl, below_dt HB.out _⟩
      have E : Hid (txnF s c u st a n F = 0) := txnF_ok HI.out HM.out E0.out HA.out (by omega)
      clear hc
      rcases h7 with rfl | rfl | rfl
      iterate 3
        · go_wp2_with fail
          refine (inT_is _ _ _ _ D5.out _).mono ?_
          rintro e w9 ⟨rfl, hw9⟩
          obtain rfl := hw9.symm
          go_wp2_with fail
          go_quiet (fail)
          go_wp2
          go_ret
          exact ⟨by rw [E.out]; rfl, below_dt HB.out _⟩
    obtain ⟨g, o, rfl, _, hg, x0, x1, x2⟩ := hrow.at3 hlt
    have hm : Hid (0 < n - k ∧ n - k - 1 = n - (k + 1)) := ⟨by omega, by omega⟩
    obtain ⟨n0, N0⟩ : ∃ x, F (k * 3) = x := ⟨_, rfl⟩
    rw [N0] at x0
    obtain ⟨n1, N1⟩ : ∃ x, F (k * 3 + 1) = x := ⟨_, rfl⟩
    rw [N1] at x1
    obtain ⟨n2, N2⟩ : ∃ x, F (k * 3 + 2) = x := ⟨_, rfl⟩
    rw [N2] at x2
    have NN : Hid (F (k * 3) = n0 ∧ F (k * 3 + 1) = n1 ∧ F (k * 3 + 2) = n2) := ⟨N0, N1, N2⟩
    clear N0 N1 N2
    obtain ⟨q, hq⟩ : ∃ q, itemF n0 n1 n2 = q := ⟨_, rfl⟩
    have HQ : Hid (itemF n0 n1 n2 = q) := hq
    have HQ' : Hid (itemF (F (k * 3)) (F (k * 3 + 1)) (F (k * 3 + 2)) = q) := by
      unfold Hid
      rw [NN.out.1, NN.out.2.1, NN.out.2.2]; exact hq
    clear hq
    by_cases h5 : q = 0
    case neg =>
      have E0 := HS.out
      rw [itemsF_bad hm.out.1 HQ'.out h5] at E0
      have E : Hid (txnF s c u st a n F = q) := txnF_item HI.out HM.out (HF.out.trans E0.symm) h5
      have d : (q != 0) = true := bne_iff_ne.2 h5
      clear h5 HS E0 HF HQ'
      go_wp2_with fail
      refine (l8Item_is _ _ _ _).mono ?_
      rintro e w1 ⟨rfl, q1⟩
      rw [HQ.out]
      have HB : Hid (Below w.heap.size w w1) := HB.out.trans (q1.mono HB.out.size)
      clear q1
      go_wp2
      go_ret
      exact ⟨by rw [E.out]; rfl, HB.out⟩
    subst h5
    obtain ⟨r, hr⟩ : ∃ r, hasI F n0 k = r := ⟨_, rfl⟩
    have HR : Hid (hasI F n0 k = r) := hr
    have HR' : Hid (hasI F (F (k * 3)) k = r) := by unfold Hid; rw [NN.out.1]; exact hr
    clear hr
    have hrow' : Hid (Row wr 0 3 k F (.slice (some ⟨g, o, none⟩) k cp)) := by
      obtain ⟨ao, cp', hv, hrw⟩ := hrow
      simp only [Value.slice.injEq] at hv
      obtain ⟨hv, _, rfl⟩ := hv
      refine ⟨_, _, rfl, fun hk0 => ?_⟩
      obtain ⟨g', o', hv', hb', hg', hc'⟩ := hrw (by omega)
      rw [← hv] at hv'
      exact ⟨g', o', hv', hb', hg', fun p hp => hc' p (by omega)⟩
    cases r with
    | true =>
      have E0 := HS.out
      rw [itemsF_two hm.out.1 HQ'.out HR'.out] at E0
      have E : Hid (txnF s c u st a n F = 6) := txnF_item HI.out HM.out (HF.out.trans E0.symm) (by omega)
      clear HS E0 HF HQ' HR'
      go_wp2_with fail
      refine (l8Item_is _ _ _ _).mono ?_
      rintro e w1 ⟨rfl, q1⟩
      rw [HQ.out]
      have HB : Hid (Below w.heap.size w w1) := HB.out.trans (q1.mono HB.out.size)
      obtain ⟨⟨p0, p1, p2, p3, p4, p5⟩, hrow1, _⟩ := H.out.later HB.out
      have hkc : k ≤ cp := by omega
      have x0 := (q1.cell (p := ⟨g, o + k * 3, none⟩) hg).trans x0
      have RK : Hid (∀ x, Row x 0 3 k F (.slice (some ⟨g, o, none⟩) k cp) → Calls Tryz.prog 108 #[.slice (some ⟨g, o, none⟩) k cp, .int .i64 n0] x fun e w' => e = .returned (.bool true) ∧ w' = x) := fun x hx => l8Has_is _ 0 k F n0 true HR.out x hx (by omega)
      have R1 : Hid (Row w1 0 3 k F (.slice (some ⟨g, o, none⟩) k cp)) := hrow'.out.later q1
      clear q1 hrow hrow' hrow1
      go_wp2_with fail
      go_quiet (first | (go_at_call 108; refine Calls.quiet_of_same (RK.out _ R1.out)))
      go_wp2
      go_ret
      exact ⟨by rw [E.out]; rfl, below_dt HB.out _⟩
    | false =>
      have E : Hid (itemsF F (n - (k + 1)) (k + 1) = f) := by
        have E0 := HS.out
        rw [itemsF_on hm.out.1 HQ'.out HR'.out, hm.out.2] at E0
        exact E0
      clear HS HF HQ' HR'
      go_wp2_with fail
      refine (l8Item_is _ _ _ _).mono ?_
      rintro e w1 ⟨rfl, q1⟩
      rw [HQ.out]
      have HB : Hid (Below w.heap.size w w1) := HB.out.trans (q1.mono HB.out.size)
      obtain ⟨⟨p0, p1, p2, p3, p4, p5⟩, hrow1, _⟩ := H.out.later HB.out
      have hkc : k ≤ cp := by omega
      have x0 := (q1.cell (p := ⟨g, o + k * 3, none⟩) hg).trans x0
      have RK : Hid (∀ x, Row x 0 3 k F (.slice (some ⟨g, o, none⟩) k cp) → Calls Tryz.prog 108 #[.slice (some ⟨g, o, none⟩) k cp, .int .i64 n0] x fun e w' => e = .returned (.bool false) ∧ w' = x) := fun x hx => l8Has_is _ 0 k F n0 false HR.out x hx (by omega)
      have R1 : Hid (Row w1 0 3 k F (.slice (some ⟨g, o, none⟩) k cp)) := hrow'.out.later q1
      clear q1 hrow hrow' hrow1
      go_wp2_with fail
      go_quiet (first | (go_at_call 108; refine Calls.quiet_of_same (RK.out _ R1.out)))
      go_wp2
      go_roundw
      case rel => exact ⟨k + 1, by omega, by go_num, E, below_dt HB.out _⟩
      case measure => simp [intOf]; omega
end Go.Proofs.YtphfiojhpfdpdaaGreat

namespace Go.Proofs.YtphfiojhpfdpdaaGreat
open Go.RowKit

/-- Has one of the first k transactions the start of number i? -/
def takenT (T : Nat → Tx) (i k : Nat) : Prop := ∃ j, j < k ∧ (T j).s = (T i).s
theorem takenT_none (T : Nat → Tx) (i : Nat) : ¬ takenT T i 0 := fun ⟨_, hj, _⟩ => absurd hj (Nat.not_lt_zero _)
theorem takenT_go {T : Nat → Tx} {i k : Nat} (h : ¬ takenT T i k) (h2 : (T k).s ≠ (T i).s) : ¬ takenT T i (k + 1) := fun ⟨j, hj, e⟩ => by
  rcases Nat.lt_or_ge j k with q | q
  · exact h ⟨j, q, e⟩
  · obtain rfl : j = k := by omega
    exact h2 e
noncomputable def txF (t : Tx) : Int := txnF t.s t.c t.u t.st t.a t.m t.L
open Classical in
noncomputable def placeF (nx : Int) (T : Nat → Tx) (i : Nat) : Int := if txF (T i) ≠ 0 then txF (T i) else if nx ≤ (T i).s ∨ nx ≤ (T i).c then 3 else if takenT T i i then 6 else 0
theorem placeF_txn {nx : Int} {T : Nat → Tx} {i : Nat} (h : txF (T i) ≠ 0) : placeF nx T i = txF (T i) := by unfold placeF; rw [if_pos h]
theorem placeF_next {nx : Int} {T : Nat → Tx} {i : Nat} (h : txF (T i) = 0) (h2 : nx ≤ (T i).s ∨ nx ≤ (T i).c) : placeF nx T i = 3 := by unfold placeF; rw [if_neg (fun q => q h), if_pos h2]
theorem placeF_taken {nx : Int} {T : Nat → Tx} {i : Nat} (h : txF (T i) = 0) (h2 : ¬ (nx ≤ (T i).s ∨ nx ≤ (T i).c)) (h3 : takenT T i i) : placeF nx T i = 6 := by unfold placeF; rw [if_neg (fun q => q h), if_neg h2, if_pos h3]
theorem placeF_ok {nx : Int} {T : Nat → Tx} {i : Nat} (h : txF (T i) = 0) (h2 : ¬ (nx ≤ (T i).s ∨ nx ≤ (T i).c)) (h3 : ¬ takenT T i i) : placeF nx T i = 0 := by unfold placeF; rw [if_neg (fun q => q h), if_neg h2, if_neg h3]
noncomputable def worldF (nw nx bd : Int) (nr : Nat) (F : Nat → Int) (n : Nat) (S : Nat → Sto) (nt : Nat) (T : Nat → Tx) : Int :=
  if ¬ (0 ≤ nw ∧ nw ≤ 100000) then 3 else if oFault nx bd ≠ 0 then oFault nx bd else if groupsF nr F n S ≠ 0 then groupsF nr F n S else if 16 < nt then 2 else scan (placeF nx T) nt
section
variable {nw nx bd : Int} {nr : Nat} {F : Nat → Int} {n : Nat} {S : Nat → Sto} {nt : Nat} {T : Nat → Tx}
theorem worldF_now (h : ¬ (0 ≤ nw ∧ nw ≤ 100000)) : worldF nw nx bd nr F n S nt T = 3 := by unfold worldF; rw [if_pos h]
theorem worldF_oracle (h : 0 ≤ nw ∧ nw ≤ 100000) (h1 : oFault nx bd ≠ 0) : worldF nw nx bd nr F n S nt T = oFault nx bd := by unfold worldF; rw [if_neg (fun q => q h), if_pos h1]
theorem worldF_groups (h : 0 ≤ nw ∧ nw ≤ 100000) (h1 : oFault nx bd = 0) (h2 : groupsF nr F n S ≠ 0) : worldF nw nx bd nr F n S nt T = groupsF nr F n S := by unfold worldF; rw [if_neg (fun q => q h), if_neg (fun q => q h1), if_pos h2]
theorem worldF_many (h : 0 ≤ nw ∧ nw ≤ 100000) (h1 : oFault nx bd = 0) (h2 : groupsF nr F n S = 0) (h3 : 16 < nt) : worldF nw nx bd nr F n S nt T = 2 := by unfold worldF; rw [if_neg (fun q => q h), if_neg (fun q => q h1), if_neg (fun q => q h2), if_pos h3]
theorem worldF_txns (h : 0 ≤ nw ∧ nw ≤ 100000) (h1 : oFault nx bd = 0) (h2 : groupsF nr F n S = 0) (h3 : ¬ 16 < nt) : worldF nw nx bd nr F n S nt T = scan (placeF nx T) nt := by unfold worldF; rw [if_neg (fun q => q h), if_neg (fun q => q h1), if_neg (fun q => q h2), if_neg h3]
end
theorem Txs.lies {w : World} {B n : Nat} {T : Nat → Tx} {V : Nat → Value} {ao : Option Addr} {cp : Nat} (h : Txs w B n T V (.slice ao n cp)) {i : Nat} (hi : i < n) :
    ∃ g o, ao = some ⟨g, o, none⟩ ∧ g < w.heap.size ∧ LiesX w g (o + i * 6) (T i).s (T i).c (T i).u (T i).st (T i).a (T i).m (T i).L (V i) := by
  obtain ⟨g, o, ha, _, hg, hc, hr, hp⟩ := h.at hi
  exact ⟨g, o, ha, hg, hc, hr.mono (Nat.zero_le _), hp⟩
/-- Block b holds a world. -/
def LiesD (w : World) (b : Nat) (nw nx bd : Int) (nr : Nat) (F : Nat → Int) (n : Nat) (S : Nat → Sto) (V : Nat → Nat → Value) (vr vs : Value) (nt : Nat) (T : Nat → Tx) (X : Nat → Value) (vt : Value) : Prop :=
  Blk6 w b (.int .i64 nw) (.int .i64 nx) (.int .i64 bd) vr vs vt ∧ Grs w 0 nr F n S V vr vs ∧ Txs w 0 nt T X vt
theorem LiesD.later {w w' : World} {b : Nat} {nw nx bd : Int} {nr : Nat} {F : Nat → Int} {n : Nat} {S : Nat → Sto} {V : Nat → Nat → Value} {vr vs : Value} {nt : Nat} {T : Nat → Tx} {X : Nat → Value} {vt : Value} (h : LiesD w b nw nx bd nr F n S V vr vs nt T X vt) (hb : Below w.heap.size w w') : LiesD w' b nw nx bd nr F n S V vr vs nt T X vt := ⟨h.1.later hb, h.2.1.later hb, h.2.2.later hb⟩
theorem LiesD.groups {w : World} {b : Nat} {nw nx bd : Int} {nr : Nat} {F : Nat → Int} {n : Nat} {S : Nat → Sto} {V : Nat → Nat → Value} {vr vs : Value} {nt : Nat} {T : Nat → Tx} {X : Nat → Value} {vt : Value} (h : LiesD w b nw nx bd nr F n S V vr vs nt T X vt) : LiesW w b nr F n S V vr vs := ⟨⟨h.1.1.2.2.2.1, h.1.1.2.2.2.2.1⟩, h.2.1⟩
end Go.Proofs.YtphfiojhpfdpdaaGreat

namespace Go.Proofs.YtphfiojhpfdpdaaGreat
open Go.RowKit

theorem l9Time_at (now : Int) (r : Bool) (hr : decide (0 ≤ now ∧ now ≤ 100000) = r) (w : World) :
    Calls Tryz.prog 71 #[.int .i64 now] w fun e w' => e = .returned (.bool r) ∧ w' = w := by
  go_enter Tryz.func71, Tryz.ntmps71
  go_wp2_with fail
  refine (inT_is _ _ _ _ hr _).mono ?_
  rintro e w1 ⟨rfl, rfl⟩
  go_wp2
  go_ret
  exact ⟨rfl, rfl⟩
set_option maxRecDepth 100000 in
set_option maxHeartbeats 8000000 in
theorem l10Fault_any (b : Nat) (nw nx bd : Int) (nr : Nat) (F : Nat → Int) (n : Nat) (S : Nat → Sto) (V : Nat → Nat → Value) (vr vs : Value) (nt : Nat) (T : Nat → Tx) (X : Nat → Value) (vt : Value) (w : World) (h : LiesD w b nw nx bd nr F n S V vr vs nt T X vt) (hr : nr ≤ 9223372036854775807) (hn : n ≤ 9223372036854775807) (ht : nt ≤ 9223372036854775807) (hm : ∀ i, i < nt → (T i).m ≤ 9223372036854775807) :
    Calls Tryz.prog 42 #[.pointer (some ⟨b, 0, none⟩)] w fun e w' => e = .returned (.int .i64 (worldF nw nx bd nr F n S nt T)) ∧ Below w.heap.size w w' := by
  obtain ⟨a0, c0, a1, c1, rfl, rfl⟩ := h.2.1.form
  obtain ⟨a2, c2, rfl⟩ := h.2.2.form
  have H : Hid (LiesD w b nw nx bd nr F n S V (.slice a0 nr c0) (.slice a1 n c1) nt T X (.slice a2 nt c2)) := h
  have HM : Hid (∀ i, i < nt → (T i).m ≤ 9223372036854775807) := hm
  obtain ⟨⟨⟨p0, p1, p2, p3, p4, p5⟩, _⟩, _⟩ := h
  clear hm
  by_cases h0 : 0 ≤ nw ∧ nw ≤ 100000
  case neg =>
    have D0 : Hid (decide (0 ≤ nw ∧ nw ≤ 100000) = false) := decide_eq_false h0
    have E : Hid (worldF nw nx bd nr F n S nt T = 3) := worldF_now h0
    clear h0
    go_enter Tryz.func42, Tryz.ntmps42
    go_wp2_with fail
    refine (l9Time_at nw false D0.out _).mono ?_
    rintro e w1 ⟨rfl, rfl⟩
    go_wp2
    go_ret
    exact ⟨by rw [E.out]; rfl, Below.refl _ _⟩
  have D0 : Hid (decide (0 ≤ nw ∧ nw ≤ 100000) = true) := decide_eq_true h0
  have H0 : Hid (0 ≤ nw ∧ nw ≤ 100000) := h0
  clear h0
  obtain ⟨f, hf⟩ : ∃ f, oFault nx bd = f := ⟨_, rfl⟩
  have HF : Hid (oFault nx bd = f) := hf
  clear hf
  go_enter Tryz.func42, Tryz.ntmps42
  go_wp2_with fail
  refine (l9Time_at nw true D0.out _).mono ?_
  rintro e w1 ⟨rfl, rfl⟩
  go_wp2_with fail
  refine (l5Fault_at nx bd b _ p1 p2).mono ?_
  rw [HF.out]
  rintro e w2 ⟨rfl, q, rfl⟩
  have B2 : Hid (Below w1.heap.size w1 (w1.drewN q)) := below_dt (Below.refl _ _) _
  by_cases hz : f = 0
  case neg =>
    have d : (f == 0) = false := beq_eq_false_iff_ne.2 hz
    have d' : (f != 0) = true := bne_iff_ne.2 hz
    have E : Hid (worldF nw nx bd nr F n S nt T = f) := (worldF_oracle H0.out (by rw [HF.out]; exact hz)).trans HF.out
    clear hz HF
    go_wp2
    go_ret
    exact ⟨by rw [E.out]; rfl, B2.out⟩
  subst hz
  have L2 : Hid (LiesD (w1.drewN q) b nw nx bd nr F n S V (.slice a0 nr c0) (.slice a1 n c1) nt T X (.slice a2 nt c2)) := H.out.later B2.out
  generalize w1.drewN q = w2 at B2 L2 ⊢
  clear p0 p1 p2 p3 p4 p5 D0
  obtain ⟨⟨⟨p0, p1, p2, p3, p4, p5⟩, _⟩, _⟩ := L2.out
  obtain ⟨f, hf⟩ : ∃ f, groupsF nr F n S = f := ⟨_, rfl⟩
  have HG : Hid (groupsF nr F n S = f) := hf
  clear hf
  go_wp2_with fail
  refine (l7Fault_at nr F n S V _ _ b _ L2.out.groups hr hn).mono ?_
  rw [HG.out]
  rintro e w3 ⟨rfl, q3⟩
  have B3 : Hid (Below w1.heap.size w1 w3) := B2.out.trans (q3.mono B2.out.size)
  clear q3 L2 B2 p0 p1 p2 p3 p4 p5
  obtain ⟨⟨⟨p0, p1, p2, p3, p4, p5⟩, _⟩, _⟩ := H.out.later B3.out
  by_cases hz : f = 0
  case neg =>
    have d : (f == 0) = false := beq_eq_false_iff_ne.2 hz
    have d' : (f != 0) = true := bne_iff_ne.2 hz
    have E : Hid (worldF nw nx bd nr F n S nt T = f) := (worldF_groups H0.out HF.out (by rw [HG.out]; exact hz)).trans HG.out
    clear hz HF HG
    go_wp2
    go_ret
    exact ⟨by rw [E.out]; rfl, B3.out⟩
  subst hz
  by_cases h16 : 16 < nt
  · have d : decide ((16 : Int) < (nt : Int)) = true := decide_eq_true (by omega)
    have E : Hid (worldF nw nx bd nr F n S nt T = 2) := worldF_many H0.out HF.out HG.out h16
    clear h16 HF HG
    go_wp2
    go_ret
    exact ⟨by rw [E.out]; rfl, B3.out⟩
  have d : decide ((16 : Int) < (nt : Int)) = false := decide_eq_false (by omega)
  have EW : Hid (worldF nw nx bd nr F n S nt T = scan (placeF nx T) nt) := worldF_txns H0.out HF.out HG.out h16
  have hn16 : nt ≤ 16 := by omega
  clear h16 HF HG H0
  go_wp2_with fail
  clear p0 p1 p2 p3 p4 p5
  go_loopw [5] (fun i wr => ∃ k : Nat, k ≤ nt ∧ i = .int .i64 k ∧ Hid (scan (placeF nx T) k = 0) ∧ Hid (Below w1.heap.size w1 wr)) (fun i _ => nt - (intOf i).toNat)
  case atStart => exact ⟨0, Nat.zero_le _, rfl, rfl, B3⟩
  case round =>
    obtain ⟨k, hk, rfl, HS, HB⟩ := hrel
    have LR : Hid (LiesD wr b nw nx bd nr F n S V (.slice a0 nr c0) (.slice a1 n c1) nt T X (.slice a2 nt c2)) := H.out.later HB.out
    obtain ⟨⟨⟨p0, p1, p2, p3, p4, p5⟩, _⟩, _⟩ := LR.out
    by_cases hlt : k < nt
    case neg =>
      obtain rfl : k = nt := by omega
      have E : Hid (worldF nw nx bd nr F n S k T = 0) := EW.out.trans HS.out
      go_wp2
      go_ret
      exact ⟨by rw [E.out]; rfl, HB.out⟩
    obtain ⟨g, o, rfl, hg, LX⟩ := LR.out.2.2.lies hlt
    have LX : Hid (LiesX wr g (o + k * 6) (T k).s (T k).c (T k).u (T k).st (T k).a (T k).m (T k).L (X k)) := LX
    obtain ⟨f, hf⟩ : ∃ f, txF (T k) = f := ⟨_, rfl⟩
    have HF : Hid (txF (T k) = f) := hf
    have HF' : Hid (txnF (T k).s (T k).c (T k).u (T k).st (T k).a (T k).m (T k).L = f) := hf
    clear hf
    go_wp2_with fail
    refine (l8Fault_at g (o + k * 6) _ _ _ _ _ _ _ _ _ LX.out (HM.out k hlt)).mono ?_
    rw [HF'.out]
    rintro e w4 ⟨rfl, q4⟩
    have B4 : Hid (Below w1.heap.size w1 w4) := HB.out.trans (q4.mono HB.out.size)
    have LX4 : Hid (LiesX w4 g (o + k * 6) (T k).s (T k).c (T k).u (T k).st (T k).a (T k).m (T k).L (X k)) := LX.out.later q4
    clear q4 HB LR LX p0 p1 p2 p3 p4 p5 HF'
    by_cases hz : f = 0
    case neg =>
      have d : (f == 0) = false := beq_eq_false_iff_ne.2 hz
      have d' : (f != 0) = true := bne_iff_ne.2 hz
      have E : Hid (worldF nw nx bd nr F n S nt T = f) := by
        have h1 : placeF nx T k = f := (placeF_txn (by rw [HF.out]; exact hz)).trans HF.out
        exact EW.out.trans ((scan_stop HS.out (by rw [h1]; exact hz) hlt).trans h1)
      clear hz HF HS EW
      go_wp2
      go_ret
      exact ⟨by rw [E.out]; rfl, B4.out⟩
    subst hz
    obtain ⟨⟨⟨p0, p1, p2, p3, p4, p5⟩, _⟩, _⟩ := H.out.later B4.out
    obtain ⟨⟨x0, x1, _, _, _, _⟩, _⟩ := LX4.out
    obtain ⟨s, hs⟩ : ∃ x, (T k).s = x := ⟨_, rfl⟩
    obtain ⟨c, hc⟩ : ∃ x, (T k).c = x := ⟨_, rfl⟩
    rw [hs] at x0
    rw [hc] at x1
    have HSC : Hid ((T k).s = s ∧ (T k).c = c) := ⟨hs, hc⟩
    clear hs hc
    by_cases h1 : nx ≤ s
    · have d1 : decide (nx ≤ s) = true := decide_eq_true h1
      have E : Hid (worldF nw nx bd nr F n S nt T = 3) := by
        have e1 : placeF nx T k = 3 := placeF_next HF.out (Or.inl (by rw [HSC.out.1]; exact h1))
        exact EW.out.trans ((scan_stop HS.out (by rw [e1]; decide) hlt).trans e1)
      clear h1 HF HS EW
      go_wp2_with fail
      go_quiet (fail)
      go_wp2
      go_ret
      exact ⟨by rw [E.out]; rfl, below_dt B4.out _⟩
    have d1 : decide (nx ≤ s) = false := decide_eq_false h1
    by_cases h2 : nx ≤ c
    · have d2 : decide (nx ≤ c) = true := decide_eq_true h2
      have E : Hid (worldF nw nx bd nr F n S nt T = 3) := by
        have e1 : placeF nx T k = 3 := placeF_next HF.out (Or.inr (by rw [HSC.out.2]; exact h2))
        exact EW.out.trans ((scan_stop HS.out (by rw [e1]; decide) hlt).trans e1)
      clear h1 h2 HF HS EW
      go_wp2_with fail
      go_quiet (fail)
      go_wp2
      go_ret
      exact ⟨by rw [E.out]; rfl, below_dt B4.out _⟩
    have d2 : decide (nx ≤ c) = false := decide_eq_false h2
    have HX : Hid (¬ (nx ≤ (T k).s ∨ nx ≤ (T k).c)) := by
      unfold Hid
      rw [HSC.out.1, HSC.out.2]
      omega
    clear h1 h2
    go_wp2_with fail
    go_quiet (fail)
    go_wp2_with fail
    clear p0 p1 p2 p3 p4 p5 x0 x1 d1 d2
    go_loopw [8] (fun i wx => ∃ m : Nat, m ≤ k ∧ i = .int .i64 m ∧ Hid (¬ takenT T k m) ∧ Hid (Below w1.heap.size w1 wx)) (fun i _ => k - (intOf i).toNat)
    case atStart => exact ⟨0, Nat.zero_le _, rfl, takenT_none T k, below_dt B4.out _⟩
    case round =>
      obtain ⟨m, hmk, rfl, HT, HB⟩ := hrel
      obtain ⟨⟨⟨p0, p1, p2, p3, p4, p5⟩, _⟩, _, hx⟩ := H.out.later HB.out
      by_cases hlm : m < k
      case neg =>
        obtain rfl : m = k := by omega
        have HS1 : Hid (scan (placeF nx T) (m + 1) = 0) := scan_go HS.out (placeF_ok HF.out HX.out HT.out)
        clear HS HF HX HT HSC hx
        go_wp2
        go_roundw
        case rel => exact ⟨m + 1, by omega, by go_num, HS1, HB⟩
        case measure => simp [intOf]; omega
      obtain ⟨g1, o1, e1, _, _, ⟨x0, _⟩, _⟩ := hx.at hlt
      simp only [Option.some.injEq, Addr.mk.injEq, and_true] at e1
      obtain ⟨rfl, rfl⟩ := e1
      obtain ⟨g1, o1, e1, _, _, ⟨y0, _⟩, _⟩ := hx.at (i := m) (by omega)
      simp only [Option.some.injEq, Addr.mk.injEq, and_true] at e1
      obtain ⟨rfl, rfl⟩ := e1
      rw [HSC.out.1] at x0
      obtain ⟨r, hr'⟩ : ∃ x, (T m).s = x := ⟨_, rfl⟩
      rw [hr'] at y0
      have HR : Hid ((T m).s = r) := hr'
      clear hr' hx
      by_cases he : r = s
      · have E : Hid (worldF nw nx bd nr F n S nt T = 6) := by
          have e1 : placeF nx T k = 6 := placeF_taken HF.out HX.out ⟨m, hlm, by rw [HR.out, HSC.out.1]; exact he⟩
          exact EW.out.trans ((scan_stop HS.out (by rw [e1]; decide) hlt).trans e1)
        have d1 : (r == s) = true := beq_iff_eq.2 he
        clear he HF HS EW HT HX HR
        go_wp2_with fail
        go_quiet (fail)
        go_wp2
        go_ret
        exact ⟨by rw [E.out]; rfl, below_dt HB.out _⟩
      have d1 : (r == s) = false := beq_eq_false_iff_ne.2 he
      have HT1 : Hid (¬ takenT T k (m + 1)) := takenT_go HT.out (by rw [HR.out, HSC.out.1]; exact he)
      clear he HT HR
      go_wp2_with fail
      go_quiet (fail)
      go_wp2
      go_roundw
      case rel => exact ⟨m + 1, by omega, by go_num, HT1, below_dt HB.out _⟩
      case measure => simp [intOf]; omega
end Go.Proofs.YtphfiojhpfdpdaaGreat

namespace Go.Proofs.YtphfiojhpfdpdaaGreat
open Go.RowKit

theorem isTimeT_is (v : Int) (r : Bool) (hr : decide (1 ≤ v ∧ v ≤ 100000) = r) (w : World) :
    Calls Tryz.prog 88 #[.int .i64 v] w fun e w' => e = .returned (.bool r) ∧ w' = w := by
  by_cases h1 : 1 ≤ v
  · by_cases h2 : v ≤ 100000
    · have d : decide (v ≤ 100000) = true := decide_eq_true h2
      rw [decide_eq_true (show 1 ≤ v ∧ v ≤ 100000 from ⟨h1, h2⟩)] at hr
      subst hr
      go_enter Tryz.func88, Tryz.ntmps88
      go_wp2
      go_ret
      exact ⟨rfl, rfl⟩
    · have d : decide (v ≤ 100000) = false := decide_eq_false h2
      rw [decide_eq_false (show ¬ (1 ≤ v ∧ v ≤ 100000) from fun h => h2 h.2)] at hr
      subst hr
      go_enter Tryz.func88, Tryz.ntmps88
      go_wp2
      go_ret
      exact ⟨rfl, rfl⟩
  · have d : decide (1 ≤ v) = false := decide_eq_false h1
    rw [decide_eq_false (show ¬ (1 ≤ v ∧ v ≤ 100000) from fun h => h1 h.1)] at hr
    subst hr
    go_enter Tryz.func88, Tryz.ntmps88
    go_wp2
    go_ret
    exact ⟨rfl, rfl⟩
theorem isValueT_is (v : Int) (r : Bool) (hr : decide (0 ≤ v ∧ v ≤ 9999) = r) (w : World) :
    Calls Tryz.prog 161 #[.int .i64 v] w fun e w' => e = .returned (.bool r) ∧ w' = w := by
  by_cases h1 : 0 ≤ v
  · by_cases h2 : v ≤ 9999
    · have d : decide (v ≤ 9999) = true := decide_eq_true h2
      rw [decide_eq_true (show 0 ≤ v ∧ v ≤ 9999 from ⟨h1, h2⟩)] at hr
      subst hr
      go_enter Tryz.func161, Tryz.ntmps161
      go_wp2
      go_ret
      exact ⟨rfl, rfl⟩
    · have d : decide (v ≤ 9999) = false := decide_eq_false h2
      rw [decide_eq_false (show ¬ (0 ≤ v ∧ v ≤ 9999) from fun h => h2 h.2)] at hr
      subst hr
      go_enter Tryz.func161, Tryz.ntmps161
      go_wp2
      go_ret
      exact ⟨rfl, rfl⟩
  · have d : decide (0 ≤ v) = false := decide_eq_false h1
    rw [decide_eq_false (show ¬ (0 ≤ v ∧ v ≤ 9999) from fun h => h1 h.1)] at hr
    subst hr
    go_enter Tryz.func161, Tryz.ntmps161
    go_wp2
    go_ret
    exact ⟨rfl, rfl⟩
theorem isUntilT_is (v : Int) (r : Bool) (hr : decide (0 ≤ v ∧ v ≤ 100000) = r) (w : World) :
    Calls Tryz.prog 89 #[.int .i64 v] w fun e w' => e = .returned (.bool r) ∧ w' = w := by
  by_cases h1 : 0 ≤ v
  · by_cases h2 : v ≤ 100000
    · have d : decide (v ≤ 100000) = true := decide_eq_true h2
      rw [decide_eq_true (show 0 ≤ v ∧ v ≤ 100000 from ⟨h1, h2⟩)] at hr
      subst hr
      go_enter Tryz.func89, Tryz.ntmps89
      go_wp2
      go_ret
      exact ⟨rfl, rfl⟩
    · have d : decide (v ≤ 100000) = false := decide_eq_false h2
      rw [decide_eq_false (show ¬ (0 ≤ v ∧ v ≤ 100000) from fun h => h2 h.2)] at hr
      subst hr
      go_enter Tryz.func89, Tryz.ntmps89
      go_wp2
      go_ret
      exact ⟨rfl, rfl⟩
  · have d : decide (0 ≤ v) = false := decide_eq_false h1
    rw [decide_eq_false (show ¬ (0 ≤ v ∧ v ≤ 100000) from fun h => h1 h.1)] at hr
    subst hr
    go_enter Tryz.func89, Tryz.ntmps89
    go_wp2
    go_ret
    exact ⟨rfl, rfl⟩
theorem keyAmong1_is (k kd v key : Int) (bc : Nat) (r : Bool) (hr : (k == key) = r) (w : World) (hc : w.cell? ⟨bc, 0, none⟩ = some (.int .i64 key)) :
    Calls Tryz.prog 154 #[.agg #[.int .i64 k, .int .i64 kd, .int .i64 v], .pointer (some ⟨bc, 0, none⟩)] w fun e w' => e = .returned (.bool r) ∧ Below w.heap.size w w' := by
  have hlt := World.block_lt_of_cell? w _ hc
  go_enter Tryz.func154, Tryz.ntmps154
  go_wp2
  go_ret
  exact ⟨by first | rfl | (rw [← hr]; rfl), below_alloc _ _⟩
set_option maxRecDepth 100000 in
set_option maxHeartbeats 4000000 in
theorem indexItem_is (bc : Nat) (key : Int) (B n : Nat) (F : Nat → Int) (v : Value) (r : Bool) (hr : hasI F key n = r) (w : World) (h : Row w B 3 n F v) (hn : n ≤ 9223372036854775807) (hw : w.cell? ⟨bc, 0, none⟩ = some (.int .i64 key)) :
    Calls Tryz.prog 182 #[v, .func (.func 154) #[] #[.pointer (some ⟨bc, 0, none⟩)]] w fun e w' => ∃ z : Int, e = .returned (.int .i64 z) ∧ decide (0 ≤ z) = r ∧ Below w.heap.size w w' := by
  obtain ⟨ao, cp, rfl⟩ := h.form
  have hbc := World.block_lt_of_cell? w _ hw
  have H : Hid (Row w B 3 n F (.slice ao n cp)) := h
  have HR : Hid (hasI F key n = r) := hr
  have HW : Hid (w.cell? ⟨bc, 0, none⟩ = some (.int .i64 key)) := hw
  clear h hr hw
  go_enter Tryz.func182, Tryz.ntmps182
  go_wp2
  go_loopw [8] (fun i wr => ∃ k : Nat, k ≤ n ∧ i = .int .i64 k ∧ Hid (hasI F key k = false) ∧ Hid (Below w.heap.size w wr)) (fun i _ => n - (intOf i).toNat)
  case atStart => exact ⟨0, Nat.zero_le _, rfl, rfl, Below.refl _ _⟩
  case round =>
    obtain ⟨k, hk, rfl, HS, HB⟩ := hrel
    by_cases hlt : k < n
    case neg =>
      obtain rfl : n = k := by omega
      go_wp2
      go_ret
      exact ⟨-1, rfl, HS.out.symm.trans HR.out, HB.out⟩
    obtain ⟨g, o, rfl, _, hg, x0, x1, x2⟩ := (H.out.later HB.out).at3 hlt
    obtain ⟨n0, N0⟩ : ∃ x, F (k * 3) = x := ⟨_, rfl⟩
    rw [N0] at x0
    obtain ⟨n1, N1⟩ : ∃ x, F (k * 3 + 1) = x := ⟨_, rfl⟩
    rw [N1] at x1
    obtain ⟨n2, N2⟩ : ∃ x, F (k * 3 + 2) = x := ⟨_, rfl⟩
    rw [N2] at x2
    have HC : Hid (wr.cell? ⟨bc, 0, none⟩ = some (.int .i64 key)) := (HB.out.cell (p := ⟨bc, 0, none⟩) hbc).trans HW.out
    by_cases hz : n0 = key
    · have hx : hasI F key n = true := hasI_true.2 ⟨k, hlt, N0.trans hz⟩
      have E : Hid (true = r) := hx.symm.trans HR.out
      have D : Hid ((n0 == key) = true) := by unfold Hid; rw [hz]; exact beq_self_eq_true _
      clear hx N0 N1 N2 hz
      go_wp2_with fail
      refine (keyAmong1_is n0 n1 n2 key bc true D.out _ HC.out).mono ?_
      rintro e w1 ⟨rfl, q1⟩
      have HB1 : Hid (Below w.heap.size w w1) := HB.out.trans (q1.mono HB.out.size)
      clear q1
      go_wp2
      go_ret
      exact ⟨k, rfl, by rw [← E.out]; exact decide_eq_true (by omega), HB1.out⟩
    · have E : Hid (hasI F key (k + 1) = false) := by
        unfold Hid
        rw [hasI, HS.out, N0, beq_eq_false_iff_ne.2 hz]; rfl
      have D : Hid ((n0 == key) = false) := beq_eq_false_iff_ne.2 hz
      clear N0 N1 N2 hz HS
      go_wp2_with fail
      refine (keyAmong1_is n0 n1 n2 key bc false D.out _ HC.out).mono ?_
      rintro e w1 ⟨rfl, q1⟩
      have HB1 : Hid (Below w.heap.size w w1) := HB.out.trans (q1.mono HB.out.size)
      clear q1
      go_wp2
      go_roundw
      case rel => exact ⟨k + 1, by omega, by go_num, E, HB1⟩
      case measure => simp [intOf]; omega
set_option maxHeartbeats 1000000 in
theorem containsItem_is (bc : Nat) (key : Int) (B n : Nat) (F : Nat → Int) (v : Value) (r : Bool) (hr : hasI F key n = r) (w : World) (h : Row w B 3 n F v) (hn : n ≤ 9223372036854775807) (hw : w.cell? ⟨bc, 0, none⟩ = some (.int .i64 key)) :
    Calls Tryz.prog 153 #[v, .func (.func 154) #[] #[.pointer (some ⟨bc, 0, none⟩)]] w fun e w' => e = .returned (.bool r) ∧ Below w.heap.size w w' := by
  obtain ⟨ao, cp, rfl⟩ := h.form
  have H : Hid (Row w B 3 n F (.slice ao n cp)) := h
  have HR : Hid (hasI F key n = r) := hr
  have HW : Hid (w.cell? ⟨bc, 0, none⟩ = some (.int .i64 key)) := hw
  clear h hr hw
  go_enter Tryz.func153, Tryz.ntmps153
  go_wp2_with fail
  refine (indexItem_is bc key B n F _ r HR.out _ H.out hn HW.out).mono ?_
  rintro e w1 ⟨z, rfl, hz, q1⟩
  have HZ : Hid (decide (0 ≤ z) = r) := hz
  have Q : Hid (Below w.heap.size w w1) := q1
  clear q1 hz
  go_wp2
  go_ret
  exact ⟨by rw [← HZ.out]; first | rfl | (congr 3), Q.out⟩
set_option maxHeartbeats 1000000 in
theorem keyAmong_is (v : Value) (B n : Nat) (F : Nat → Int) (key : Int) (r : Bool) (hr : hasI F key n = r) (w : World) (h : Row w B 3 n F v) (hn : n ≤ 9223372036854775807) :
    Calls Tryz.prog 114 #[v, .int .i64 key] w fun e w' => e = .returned (.bool r) ∧ Below w.heap.size w w' := by
  obtain ⟨ao, cp, rfl⟩ := h.form
  have H : Hid (Row w B 3 n F (.slice ao n cp)) := h
  have HR : Hid (hasI F key n = r) := hr
  clear h hr
  go_enter Tryz.func114, Tryz.ntmps114
  go_wp2_with fail
  refine (containsItem_is w.heap.size key B n F _ r HR.out _ (H.out.alloc _) hn (World.cell?_alloc_mark w _ _ _ 0)).mono ?_
  rintro e w1 ⟨rfl, q1⟩
  have Q : Hid (Below w.heap.size w w1) := (below_alloc _ _).trans (q1.mono (by simp))
  clear q1
  go_wp2
  go_ret
  exact ⟨rfl, Q.out⟩
/-- What the program tells of kind and value. -/
def valF (kd v : Int) : Int := if ¬ (1 ≤ kd ∧ kd ≤ 3) ∨ ¬ (0 ≤ v ∧ v ≤ 9999) then 3 else if v ≠ 0 ∧ kd ≠ 1 then 1 else 0
theorem itemF_val {k kd v : Int} (h : faultOf k = 0) : itemF k kd v = valF kd v := by unfold itemF valF; rw [if_neg (fun q => q h)]
set_option maxHeartbeats 1000000 in
theorem itemValue_is (k kd v : Int) (w : World) :
    Calls Tryz.prog 122 #[.agg #[.int .i64 k, .int .i64 kd, .int .i64 v]] w fun e w' => e = .returned (.int .i64 (valF kd v)) ∧ Below w.heap.size w w' := by
  by_cases h1 : 1 ≤ kd ∧ kd ≤ 3
  case neg =>
    have E : Hid (valF kd v = 3) := by unfold Hid valF; rw [if_pos (Or.inl h1)]
    have d1 : (kd == 1) = false := beq_eq_false_iff_ne.2 (by omega)
    have d2 : (kd == 2) = false := beq_eq_false_iff_ne.2 (by omega)
    have d3 : (kd == 3) = false := beq_eq_false_iff_ne.2 (by omega)
    clear h1
    go_enter Tryz.func122, Tryz.ntmps122
    go_wp2
    go_ret
    exact ⟨by rw [E.out]; rfl, below_alloc _ _⟩
  have hk : kd = 1 ∨ kd = 2 ∨ kd = 3 := by omega
  by_cases h2 : 0 ≤ v ∧ v ≤ 9999
  case neg =>
    have E : Hid (valF kd v = 3) := by unfold Hid valF; rw [if_pos (Or.inr h2)]
    have D : Hid (decide (0 ≤ v ∧ v ≤ 9999) = false) := decide_eq_false h2
    clear h1 h2
    rcases hk with rfl | rfl | rfl
    · go_enter Tryz.func122, Tryz.ntmps122
      go_wp2_with fail
      refine (isValueT_is _ _ D.out _).mono ?_
      rintro e w1 ⟨rfl, rfl⟩
      go_wp2
      go_ret
      exact ⟨by rw [E.out]; rfl, below_alloc _ _⟩
    · go_enter Tryz.func122, Tryz.ntmps122
      go_wp2_with fail
      refine (isValueT_is _ _ D.out _).mono ?_
      rintro e w1 ⟨rfl, rfl⟩
      go_wp2_with fail
      refine (isValueT_is _ _ D.out _).mono ?_
      rintro e w1 ⟨rfl, rfl⟩
      go_wp2
      go_ret
      exact ⟨by rw [E.out]; rfl, below_alloc _ _⟩
    · go_enter Tryz.func122, Tryz.ntmps122
      go_wp2_with fail
      refine (isValueT_is _ _ D.out _).mono ?_
      rintro e w1 ⟨rfl, rfl⟩
      go_wp2_with fail
      refine (isValueT_is _ _ D.out _).mono ?_
      rintro e w1 ⟨rfl, rfl⟩
      go_wp2
      go_ret
      exact ⟨by rw [E.out]; rfl, below_alloc _ _⟩
  have D : Hid (decide (0 ≤ v ∧ v ≤ 9999) = true) := decide_eq_true h2
  have HN : Hid (¬ (¬ (1 ≤ kd ∧ kd ≤ 3) ∨ ¬ (0 ≤ v ∧ v ≤ 9999))) := by
    rintro (q | q)
    · exact q h1
    · exact q h2
  clear h1 h2
  rcases hk with rfl | hk
  · have E : Hid (valF 1 v = 0) := by unfold Hid valF; rw [if_neg HN.out, if_neg (fun q => q.2 rfl)]
    go_enter Tryz.func122, Tryz.ntmps122
    go_wp2_with fail
    refine (isValueT_is _ _ D.out _).mono ?_
    rintro e w1 ⟨rfl, rfl⟩
    go_wp2
    go_ret
    exact ⟨by rw [E.out]; rfl, below_alloc _ _⟩
  by_cases h3 : v = 0
  · have E : Hid (valF kd v = 0) := by unfold Hid valF; rw [if_neg HN.out, if_neg (fun q => q.1 h3)]
    subst h3
    rcases hk with rfl | rfl
    · go_enter Tryz.func122, Tryz.ntmps122
      go_wp2_with fail
      refine (isValueT_is _ _ D.out _).mono ?_
      rintro e w1 ⟨rfl, rfl⟩
      go_wp2_with fail
      refine (isValueT_is _ _ D.out _).mono ?_
      rintro e w1 ⟨rfl, rfl⟩
      go_wp2
      go_ret
      exact ⟨by rw [E.out]; rfl, below_alloc _ _⟩
    · go_enter Tryz.func122, Tryz.ntmps122
      go_wp2_with fail
      refine (isValueT_is _ _ D.out _).mono ?_
      rintro e w1 ⟨rfl, rfl⟩
      go_wp2_with fail
      refine (isValueT_is _ _ D.out _).mono ?_
      rintro e w1 ⟨rfl, rfl⟩
      go_wp2
      go_ret
      exact ⟨by rw [E.out]; rfl, below_alloc _ _⟩
  · have E : Hid (valF kd v = 1) := by unfold Hid valF; rw [if_neg HN.out, if_pos ⟨h3, by omega⟩]
    have d : (v != 0) = true := bne_iff_ne.2 h3
    clear h3
    rcases hk with rfl | rfl
    · go_enter Tryz.func122, Tryz.ntmps122
      go_wp2_with fail
      refine (isValueT_is _ _ D.out _).mono ?_
      rintro e w1 ⟨rfl, rfl⟩
      go_wp2
      go_ret
      exact ⟨by rw [E.out]; rfl, below_alloc _ _⟩
    · go_enter Tryz.func122, Tryz.ntmps122
      go_wp2_with fail
      refine (isValueT_is _ _ D.out _).mono ?_
      rintro e w1 ⟨rfl, rfl⟩
      go_wp2
      go_ret
      exact ⟨by rw [E.out]; rfl, below_alloc _ _⟩
end Go.Proofs.YtphfiojhpfdpdaaGreat

namespace Go.Proofs.YtphfiojhpfdpdaaGreat
open Go.RowKit

theorem row_ahead {w : World} {g o n cp k B : Nat} {F : Nat → Int} (hrow : Row w B 3 n F (.slice (some ⟨g, o, none⟩) n cp)) (hk : k ≤ n) : Row w B 3 k F (.slice (some ⟨g, o, none⟩) k cp) := by
  obtain ⟨ao, cp', hv, hrw⟩ := hrow
  simp only [Value.slice.injEq] at hv
  obtain ⟨hv, _, rfl⟩ := hv
  refine ⟨_, _, rfl, fun hk0 => ?_⟩
  obtain ⟨g', o', hv', hb', hg', hc'⟩ := hrw (by omega)
  rw [← hv] at hv'
  exact ⟨g', o', hv', hb', hg', fun p hp => hc' p (by omega)⟩
set_option maxRecDepth 100000 in
set_option maxHeartbeats 4000000 in
theorem itemsFault_is (y : Value) (B n : Nat) (F : Nat → Int) (w : World) (h : Row w B 3 n F y) (hcap : CapOk y) (hn : n ≤ 12) :
    Calls Tryz.prog 90 #[y] w fun e w' => e = .returned (.int .i64 (itemsF F n 0)) ∧ Below w.heap.size w w' := by
  obtain ⟨ao, cp, rfl⟩ := h.form
  have hcp : n ≤ cp := hcap _ _ _ rfl
  have H : Hid (Row w B 3 n F (.slice ao n cp)) := h
  clear h hcap
  obtain ⟨f, hf⟩ : ∃ f, itemsF F n 0 = f := ⟨_, rfl⟩
  have HF : Hid (itemsF F n 0 = f) := hf
  rw [hf]
  clear hf
  go_enter Tryz.func90, Tryz.ntmps90
  go_wp2
  go_loopw [9] (fun i wr => ∃ k : Nat, k ≤ n ∧ i = .int .i64 k ∧ Hid (itemsF F (n - k) k = f) ∧ Hid (Below w.heap.size w wr)) (fun i _ => n - (intOf i).toNat)
  case atStart => exact ⟨0, Nat.zero_le _, rfl, HF, Below.refl _ _⟩
  case round =>
    obtain ⟨k, hk, rfl, HS, HB⟩ := hrel
    by_cases hlt : k < n
    case neg =>
      have en : n - k = 0 := by omega
      have E : Hid (f = 0) := by
        have := HS.out
        rw [en, itemsF] at this
        exact this.symm
      clear HS HF
      go_wp2
      go_ret
      exact ⟨by rw [E.out]; rfl, HB.out⟩
    have hrow := H.out.later HB.out
    obtain ⟨g, o, rfl, _, hg, x0, x1, x2⟩ := hrow.at3 hlt
    have hm : Hid (0 < n - k ∧ n - k - 1 = n - (k + 1)) := ⟨by omega, by omega⟩
    obtain ⟨n0, N0⟩ : ∃ x, F (k * 3) = x := ⟨_, rfl⟩
    rw [N0] at x0
    obtain ⟨n1, N1⟩ : ∃ x, F (k * 3 + 1) = x := ⟨_, rfl⟩
    rw [N1] at x1
    obtain ⟨n2, N2⟩ : ∃ x, F (k * 3 + 2) = x := ⟨_, rfl⟩
    rw [N2] at x2
    have NN : Hid (F (k * 3) = n0 ∧ F (k * 3 + 1) = n1 ∧ F (k * 3 + 2) = n2) := ⟨N0, N1, N2⟩
    clear N0 N1 N2
    by_cases h5 : faultOf n0 = 0
    case neg =>
      obtain ⟨q, hq⟩ : ∃ q, faultOf n0 = q := ⟨_, rfl⟩
      have HQ : Hid (faultOf n0 = q) := hq
      have E : Hid (f = q) := by
        have E0 := HS.out
        rw [itemsF_bad (f := q) hm.out.1 (by rw [NN.out.1]; unfold itemF; rw [if_pos h5]; exact hq) (by rw [← hq]; exact h5)] at E0
        exact E0.symm
      have d : (q != 0) = true := bne_iff_ne.2 (by rw [← hq]; exact h5)
      clear h5 hq HS HF
      go_wp2_with fail
      refine (keyFault_any _ _).mono ?_
      rintro e w9 ⟨rfl, hw9⟩
      obtain rfl := hw9.symm
      rw [HQ.out]
      go_wp2
      go_ret
      refine ⟨by rw [E.out]; rfl, ?_⟩
      repeat (first | exact Below.refl _ _ | exact HB.out | refine Below.setCell ?_ (by first | omega | (simp <;> omega) | (have := HB.out.size; simp <;> omega)) _ | refine Below.alloc ?_ (by first | omega | (simp <;> omega) | (have := HB.out.size; simp <;> omega)) _)
    have HK : Hid (faultOf n0 = 0) := h5
    clear h5
    obtain ⟨q, hq⟩ : ∃ q, valF n1 n2 = q := ⟨_, rfl⟩
    have HQ : Hid (valF n1 n2 = q) := hq
    have HQ' : Hid (itemF (F (k * 3)) (F (k * 3 + 1)) (F (k * 3 + 2)) = q) := by
      unfold Hid
      rw [NN.out.1, NN.out.2.1, NN.out.2.2, itemF_val HK.out]; exact hq
    clear hq
    have hkc : k ≤ cp := by omega
    have HZ : Hid (w.heap.size ≤ wr.heap.size) := HB.out.size
    have RK : Hid (Row wr B 3 k F (.slice (some ⟨g, o, none⟩) k cp)) := row_ahead hrow hk
    clear hrow
    by_cases h5 : q = 0
    case neg =>
      have E : Hid (f = q) := by
        have E0 := HS.out
        rw [itemsF_bad hm.out.1 HQ'.out h5] at E0
        exact E0.symm
      have d : (q != 0) = true := bne_iff_ne.2 h5
      clear h5 HS HF HQ'
      go_wp2_with fail
      refine (keyFault_any _ _).mono ?_
      rintro e w9 ⟨rfl, hw9⟩
      obtain rfl := hw9.symm
      rw [HK.out]
      go_wp2_with fail
      refine (itemValue_is _ _ _ _).mono ?_
      rintro e w1 ⟨rfl, q1⟩
      rw [HQ.out]
      have HB1 : Hid (Below w.heap.size w w1) := by
        refine Below.trans ?_ (q1.mono ?_)
        · repeat (first | exact Below.refl _ _ | exact HB.out | refine Below.setCell ?_ (by first | omega | (simp <;> omega) | (have := HB.out.size; simp <;> omega)) _ | refine Below.alloc ?_ (by first | omega | (simp <;> omega) | (have := HB.out.size; simp <;> omega)) _)
        · have := HZ.out; simp; omega
      clear q1
      go_wp2
      go_ret
      exact ⟨by rw [E.out]; rfl, HB1.out⟩
    subst h5
    obtain ⟨r, hr⟩ : ∃ r, hasI F n0 k = r := ⟨_, rfl⟩
    have HR : Hid (hasI F n0 k = r) := hr
    have HR' : Hid (hasI F (F (k * 3)) k = r) := by unfold Hid; rw [NN.out.1]; exact hr
    clear hr
    have K0 : Hid (Blk3 (wr.alloc (.cells #[.int .i64 n0, .int .i64 n1, .int .i64 n2] 90)) wr.heap.size (.int .i64 n0) (.int .i64 n1) (.int .i64 n2)) := Blk3.new wr _ _ _ _
    cases r with
    | true =>
      have E : Hid (f = 6) := by
        have E0 := HS.out
        rw [itemsF_two hm.out.1 HQ'.out HR'.out] at E0
        exact E0.symm
      clear HS HF HQ' HR'
      go_wp2_with fail
      refine (keyFault_any _ _).mono ?_
      rintro e w9 ⟨rfl, hw9⟩
      obtain rfl := hw9.symm
      rw [HK.out]
      go_wp2_with fail
      refine (itemValue_is _ _ _ _).mono ?_
      rintro e w1 ⟨rfl, q1⟩
      rw [HQ.out]
      have HB1 : Hid (Below w.heap.size w w1) := by
        refine Below.trans ?_ (q1.mono ?_)
        · repeat (first | exact Below.refl _ _ | exact HB.out | refine Below.setCell ?_ (by first | omega | (simp <;> omega) | (have := HB.out.size; simp <;> omega)) _ | refine Below.alloc ?_ (by first | omega | (simp <;> omega) | (have := HB.out.size; simp <;> omega)) _)
        · have := HZ.out; simp; omega
      have HB2 : Hid (Below wr.heap.size wr w1) := by
        refine Below.trans ?_ (q1.mono ?_)
        · repeat (first | exact Below.refl _ _ | exact HB.out | refine Below.setCell ?_ (by first | omega | (simp <;> omega) | (have := HB.out.size; simp <;> omega)) _ | refine Below.alloc ?_ (by first | omega | (simp <;> omega) | (have := HB.out.size; simp <;> omega)) _)
        · simp
      have R1 : Hid (Row w1 B 3 k F (.slice (some ⟨g, o, none⟩) k cp)) := RK.out.later HB2.out
      obtain ⟨⟨k0, k1, k2⟩, _⟩ := K0.out.later q1
      have hlt1 := World.block_lt_of_cell? w1 _ k0
      clear q1 K0 HB
      have h0S : (fun x : World => x.cell? ⟨wr.heap.size, 0, none⟩ = some (.int .i64 n0) ∧ Below w1.heap.size w1 x) w1.drew := ⟨k0, Below.drew (Below.refl _ _)⟩
      go_wp2_with fail
      refine wp_region_held_drew (S := fun x : World => x.cell? ⟨wr.heap.size, 0, none⟩ = some (.int .i64 n0) ∧ Below w1.heap.size w1 x) (by kernel_rfl) h0S (fun hS => ?_)
      clear h0S
      refine tkH 0 ?_ hS (fun wx hx => ?_) ?_; rotate_left
      · obtain ⟨hx0, _⟩ := hx; go_simp; try with_reducible rfl
      refine tkH 1 ?_ hS (fun wx hx => ?_) ?_; rotate_left
      · obtain ⟨hx0, _⟩ := hx; go_simp; try with_reducible rfl
      refine tkH 2 ?_ hS (fun wx hx => ?_) ?_; rotate_left
      · obtain ⟨hx0, _⟩ := hx; go_simp; try with_reducible rfl
      refine tkH 3 ?_ hS (fun wx hx => ?_) ?_; rotate_left
      · obtain ⟨hx0, _⟩ := hx; go_simp; try with_reducible rfl
      refine tkH 4 ?_ hS (fun wx hx => ?_) ?_; rotate_left
      · obtain ⟨hx0, _⟩ := hx; go_simp; try with_reducible rfl
      refine rdH 5 (fun K hK => ?_)
      go_simp
      go_wp2_with fail
      refine (keyAmong_is _ B k F n0 true HR.out _ (R1.out.later hS.2) (by omega)).mono ?_
      rintro e w2 ⟨rfl, q2⟩
      go_wp2_with fail
      refine hK.out _ _ ⟨(q2.cell (p := ⟨wr.heap.size, 0, none⟩) (Nat.lt_of_lt_of_le hlt1 hS.2.size)).trans hS.1, hS.2.trans (q2.mono hS.2.size)⟩ (fun hS => ?_)
      clear hK K q2
      refine wpAnyH_done (by kernel_rfl) ?_ _
      have HB3 : Hid (Below w.heap.size w w2) := HB1.out.trans (hS.2.mono HB1.out.size)
      go_simp
      go_wp2
      go_ret
      exact ⟨by rw [E.out]; rfl, HB3.out⟩
    | false =>
      have E : Hid (itemsF F (n - (k + 1)) (k + 1) = f) := by
        have E0 := HS.out
        rw [itemsF_on hm.out.1 HQ'.out HR'.out, hm.out.2] at E0
        exact E0
      clear HS HF HQ' HR'
      go_wp2_with fail
      refine (keyFault_any _ _).mono ?_
      rintro e w9 ⟨rfl, hw9⟩
      obtain rfl := hw9.symm
      rw [HK.out]
      go_wp2_with fail
      refine (itemValue_is _ _ _ _).mono ?_
      rintro e w1 ⟨rfl, q1⟩
      rw [HQ.out]
      have HB1 : Hid (Below w.heap.size w w1) := by
        refine Below.trans ?_ (q1.mono ?_)
        · repeat (first | exact Below.refl _ _ | exact HB.out | refine Below.setCell ?_ (by first | omega | (simp <;> omega) | (have := HB.out.size; simp <;> omega)) _ | refine Below.alloc ?_ (by first | omega | (simp <;> omega) | (have := HB.out.size; simp <;> omega)) _)
        · have := HZ.out; simp; omega
      have HB2 : Hid (Below wr.heap.size wr w1) := by
        refine Below.trans ?_ (q1.mono ?_)
        · repeat (first | exact Below.refl _ _ | exact HB.out | refine Below.setCell ?_ (by first | omega | (simp <;> omega) | (have := HB.out.size; simp <;> omega)) _ | refine Below.alloc ?_ (by first | omega | (simp <;> omega) | (have := HB.out.size; simp <;> omega)) _)
        · simp
      have R1 : Hid (Row w1 B 3 k F (.slice (some ⟨g, o, none⟩) k cp)) := RK.out.later HB2.out
      obtain ⟨⟨k0, k1, k2⟩, _⟩ := K0.out.later q1
      have hlt1 := World.block_lt_of_cell? w1 _ k0
      clear q1 K0 HB
      have h0S : (fun x : World => x.cell? ⟨wr.heap.size, 0, none⟩ = some (.int .i64 n0) ∧ Below w1.heap.size w1 x) w1.drew := ⟨k0, Below.drew (Below.refl _ _)⟩
      go_wp2_with fail
      refine wp_region_held_drew (S := fun x : World => x.cell? ⟨wr.heap.size, 0, none⟩ = some (.int .i64 n0) ∧ Below w1.heap.size w1 x) (by kernel_rfl) h0S (fun hS => ?_)
      clear h0S
      refine tkH 0 ?_ hS (fun wx hx => ?_) ?_; rotate_left
      · obtain ⟨hx0, _⟩ := hx; go_simp; try with_reducible rfl
      refine tkH 1 ?_ hS (fun wx hx => ?_) ?_; rotate_left
      · obtain ⟨hx0, _⟩ := hx; go_simp; try with_reducible rfl
      refine tkH 2 ?_ hS (fun wx hx => ?_) ?_; rotate_left
      · obtain ⟨hx0, _⟩ := hx; go_simp; try with_reducible rfl
      refine tkH 3 ?_ hS (fun wx hx => ?_) ?_; rotate_left
      · obtain ⟨hx0, _⟩ := hx; go_simp; try with_reducible rfl
      refine tkH 4 ?_ hS (fun wx hx => ?_) ?_; rotate_left
      · obtain ⟨hx0, _⟩ := hx; go_simp; try with_reducible rfl
      refine rdH 5 (fun K hK => ?_)
      go_simp
      go_wp2_with fail
      refine (keyAmong_is _ B k F n0 false HR.out _ (R1.out.later hS.2) (by omega)).mono ?_
      rintro e w2 ⟨rfl, q2⟩
      go_wp2_with fail
      refine hK.out _ _ ⟨(q2.cell (p := ⟨wr.heap.size, 0, none⟩) (Nat.lt_of_lt_of_le hlt1 hS.2.size)).trans hS.1, hS.2.trans (q2.mono hS.2.size)⟩ (fun hS => ?_)
      clear hK K q2
      refine wpAnyH_done (by kernel_rfl) ?_ _
      have HB3 : Hid (Below w.heap.size w w2) := HB1.out.trans (hS.2.mono HB1.out.size)
      go_simp
      go_wp2
      go_roundw
      case rel => exact ⟨k + 1, by omega, by go_num, E, HB3⟩
      case measure => simp [intOf]; omega
end Go.Proofs.YtphfiojhpfdpdaaGreat

namespace Go.Proofs.YtphfiojhpfdpdaaGreat
open Go.RowKit

/-- The type that stands for a state. -/
def StT (st : Int) (t : TypeId) : Prop := (st = 1 ∧ t = 163) ∨ (st = 2 ∧ t = 164) ∨ (st = 3 ∧ t = 165) ∨ (st = 4 ∧ t = 160) ∨ (st = 5 ∧ t = 166) ∨ (st = 6 ∧ t = 161) ∨ (st = 7 ∧ t = 162)
theorem StT.get {st : Int} (h : 1 ≤ st ∧ st ≤ 7) : ∃ t, StT st t := by
  have h7 : st = 1 ∨ st = 2 ∨ st = 3 ∨ st = 4 ∨ st = 5 ∨ st = 6 ∨ st = 7 := by omega
  unfold StT
  rcases h7 with h | h | h | h | h | h | h
  · exact ⟨_, Or.inl ⟨h, rfl⟩⟩
  · exact ⟨_, Or.inr (Or.inl ⟨h, rfl⟩)⟩
  · exact ⟨_, Or.inr (Or.inr (Or.inl ⟨h, rfl⟩))⟩
  · exact ⟨_, Or.inr (Or.inr (Or.inr (Or.inl ⟨h, rfl⟩)))⟩
  · exact ⟨_, Or.inr (Or.inr (Or.inr (Or.inr (Or.inl ⟨h, rfl⟩))))⟩
  · exact ⟨_, Or.inr (Or.inr (Or.inr (Or.inr (Or.inr (Or.inl ⟨h, rfl⟩)))))⟩
  · exact ⟨_, Or.inr (Or.inr (Or.inr (Or.inr (Or.inr (Or.inr ⟨h, rfl⟩)))))⟩
set_option maxHeartbeats 1000000 in
theorem stateOf_is (s c u st a : Int) (ao : Option Addr) (n cp : Nat) (t : TypeId) (ht : StT st t) (_ : n ≤ 12) (w : World) :
    Calls Tryz.prog 61 #[.agg #[.int .i64 s, .int .i64 c, .int .i64 u, .int .i64 st, .int .i64 a, .slice ao n cp]] w fun e w' => e = .returned (.iface t (.agg #[.int .i64 n, .int .i64 a])) ∧ Below w.heap.size w w' := by
  rcases ht with ⟨rfl, rfl⟩ | ⟨rfl, rfl⟩ | ⟨rfl, rfl⟩ | ⟨rfl, rfl⟩ | ⟨rfl, rfl⟩ | ⟨rfl, rfl⟩ | ⟨rfl, rfl⟩
  all_goals
    go_enter Tryz.func61, Tryz.ntmps61
    go_wp2
    go_ret
    exact ⟨rfl, (below_alloc _ _).alloc (by simp) _⟩
theorem as_first_first (v : Value) (w : World) : (Instr.typeAssert (.iface 163 v) 116 163 true).run Tryz.prog w = .ok (.tuple #[v, .bool true]) w := by kernel_rfl
theorem as_first_second (v : Value) (w : World) : (Instr.typeAssert (.iface 163 v) 116 164 true).run Tryz.prog w = .ok (.tuple #[.agg #[.int .i64 0, .int .i64 0], .bool false]) w := by kernel_rfl
theorem as_first_rest (v : Value) (w : World) : (Instr.typeAssert (.iface 163 v) 116 165 true).run Tryz.prog w = .ok (.tuple #[.agg #[.int .i64 0, .int .i64 0], .bool false]) w := by kernel_rfl
theorem as_first_done (v : Value) (w : World) : (Instr.typeAssert (.iface 163 v) 116 160 true).run Tryz.prog w = .ok (.tuple #[.agg #[.int .i64 0, .int .i64 0], .bool false]) w := by kernel_rfl
theorem as_first_gone (v : Value) (w : World) : (Instr.typeAssert (.iface 163 v) 116 161 true).run Tryz.prog w = .ok (.tuple #[.agg #[.int .i64 0, .int .i64 0], .bool false]) w := by kernel_rfl
theorem as_first_left (v : Value) (w : World) : (Instr.typeAssert (.iface 163 v) 116 162 true).run Tryz.prog w = .ok (.tuple #[.agg #[.int .i64 0, .int .i64 0], .bool false]) w := by kernel_rfl
theorem as_second_first (v : Value) (w : World) : (Instr.typeAssert (.iface 164 v) 116 163 true).run Tryz.prog w = .ok (.tuple #[.agg #[.int .i64 0, .int .i64 0], .bool false]) w := by kernel_rfl
theorem as_second_second (v : Value) (w : World) : (Instr.typeAssert (.iface 164 v) 116 164 true).run Tryz.prog w = .ok (.tuple #[v, .bool true]) w := by kernel_rfl
theorem as_second_rest (v : Value) (w : World) : (Instr.typeAssert (.iface 164 v) 116 165 true).run Tryz.prog w = .ok (.tuple #[.agg #[.int .i64 0, .int .i64 0], .bool false]) w := by kernel_rfl
theorem as_second_done (v : Value) (w : World) : (Instr.typeAssert (.iface 164 v) 116 160 true).run Tryz.prog w = .ok (.tuple #[.agg #[.int .i64 0, .int .i64 0], .bool false]) w := by kernel_rfl
theorem as_second_gone (v : Value) (w : World) : (Instr.typeAssert (.iface 164 v) 116 161 true).run Tryz.prog w = .ok (.tuple #[.agg #[.int .i64 0, .int .i64 0], .bool false]) w := by kernel_rfl
theorem as_second_left (v : Value) (w : World) : (Instr.typeAssert (.iface 164 v) 116 162 true).run Tryz.prog w = .ok (.tuple #[.agg #[.int .i64 0, .int .i64 0], .bool false]) w := by kernel_rfl
theorem as_rest_first (v : Value) (w : World) : (Instr.typeAssert (.iface 165 v) 116 163 true).run Tryz.prog w = .ok (.tuple #[.agg #[.int .i64 0, .int .i64 0], .bool false]) w := by kernel_rfl
theorem as_rest_second (v : Value) (w : World) : (Instr.typeAssert (.iface 165 v) 116 164 true).run Tryz.prog w = .ok (.tuple #[.agg #[.int .i64 0, .int .i64 0], .bool false]) w := by kernel_rfl
theorem as_rest_rest (v : Value) (w : World) : (Instr.typeAssert (.iface 165 v) 116 165 true).run Tryz.prog w = .ok (.tuple #[v, .bool true]) w := by kernel_rfl
theorem as_rest_done (v : Value) (w : World) : (Instr.typeAssert (.iface 165 v) 116 160 true).run Tryz.prog w = .ok (.tuple #[.agg #[.int .i64 0, .int .i64 0], .bool false]) w := by kernel_rfl
theorem as_rest_gone (v : Value) (w : World) : (Instr.typeAssert (.iface 165 v) 116 161 true).run Tryz.prog w = .ok (.tuple #[.agg #[.int .i64 0, .int .i64 0], .bool false]) w := by kernel_rfl
theorem as_rest_left (v : Value) (w : World) : (Instr.typeAssert (.iface 165 v) 116 162 true).run Tryz.prog w = .ok (.tuple #[.agg #[.int .i64 0, .int .i64 0], .bool false]) w := by kernel_rfl
theorem as_done_first (v : Value) (w : World) : (Instr.typeAssert (.iface 160 v) 116 163 true).run Tryz.prog w = .ok (.tuple #[.agg #[.int .i64 0, .int .i64 0], .bool false]) w := by kernel_rfl
theorem as_done_second (v : Value) (w : World) : (Instr.typeAssert (.iface 160 v) 116 164 true).run Tryz.prog w = .ok (.tuple #[.agg #[.int .i64 0, .int .i64 0], .bool false]) w := by kernel_rfl
theorem as_done_rest (v : Value) (w : World) : (Instr.typeAssert (.iface 160 v) 116 165 true).run Tryz.prog w = .ok (.tuple #[.agg #[.int .i64 0, .int .i64 0], .bool false]) w := by kernel_rfl
theorem as_done_done (v : Value) (w : World) : (Instr.typeAssert (.iface 160 v) 116 160 true).run Tryz.prog w = .ok (.tuple #[v, .bool true]) w := by kernel_rfl
theorem as_done_gone (v : Value) (w : World) : (Instr.typeAssert (.iface 160 v) 116 161 true).run Tryz.prog w = .ok (.tuple #[.agg #[.int .i64 0, .int .i64 0], .bool false]) w := by kernel_rfl
theorem as_done_left (v : Value) (w : World) : (Instr.typeAssert (.iface 160 v) 116 162 true).run Tryz.prog w = .ok (.tuple #[.agg #[.int .i64 0, .int .i64 0], .bool false]) w := by kernel_rfl
theorem as_undo_first (v : Value) (w : World) : (Instr.typeAssert (.iface 166 v) 116 163 true).run Tryz.prog w = .ok (.tuple #[.agg #[.int .i64 0, .int .i64 0], .bool false]) w := by kernel_rfl
theorem as_undo_second (v : Value) (w : World) : (Instr.typeAssert (.iface 166 v) 116 164 true).run Tryz.prog w = .ok (.tuple #[.agg #[.int .i64 0, .int .i64 0], .bool false]) w := by kernel_rfl
theorem as_undo_rest (v : Value) (w : World) : (Instr.typeAssert (.iface 166 v) 116 165 true).run Tryz.prog w = .ok (.tuple #[.agg #[.int .i64 0, .int .i64 0], .bool false]) w := by kernel_rfl
theorem as_undo_done (v : Value) (w : World) : (Instr.typeAssert (.iface 166 v) 116 160 true).run Tryz.prog w = .ok (.tuple #[.agg #[.int .i64 0, .int .i64 0], .bool false]) w := by kernel_rfl
theorem as_undo_gone (v : Value) (w : World) : (Instr.typeAssert (.iface 166 v) 116 161 true).run Tryz.prog w = .ok (.tuple #[.agg #[.int .i64 0, .int .i64 0], .bool false]) w := by kernel_rfl
theorem as_undo_left (v : Value) (w : World) : (Instr.typeAssert (.iface 166 v) 116 162 true).run Tryz.prog w = .ok (.tuple #[.agg #[.int .i64 0, .int .i64 0], .bool false]) w := by kernel_rfl
theorem as_gone_first (v : Value) (w : World) : (Instr.typeAssert (.iface 161 v) 116 163 true).run Tryz.prog w = .ok (.tuple #[.agg #[.int .i64 0, .int .i64 0], .bool false]) w := by kernel_rfl
theorem as_gone_second (v : Value) (w : World) : (Instr.typeAssert (.iface 161 v) 116 164 true).run Tryz.prog w = .ok (.tuple #[.agg #[.int .i64 0, .int .i64 0], .bool false]) w := by kernel_rfl
theorem as_gone_rest (v : Value) (w : World) : (Instr.typeAssert (.iface 161 v) 116 165 true).run Tryz.prog w = .ok (.tuple #[.agg #[.int .i64 0, .int .i64 0], .bool false]) w := by kernel_rfl
theorem as_gone_done (v : Value) (w : World) : (Instr.typeAssert (.iface 161 v) 116 160 true).run Tryz.prog w = .ok (.tuple #[.agg #[.int .i64 0, .int .i64 0], .bool false]) w := by kernel_rfl
theorem as_gone_gone (v : Value) (w : World) : (Instr.typeAssert (.iface 161 v) 116 161 true).run Tryz.prog w = .ok (.tuple #[v, .bool true]) w := by kernel_rfl
theorem as_gone_left (v : Value) (w : World) : (Instr.typeAssert (.iface 161 v) 116 162 true).run Tryz.prog w = .ok (.tuple #[.agg #[.int .i64 0, .int .i64 0], .bool false]) w := by kernel_rfl
theorem as_left_first (v : Value) (w : World) : (Instr.typeAssert (.iface 162 v) 116 163 true).run Tryz.prog w = .ok (.tuple #[.agg #[.int .i64 0, .int .i64 0], .bool false]) w := by kernel_rfl
theorem as_left_second (v : Value) (w : World) : (Instr.typeAssert (.iface 162 v) 116 164 true).run Tryz.prog w = .ok (.tuple #[.agg #[.int .i64 0, .int .i64 0], .bool false]) w := by kernel_rfl
theorem as_left_rest (v : Value) (w : World) : (Instr.typeAssert (.iface 162 v) 116 165 true).run Tryz.prog w = .ok (.tuple #[.agg #[.int .i64 0, .int .i64 0], .bool false]) w := by kernel_rfl
theorem as_left_done (v : Value) (w : World) : (Instr.typeAssert (.iface 162 v) 116 160 true).run Tryz.prog w = .ok (.tuple #[.agg #[.int .i64 0, .int .i64 0], .bool false]) w := by kernel_rfl
theorem as_left_gone (v : Value) (w : World) : (Instr.typeAssert (.iface 162 v) 116 161 true).run Tryz.prog w = .ok (.tuple #[.agg #[.int .i64 0, .int .i64 0], .bool false]) w := by kernel_rfl
theorem as_left_left (v : Value) (w : World) : (Instr.typeAssert (.iface 162 v) 116 162 true).run Tryz.prog w = .ok (.tuple #[v, .bool true]) w := by kernel_rfl
set_option maxHeartbeats 1000000 in
theorem isEnd_is (st a : Int) (n : Nat) (t : TypeId) (ht : StT st t) (w : World) :
    Calls Tryz.prog 60 #[.iface t (.agg #[.int .i64 n, .int .i64 a])] w fun e w' => e = .returned (.bool (decide (st = 4 ∨ st = 6 ∨ st = 7))) ∧ w' = w := by
  rcases ht with ⟨rfl, rfl⟩ | ⟨rfl, rfl⟩ | ⟨rfl, rfl⟩ | ⟨rfl, rfl⟩ | ⟨rfl, rfl⟩ | ⟨rfl, rfl⟩ | ⟨rfl, rfl⟩
  focus
    have t0 := as_first_done
    have t1 := as_first_gone
    have t2 := as_first_left
  rotate_left
  focus
    have t0 := as_second_done
    have t1 := as_second_gone
    have t2 := as_second_left
  rotate_left
  focus
    have t0 := as_rest_done
    have t1 := as_rest_gone
    have t2 := as_rest_left
  rotate_left
  focus
    have t0 := as_done_done
    have t1 := as_done_gone
    have t2 := as_done_left
  rotate_left
  focus
    have t0 := as_undo_done
    have t1 := as_undo_gone
    have t2 := as_undo_left
  rotate_left
  focus
    have t0 := as_gone_done
    have t1 := as_gone_gone
    have t2 := as_gone_left
  rotate_left
  focus
    have t0 := as_left_done
    have t1 := as_left_gone
    have t2 := as_left_left
  rotate_left
  all_goals
    go_enter Tryz.func60, Tryz.ntmps60
    go_wp2
    go_ret
    exact ⟨rfl, rfl⟩
/-- Whether Commit suits the state. -/
def SuitsT (s c st : Int) (r : Bool) : Prop := (st = 1 ∧ r = (c == 0)) ∨ ((st = 2 ∨ st = 3 ∨ st = 4) ∧ r = decide (s < c)) ∨ ((st = 5 ∨ st = 6 ∨ st = 7) ∧ r = true)
set_option maxHeartbeats 1000000 in
theorem commitSuits_is (s c u st a : Int) (ao : Option Addr) (n cp : Nat) (r : Bool) (hr : SuitsT s c st r) (hn : n ≤ 12) (w : World) :
    Calls Tryz.prog 91 #[.agg #[.int .i64 s, .int .i64 c, .int .i64 u, .int .i64 st, .int .i64 a, .slice ao n cp]] w fun e w' => e = .returned (.bool r) ∧ Below w.heap.size w w' := by
  obtain ⟨t, ht⟩ : ∃ t, StT st t := StT.get (by rcases hr with ⟨h, _⟩ | ⟨h, _⟩ | ⟨h, _⟩ <;> omega)
  rcases hr with ⟨rfl, rfl⟩ | ⟨h, rfl⟩ | ⟨h, rfl⟩
  · have HT : Hid (StT _ t) := ht
    clear ht
    go_enter Tryz.func91, Tryz.ntmps91
    go_wp2_with fail
    refine (stateOf_is _ _ _ _ _ _ _ _ t HT.out hn _).mono ?_
    rintro e w1 ⟨rfl, q1⟩
    have Q : Hid (Below w.heap.size w w1) := (below_alloc _ _).trans (q1.mono (by simp))
    obtain ⟨⟨k0, k1, k2, k3, k4, k5⟩, _⟩ := (Blk6.new w (.int .i64 s) (.int .i64 c) (.int .i64 u) (.int .i64 1) (.int .i64 a) (.slice ao n cp) 69).later q1
    clear q1
    obtain rfl : t = 163 := by
      rcases HT.out with h | h | h | h | h | h | h
      · exact h.2
      all_goals omega
    have t0 := as_first_first
    have t1 := as_first_second
    have t2 := as_first_rest
    have t3 := as_first_done
    go_wp2
    go_ret
    exact ⟨rfl, Q.out⟩
  · rcases h with rfl | rfl | rfl
    · have HT : Hid (StT _ t) := ht
      clear ht
      go_enter Tryz.func91, Tryz.ntmps91
      go_wp2_with fail
      refine (stateOf_is _ _ _ _ _ _ _ _ t HT.out hn _).mono ?_
      rintro e w1 ⟨rfl, q1⟩
      have Q : Hid (Below w.heap.size w w1) := (below_alloc _ _).trans (q1.mono (by simp))
      obtain ⟨⟨k0, k1, k2, k3, k4, k5⟩, _⟩ := (Blk6.new w (.int .i64 s) (.int .i64 c) (.int .i64 u) (.int .i64 2) (.int .i64 a) (.slice ao n cp) 69).later q1
      clear q1
      obtain rfl : t = 164 := by
        rcases HT.out with h | h | h | h | h | h | h
        · omega
        · exact h.2
        all_goals omega
      have t0 := as_second_first
      have t1 := as_second_second
      have t2 := as_second_rest
      have t3 := as_second_done
      go_wp2
      go_ret
      exact ⟨rfl, Q.out⟩
    · have HT : Hid (StT _ t) := ht
      clear ht
      go_enter Tryz.func91, Tryz.ntmps91
      go_wp2_with fail
      refine (stateOf_is _ _ _ _ _ _ _ _ t HT.out hn _).mono ?_
      rintro e w1 ⟨rfl, q1⟩
      have Q : Hid (Below w.heap.size w w1) := (below_alloc _ _).trans (q1.mono (by simp))
      obtain ⟨⟨k0, k1, k2, k3, k4, k5⟩, _⟩ := (Blk6.new w (.int .i64 s) (.int .i64 c) (.int .i64 u) (.int .i64 3) (.int .i64 a) (.slice ao n cp) 69).later q1
      clear q1
      obtain rfl : t = 165 := by
        rcases HT.out with h | h | h | h | h | h | h
        · omega
        · omega
        · exact h.2
        all_goals omega
      have t0 := as_rest_first
      have t1 := as_rest_second
      have t2 := as_rest_rest
      have t3 := as_rest_done
      go_wp2
      go_ret
      exact ⟨rfl, Q.out⟩
    · have HT : Hid (StT _ t) := ht
      clear ht
      go_enter Tryz.func91, Tryz.ntmps91
      go_wp2_with fail
      refine (stateOf_is _ _ _ _ _ _ _ _ t HT.out hn _).mono ?_
      rintro e w1 ⟨rfl, q1⟩
      have Q : Hid (Below w.heap.size w w1) := (below_alloc _ _).trans (q1.mono (by simp))
      obtain ⟨⟨k0, k1, k2, k3, k4, k5⟩, _⟩ := (Blk6.new w (.int .i64 s) (.int .i64 c) (.int .i64 u) (.int .i64 4) (.int .i64 a) (.slice ao n cp) 69).later q1
      clear q1
      obtain rfl : t = 160 := by
        rcases HT.out with h | h | h | h | h | h | h
        · omega
        · omega
        · omega
        · exact h.2
        all_goals omega
      have t0 := as_done_first
      have t1 := as_done_second
      have t2 := as_done_rest
      have t3 := as_done_done
      go_wp2
      go_ret
      exact ⟨rfl, Q.out⟩
  · rcases h with rfl | rfl | rfl
    · have HT : Hid (StT _ t) := ht
      clear ht
      go_enter Tryz.func91, Tryz.ntmps91
      go_wp2_with fail
      refine (stateOf_is _ _ _ _ _ _ _ _ t HT.out hn _).mono ?_
      rintro e w1 ⟨rfl, q1⟩
      have Q : Hid (Below w.heap.size w w1) := (below_alloc _ _).trans (q1.mono (by simp))
      obtain ⟨⟨k0, k1, k2, k3, k4, k5⟩, _⟩ := (Blk6.new w (.int .i64 s) (.int .i64 c) (.int .i64 u) (.int .i64 5) (.int .i64 a) (.slice ao n cp) 69).later q1
      clear q1
      obtain rfl : t = 166 := by
        rcases HT.out with h | h | h | h | h | h | h
        · omega
        · omega
        · omega
        · omega
        · exact h.2
        all_goals omega
      have t0 := as_undo_first
      have t1 := as_undo_second
      have t2 := as_undo_rest
      have t3 := as_undo_done
      go_wp2
      go_ret
      exact ⟨rfl, Q.out⟩
    · have HT : Hid (StT _ t) := ht
      clear ht
      go_enter Tryz.func91, Tryz.ntmps91
      go_wp2_with fail
      refine (stateOf_is _ _ _ _ _ _ _ _ t HT.out hn _).mono ?_
      rintro e w1 ⟨rfl, q1⟩
      have Q : Hid (Below w.heap.size w w1) := (below_alloc _ _).trans (q1.mono (by simp))
      obtain ⟨⟨k0, k1, k2, k3, k4, k5⟩, _⟩ := (Blk6.new w (.int .i64 s) (.int .i64 c) (.int .i64 u) (.int .i64 6) (.int .i64 a) (.slice ao n cp) 69).later q1
      clear q1
      obtain rfl : t = 161 := by
        rcases HT.out with h | h | h | h | h | h | h
        · omega
        · omega
        · omega
        · omega
        · omega
        · exact h.2
        · omega
      have t0 := as_gone_first
      have t1 := as_gone_second
      have t2 := as_gone_rest
      have t3 := as_gone_done
      go_wp2
      go_ret
      exact ⟨rfl, Q.out⟩
    · have HT : Hid (StT _ t) := ht
      clear ht
      go_enter Tryz.func91, Tryz.ntmps91
      go_wp2_with fail
      refine (stateOf_is _ _ _ _ _ _ _ _ t HT.out hn _).mono ?_
      rintro e w1 ⟨rfl, q1⟩
      have Q : Hid (Below w.heap.size w w1) := (below_alloc _ _).trans (q1.mono (by simp))
      obtain ⟨⟨k0, k1, k2, k3, k4, k5⟩, _⟩ := (Blk6.new w (.int .i64 s) (.int .i64 c) (.int .i64 u) (.int .i64 7) (.int .i64 a) (.slice ao n cp) 69).later q1
      clear q1
      obtain rfl : t = 162 := by
        rcases HT.out with h | h | h | h | h | h | h
        · omega
        · omega
        · omega
        · omega
        · omega
        · omega
        · exact h.2
      have t0 := as_left_first
      have t1 := as_left_second
      have t2 := as_left_rest
      have t3 := as_left_done
      go_wp2
      go_ret
      exact ⟨rfl, Q.out⟩
end Go.Proofs.YtphfiojhpfdpdaaGreat

