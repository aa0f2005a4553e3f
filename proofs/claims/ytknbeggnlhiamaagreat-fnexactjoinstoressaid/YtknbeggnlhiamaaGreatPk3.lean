/-
  Own text, merged of ColsN, ColsR, ColsU, StorP, JoiA, AddC.
-/
import Derived.Test.YtknbeggnlhiamaaGreatPk2
namespace Go.Proofs.YtknbeggnlhiamaaGreat
open Go.RowKit

theorem below_dn {B : Nat} {a w : World} (h : Below B a w) (q : Nat) : Below B a (w.drewN q) := ⟨h.os, h.tape, h.output, h.size, h.block⟩
theorem orOf_neg (a b c d : Int) : orOf (cmpOf a b) (cmpOf c d) < 0 ↔ a < b ∨ a = b ∧ c < d := by
  unfold orOf cmpOf
  repeat' split
  all_goals omega
theorem wrap_pred (k : Nat) (h : 0 < k) (h2 : k ≤ 200) : IntKind.i64.wrap ((k : Int) - 1) = ((k - 1 : Nat) : Int) := by
  have e : (k : Int) - 1 = ((k - 1 : Nat) : Int) := by omega
  rw [e]
  simp [IntKind.wrap, IntKind.bits, IntKind.signed]
  omega
theorem cmpOf_neg (a b : Int) : cmpOf a b < 0 ↔ a < b := by
  unfold cmpOf
  repeat' split
  all_goals omega
/-- The element ahead and the one that is asked, and that nothing old has turned. -/
def PrevCell (w : World) (g o k N : Nat) (m0 m1 m2 n0 n1 n2 : Int) (x : World) : Prop := (x.cell? ⟨g, o + (k - 1) * 3, none⟩ = some (.int .i64 m0) ∧ x.cell? ⟨g, o + (k - 1) * 3 + 1, none⟩ = some (.int .i64 m1) ∧ x.cell? ⟨g, o + (k - 1) * 3 + 2, none⟩ = some (.int .i64 m2) ∧ x.cell? ⟨N, 0, none⟩ = some (.int .i64 n0) ∧ x.cell? ⟨N, 1, none⟩ = some (.int .i64 n1) ∧ x.cell? ⟨N, 2, none⟩ = some (.int .i64 n2)) ∧ Below w.heap.size w x
theorem PrevCell.later {w x x' : World} {g o k N : Nat} {m0 m1 m2 n0 n1 n2 : Int} (h : PrevCell w g o k N m0 m1 m2 n0 n1 n2 x) (hb : Below x.heap.size x x') : PrevCell w g o k N m0 m1 m2 n0 n1 n2 x' := by
  obtain ⟨⟨hx0, hx1, hx2, hx3, hx4, hx5⟩, hy⟩ := h
  exact ⟨⟨(hb.cell (World.block_lt_of_cell? x _ hx0)).trans hx0, (hb.cell (World.block_lt_of_cell? x _ hx1)).trans hx1, (hb.cell (World.block_lt_of_cell? x _ hx2)).trans hx2, (hb.cell (World.block_lt_of_cell? x _ hx3)).trans hx3, (hb.cell (World.block_lt_of_cell? x _ hx4)).trans hx4, (hb.cell (World.block_lt_of_cell? x _ hx5)).trans hx5⟩, hy.trans (hb.mono hy.size)⟩
set_option maxRecDepth 100000 in
set_option maxHeartbeats 4000000 in
theorem cellsFault_any (S : Sto) (v : Value) (B : Nat) (w : World) (h : Row w B 3 S.nc S.c v) (hn : S.nc ≤ 200) :
    Calls Tryz.prog 42 #[v] w fun e w' => e = .returned (.int .i64 (scan (cellF S.c) S.nc)) ∧ Below w.heap.size w w' := by
  obtain ⟨ao, cp, rfl⟩ := h.form
  have H : Hid (Row w B 3 S.nc S.c (.slice ao S.nc cp)) := h
  clear h
  go_enter Tryz.func42, Tryz.ntmps42
  go_wp2
  go_loopw [8] (fun i wr => ∃ k : Nat, k ≤ S.nc ∧ i = .int .i64 k ∧ Hid (scan (cellF S.c) k = 0) ∧ Below w.heap.size w wr) (fun i _ => S.nc - (intOf i).toNat)
  case atStart => exact ⟨0, Nat.zero_le _, rfl, rfl, Below.refl _ _⟩
  case round =>
    obtain ⟨k, hk, rfl, HS, hbw⟩ := hrel
    by_cases hlt : k < S.nc
    case neg =>
      have en : k = S.nc := by omega
      have E : Hid (scan (cellF S.c) S.nc = 0) := en ▸ HS.out
      clear HS
      go_wp2
      go_ret
      exact ⟨by rw [E.out]; rfl, hbw⟩
    obtain ⟨g, o, rfl, _, hg, x0, x1, x2⟩ := (H.out.later hbw).at3 hlt
    obtain ⟨n0, N0⟩ : ∃ x, S.c (k * 3) = x := ⟨_, rfl⟩
    rw [N0] at x0
    obtain ⟨n1, N1⟩ : ∃ x, S.c (k * 3 + 1) = x := ⟨_, rfl⟩
    rw [N1] at x1
    obtain ⟨n2, N2⟩ : ∃ x, S.c (k * 3 + 2) = x := ⟨_, rfl⟩
    rw [N2] at x2
    have NN : Hid (S.c (k * 3) = n0 ∧ S.c (k * 3 + 1) = n1 ∧ S.c (k * 3 + 2) = n2) := ⟨N0, N1, N2⟩
    clear N0 N1 N2
    by_cases h0 : faultOf n0 = 0
    case neg =>
      obtain ⟨f, hff⟩ : ∃ f, faultOf n0 = f := ⟨_, rfl⟩
      have L0 : Hid (∀ w, Calls Tryz.prog 67 #[.int .i64 n0] w fun e w' => e = .returned (.int .i64 f) ∧ w' = w) := fun w => hff ▸ keyFault_any n0 w
      have E : Hid (scan (cellF S.c) S.nc = f) := by
        have : cellF S.c k = f := by
          unfold cellF
          rw [NN.out.1, NN.out.2.1, NN.out.2.2]
          rw [if_pos h0]; exact hff
        exact (scan_stop HS.out (by rw [this, ← hff]; exact h0) hlt).trans this
      have hfn : (f == 0) = false := beq_eq_false_iff_ne.2 (by rw [← hff]; exact h0)
      clear hff h0 HS NN
      go_wp2_with fail
      refine (L0.out _).mono ?_
      rintro e w1 ⟨rfl, rfl⟩
      go_wp2
      go_ret
      exact ⟨by rw [E.out]; rfl, by first | exact hbw.alloc hbw.size _ | exact below_dn (hbw.alloc hbw.size _) _ | exact below_dn (below_dn (hbw.alloc hbw.size _) _) _⟩
    have L0 : Hid (∀ w, Calls Tryz.prog 67 #[.int .i64 n0] w fun e w' => e = .returned (.int .i64 0) ∧ w' = w) := fun w => h0 ▸ keyFault_any n0 w
    have G0 : Hid (faultOf n0 = 0) := h0
    clear h0
    by_cases h1 : 1 ≤ n1 ∧ n1 ≤ 100000
    case neg =>
      have L1 : Hid (decide (1 ≤ n1 ∧ n1 ≤ 100000) = false) := decide_eq_false h1
      have E : Hid (scan (cellF S.c) S.nc = 3) := by
        have : cellF S.c k = 3 := by
          unfold cellF
          rw [NN.out.1, NN.out.2.1, NN.out.2.2]
          rw [if_neg (fun h => h G0.out)]
          rw [if_pos (by omega)]
        exact (scan_stop HS.out (by rw [this]; decide) hlt).trans this
      clear h1 HS NN G0
      go_wp2_with fail
      refine (L0.out _).mono ?_
      rintro e w1 ⟨rfl, rfl⟩
      go_wp2_with fail
      refine (isTime_is _ false L1.out _).mono ?_
      rintro e w1 ⟨rfl, rfl⟩
      go_wp2
      go_ret
      exact ⟨by rw [E.out]; rfl, by first | exact hbw.alloc hbw.size _ | exact below_dn (hbw.alloc hbw.size _) _ | exact below_dn (below_dn (hbw.alloc hbw.size _) _) _⟩
    have L1 : Hid (decide (1 ≤ n1 ∧ n1 ≤ 100000) = true) := decide_eq_true h1
    have G1 : Hid (1 ≤ n1 ∧ n1 ≤ 100000) := h1
    clear h1
    by_cases h2 : 0 ≤ n2 ∧ n2 ≤ 9999
    case neg =>
      have L2 : Hid (decide (0 ≤ n2 ∧ n2 ≤ 9999) = false) := decide_eq_false h2
      have E : Hid (scan (cellF S.c) S.nc = 3) := by
        have : cellF S.c k = 3 := by
          unfold cellF
          rw [NN.out.1, NN.out.2.1, NN.out.2.2]
          rw [if_neg (fun h => h G0.out)]
          rw [if_pos (by omega)]
        exact (scan_stop HS.out (by rw [this]; decide) hlt).trans this
      clear h2 HS NN G0 G1
      go_wp2_with fail
      refine (L0.out _).mono ?_
      rintro e w1 ⟨rfl, rfl⟩
      go_wp2_with fail
      refine (isTime_is _ true L1.out _).mono ?_
      rintro e w1 ⟨rfl, rfl⟩
      go_wp2_with fail
      refine (isValue_is _ false L2.out _).mono ?_
      rintro e w1 ⟨rfl, rfl⟩
      go_wp2
      go_ret
      exact ⟨by rw [E.out]; rfl, by first | exact hbw.alloc hbw.size _ | exact below_dn (hbw.alloc hbw.size _) _ | exact below_dn (below_dn (hbw.alloc hbw.size _) _) _⟩
    have L2 : Hid (decide (0 ≤ n2 ∧ n2 ≤ 9999) = true) := decide_eq_true h2
    have G2 : Hid (0 ≤ n2 ∧ n2 ≤ 9999) := h2
    clear h2
    rcases Nat.eq_zero_or_pos k with hk0 | hk0
    · have E : Hid (scan (cellF S.c) (k + 1) = 0) := by
        have : cellF S.c k = 0 := by
          unfold cellF
          rw [NN.out.1, NN.out.2.1, NN.out.2.2]
          rw [if_neg (fun h => h G0.out)]
          have g1 := G1.out; have g2 := G2.out; rw [if_neg (by omega)]
          rw [if_neg (by omega)]
        exact scan_go HS.out this
      have dk : decide (0 < k) = false := decide_eq_false (by omega)
      clear HS NN G0 G1 G2 hk0
      go_wp2_with fail
      refine (L0.out _).mono ?_
      rintro e w1 ⟨rfl, rfl⟩
      go_wp2_with fail
      refine (isTime_is _ true L1.out _).mono ?_
      rintro e w1 ⟨rfl, rfl⟩
      go_wp2_with fail
      refine (isValue_is _ true L2.out _).mono ?_
      rintro e w1 ⟨rfl, rfl⟩
      go_wp2_with fail
      go_quiet (fail)
      go_wp2
      go_roundw
      case rel => exact ⟨k + 1, by omega, by go_num, E, by first | exact hbw.alloc hbw.size _ | exact below_dn (hbw.alloc hbw.size _) _ | exact below_dn (below_dn (hbw.alloc hbw.size _) _) _⟩
      case measure => simp [intOf]; omega
    obtain ⟨g', o', he, _, _, y0, y1, y2⟩ := (H.out.later hbw).at3 (k := k - 1) (by omega)
    simp only [Option.some.injEq, Addr.mk.injEq, and_true] at he
    obtain ⟨rfl, rfl⟩ := he
    obtain ⟨m0, M0⟩ : ∃ x, S.c ((k - 1) * 3) = x := ⟨_, rfl⟩
    rw [M0] at y0
    obtain ⟨m1, M1⟩ : ∃ x, S.c ((k - 1) * 3 + 1) = x := ⟨_, rfl⟩
    rw [M1] at y1
    obtain ⟨m2, M2⟩ : ∃ x, S.c ((k - 1) * 3 + 2) = x := ⟨_, rfl⟩
    rw [M2] at y2
    have MM : Hid (S.c ((k - 1) * 3) = m0 ∧ S.c ((k - 1) * 3 + 1) = m1) := ⟨M0, M1⟩
    clear M0 M1 M2
    have dk : decide (0 < k) = true := decide_eq_true hk0
    have hwr := wrap_pred k hk0 (by omega)
    have hkn : ((k - 1 : Nat) : Int) < (S.nc : Int) := by omega
    obtain ⟨r, HR⟩ : ∃ r, Hid (orOf (cmpOf m0 n0) (cmpOf m1 n1) = r) := ⟨_, rfl⟩
    have HO : Hid (r < 0 ↔ m0 < n0 ∨ m0 = n0 ∧ m1 < n1) := by unfold Hid; rw [← HR.out]; exact orOf_neg _ _ _ _
    have h0 : PrevCell w g o k wr.heap.size m0 m1 m2 n0 n1 n2 (wr.alloc (.cells #[.int .i64 n0, .int .i64 n1, .int .i64 n2] 62)).drew := ⟨⟨(World.cell?_alloc_lt _ _ _ hg).trans y0, (World.cell?_alloc_lt _ _ _ hg).trans y1, (World.cell?_alloc_lt _ _ _ hg).trans y2, World.cell?_alloc_mark wr _ _ _ 0, World.cell?_alloc_mark wr _ _ _ 1, World.cell?_alloc_mark wr _ _ _ 2⟩, (hbw.alloc hbw.size _).drew⟩
    by_cases hr : 0 ≤ r
    · have E : Hid (scan (cellF S.c) S.nc = 1) := by
        have : cellF S.c k = 1 := by
          unfold cellF
          rw [NN.out.1, NN.out.2.1, NN.out.2.2]
          rw [if_neg (fun h => h G0.out)]
          have g1 := G1.out; have g2 := G2.out; rw [if_neg (by omega)]
          rw [MM.out.1, MM.out.2]
          have ho := HO.out
          rw [if_pos (by omega)]
        exact (scan_stop HS.out (by rw [this]; decide) hlt).trans this
      have dr : decide (0 ≤ r) = true := decide_eq_true hr
      clear HS NN G0 G1 G2 MM HO hr
      go_wp2_with fail
      refine (L0.out _).mono ?_
      rintro e w1 ⟨rfl, rfl⟩
      go_wp2_with fail
      refine (isTime_is _ true L1.out _).mono ?_
      rintro e w1 ⟨rfl, rfl⟩
      go_wp2_with fail
      refine (isValue_is _ true L2.out _).mono ?_
      rintro e w1 ⟨rfl, rfl⟩
      go_wp2_with fail
      refine wp_region_held_drew (S := PrevCell w g o k wr.heap.size m0 m1 m2 n0 n1 n2) (by kernel_rfl) h0 (fun hS => ?_)
      clear h0
      refine tkH 0 ?_ hS (fun wx hx => ?_) ?_; rotate_left
      · obtain ⟨⟨hx0, hx1, hx2, hx3, hx4, hx5⟩, _⟩ := hx; go_simp; try with_reducible rfl
      refine tkH 1 ?_ hS (fun wx hx => ?_) ?_; rotate_left
      · obtain ⟨⟨hx0, hx1, hx2, hx3, hx4, hx5⟩, _⟩ := hx; go_simp; try with_reducible rfl
      refine tkH 2 ?_ hS (fun wx hx => ?_) ?_; rotate_left
      · obtain ⟨⟨hx0, hx1, hx2, hx3, hx4, hx5⟩, _⟩ := hx; go_simp; try with_reducible rfl
      refine tkH 3 ?_ hS (fun wx hx => ?_) ?_; rotate_left
      · obtain ⟨⟨hx0, hx1, hx2, hx3, hx4, hx5⟩, _⟩ := hx; go_simp; try with_reducible rfl
      refine tkH 4 ?_ hS (fun wx hx => ?_) ?_; rotate_left
      · obtain ⟨⟨hx0, hx1, hx2, hx3, hx4, hx5⟩, _⟩ := hx; go_simp; try with_reducible rfl
      refine tkH 5 ?_ hS (fun wx hx => ?_) ?_; rotate_left
      · obtain ⟨⟨hx0, hx1, hx2, hx3, hx4, hx5⟩, _⟩ := hx; go_simp; try with_reducible rfl
      refine tkH 6 ?_ hS (fun wx hx => ?_) ?_; rotate_left
      · obtain ⟨⟨hx0, hx1, hx2, hx3, hx4, hx5⟩, _⟩ := hx; go_simp; try with_reducible rfl
      refine tkH 7 ?_ hS (fun wx hx => ?_) ?_; rotate_left
      · obtain ⟨⟨hx0, hx1, hx2, hx3, hx4, hx5⟩, _⟩ := hx; go_simp; try with_reducible rfl
      refine tkH 8 ?_ hS (fun wx hx => ?_) ?_; rotate_left
      · obtain ⟨⟨hx0, hx1, hx2, hx3, hx4, hx5⟩, _⟩ := hx; go_simp; try with_reducible rfl
      refine rdH 9 (fun K hK => ?_)
      go_simp
      go_wp2_with fail
      refine (compareCells_is _ _ _ _ _ _ r HR.out _).mono ?_
      rintro e w1 ⟨rfl, q1⟩
      have hS' := hS.later q1
      clear q1
      go_wp2_with fail
      refine hK.out _ _ hS' (fun hS => ?_)
      clear hK K hS'
      refine tkH 10 ?_ hS (fun wx hx => ?_) ?_; rotate_left
      · obtain ⟨⟨hx0, hx1, hx2, hx3, hx4, hx5⟩, _⟩ := hx; go_simp; try with_reducible rfl
      refine tkH 11 ?_ hS (fun wx hx => ?_) ?_; rotate_left
      · obtain ⟨⟨hx0, hx1, hx2, hx3, hx4, hx5⟩, _⟩ := hx; go_simp; try with_reducible rfl
      refine wpAnyH_done (by kernel_rfl) ?_ _
      go_simp
      go_wp2
      go_ret
      exact ⟨by rw [E.out]; rfl, hS.2⟩
    · have E : Hid (scan (cellF S.c) (k + 1) = 0) := by
        have : cellF S.c k = 0 := by
          unfold cellF
          rw [NN.out.1, NN.out.2.1, NN.out.2.2]
          rw [if_neg (fun h => h G0.out)]
          have g1 := G1.out; have g2 := G2.out; rw [if_neg (by omega)]
          rw [MM.out.1, MM.out.2]
          have ho := HO.out
          rw [if_neg (by omega)]
        exact scan_go HS.out this
      have dr : decide (0 ≤ r) = false := decide_eq_false hr
      clear HS NN G0 G1 G2 MM HO hr
      go_wp2_with fail
      refine (L0.out _).mono ?_
      rintro e w1 ⟨rfl, rfl⟩
      go_wp2_with fail
      refine (isTime_is _ true L1.out _).mono ?_
      rintro e w1 ⟨rfl, rfl⟩
      go_wp2_with fail
      refine (isValue_is _ true L2.out _).mono ?_
      rintro e w1 ⟨rfl, rfl⟩
      go_wp2_with fail
      refine wp_region_held_drew (S := PrevCell w g o k wr.heap.size m0 m1 m2 n0 n1 n2) (by kernel_rfl) h0 (fun hS => ?_)
      clear h0
      refine tkH 0 ?_ hS (fun wx hx => ?_) ?_; rotate_left
      · obtain ⟨⟨hx0, hx1, hx2, hx3, hx4, hx5⟩, _⟩ := hx; go_simp; try with_reducible rfl
      refine tkH 1 ?_ hS (fun wx hx => ?_) ?_; rotate_left
      · obtain ⟨⟨hx0, hx1, hx2, hx3, hx4, hx5⟩, _⟩ := hx; go_simp; try with_reducible rfl
      refine tkH 2 ?_ hS (fun wx hx => ?_) ?_; rotate_left
      · obtain ⟨⟨hx0, hx1, hx2, hx3, hx4, hx5⟩, _⟩ := hx; go_simp; try with_reducible rfl
      refine tkH 3 ?_ hS (fun wx hx => ?_) ?_; rotate_left
      · obtain ⟨⟨hx0, hx1, hx2, hx3, hx4, hx5⟩, _⟩ := hx; go_simp; try with_reducible rfl
      refine tkH 4 ?_ hS (fun wx hx => ?_) ?_; rotate_left
      · obtain ⟨⟨hx0, hx1, hx2, hx3, hx4, hx5⟩, _⟩ := hx; go_simp; try with_reducible rfl
      refine tkH 5 ?_ hS (fun wx hx => ?_) ?_; rotate_left
      · obtain ⟨⟨hx0, hx1, hx2, hx3, hx4, hx5⟩, _⟩ := hx; go_simp; try with_reducible rfl
      refine tkH 6 ?_ hS (fun wx hx => ?_) ?_; rotate_left
      · obtain ⟨⟨hx0, hx1, hx2, hx3, hx4, hx5⟩, _⟩ := hx; go_simp; try with_reducible rfl
      refine tkH 7 ?_ hS (fun wx hx => ?_) ?_; rotate_left
      · obtain ⟨⟨hx0, hx1, hx2, hx3, hx4, hx5⟩, _⟩ := hx; go_simp; try with_reducible rfl
      refine tkH 8 ?_ hS (fun wx hx => ?_) ?_; rotate_left
      · obtain ⟨⟨hx0, hx1, hx2, hx3, hx4, hx5⟩, _⟩ := hx; go_simp; try with_reducible rfl
      refine rdH 9 (fun K hK => ?_)
      go_simp
      go_wp2_with fail
      refine (compareCells_is _ _ _ _ _ _ r HR.out _).mono ?_
      rintro e w1 ⟨rfl, q1⟩
      have hS' := hS.later q1
      clear q1
      go_wp2_with fail
      refine hK.out _ _ hS' (fun hS => ?_)
      clear hK K hS'
      refine tkH 10 ?_ hS (fun wx hx => ?_) ?_; rotate_left
      · obtain ⟨⟨hx0, hx1, hx2, hx3, hx4, hx5⟩, _⟩ := hx; go_simp; try with_reducible rfl
      refine tkH 11 ?_ hS (fun wx hx => ?_) ?_; rotate_left
      · obtain ⟨⟨hx0, hx1, hx2, hx3, hx4, hx5⟩, _⟩ := hx; go_simp; try with_reducible rfl
      refine wpAnyH_done (by kernel_rfl) ?_ _
      go_simp
      go_wp2
      go_roundw
      case rel => exact ⟨k + 1, by omega, by go_num, E, hS.2⟩
      case measure => simp [intOf]; omega

/-- The element ahead and the one that is asked, and that nothing old has turned. -/
def PrevLock (w : World) (g o k N : Nat) (m0 m1 m2 m3 m4 n0 n1 n2 n3 n4 : Int) (x : World) : Prop := (x.cell? ⟨g, o + (k - 1) * 5, none⟩ = some (.int .i64 m0) ∧ x.cell? ⟨g, o + (k - 1) * 5 + 1, none⟩ = some (.int .i64 m1) ∧ x.cell? ⟨g, o + (k - 1) * 5 + 2, none⟩ = some (.int .i64 m2) ∧ x.cell? ⟨g, o + (k - 1) * 5 + 3, none⟩ = some (.int .i64 m3) ∧ x.cell? ⟨g, o + (k - 1) * 5 + 4, none⟩ = some (.int .i64 m4) ∧ x.cell? ⟨N, 0, none⟩ = some (.int .i64 n0) ∧ x.cell? ⟨N, 1, none⟩ = some (.int .i64 n1) ∧ x.cell? ⟨N, 2, none⟩ = some (.int .i64 n2) ∧ x.cell? ⟨N, 3, none⟩ = some (.int .i64 n3) ∧ x.cell? ⟨N, 4, none⟩ = some (.int .i64 n4)) ∧ Below w.heap.size w x
theorem PrevLock.later {w x x' : World} {g o k N : Nat} {m0 m1 m2 m3 m4 n0 n1 n2 n3 n4 : Int} (h : PrevLock w g o k N m0 m1 m2 m3 m4 n0 n1 n2 n3 n4 x) (hb : Below x.heap.size x x') : PrevLock w g o k N m0 m1 m2 m3 m4 n0 n1 n2 n3 n4 x' := by
  obtain ⟨⟨hx0, hx1, hx2, hx3, hx4, hx5, hx6, hx7, hx8, hx9⟩, hy⟩ := h
  exact ⟨⟨(hb.cell (World.block_lt_of_cell? x _ hx0)).trans hx0, (hb.cell (World.block_lt_of_cell? x _ hx1)).trans hx1, (hb.cell (World.block_lt_of_cell? x _ hx2)).trans hx2, (hb.cell (World.block_lt_of_cell? x _ hx3)).trans hx3, (hb.cell (World.block_lt_of_cell? x _ hx4)).trans hx4, (hb.cell (World.block_lt_of_cell? x _ hx5)).trans hx5, (hb.cell (World.block_lt_of_cell? x _ hx6)).trans hx6, (hb.cell (World.block_lt_of_cell? x _ hx7)).trans hx7, (hb.cell (World.block_lt_of_cell? x _ hx8)).trans hx8, (hb.cell (World.block_lt_of_cell? x _ hx9)).trans hx9⟩, hy.trans (hb.mono hy.size)⟩
set_option maxRecDepth 100000 in
set_option maxHeartbeats 4000000 in
theorem locksFault_any (S : Sto) (v : Value) (B : Nat) (w : World) (h : Row w B 5 S.nl S.l v) (hn : S.nl ≤ 200) :
    Calls Tryz.prog 43 #[v] w fun e w' => e = .returned (.int .i64 (scan (lockF S.l) S.nl)) ∧ Below w.heap.size w w' := by
  obtain ⟨ao, cp, rfl⟩ := h.form
  have H : Hid (Row w B 5 S.nl S.l (.slice ao S.nl cp)) := h
  clear h
  go_enter Tryz.func43, Tryz.ntmps43
  go_wp2
  go_loopw [9] (fun i wr => ∃ k : Nat, k ≤ S.nl ∧ i = .int .i64 k ∧ Hid (scan (lockF S.l) k = 0) ∧ Below w.heap.size w wr) (fun i _ => S.nl - (intOf i).toNat)
  case atStart => exact ⟨0, Nat.zero_le _, rfl, rfl, Below.refl _ _⟩
  case round =>
    obtain ⟨k, hk, rfl, HS, hbw⟩ := hrel
    by_cases hlt : k < S.nl
    case neg =>
      have en : k = S.nl := by omega
      have E : Hid (scan (lockF S.l) S.nl = 0) := en ▸ HS.out
      clear HS
      go_wp2
      go_ret
      exact ⟨by rw [E.out]; rfl, hbw⟩
    obtain ⟨g, o, rfl, _, hg, x0, x1, x2, x3, x4⟩ := (H.out.later hbw).at5 hlt
    obtain ⟨n0, N0⟩ : ∃ x, S.l (k * 5) = x := ⟨_, rfl⟩
    rw [N0] at x0
    obtain ⟨n1, N1⟩ : ∃ x, S.l (k * 5 + 1) = x := ⟨_, rfl⟩
    rw [N1] at x1
    obtain ⟨n2, N2⟩ : ∃ x, S.l (k * 5 + 2) = x := ⟨_, rfl⟩
    rw [N2] at x2
    obtain ⟨n3, N3⟩ : ∃ x, S.l (k * 5 + 3) = x := ⟨_, rfl⟩
    rw [N3] at x3
    obtain ⟨n4, N4⟩ : ∃ x, S.l (k * 5 + 4) = x := ⟨_, rfl⟩
    rw [N4] at x4
    have NN : Hid (S.l (k * 5) = n0 ∧ S.l (k * 5 + 1) = n1 ∧ S.l (k * 5 + 2) = n2 ∧ S.l (k * 5 + 3) = n3 ∧ S.l (k * 5 + 4) = n4) := ⟨N0, N1, N2, N3, N4⟩
    clear N0 N1 N2 N3 N4
    by_cases h0 : faultOf n0 = 0
    case neg =>
      obtain ⟨f, hff⟩ : ∃ f, faultOf n0 = f := ⟨_, rfl⟩
      have L0 : Hid (∀ w, Calls Tryz.prog 67 #[.int .i64 n0] w fun e w' => e = .returned (.int .i64 f) ∧ w' = w) := fun w => hff ▸ keyFault_any n0 w
      have E : Hid (scan (lockF S.l) S.nl = f) := by
        have : lockF S.l k = f := by
          unfold lockF
          rw [NN.out.1, NN.out.2.1, NN.out.2.2.1, NN.out.2.2.2.1, NN.out.2.2.2.2]
          rw [if_pos h0]; exact hff
        exact (scan_stop HS.out (by rw [this, ← hff]; exact h0) hlt).trans this
      have hfn : (f == 0) = false := beq_eq_false_iff_ne.2 (by rw [← hff]; exact h0)
      clear hff h0 HS NN
      go_wp2_with fail
      refine (L0.out _).mono ?_
      rintro e w1 ⟨rfl, rfl⟩
      go_wp2
      go_ret
      exact ⟨by rw [E.out]; rfl, by first | exact hbw.alloc hbw.size _ | exact below_dn (hbw.alloc hbw.size _) _ | exact below_dn (below_dn (hbw.alloc hbw.size _) _) _⟩
    have L0 : Hid (∀ w, Calls Tryz.prog 67 #[.int .i64 n0] w fun e w' => e = .returned (.int .i64 0) ∧ w' = w) := fun w => h0 ▸ keyFault_any n0 w
    have G0 : Hid (faultOf n0 = 0) := h0
    clear h0
    by_cases h1 : faultOf n3 = 0
    case neg =>
      obtain ⟨f, hff⟩ : ∃ f, faultOf n3 = f := ⟨_, rfl⟩
      have L1 : Hid (∀ w, Calls Tryz.prog 67 #[.int .i64 n3] w fun e w' => e = .returned (.int .i64 f) ∧ w' = w) := fun w => hff ▸ keyFault_any n3 w
      have E : Hid (scan (lockF S.l) S.nl = f) := by
        have : lockF S.l k = f := by
          unfold lockF
          rw [NN.out.1, NN.out.2.1, NN.out.2.2.1, NN.out.2.2.2.1, NN.out.2.2.2.2]
          rw [if_neg (fun h => h G0.out)]
          rw [if_pos h1]; exact hff
        exact (scan_stop HS.out (by rw [this, ← hff]; exact h1) hlt).trans this
      have hfn : (f == 0) = false := beq_eq_false_iff_ne.2 (by rw [← hff]; exact h1)
      clear hff h1 HS NN G0
      go_wp2_with fail
      refine (L0.out _).mono ?_
      rintro e w1 ⟨rfl, rfl⟩
      go_wp2_with fail
      refine (L1.out _).mono ?_
      rintro e w1 ⟨rfl, rfl⟩
      go_wp2
      go_ret
      exact ⟨by rw [E.out]; rfl, by first | exact hbw.alloc hbw.size _ | exact below_dn (hbw.alloc hbw.size _) _ | exact below_dn (below_dn (hbw.alloc hbw.size _) _) _⟩
    have L1 : Hid (∀ w, Calls Tryz.prog 67 #[.int .i64 n3] w fun e w' => e = .returned (.int .i64 0) ∧ w' = w) := fun w => h1 ▸ keyFault_any n3 w
    have G1 : Hid (faultOf n3 = 0) := h1
    clear h1
    by_cases h2 : 1 ≤ n1 ∧ n1 ≤ 100000
    case neg =>
      have L2 : Hid (decide (1 ≤ n1 ∧ n1 ≤ 100000) = false) := decide_eq_false h2
      have E : Hid (scan (lockF S.l) S.nl = 3) := by
        have : lockF S.l k = 3 := by
          unfold lockF
          rw [NN.out.1, NN.out.2.1, NN.out.2.2.1, NN.out.2.2.2.1, NN.out.2.2.2.2]
          rw [if_neg (fun h => h G0.out)]
          rw [if_neg (fun h => h G1.out)]
          rw [if_pos (by omega)]
        exact (scan_stop HS.out (by rw [this]; decide) hlt).trans this
      clear h2 HS NN G0 G1
      go_wp2_with fail
      refine (L0.out _).mono ?_
      rintro e w1 ⟨rfl, rfl⟩
      go_wp2_with fail
      refine (L1.out _).mono ?_
      rintro e w1 ⟨rfl, rfl⟩
      go_wp2_with fail
      refine (isTime_is _ false L2.out _).mono ?_
      rintro e w1 ⟨rfl, rfl⟩
      go_wp2
      go_ret
      exact ⟨by rw [E.out]; rfl, by first | exact hbw.alloc hbw.size _ | exact below_dn (hbw.alloc hbw.size _) _ | exact below_dn (below_dn (hbw.alloc hbw.size _) _) _⟩
    have L2 : Hid (decide (1 ≤ n1 ∧ n1 ≤ 100000) = true) := decide_eq_true h2
    have G2 : Hid (1 ≤ n1 ∧ n1 ≤ 100000) := h2
    clear h2
    by_cases h3 : 1 ≤ n2 ∧ n2 ≤ 3
    case neg =>
      have L3 : Hid (decide (1 ≤ n2 ∧ n2 ≤ 3) = false) := decide_eq_false h3
      have E : Hid (scan (lockF S.l) S.nl = 3) := by
        have : lockF S.l k = 3 := by
          unfold lockF
          rw [NN.out.1, NN.out.2.1, NN.out.2.2.1, NN.out.2.2.2.1, NN.out.2.2.2.2]
          rw [if_neg (fun h => h G0.out)]
          rw [if_neg (fun h => h G1.out)]
          rw [if_pos (by omega)]
        exact (scan_stop HS.out (by rw [this]; decide) hlt).trans this
      clear h3 HS NN G0 G1 G2
      go_wp2_with fail
      refine (L0.out _).mono ?_
      rintro e w1 ⟨rfl, rfl⟩
      go_wp2_with fail
      refine (L1.out _).mono ?_
      rintro e w1 ⟨rfl, rfl⟩
      go_wp2_with fail
      refine (isTime_is _ true L2.out _).mono ?_
      rintro e w1 ⟨rfl, rfl⟩
      go_wp2_with fail
      refine (isLockKind_is _ false L3.out _).mono ?_
      rintro e w1 ⟨rfl, rfl⟩
      go_wp2
      go_ret
      exact ⟨by rw [E.out]; rfl, by first | exact hbw.alloc hbw.size _ | exact below_dn (hbw.alloc hbw.size _) _ | exact below_dn (below_dn (hbw.alloc hbw.size _) _) _⟩
    have L3 : Hid (decide (1 ≤ n2 ∧ n2 ≤ 3) = true) := decide_eq_true h3
    have G3 : Hid (1 ≤ n2 ∧ n2 ≤ 3) := h3
    clear h3
    by_cases h4 : 0 ≤ n4 ∧ n4 ≤ 100000
    case neg =>
      have L4 : Hid (decide (0 ≤ n4 ∧ n4 ≤ 100000) = false) := decide_eq_false h4
      have E : Hid (scan (lockF S.l) S.nl = 3) := by
        have : lockF S.l k = 3 := by
          unfold lockF
          rw [NN.out.1, NN.out.2.1, NN.out.2.2.1, NN.out.2.2.2.1, NN.out.2.2.2.2]
          rw [if_neg (fun h => h G0.out)]
          rw [if_neg (fun h => h G1.out)]
          rw [if_pos (by omega)]
        exact (scan_stop HS.out (by rw [this]; decide) hlt).trans this
      clear h4 HS NN G0 G1 G2 G3
      go_wp2_with fail
      refine (L0.out _).mono ?_
      rintro e w1 ⟨rfl, rfl⟩
      go_wp2_with fail
      refine (L1.out _).mono ?_
      rintro e w1 ⟨rfl, rfl⟩
      go_wp2_with fail
      refine (isTime_is _ true L2.out _).mono ?_
      rintro e w1 ⟨rfl, rfl⟩
      go_wp2_with fail
      refine (isLockKind_is _ true L3.out _).mono ?_
      rintro e w1 ⟨rfl, rfl⟩
      go_wp2_with fail
      refine (isUntil_is _ false L4.out _).mono ?_
      rintro e w1 ⟨rfl, rfl⟩
      go_wp2
      go_ret
      exact ⟨by rw [E.out]; rfl, by first | exact hbw.alloc hbw.size _ | exact below_dn (hbw.alloc hbw.size _) _ | exact below_dn (below_dn (hbw.alloc hbw.size _) _) _⟩
    have L4 : Hid (decide (0 ≤ n4 ∧ n4 ≤ 100000) = true) := decide_eq_true h4
    have G4 : Hid (0 ≤ n4 ∧ n4 ≤ 100000) := h4
    clear h4
    rcases Nat.eq_zero_or_pos k with hk0 | hk0
    · have E : Hid (scan (lockF S.l) (k + 1) = 0) := by
        have : lockF S.l k = 0 := by
          unfold lockF
          rw [NN.out.1, NN.out.2.1, NN.out.2.2.1, NN.out.2.2.2.1, NN.out.2.2.2.2]
          rw [if_neg (fun h => h G0.out)]
          rw [if_neg (fun h => h G1.out)]
          have g2 := G2.out; have g3 := G3.out; have g4 := G4.out; rw [if_neg (by omega)]
          rw [if_neg (by omega)]
        exact scan_go HS.out this
      have dk : decide (0 < k) = false := decide_eq_false (by omega)
      clear HS NN G0 G1 G2 G3 G4 hk0
      go_wp2_with fail
      refine (L0.out _).mono ?_
      rintro e w1 ⟨rfl, rfl⟩
      go_wp2_with fail
      refine (L1.out _).mono ?_
      rintro e w1 ⟨rfl, rfl⟩
      go_wp2_with fail
      refine (isTime_is _ true L2.out _).mono ?_
      rintro e w1 ⟨rfl, rfl⟩
      go_wp2_with fail
      refine (isLockKind_is _ true L3.out _).mono ?_
      rintro e w1 ⟨rfl, rfl⟩
      go_wp2_with fail
      refine (isUntil_is _ true L4.out _).mono ?_
      rintro e w1 ⟨rfl, rfl⟩
      go_wp2_with fail
      go_quiet (fail)
      go_wp2
      go_roundw
      case rel => exact ⟨k + 1, by omega, by go_num, E, by first | exact hbw.alloc hbw.size _ | exact below_dn (hbw.alloc hbw.size _) _ | exact below_dn (below_dn (hbw.alloc hbw.size _) _) _⟩
      case measure => simp [intOf]; omega
    obtain ⟨g', o', he, _, _, y0, y1, y2, y3, y4⟩ := (H.out.later hbw).at5 (k := k - 1) (by omega)
    simp only [Option.some.injEq, Addr.mk.injEq, and_true] at he
    obtain ⟨rfl, rfl⟩ := he
    obtain ⟨m0, M0⟩ : ∃ x, S.l ((k - 1) * 5) = x := ⟨_, rfl⟩
    rw [M0] at y0
    obtain ⟨m1, M1⟩ : ∃ x, S.l ((k - 1) * 5 + 1) = x := ⟨_, rfl⟩
    rw [M1] at y1
    obtain ⟨m2, M2⟩ : ∃ x, S.l ((k - 1) * 5 + 2) = x := ⟨_, rfl⟩
    rw [M2] at y2
    obtain ⟨m3, M3⟩ : ∃ x, S.l ((k - 1) * 5 + 3) = x := ⟨_, rfl⟩
    rw [M3] at y3
    obtain ⟨m4, M4⟩ : ∃ x, S.l ((k - 1) * 5 + 4) = x := ⟨_, rfl⟩
    rw [M4] at y4
    have MM : Hid (S.l ((k - 1) * 5) = m0 ∧ S.l ((k - 1) * 5 + 1) = m1) := ⟨M0, M1⟩
    clear M0 M1 M2 M3 M4
    have dk : decide (0 < k) = true := decide_eq_true hk0
    have hwr := wrap_pred k hk0 (by omega)
    have hkn : ((k - 1 : Nat) : Int) < (S.nl : Int) := by omega
    obtain ⟨r, HR⟩ : ∃ r, Hid (cmpOf m0 n0 = r) := ⟨_, rfl⟩
    have HO : Hid (r < 0 ↔ m0 < n0) := by unfold Hid; rw [← HR.out]; exact cmpOf_neg _ _
    have h0 : PrevLock w g o k wr.heap.size m0 m1 m2 m3 m4 n0 n1 n2 n3 n4 (wr.alloc (.cells #[.int .i64 n0, .int .i64 n1, .int .i64 n2, .int .i64 n3, .int .i64 n4] 65)).drew := ⟨⟨(World.cell?_alloc_lt _ _ _ hg).trans y0, (World.cell?_alloc_lt _ _ _ hg).trans y1, (World.cell?_alloc_lt _ _ _ hg).trans y2, (World.cell?_alloc_lt _ _ _ hg).trans y3, (World.cell?_alloc_lt _ _ _ hg).trans y4, World.cell?_alloc_mark wr _ _ _ 0, World.cell?_alloc_mark wr _ _ _ 1, World.cell?_alloc_mark wr _ _ _ 2, World.cell?_alloc_mark wr _ _ _ 3, World.cell?_alloc_mark wr _ _ _ 4⟩, (hbw.alloc hbw.size _).drew⟩
    by_cases hr : 0 ≤ r
    · have E : Hid (scan (lockF S.l) S.nl = 1) := by
        have : lockF S.l k = 1 := by
          unfold lockF
          rw [NN.out.1, NN.out.2.1, NN.out.2.2.1, NN.out.2.2.2.1, NN.out.2.2.2.2]
          rw [if_neg (fun h => h G0.out)]
          rw [if_neg (fun h => h G1.out)]
          have g2 := G2.out; have g3 := G3.out; have g4 := G4.out; rw [if_neg (by omega)]
          rw [MM.out.1]
          have ho := HO.out
          rw [if_pos (by omega)]
        exact (scan_stop HS.out (by rw [this]; decide) hlt).trans this
      have dr : decide (0 ≤ r) = true := decide_eq_true hr
      clear HS NN G0 G1 G2 G3 G4 MM HO hr
      go_wp2_with fail
      refine (L0.out _).mono ?_
      rintro e w1 ⟨rfl, rfl⟩
      go_wp2_with fail
      refine (L1.out _).mono ?_
      rintro e w1 ⟨rfl, rfl⟩
      go_wp2_with fail
      refine (isTime_is _ true L2.out _).mono ?_
      rintro e w1 ⟨rfl, rfl⟩
      go_wp2_with fail
      refine (isLockKind_is _ true L3.out _).mono ?_
      rintro e w1 ⟨rfl, rfl⟩
      go_wp2_with fail
      refine (isUntil_is _ true L4.out _).mono ?_
      rintro e w1 ⟨rfl, rfl⟩
      go_wp2_with fail
      refine wp_region_held_drew (S := PrevLock w g o k wr.heap.size m0 m1 m2 m3 m4 n0 n1 n2 n3 n4) (by kernel_rfl) h0 (fun hS => ?_)
      clear h0
      refine tkH 0 ?_ hS (fun wx hx => ?_) ?_; rotate_left
      · obtain ⟨⟨hx0, hx1, hx2, hx3, hx4, hx5, hx6, hx7, hx8, hx9⟩, _⟩ := hx; go_simp; try with_reducible rfl
      refine tkH 1 ?_ hS (fun wx hx => ?_) ?_; rotate_left
      · obtain ⟨⟨hx0, hx1, hx2, hx3, hx4, hx5, hx6, hx7, hx8, hx9⟩, _⟩ := hx; go_simp; try with_reducible rfl
      refine tkH 2 ?_ hS (fun wx hx => ?_) ?_; rotate_left
      · obtain ⟨⟨hx0, hx1, hx2, hx3, hx4, hx5, hx6, hx7, hx8, hx9⟩, _⟩ := hx; go_simp; try with_reducible rfl
      refine tkH 3 ?_ hS (fun wx hx => ?_) ?_; rotate_left
      · obtain ⟨⟨hx0, hx1, hx2, hx3, hx4, hx5, hx6, hx7, hx8, hx9⟩, _⟩ := hx; go_simp; try with_reducible rfl
      refine tkH 4 ?_ hS (fun wx hx => ?_) ?_; rotate_left
      · obtain ⟨⟨hx0, hx1, hx2, hx3, hx4, hx5, hx6, hx7, hx8, hx9⟩, _⟩ := hx; go_simp; try with_reducible rfl
      refine tkH 5 ?_ hS (fun wx hx => ?_) ?_; rotate_left
      · obtain ⟨⟨hx0, hx1, hx2, hx3, hx4, hx5, hx6, hx7, hx8, hx9⟩, _⟩ := hx; go_simp; try with_reducible rfl
      refine tkH 6 ?_ hS (fun wx hx => ?_) ?_; rotate_left
      · obtain ⟨⟨hx0, hx1, hx2, hx3, hx4, hx5, hx6, hx7, hx8, hx9⟩, _⟩ := hx; go_simp; try with_reducible rfl
      refine tkH 7 ?_ hS (fun wx hx => ?_) ?_; rotate_left
      · obtain ⟨⟨hx0, hx1, hx2, hx3, hx4, hx5, hx6, hx7, hx8, hx9⟩, _⟩ := hx; go_simp; try with_reducible rfl
      refine tkH 8 ?_ hS (fun wx hx => ?_) ?_; rotate_left
      · obtain ⟨⟨hx0, hx1, hx2, hx3, hx4, hx5, hx6, hx7, hx8, hx9⟩, _⟩ := hx; go_simp; try with_reducible rfl
      refine rdH 9 (fun K hK => ?_)
      go_simp
      go_wp2_with fail
      refine (compareLocks_is _ _ _ _ _ _ _ _ _ _ r HR.out _).mono ?_
      rintro e w1 ⟨rfl, q1⟩
      have hS' := hS.later q1
      clear q1
      go_wp2_with fail
      refine hK.out _ _ hS' (fun hS => ?_)
      clear hK K hS'
      refine tkH 10 ?_ hS (fun wx hx => ?_) ?_; rotate_left
      · obtain ⟨⟨hx0, hx1, hx2, hx3, hx4, hx5, hx6, hx7, hx8, hx9⟩, _⟩ := hx; go_simp; try with_reducible rfl
      refine tkH 11 ?_ hS (fun wx hx => ?_) ?_; rotate_left
      · obtain ⟨⟨hx0, hx1, hx2, hx3, hx4, hx5, hx6, hx7, hx8, hx9⟩, _⟩ := hx; go_simp; try with_reducible rfl
      refine wpAnyH_done (by kernel_rfl) ?_ _
      go_simp
      go_wp2
      go_ret
      exact ⟨by rw [E.out]; rfl, hS.2⟩
    · have E : Hid (scan (lockF S.l) (k + 1) = 0) := by
        have : lockF S.l k = 0 := by
          unfold lockF
          rw [NN.out.1, NN.out.2.1, NN.out.2.2.1, NN.out.2.2.2.1, NN.out.2.2.2.2]
          rw [if_neg (fun h => h G0.out)]
          rw [if_neg (fun h => h G1.out)]
          have g2 := G2.out; have g3 := G3.out; have g4 := G4.out; rw [if_neg (by omega)]
          rw [MM.out.1]
          have ho := HO.out
          rw [if_neg (by omega)]
        exact scan_go HS.out this
      have dr : decide (0 ≤ r) = false := decide_eq_false hr
      clear HS NN G0 G1 G2 G3 G4 MM HO hr
      go_wp2_with fail
      refine (L0.out _).mono ?_
      rintro e w1 ⟨rfl, rfl⟩
      go_wp2_with fail
      refine (L1.out _).mono ?_
      rintro e w1 ⟨rfl, rfl⟩
      go_wp2_with fail
      refine (isTime_is _ true L2.out _).mono ?_
      rintro e w1 ⟨rfl, rfl⟩
      go_wp2_with fail
      refine (isLockKind_is _ true L3.out _).mono ?_
      rintro e w1 ⟨rfl, rfl⟩
      go_wp2_with fail
      refine (isUntil_is _ true L4.out _).mono ?_
      rintro e w1 ⟨rfl, rfl⟩
      go_wp2_with fail
      refine wp_region_held_drew (S := PrevLock w g o k wr.heap.size m0 m1 m2 m3 m4 n0 n1 n2 n3 n4) (by kernel_rfl) h0 (fun hS => ?_)
      clear h0
      refine tkH 0 ?_ hS (fun wx hx => ?_) ?_; rotate_left
      · obtain ⟨⟨hx0, hx1, hx2, hx3, hx4, hx5, hx6, hx7, hx8, hx9⟩, _⟩ := hx; go_simp; try with_reducible rfl
      refine tkH 1 ?_ hS (fun wx hx => ?_) ?_; rotate_left
      · obtain ⟨⟨hx0, hx1, hx2, hx3, hx4, hx5, hx6, hx7, hx8, hx9⟩, _⟩ := hx; go_simp; try with_reducible rfl
      refine tkH 2 ?_ hS (fun wx hx => ?_) ?_; rotate_left
      · obtain ⟨⟨hx0, hx1, hx2, hx3, hx4, hx5, hx6, hx7, hx8, hx9⟩, _⟩ := hx; go_simp; try with_reducible rfl
      refine tkH 3 ?_ hS (fun wx hx => ?_) ?_; rotate_left
      · obtain ⟨⟨hx0, hx1, hx2, hx3, hx4, hx5, hx6, hx7, hx8, hx9⟩, _⟩ := hx; go_simp; try with_reducible rfl
      refine tkH 4 ?_ hS (fun wx hx => ?_) ?_; rotate_left
      · obtain ⟨⟨hx0, hx1, hx2, hx3, hx4, hx5, hx6, hx7, hx8, hx9⟩, _⟩ := hx; go_simp; try with_reducible rfl
      refine tkH 5 ?_ hS (fun wx hx => ?_) ?_; rotate_left
      · obtain ⟨⟨hx0, hx1, hx2, hx3, hx4, hx5, hx6, hx7, hx8, hx9⟩, _⟩ := hx; go_simp; try with_reducible rfl
      refine tkH 6 ?_ hS (fun wx hx => ?_) ?_; rotate_left
      · obtain ⟨⟨hx0, hx1, hx2, hx3, hx4, hx5, hx6, hx7, hx8, hx9⟩, _⟩ := hx; go_simp; try with_reducible rfl
      refine tkH 7 ?_ hS (fun wx hx => ?_) ?_; rotate_left
      · obtain ⟨⟨hx0, hx1, hx2, hx3, hx4, hx5, hx6, hx7, hx8, hx9⟩, _⟩ := hx; go_simp; try with_reducible rfl
      refine tkH 8 ?_ hS (fun wx hx => ?_) ?_; rotate_left
      · obtain ⟨⟨hx0, hx1, hx2, hx3, hx4, hx5, hx6, hx7, hx8, hx9⟩, _⟩ := hx; go_simp; try with_reducible rfl
      refine rdH 9 (fun K hK => ?_)
      go_simp
      go_wp2_with fail
      refine (compareLocks_is _ _ _ _ _ _ _ _ _ _ r HR.out _).mono ?_
      rintro e w1 ⟨rfl, q1⟩
      have hS' := hS.later q1
      clear q1
      go_wp2_with fail
      refine hK.out _ _ hS' (fun hS => ?_)
      clear hK K hS'
      refine tkH 10 ?_ hS (fun wx hx => ?_) ?_; rotate_left
      · obtain ⟨⟨hx0, hx1, hx2, hx3, hx4, hx5, hx6, hx7, hx8, hx9⟩, _⟩ := hx; go_simp; try with_reducible rfl
      refine tkH 11 ?_ hS (fun wx hx => ?_) ?_; rotate_left
      · obtain ⟨⟨hx0, hx1, hx2, hx3, hx4, hx5, hx6, hx7, hx8, hx9⟩, _⟩ := hx; go_simp; try with_reducible rfl
      refine wpAnyH_done (by kernel_rfl) ?_ _
      go_simp
      go_wp2
      go_roundw
      case rel => exact ⟨k + 1, by omega, by go_num, E, hS.2⟩
      case measure => simp [intOf]; omega

end Go.Proofs.YtknbeggnlhiamaaGreat

namespace Go.Proofs.YtknbeggnlhiamaaGreat
open Go.RowKit Go.Maps

theorem laid_out : laidOutB Tryz.prog = true := by kernel_rfl
theorem placeKeyed : Keyed Tryz.prog 101 := Keyed.of_law (deep_law_laid laid_out (m := 3) (by omega) (of_decide_eq_true (by kernel_rfl)) (by kernel_rfl) (by kernel_rfl))
def Wf (a : Int) : Prop := (Lit.int .i64 a).wf = true
theorem wf_small {a : Int} (h0 : 0 ≤ a) (h1 : a ≤ 100000) : Wf a := by
  have e0 : IntKind.i64.min = -9223372036854775808 := by decide
  have e1 : IntKind.i64.max = 9223372036854775807 := by decide
  unfold Wf
  simp [Lit.wf, e0, e1]
  omega
def place (a b : Int) : Value := .agg #[.int .i64 a, .int .i64 b]
def kp (a b : Int) : Lit := .string (keyBytes [.int .i64 a, .int .i64 b])
theorem kp_key (a b : Int) : WideAt.IsKeyLit (kp a b) := trivial
theorem keyOf_place {a b : Int} (ha : Wf a) (hb : Wf b) : keyOf Tryz.prog 101 (.agg #[.int .i64 a, .int .i64 b]) = some (kp a b) := by
  have h1 : Tryz.prog.keyType 101 = true := by kernel_rfl
  have h2 : Tryz.prog.cellsOf 101 = 2 := by kernel_rfl
  have h3 : Tryz.prog.cellsOf 2 = 1 := by kernel_rfl
  have h4 : ∃ m, Tryz.prog.types.size = m + 1 := ⟨Tryz.prog.types.size - 1, by kernel_rfl⟩
  obtain ⟨m, h4⟩ := h4
  unfold Wf at ha hb
  unfold keyOf
  simp only [Tryz.underlying101]
  rw [if_pos (by simp [h1, Value.formed, Tryz.underlying101, h2]), h4]
  unfold Program.keyLits
  simp only [Tryz.underlying101, Value.cells]
  rw [if_pos (by rw [h2]; exact ⟨rfl, by kernel_rfl⟩)]
  simp [Program.keyLits, Tryz.underlying2, h3, ha, hb, kp]
theorem kp_inj {a b c d : Int} (ha : Wf a) (hb : Wf b) (hc : Wf c) (hd : Wf d) (h : kp a b = kp c d) : a = c ∧ b = d := by
  have := placeKeyed.inj (keyOf_place ha hb) (by rw [h]; exact keyOf_place hc hd)
  simpa using this
/-- Block b is a map of at most n entries; it has m a b at the key (a, b). -/
def PM (w : World) (b n : Nat) (m : Int → Int → Option Int) : Prop :=
  ∃ D : DataW Unit, w.ownsMap Tryz.prog 101 (plainElem Tryz.prog 2) b n D ∧ ∀ x y, Wf x → Wf y → Maps.has D (kp x y) = (m x y).isSome ∧ D.atKey (kp x y) (.lit (.int .i64 0)) = .lit (.int .i64 ((m x y).getD 0))
theorem PM.made (w : World) : PM (w.alloc (.map #[] 0)) w.heap.size 0 (fun _ _ => none) := ⟨.map [], World.ownsMap_made w _ _ _, fun _ _ _ _ => ⟨rfl, rfl⟩⟩
theorem PM.lt {w : World} {b n : Nat} {m : Int → Int → Option Int} (h : PM w b n m) : b < w.heap.size := by
  obtain ⟨D, h, _⟩ := h; exact h.lt
theorem PM.mono {w : World} {b n n' : Nat} {m : Int → Int → Option Int} (h : PM w b n m) (hn : n ≤ n') : PM w b n' m := by
  obtain ⟨D, h, r⟩ := h; exact ⟨D, h.mono hn, r⟩
theorem PM.kept {w w' : World} {b n : Nat} {m : Int → Int → Option Int} (h : PM w b n m) (hb : w'.heap[b]? = w.heap[b]?) : PM w' b n m := by
  obtain ⟨D, ⟨es, clock, h1, h2⟩, r⟩ := h
  exact ⟨D, ⟨es, clock, hb.trans h1, h2⟩, r⟩
theorem PM.later {w w' : World} {b n : Nat} {m : Int → Int → Option Int} (h : PM w b n m) (hb : Below w.heap.size w w') : PM w' b n m := h.kept (hb.block b h.lt)
theorem PM.alloc {w : World} {b n : Nat} {m : Int → Int → Option Int} (h : PM w b n m) (o : Obj) : PM (w.alloc o) b n m := h.later ((Below.refl _ _).alloc (Nat.le_refl _) o)
theorem PM.setCell {w : World} {b n : Nat} {m : Int → Int → Option Int} (h : PM w b n m) {a : Addr} (ha : b ≠ a.block) (u : Value) : PM (w.setCell a u) b n m := h.kept (Below.heap_setCell w a u b ha)
theorem PM.congr {w : World} {b n : Nat} {m m' : Int → Int → Option Int} (h : PM w b n m) (e : ∀ x y, m x y = m' x y) : PM w b n m' := by
  obtain ⟨D, h1, r⟩ := h; exact ⟨D, h1, fun x y hx hy => by rw [← e]; exact r x y hx hy⟩
theorem zero_i64 (w : World) : (zeroValue 2).run Tryz.prog w = .ok (.int .i64 0) w := by kernel_rfl
/-- 'v, ok := m[k]'. -/
theorem PM.look {w : World} {b n : Nat} {m : Int → Int → Option Int} (h : PM w b n m) {x y : Int} (hx : Wf x) (hy : Wf y) :
    (Instr.lookup 96 (.map (some b)) (.agg #[.int .i64 x, .int .i64 y]) true).run Tryz.prog w = .ok (.tuple #[.int .i64 ((m x y).getD 0), .bool (m x y).isSome]) w := by
  obtain ⟨D, h, r⟩ := h
  obtain ⟨v, ps, hrun, hv⟩ := h.look_ok placeKeyed Tryz.underlying96 (zero_i64 w) (plainElem_int Tryz.underlying2 (by decide)) (keyOf_place hx hy)
  obtain ⟨c, rfl, hc, _⟩ := plainElem_int_inv Tryz.underlying2 hv
  rw [hrun, (r x y hx hy).1]
  have := congrArg Prod.fst hc
  rw [(r x y hx hy).2] at this
  simp at this
  rw [this]
def putM (m : Int → Int → Option Int) (a b v : Int) (x y : Int) : Option Int := if x = a ∧ y = b then some v else m x y
/-- 'm[k] = v'. -/
theorem PM.put {w : World} {b n : Nat} {m : Int → Int → Option Int} (h : PM w b n m) (hn : n < maxLen) {x y v : Int} (hx : Wf x) (hy : Wf y) (hv : Wf v) :
    ∃ w', (Instr.mapUpdate 96 (.map (some b)) (.agg #[.int .i64 x, .int .i64 y]) (.int .i64 v)).run Tryz.prog w = .ok () w' ∧ PM w' b (n + 1) (putM m x y v) ∧ w.grownBy w' (some b) := by
  obtain ⟨D, h, r⟩ := h
  obtain ⟨w', hrun, h', hg⟩ := h.update placeKeyed Tryz.underlying96 hn (keyOf_place hx hy) (plainElem_int Tryz.underlying2 hv)
  refine ⟨w', hrun, ⟨_, h', fun p q hp hq => ?_⟩, hg⟩
  unfold putM
  by_cases e : p = x ∧ q = y
  · obtain ⟨rfl, rfl⟩ := e
    rw [if_pos ⟨rfl, rfl⟩]
    exact ⟨has_put_same h.isMap (kp_key _ _) _, atKey_put_same h.isMap (kp_key _ _) _ _⟩
  · rw [if_neg e, has_put_other (fun q => e (kp_inj hp hq hx hy q)), atKey_put_other (fun q => e (kp_inj hp hq hx hy q))]
    exact r p q hp hq
theorem wpList_put (w : World) {ops : Array Oper} {rest : List Oper} {o : Oper} {a : Act} {Q : Exit → Act → World → Prop}
    (hg : o.guard = none) (mo x v : Operand) (hop : o.op = Op.mapUpdate 96 mo x v)
    (b n : Nat) (m : Int → Int → Option Int) (hm : a.eval mo = .map (some b)) (h : PM w b n m) (hn : n < maxLen) (p q u : Int) (hx : a.eval x = .agg #[.int .i64 p, .int .i64 q]) (hv : a.eval v = .int .i64 u) (hp : Wf p) (hq : Wf q) (hu : Wf u)
    (hK : ∀ w', PM w' b (n + 1) (putM m p q u) → w.grownBy w' (some b) → wpList Tryz.prog ops Q rest (a.put o.dst undef) w') :
    wpList Tryz.prog ops Q (o :: rest) a w := by
  refine wpList_plain hg fun K' hK' => ?_
  obtain ⟨w', hrun, r1, r2⟩ := h.put hn hp hq hu
  unfold Oper.wp
  simp [execOp, hop, hm, hx, hv, hrun, Result.andThen]
  exact hK' _ _ (hK w' r1 r2)
/-- What a map has behind n puts, put i at (p i, q i), of v i. -/
def puts (p q v : Nat → Int) : Nat → Int → Int → Option Int
  | 0, _, _ => none
  | n + 1, x, y => putM (puts p q v n) (p n) (q n) (v n) x y
theorem puts_has (p q v : Nat → Int) (x y : Int) : ∀ n, (puts p q v n x y).isSome = true ↔ ∃ i, i < n ∧ p i = x ∧ q i = y
  | 0 => by simp [puts]
  | n + 1 => by
    have ih := puts_has p q v x y n
    unfold puts putM
    by_cases e : x = p n ∧ y = q n
    · rw [if_pos e]
      exact ⟨fun _ => ⟨n, by omega, e.1.symm, e.2.symm⟩, fun _ => rfl⟩
    · rw [if_neg e, ih]
      constructor
      · rintro ⟨i, hi, h⟩; exact ⟨i, by omega, h⟩
      · rintro ⟨i, hi, h1, h2⟩
        by_cases hin : i = n
        · subst hin; exact absurd ⟨h1.symm, h2.symm⟩ e
        · exact ⟨i, by omega, h1, h2⟩
def cellM (S : Sto) (n : Nat) : Int → Int → Option Int := puts (fun i => S.c (i * 3)) (fun i => S.c (i * 3 + 1)) (fun i => S.c (i * 3 + 2)) n
def writeM (S : Sto) (n : Nat) : Int → Int → Option Int := puts (fun i => S.k (i * 4)) (fun i => S.k (i * 4 + 2)) (fun i => S.k (i * 4 + 3)) n
theorem cellM_has (S : Sto) (n : Nat) (x y : Int) : (cellM S n x y).isSome = true ↔ hasCell S n x y := puts_has _ _ _ x y n
theorem writeM_has (S : Sto) (n : Nat) (x y : Int) : (writeM S n x y).isSome = true ↔ hasWrite S n x y := puts_has _ _ _ x y n
end Go.Proofs.YtknbeggnlhiamaaGreat

namespace Go.Proofs.YtknbeggnlhiamaaGreat
open Go.RowKit Go.Maps

theorem scan_zero {g : Nat → Int} : ∀ {n : Nat}, scan g n = 0 → ∀ i, i < n → g i = 0
  | 0, _, i, hi => by omega
  | n + 1, h, i, hi => by
    unfold scan at h
    by_cases e : scan g n = 0
    · rw [if_pos e] at h
      by_cases hin : i = n
      · subst hin; exact h
      · exact scan_zero e i (by omega)
    · rw [if_neg e] at h; exact absurd h e
theorem faultOf_zero {a : Int} (h : faultOf a = 0) : 0 ≤ a ∧ a ≤ 199 := by
  by_cases e : a < 0 ∨ 199 < a
  · rw [faultOf_range e] at h; exact absurd h (by decide)
  · omega
theorem cellF_zero {c : Nat → Int} {i : Nat} (h : cellF c i = 0) : faultOf (c (i * 3)) = 0 ∧ 1 ≤ c (i * 3 + 1) ∧ c (i * 3 + 1) ≤ 100000 ∧ 0 ≤ c (i * 3 + 2) ∧ c (i * 3 + 2) ≤ 9999 := by
  unfold cellF at h
  by_cases h0 : faultOf (c (i * 3)) = 0
  · rw [if_neg (fun q => q h0)] at h
    refine ⟨h0, ?_⟩
    by_cases h1 : 1 ≤ c (i * 3 + 1) ∧ c (i * 3 + 1) ≤ 100000 ∧ 0 ≤ c (i * 3 + 2) ∧ c (i * 3 + 2) ≤ 9999
    · exact h1
    · rw [if_pos h1] at h; exact absurd h (by decide)
  · rw [if_pos h0] at h; exact absurd h h0
theorem lockF_zero {l : Nat → Int} {i : Nat} (h : lockF l i = 0) : faultOf (l (i * 5)) = 0 ∧ 1 ≤ l (i * 5 + 1) ∧ l (i * 5 + 1) ≤ 100000 := by
  unfold lockF at h
  by_cases h0 : faultOf (l (i * 5)) = 0
  · rw [if_neg (fun q => q h0)] at h
    refine ⟨h0, ?_⟩
    by_cases h2 : faultOf (l (i * 5 + 3)) = 0
    · rw [if_neg (fun q => q h2)] at h
      by_cases h1 : 1 ≤ l (i * 5 + 1) ∧ l (i * 5 + 1) ≤ 100000 ∧ 1 ≤ l (i * 5 + 2) ∧ l (i * 5 + 2) ≤ 3 ∧ 0 ≤ l (i * 5 + 4) ∧ l (i * 5 + 4) ≤ 100000
      · exact ⟨h1.1, h1.2.1⟩
      · rw [if_pos h1] at h; exact absurd h (by decide)
    · rw [if_pos h2] at h; exact absurd h h2
  · rw [if_pos h0] at h; exact absurd h h0
theorem writeF_zero {k : Nat → Int} {i : Nat} (h : writeF k i = 0) : faultOf (k (i * 4)) = 0 ∧ 1 ≤ k (i * 4 + 1) ∧ k (i * 4 + 1) ≤ 100000 ∧ 1 ≤ k (i * 4 + 2) ∧ k (i * 4 + 2) ≤ 100000 ∧ 1 ≤ k (i * 4 + 3) ∧ k (i * 4 + 3) ≤ 4 := by
  unfold writeF at h
  by_cases h0 : faultOf (k (i * 4)) = 0
  · rw [if_neg (fun q => q h0)] at h
    refine ⟨h0, ?_⟩
    by_cases h1 : 1 ≤ k (i * 4 + 1) ∧ k (i * 4 + 1) ≤ 100000 ∧ 1 ≤ k (i * 4 + 2) ∧ k (i * 4 + 2) ≤ 100000 ∧ 1 ≤ k (i * 4 + 3) ∧ k (i * 4 + 3) ≤ 4
    · exact h1
    · rw [if_pos h1] at h; exact absurd h (by decide)
  · rw [if_pos h0] at h; exact absurd h h0
theorem below_grown {B b : Nat} {w x x' : World} (h : Below B w x) (hB : B ≤ x.heap.size) (hb : B ≤ b) (g : x.grownBy x' (some b)) : Below B w x' :=
  ⟨g.os.trans h.os, g.tape.trans h.tape, g.output.trans h.output, Nat.le_trans h.size g.size, fun i hi => (g.block i (by omega) (by intro e; injection e with e; omega)).trans (h.block i hi)⟩
theorem run_makeMap_i64 (n : Int) (w : World) : (Instr.makeMap 96 (some (.int .i64 n))).run Tryz.prog w = .ok (.map (some w.heap.size)) (w.alloc (.map #[] 0)) := by
  simp [Instr.makeMap, run_underlying Tryz.underlying96, asInt, asIntOf, Result.andThen]
theorem small_maxLen {n : Nat} (h : n ≤ 200) : n < maxLen := Nat.lt_of_le_of_lt h (by decide)
set_option maxRecDepth 100000 in
theorem cellsByPlace_any (S : Sto) (v : Value) (B : Nat) (w : World) (h : Row w B 3 S.nc S.c v) (hn : S.nc ≤ 200) (hz : scan (cellF S.c) S.nc = 0) :
    Calls Tryz.prog 73 #[v] w fun e w' => e = .returned (.map (some w.heap.size)) ∧ PM w' w.heap.size S.nc (cellM S S.nc) ∧ Below w.heap.size w w' := by
  obtain ⟨ao, cp, rfl⟩ := h.form
  have H : Hid (Row w B 3 S.nc S.c (.slice ao S.nc cp)) := h
  have HZ : Hid (∀ i, i < S.nc → cellF S.c i = 0) := scan_zero hz
  clear h hz
  have hmm := run_makeMap_i64
  go_enter Tryz.func73, Tryz.ntmps73
  go_wp2
  go_loopw [11] (fun i wr => ∃ k : Nat, k ≤ S.nc ∧ i = .int .i64 k ∧ Hid (PM wr w.heap.size k (cellM S k)) ∧ Below w.heap.size w wr) (fun i _ => S.nc - (intOf i).toNat)
  case atStart => exact ⟨0, Nat.zero_le _, rfl, PM.made w, below_alloc _ _⟩
  case round =>
    obtain ⟨k, hk, rfl, HM, hbw⟩ := hrel
    by_cases hlt : k < S.nc
    case neg =>
      obtain rfl : k = S.nc := by omega
      go_wp2
      go_ret
      exact ⟨rfl, HM.out, hbw⟩
    obtain ⟨g, o, rfl, _, hg, x0, x1, x2⟩ := (H.out.later hbw).at3 hlt
    have HC := cellF_zero (HZ.out k hlt)
    have hk2 := faultOf_zero HC.1
    obtain ⟨n0, N0⟩ : ∃ x, S.c (k * 3) = x := ⟨_, rfl⟩
    obtain ⟨n1, N1⟩ : ∃ x, S.c (k * 3 + 1) = x := ⟨_, rfl⟩
    obtain ⟨n2, N2⟩ : ∃ x, S.c (k * 3 + 2) = x := ⟨_, rfl⟩
    rw [N0] at x0 hk2
    rw [N1] at x1
    rw [N2] at x2
    rw [N1, N2] at HC
    have hP := HM.out.alloc (.cells #[.int .i64 n0, .int .i64 n1, .int .i64 n2] 62)
    have hw0 : Wf n0 := wf_small hk2.1 (by omega)
    have hw1 : Wf n1 := wf_small (by omega) HC.2.2.1
    have hw2 : Wf n2 := wf_small HC.2.2.2.1 (by omega)
    have hb2 := hbw.alloc hbw.size (.cells #[.int .i64 n0, .int .i64 n1, .int .i64 n2] 62)
    have NN : Hid (S.c (k * 3) = n0 ∧ S.c (k * 3 + 1) = n1 ∧ S.c (k * 3 + 2) = n2) := ⟨N0, N1, N2⟩
    clear N0 N1 N2 HC hk2
    go_wp2_with (first | (at_mapUpdate; refine wpList_put _ rfl _ _ _ rfl w.heap.size k _ rfl hP (small_maxLen (Nat.le_trans hk hn)) n0 n1 n2 rfl rfl hw0 hw1 hw2 ?_; intro w1 hP1 hg1) | go_in)
    go_roundw
    case rel => exact ⟨k + 1, by omega, by go_num, by rw [← NN.out.1, ← NN.out.2.1, ← NN.out.2.2] at hP1; exact hP1, below_grown hb2 (Nat.le_trans hbw.size (by simp)) (Nat.le_refl _) hg1⟩
    case measure => simp [intOf]; omega
end Go.Proofs.YtknbeggnlhiamaaGreat

namespace Go.Proofs.YtknbeggnlhiamaaGreat
open Go.RowKit Go.Maps

theorem storeF_zero {S : Sto} (h : storeF S = 0) : (S.nc ≤ 200 ∧ S.nl ≤ 200 ∧ S.nw ≤ 200) ∧ scan (cellF S.c) S.nc = 0 ∧ scan (lockF S.l) S.nl = 0 ∧ scan (writeF S.k) S.nw = 0 ∧ needs S ∧ once S := by
  unfold storeF at h
  by_cases h0 : 200 < S.nc ∨ 200 < S.nl ∨ 200 < S.nw
  · rw [if_pos h0] at h; exact absurd h (by decide)
  rw [if_neg h0] at h
  by_cases h1 : scan (cellF S.c) S.nc = 0
  case neg => rw [if_pos h1] at h; exact absurd h h1
  rw [if_neg (fun q => q h1)] at h
  by_cases h2 : scan (lockF S.l) S.nl = 0
  case neg => rw [if_pos h2] at h; exact absurd h h2
  rw [if_neg (fun q => q h2)] at h
  by_cases h3 : scan (writeF S.k) S.nw = 0
  case neg => rw [if_pos h3] at h; exact absurd h h3
  rw [if_neg (fun q => q h3)] at h
  by_cases h4 : needs S
  case neg => rw [if_pos h4] at h; exact absurd h (by decide)
  rw [if_neg (fun q => q h4)] at h
  by_cases h5 : once S
  case neg => rw [if_pos h5] at h; exact absurd h (by decide)
  exact ⟨⟨by omega, by omega, by omega⟩, h1, h2, h3, h4, h5⟩
/-- The order of two pairs of numbers. -/
def pairLt (a b c d : Int) : Prop := a < c ∨ a = c ∧ b < d
theorem pairLt.trans {a b c d e f : Int} (h : pairLt a b c d) (h' : pairLt c d e f) : pairLt a b e f := by unfold pairLt at *; omega
theorem rise_pairs {p q : Nat → Int} {n : Nat} (h : ∀ i, i + 1 < n → pairLt (p i) (q i) (p (i + 1)) (q (i + 1))) : ∀ j, j < n → ∀ i, i < j → pairLt (p i) (q i) (p j) (q j)
  | 0, _, i, hi => by omega
  | j + 1, hj, i, hi => by
    rcases Nat.lt_or_ge i j with e | e
    · exact (rise_pairs h j (by omega) i e).trans (h j hj)
    · obtain rfl : i = j := by omega
      exact h i hj
theorem cellF_next {c : Nat → Int} {i : Nat} (h : cellF c (i + 1) = 0) : pairLt (c (i * 3)) (c (i * 3 + 1)) (c ((i + 1) * 3)) (c ((i + 1) * 3 + 1)) := by
  have hz := cellF_zero h
  unfold cellF at h
  rw [if_neg (fun q => q hz.1), if_neg (fun q => q hz.2)] at h
  by_cases e : 0 < i + 1 ∧ ¬ (c ((i + 1 - 1) * 3) < c ((i + 1) * 3) ∨ c ((i + 1 - 1) * 3) = c ((i + 1) * 3) ∧ c ((i + 1 - 1) * 3 + 1) < c ((i + 1) * 3 + 1))
  · rw [if_pos e] at h; exact absurd h (by decide)
  · exact Classical.byContradiction fun q => e ⟨Nat.succ_pos i, q⟩
theorem lockF_next {l : Nat → Int} {i : Nat} (h : lockF l (i + 1) = 0) : l (i * 5) < l ((i + 1) * 5) := by
  have hz := lockF_zero h
  unfold lockF at h
  rw [if_neg (fun q => q hz.1)] at h
  by_cases h2 : faultOf (l ((i + 1) * 5 + 3)) = 0
  case neg => rw [if_pos h2] at h; exact absurd h h2
  rw [if_neg (fun q => q h2)] at h
  by_cases h1 : 1 ≤ l ((i + 1) * 5 + 1) ∧ l ((i + 1) * 5 + 1) ≤ 100000 ∧ 1 ≤ l ((i + 1) * 5 + 2) ∧ l ((i + 1) * 5 + 2) ≤ 3 ∧ 0 ≤ l ((i + 1) * 5 + 4) ∧ l ((i + 1) * 5 + 4) ≤ 100000
  case neg => rw [if_pos h1] at h; exact absurd h (by decide)
  rw [if_neg (fun q => q h1)] at h
  by_cases e : 0 < i + 1 ∧ ¬ (l ((i + 1 - 1) * 5) < l ((i + 1) * 5))
  · rw [if_pos e] at h; exact absurd h (by decide)
  · exact Classical.byContradiction fun q => e ⟨Nat.succ_pos i, q⟩
theorem cells_rise {S : Sto} (h : scan (cellF S.c) S.nc = 0) : ∀ j, j < S.nc → ∀ i, i < j → pairLt (S.c (i * 3)) (S.c (i * 3 + 1)) (S.c (j * 3)) (S.c (j * 3 + 1)) :=
  rise_pairs (p := fun i => S.c (i * 3)) (q := fun i => S.c (i * 3 + 1)) (fun i hi => cellF_next (scan_zero h (i + 1) hi))
end Go.Proofs.YtknbeggnlhiamaaGreat

namespace Go.Proofs.YtknbeggnlhiamaaGreat
open Go.RowKit
/-- Row x and row y, by two numbers of each. -/
def Up2 (f g : List Int → Int) (x y : List Int) : Prop := Lt2 f g x y
instance (f g : List Int → Int) (x y : List Int) : Decidable (Up2 f g x y) := by unfold Up2 Lt2; exact inferInstance
theorem Up2.asym {f g : List Int → Int} {x y : List Int} (h : Up2 f g x y) : ¬ Up2 f g y x := by
  unfold Up2 Lt2 at *
  omega
theorem Up2.trans {f g : List Int → Int} {x y z : List Int} (h : Up2 f g x y) (h' : Up2 f g y z) : Up2 f g x z := by
  unfold Up2 Lt2 at *
  omega
theorem Up2.neg {f g : List Int → Int} {x y z : List Int} (h : ¬ Up2 f g x y) (h' : ¬ Up2 f g y z) : ¬ Up2 f g x z := by
  unfold Up2 Lt2 at *
  omega
/-- None stands behind one that is above it. -/
def Weak (f g : List Int → Int) (L : List (List Int)) : Prop := L.Pairwise (fun x y => ¬ Up2 f g y x)
/-- One more in its place. -/
def insP (f g : List Int → Int) (x : List Int) : List (List Int) → List (List Int)
  | [] => [x]
  | y :: l => if Up2 f g y x then y :: insP f g x l else x :: y :: l
def insAll (f g : List Int → Int) (L : List (List Int)) : List (List Int) → List (List Int)
  | [] => L
  | x :: l => insAll f g (insP f g x L) l
theorem insP_perm (f g : List Int → Int) (x : List Int) : ∀ L, (insP f g x L).Perm (x :: L)
  | [] => List.Perm.refl _
  | y :: l => by
    unfold insP
    split
    · exact ((insP_perm f g x l).cons y).trans (List.Perm.swap x y l)
    · exact List.Perm.refl _
theorem insP_weak (f g : List Int → Int) (x : List Int) : ∀ {L : List (List Int)}, Weak f g L → Weak f g (insP f g x L)
  | [], _ => List.pairwise_singleton _ _
  | y :: l, h => by
    have h2 := List.pairwise_cons.1 h
    unfold insP
    split
    · rename_i hy
      refine List.pairwise_cons.2 ⟨fun z hz => ?_, insP_weak f g x h2.2⟩
      rcases List.mem_cons.1 ((insP_perm f g x l).mem_iff.1 hz) with e | e
      · subst e; exact hy.asym
      · exact h2.1 z e
    · rename_i hy
      refine List.pairwise_cons.2 ⟨fun z hz => ?_, h⟩
      rcases List.mem_cons.1 hz with e | e
      · subst e; exact hy
      · exact Up2.neg (h2.1 z e) hy
theorem insAll_perm (f g : List Int → Int) : ∀ (xs L), (insAll f g L xs).Perm (L ++ xs)
  | [], L => by rw [List.append_nil]; exact List.Perm.refl _
  | x :: l, L => by
    refine (insAll_perm f g l (insP f g x L)).trans ?_
    refine ((insP_perm f g x L).append_right l).trans ?_
    exact (List.perm_middle (l₁ := L) (l₂ := l) (a := x)).symm
theorem insAll_weak (f g : List Int → Int) : ∀ (xs : List (List Int)) {L : List (List Int)}, Weak f g L → Weak f g (insAll f g L xs)
  | [], _, h => h
  | x :: l, _, h => insAll_weak f g l (insP_weak f g x h)
theorem insAll_snoc (f g : List Int → Int) (x : List Int) : ∀ (xs L : List (List Int)), insAll f g L (xs ++ [x]) = insP f g x (insAll f g L xs)
  | [], _ => rfl
  | y :: l, L => insAll_snoc f g x l (insP f g y L)
theorem insP_place (f g : List Int → Int) (x : List Int) : ∀ (L : List (List Int)) (k : Nat), k ≤ L.length → (∀ j, j < k → Up2 f g (L.getD j []) x) → (k < L.length → ¬ Up2 f g (L.getD k []) x) → L.take k ++ x :: L.drop k = insP f g x L
  | [], k, _, _, _ => by simp [insP]
  | y :: l, 0, _, _, h => by
    have hy : ¬ Up2 f g y x := h (by simp)
    unfold insP
    rw [if_neg hy]
    rfl
  | y :: l, k + 1, h1, h2, h3 => by
    have hy : Up2 f g y x := h2 0 (by omega)
    unfold insP
    rw [if_pos hy, ← insP_place f g x l k (by simpa using h1) (fun j hj => by simpa using h2 (j + 1) (by omega)) (fun hk => by simpa using h3 (by simpa using hk))]
    rfl
theorem Weak.strict {f g : List Int → Int} {L : List (List Int)} : Weak f g L → L.Pairwise (fun x y => Up2 f g x y ∨ Up2 f g y x) → L.Pairwise (Up2 f g) := fun h h2 => by
  have := List.Pairwise.and h h2
  exact this.imp (fun {x y} q => q.2.resolve_right q.1)
theorem Weak.next {f g : List Int → Int} : ∀ {L : List (List Int)}, Weak f g L → ¬ L.Pairwise (Up2 f g) → ∃ i, i + 1 < L.length ∧ ¬ Up2 f g (L.getD i []) (L.getD (i + 1) [])
  | [], _, h => absurd List.Pairwise.nil h
  | [x], _, h => absurd (List.pairwise_singleton _ _) h
  | x :: y :: l, hw, h => by
    have hw2 := List.pairwise_cons.1 hw
    by_cases hxy : Up2 f g x y
    · by_cases h3 : (y :: l).Pairwise (Up2 f g)
      · refine absurd (List.pairwise_cons.2 ⟨fun z hz => ?_, h3⟩) h
        rcases List.mem_cons.1 hz with e | e
        · subst e; exact hxy
        · exact hxy.trans ((List.pairwise_cons.1 h3).1 z e)
      · obtain ⟨i, hi, q⟩ := Weak.next hw2.2 h3
        exact ⟨i + 1, by simpa using hi, by simpa using q⟩
    · exact ⟨0, by simp, by simpa using hxy⟩
/-- Two weakly rising lists of the same are one, or both have two that are alike. -/
theorem two_weak {f g : List Int → Int} {P M : List (List Int)} (hp : Weak f g P) (hm : Weak f g M) (h : P.Perm M) : P = M ∨ (∃ i, i + 1 < P.length ∧ ¬ Up2 f g (P.getD i []) (P.getD (i + 1) [])) ∧ ∃ i, i + 1 < M.length ∧ ¬ Up2 f g (M.getD i []) (M.getD (i + 1) []) := by
  have key : ∀ {P M : List (List Int)}, P.Perm M → Weak f g M → P.Pairwise (Up2 f g) → M.Pairwise (Up2 f g) := fun {P M} h hm hs => by
    refine hm.strict ?_
    exact (h.pairwise_iff (fun {x y} q => q.symm)).1 (hs.imp (fun q => Or.inl q))
  by_cases hs : P.Pairwise (Up2 f g)
  · exact Or.inl (perm_strict (fun _ _ h => h.asym) h hs (key h hm hs))
  · exact Or.inr ⟨hp.next hs, hm.next (fun q => hs (key h.symm hp q))⟩
/-- The numbers of rows, one behind the other. -/
def flatF (L : List (List Int)) : Nat → Int := fun p => L.flatten.getD p 0
theorem flatF_at {m : Nat} {L : List (List Int)} (hL : ∀ t ∈ L, t.length = m) {i q : Nat} (hi : i < L.length) (hq : q < m) : flatF L (i * m + q) = (L.getD i []).getD q 0 := by
  have hm : 0 < m := by omega
  have hlt : i * m + q < L.length * m := by
    calc i * m + q < i * m + m := by omega
      _ = (i + 1) * m := by rw [Nat.succ_mul]
      _ ≤ L.length * m := Nat.mul_le_mul_right m hi
  have e := flat_get (m := m) L (i * m + q) hL hlt
  have d1 : (i * m + q) / m = i := by rw [Nat.mul_comm, Nat.mul_add_div hm, Nat.div_eq_of_lt hq, Nat.add_zero]
  have d2 : (i * m + q) % m = q := by rw [Nat.mul_comm, Nat.mul_add_mod, Nat.mod_eq_of_lt hq]
  rw [d1, d2] at e
  exact e
/-- The rows of a row in memory. -/
def listF (m n : Nat) (F : Nat → Int) : List (List Int) := (List.range n).map (struD F m)
theorem listF_len (m n : Nat) (F : Nat → Int) : (listF m n F).length = n := by simp [listF]
theorem listF_mem {m n : Nat} {F : Nat → Int} {x : List Int} (h : x ∈ listF m n F) : ∃ i, i < n ∧ x = struD F m i := by
  obtain ⟨i, hi, e⟩ := List.mem_map.1 h
  exact ⟨i, List.mem_range.1 hi, e.symm⟩
theorem listF_all {m n : Nat} {F : Nat → Int} : ∀ t ∈ listF m n F, t.length = m := fun t ht => by
  obtain ⟨i, _, rfl⟩ := listF_mem ht
  exact struD_len F m i
theorem listF_at {m n : Nat} {F : Nat → Int} {i : Nat} (hi : i < n) : (listF m n F).getD i [] = struD F m i := by
  simp [listF, hi]
theorem listF_flat {m n : Nat} {F : Nat → Int} (hm : 0 < m) {p : Nat} (hp : p < n * m) : flatF (listF m n F) p = F p := by
  have hd : p / m < n := by rw [Nat.div_lt_iff_lt_mul hm]; exact hp
  have e := flatF_at (m := m) (L := listF m n F) listF_all (i := p / m) (q := p % m) (by rw [listF_len]; exact hd) (Nat.mod_lt _ hm)
  rw [listF_at hd, struD_get _ _ _ _ (Nat.mod_lt _ hm)] at e
  have e2 : p / m * m + p % m = p := by rw [Nat.mul_comm]; exact Nat.div_add_mod p m
  rw [e2] at e
  exact e
theorem getD_mem {L : List (List Int)} {i : Nat} (hi : i < L.length) : L.getD i [] ∈ L := by
  rw [List.getD_eq_getElem?_getD, List.getElem?_eq_getElem hi]
  exact List.getElem_mem hi
theorem scan_bits {G : Nat → Int} : ∀ {n : Nat}, (∀ i, i < n → G i = 0 ∨ G i = 1) → (∃ i, i < n ∧ G i = 1) → scan G n = 1
  | 0, _, h => by obtain ⟨i, hi, _⟩ := h; omega
  | n + 1, hb, h => by
    by_cases e : ∃ i, i < n ∧ G i = 1
    · have := scan_bits (n := n) (fun i hi => hb i (by omega)) e
      rw [scan, this, if_neg (by decide)]
    · obtain ⟨i, hi, h1⟩ := h
      obtain rfl : i = n := by
        rcases Nat.lt_or_ge i n with q | q
        · exact absurd ⟨i, q, h1⟩ e
        · omega
      have h0 : scan G i = 0 := by
        have : ∀ k, k ≤ i → scan G k = 0 := fun k => by
          induction k with
          | zero => exact fun _ => rfl
          | succ k ih =>
            intro hk
            refine scan_go (ih (by omega)) ?_
            rcases hb k (by omega) with q | q
            · exact q
            · exact absurd ⟨k, by omega, q⟩ e
        exact this i (Nat.le_refl _)
      rw [scan, h0, if_pos rfl, h1]
def k0 (x : List Int) : Int := x.getD 0 0
def k1 (x : List Int) : Int := x.getD 1 0
def kN (_ : List Int) : Int := 0
def goodC (x : List Int) : Prop := faultOf (x.getD 0 0) = 0 ∧ 1 ≤ x.getD 1 0 ∧ x.getD 1 0 ≤ 100000 ∧ 0 ≤ x.getD 2 0 ∧ x.getD 2 0 ≤ 9999
def goodL (x : List Int) : Prop := faultOf (x.getD 0 0) = 0 ∧ faultOf (x.getD 3 0) = 0 ∧ 1 ≤ x.getD 1 0 ∧ x.getD 1 0 ≤ 100000 ∧ 1 ≤ x.getD 2 0 ∧ x.getD 2 0 ≤ 3 ∧ 0 ≤ x.getD 4 0 ∧ x.getD 4 0 ≤ 100000
def goodW (x : List Int) : Prop := faultOf (x.getD 0 0) = 0 ∧ (1 ≤ x.getD 1 0 ∧ x.getD 1 0 ≤ 100000 ∧ 1 ≤ x.getD 2 0 ∧ x.getD 2 0 ≤ 100000 ∧ 1 ≤ x.getD 3 0 ∧ x.getD 3 0 ≤ 4) ∧ (x.getD 3 0 = 4 → x.getD 1 0 = x.getD 2 0) ∧ (x.getD 3 0 ≠ 4 → x.getD 2 0 < x.getD 1 0)
theorem cellF_list {L : List (List Int)} (hl : ∀ t ∈ L, t.length = 3) (hg : ∀ t ∈ L, goodC t) {i : Nat} (hi : i < L.length) : cellF (flatF L) i = if 0 < i ∧ ¬ Up2 k0 k1 (L.getD (i - 1) []) (L.getD i []) then 1 else 0 := by
  have hx := hg _ (getD_mem hi)
  have e0 : flatF L (i * 3) = (L.getD i []).getD 0 0 := flatF_at hl hi (by omega : 0 < 3)
  have e1 : flatF L (i * 3 + 1) = (L.getD i []).getD 1 0 := flatF_at hl hi (by omega)
  have e2 : flatF L (i * 3 + 2) = (L.getD i []).getD 2 0 := flatF_at hl hi (by omega)
  have f0 : flatF L ((i - 1) * 3) = (L.getD (i - 1) []).getD 0 0 := flatF_at hl (by omega) (by omega : 0 < 3)
  have f1 : flatF L ((i - 1) * 3 + 1) = (L.getD (i - 1) []).getD 1 0 := flatF_at hl (by omega) (by omega)
  unfold cellF
  rw [e0, e1, e2, f0, f1, if_neg (fun q => q hx.1), if_neg (fun q => q hx.2)]
  unfold Up2 Lt2 k0 k1
  rfl
theorem lockF_list {L : List (List Int)} (hl : ∀ t ∈ L, t.length = 5) (hg : ∀ t ∈ L, goodL t) {i : Nat} (hi : i < L.length) : lockF (flatF L) i = if 0 < i ∧ ¬ Up2 k0 kN (L.getD (i - 1) []) (L.getD i []) then 1 else 0 := by
  have hx := hg _ (getD_mem hi)
  have e0 : flatF L (i * 5) = (L.getD i []).getD 0 0 := flatF_at hl hi (by omega : 0 < 5)
  have e1 : flatF L (i * 5 + 1) = (L.getD i []).getD 1 0 := flatF_at hl hi (by omega)
  have e2 : flatF L (i * 5 + 2) = (L.getD i []).getD 2 0 := flatF_at hl hi (by omega)
  have e3 : flatF L (i * 5 + 3) = (L.getD i []).getD 3 0 := flatF_at hl hi (by omega)
  have e4 : flatF L (i * 5 + 4) = (L.getD i []).getD 4 0 := flatF_at hl hi (by omega)
  have f0 : flatF L ((i - 1) * 5) = (L.getD (i - 1) []).getD 0 0 := flatF_at hl (by omega) (by omega : 0 < 5)
  unfold lockF
  rw [e0, e1, e2, e3, e4, f0, if_neg (fun q => q hx.1), if_neg (fun q => q hx.2.1), if_neg (fun q => q hx.2.2)]
  have hu : ∀ x y : List Int, Up2 k0 kN x y ↔ x.getD 0 0 < y.getD 0 0 := fun x y => by
    unfold Up2 Lt2 k0 kN
    omega
  by_cases q : 0 < i ∧ ¬ Up2 k0 kN (L.getD (i - 1) []) (L.getD i [])
  · rw [if_pos q, if_pos ⟨q.1, fun r => q.2 ((hu _ _).2 r)⟩]
  · rw [if_neg q, if_neg (fun r => q ⟨r.1, fun u => r.2 ((hu _ _).1 u)⟩)]
theorem writeF_list {L : List (List Int)} (hl : ∀ t ∈ L, t.length = 4) (hg : ∀ t ∈ L, goodW t) {i : Nat} (hi : i < L.length) : writeF (flatF L) i = if 0 < i ∧ ¬ Up2 k0 k1 (L.getD (i - 1) []) (L.getD i []) then 1 else 0 := by
  have hx := hg _ (getD_mem hi)
  have e0 : flatF L (i * 4) = (L.getD i []).getD 0 0 := flatF_at hl hi (by omega : 0 < 4)
  have e1 : flatF L (i * 4 + 1) = (L.getD i []).getD 1 0 := flatF_at hl hi (by omega)
  have e2 : flatF L (i * 4 + 2) = (L.getD i []).getD 2 0 := flatF_at hl hi (by omega)
  have e3 : flatF L (i * 4 + 3) = (L.getD i []).getD 3 0 := flatF_at hl hi (by omega)
  have f0 : flatF L ((i - 1) * 4) = (L.getD (i - 1) []).getD 0 0 := flatF_at hl (by omega) (by omega : 0 < 4)
  have f1 : flatF L ((i - 1) * 4 + 1) = (L.getD (i - 1) []).getD 1 0 := flatF_at hl (by omega) (by omega)
  have hf : fits (flatF L) i := by
    unfold fits
    rw [e1, e2, e3]
    exact hx.2.2
  unfold writeF
  rw [e0, e1, e2, e3, f0, f1, if_neg (fun q => q hx.1), if_neg (fun q => q hx.2.1)]
  by_cases q : 0 < i ∧ ¬ Up2 k0 k1 (L.getD (i - 1) []) (L.getD i [])
  · rw [if_pos q]
    exact if_pos (Or.inl q)
  · rw [if_neg q]
    exact if_neg (fun r => r.elim (fun u => q u) (fun u => u hf))
theorem scan_alike {G : Nat → Int} {f g : List Int → Int} {L : List (List Int)} (h : ∀ i, i < L.length → G i = if 0 < i ∧ ¬ Up2 f g (L.getD (i - 1) []) (L.getD i []) then 1 else 0) (h2 : ∃ i, i + 1 < L.length ∧ ¬ Up2 f g (L.getD i []) (L.getD (i + 1) [])) : scan G L.length = 1 := by
  refine scan_bits (fun i hi => ?_) ?_
  · rw [h i hi]
    split
    · exact Or.inr rfl
    · exact Or.inl rfl
  · obtain ⟨i, hi, q⟩ := h2
    refine ⟨i + 1, hi, ?_⟩
    rw [h (i + 1) hi, if_pos ⟨Nat.succ_pos i, q⟩]
/-- A store of three lists of rows. -/
def stoOf (P Q R : List (List Int)) : Sto := ⟨P.length, flatF P, Q.length, flatF Q, R.length, flatF R⟩
def joinC (A B : Sto) : List (List Int) := insAll k0 k1 (listF 3 A.nc A.c) (listF 3 B.nc B.c)
def joinL (A B : Sto) : List (List Int) := insAll k0 kN (listF 5 A.nl A.l) (listF 5 B.nl B.l)
def joinW (A B : Sto) : List (List Int) := insAll k0 k1 (listF 4 A.nw A.k) (listF 4 B.nw B.k)
/-- Two stores in one. -/
def joinS (A B : Sto) : Sto := stoOf (joinC A B) (joinL A B) (joinW A B)
theorem goodC_of {S : Sto} (h : scan (cellF S.c) S.nc = 0) : ∀ t ∈ listF 3 S.nc S.c, goodC t := fun t ht => by
  obtain ⟨i, hi, rfl⟩ := listF_mem ht
  have hz := cellF_zero (scan_zero h i hi)
  unfold goodC
  rw [struD_get _ _ _ _ (by omega), struD_get _ _ _ _ (by omega), struD_get _ _ _ _ (by omega)]
  exact hz
theorem goodL_of {S : Sto} (h : scan (lockF S.l) S.nl = 0) : ∀ t ∈ listF 5 S.nl S.l, goodL t := fun t ht => by
  obtain ⟨i, hi, rfl⟩ := listF_mem ht
  have hz := scan_zero h i hi
  unfold goodL
  rw [struD_get _ _ _ _ (by omega), struD_get _ _ _ _ (by omega), struD_get _ _ _ _ (by omega), struD_get _ _ _ _ (by omega), struD_get _ _ _ _ (by omega)]
  unfold lockF at hz
  rw [Nat.add_zero]
  by_cases h1 : faultOf (S.l (i * 5)) = 0
  case neg => rw [if_pos h1] at hz; exact absurd hz h1
  rw [if_neg (fun q => q h1)] at hz
  by_cases h2 : faultOf (S.l (i * 5 + 3)) = 0
  case neg => rw [if_pos h2] at hz; exact absurd hz h2
  rw [if_neg (fun q => q h2)] at hz
  by_cases h3 : 1 ≤ S.l (i * 5 + 1) ∧ S.l (i * 5 + 1) ≤ 100000 ∧ 1 ≤ S.l (i * 5 + 2) ∧ S.l (i * 5 + 2) ≤ 3 ∧ 0 ≤ S.l (i * 5 + 4) ∧ S.l (i * 5 + 4) ≤ 100000
  case neg => rw [if_pos h3] at hz; exact absurd hz (by decide)
  exact ⟨h1, h2, h3⟩
theorem goodW_of {S : Sto} (h : scan (writeF S.k) S.nw = 0) : ∀ t ∈ listF 4 S.nw S.k, goodW t := fun t ht => by
  obtain ⟨i, hi, rfl⟩ := listF_mem ht
  have hz := scan_zero h i hi
  have ha := writeF_zero hz
  unfold goodW
  rw [struD_get _ _ _ _ (by omega), struD_get _ _ _ _ (by omega), struD_get _ _ _ _ (by omega), struD_get _ _ _ _ (by omega)]
  rw [Nat.add_zero]
  refine ⟨ha.1, ha.2, ?_⟩
  unfold writeF at hz
  rw [if_neg (fun q => q ha.1), if_neg (fun q => q ha.2)] at hz
  by_cases hf : fits S.k i
  · exact hf
  · rw [if_pos (Or.inr hf)] at hz
    exact absurd hz (by decide)
theorem weakC_of {S : Sto} (h : scan (cellF S.c) S.nc = 0) : Weak k0 k1 (listF 3 S.nc S.c) := by
  unfold Weak
  rw [List.pairwise_iff_getElem]
  intro i j hi hj hij
  have hi' : i < S.nc := by simpa [listF] using hi
  have hj' : j < S.nc := by simpa [listF] using hj
  have := cells_rise h j hj' i hij
  refine Up2.asym ?_
  simp only [listF, List.getElem_map, List.getElem_range]
  unfold Up2 Lt2 k0 k1
  rw [struD_get _ _ _ _ (by omega), struD_get _ _ _ _ (by omega), struD_get _ _ _ _ (by omega), struD_get _ _ _ _ (by omega)]
  exact this
theorem weakL_of {S : Sto} (h : scan (lockF S.l) S.nl = 0) : Weak k0 kN (listF 5 S.nl S.l) := by
  have hr := rise_pairs (p := fun i => S.l (i * 5)) (q := fun _ => 0) (n := S.nl) (fun i hi => Or.inl (lockF_next (scan_zero h (i + 1) hi)))
  unfold Weak
  rw [List.pairwise_iff_getElem]
  intro i j hi hj hij
  have hi' : i < S.nl := by simpa [listF] using hi
  have hj' : j < S.nl := by simpa [listF] using hj
  have := hr j hj' i hij
  refine Up2.asym ?_
  simp only [listF, List.getElem_map, List.getElem_range]
  unfold Up2 Lt2 k0 kN
  rw [struD_get _ _ _ _ (by omega), struD_get _ _ _ _ (by omega)]
  exact this
theorem weakW_of {S : Sto} (h : scan (writeF S.k) S.nw = 0) : Weak k0 k1 (listF 4 S.nw S.k) := by
  have hn : ∀ i, i + 1 < S.nw → pairLt (S.k (i * 4)) (S.k (i * 4 + 1)) (S.k ((i + 1) * 4)) (S.k ((i + 1) * 4 + 1)) := fun i hi => by
    have hz := scan_zero h (i + 1) hi
    have ha := writeF_zero hz
    unfold writeF at hz
    rw [if_neg (fun q => q ha.1), if_neg (fun q => q ha.2)] at hz
    refine Classical.byContradiction fun q => ?_
    rw [if_pos (Or.inl ⟨Nat.succ_pos i, q⟩)] at hz
    exact absurd hz (by decide)
  have hr := rise_pairs (p := fun i => S.k (i * 4)) (q := fun i => S.k (i * 4 + 1)) (n := S.nw) hn
  unfold Weak
  rw [List.pairwise_iff_getElem]
  intro i j hi hj hij
  have hi' : i < S.nw := by simpa [listF] using hi
  have hj' : j < S.nw := by simpa [listF] using hj
  have := hr j hj' i hij
  refine Up2.asym ?_
  simp only [listF, List.getElem_map, List.getElem_range]
  unfold Up2 Lt2 k0 k1
  rw [struD_get _ _ _ _ (by omega), struD_get _ _ _ _ (by omega), struD_get _ _ _ _ (by omega), struD_get _ _ _ _ (by omega)]
  exact this
theorem insAll_mem {f g : List Int → Int} {L xs : List (List Int)} {p : List Int → Prop} (h : ∀ t ∈ L, p t) (h2 : ∀ t ∈ xs, p t) : ∀ t ∈ insAll f g L xs, p t := fun t ht => by
  rcases List.mem_append.1 ((insAll_perm f g xs L).mem_iff.1 ht) with q | q
  · exact h t q
  · exact h2 t q
/-- What is sorted and what was laid in its place: one list, or one fault. -/
theorem row_two {G : (Nat → Int) → Nat → Int} {f g : List Int → Int} {m : Nat} {good : List Int → Prop} {LA LB P : List (List Int)}
    (hG : ∀ L : List (List Int), (∀ t ∈ L, t.length = m) → (∀ t ∈ L, good t) → ∀ i, i < L.length → G (flatF L) i = if 0 < i ∧ ¬ Up2 f g (L.getD (i - 1) []) (L.getD i []) then 1 else 0)
    (la : ∀ t ∈ LA, t.length = m) (lb : ∀ t ∈ LB, t.length = m) (ga : ∀ t ∈ LA, good t) (gb : ∀ t ∈ LB, good t) (wa : Weak f g LA) (hw : Weak f g P) (hp : P.Perm (LA ++ LB)) :
    P.length = (insAll f g LA LB).length ∧ (P = insAll f g LA LB ∨ scan (G (flatF P)) P.length = 1 ∧ scan (G (flatF (insAll f g LA LB))) (insAll f g LA LB).length = 1) := by
  have hq : P.Perm (insAll f g LA LB) := hp.trans (insAll_perm f g LB LA).symm
  refine ⟨hq.length_eq, ?_⟩
  have lp : ∀ {p : List Int → Prop}, (∀ t ∈ LA, p t) → (∀ t ∈ LB, p t) → ∀ t ∈ P, p t := fun {p} h h2 t ht => by
    rcases List.mem_append.1 (hp.mem_iff.1 ht) with q | q
    · exact h t q
    · exact h2 t q
  rcases two_weak hw (insAll_weak f g LB wa) hq with e | ⟨h1, h2⟩
  · exact Or.inl e
  · exact Or.inr ⟨scan_alike (hG P (lp la lb) (lp ga gb)) h1, scan_alike (hG _ (insAll_mem la lb) (insAll_mem ga gb)) h2⟩
theorem join_same {A B : Sto} (hA : storeF A = 0) (hB : storeF B = 0) {P Q R : List (List Int)}
    (hP : Weak k0 k1 P ∧ P.Perm (listF 3 A.nc A.c ++ listF 3 B.nc B.c)) (hQ : Weak k0 kN Q ∧ Q.Perm (listF 5 A.nl A.l ++ listF 5 B.nl B.l)) (hR : Weak k0 k1 R ∧ R.Perm (listF 4 A.nw A.k ++ listF 4 B.nw B.k)) :
    storeF (stoOf P Q R) = storeF (joinS A B) ∧ (storeF (joinS A B) = 0 → stoOf P Q R = joinS A B) := by
  obtain ⟨_, ac, al, aw, _⟩ := storeF_zero hA
  obtain ⟨_, bc, bl, bw, _⟩ := storeF_zero hB
  obtain ⟨n1, h1⟩ := row_two (G := cellF) (m := 3) (good := goodC) (fun L hl hg i hi => cellF_list hl hg hi) listF_all listF_all (goodC_of ac) (goodC_of bc) (weakC_of ac) hP.1 hP.2
  obtain ⟨n2, h2⟩ := row_two (G := lockF) (m := 5) (good := goodL) (fun L hl hg i hi => lockF_list hl hg hi) listF_all listF_all (goodL_of al) (goodL_of bl) (weakL_of al) hQ.1 hQ.2
  obtain ⟨n3, h3⟩ := row_two (G := writeF) (m := 4) (good := goodW) (fun L hl hg i hi => writeF_list hl hg hi) listF_all listF_all (goodW_of aw) (goodW_of bw) (weakW_of aw) hR.1 hR.2
  by_cases hbig : 200 < P.length ∨ 200 < Q.length ∨ 200 < R.length
  · have e1 : storeF (stoOf P Q R) = 2 := by unfold storeF; exact if_pos hbig
    have e2 : storeF (joinS A B) = 2 := by
      unfold storeF
      refine if_pos ?_
      rw [n1, n2, n3] at hbig
      exact hbig
    rw [e1, e2]
    exact ⟨rfl, fun h => absurd h (by decide)⟩
  have hbig2 : ¬ (200 < (joinS A B).nc ∨ 200 < (joinS A B).nl ∨ 200 < (joinS A B).nw) := by
    have := hbig
    rw [n1, n2, n3] at this
    exact this
  have same : ∀ S : Sto, ¬ (200 < S.nc ∨ 200 < S.nl ∨ 200 < S.nw) → scan (cellF S.c) S.nc = 1 → storeF S = 1 := fun S hb h => by
    unfold storeF
    rw [if_neg hb, h]
    rfl
  have lk : ∀ S : Sto, ¬ (200 < S.nc ∨ 200 < S.nl ∨ 200 < S.nw) → scan (lockF S.l) S.nl = 1 → storeF S = if scan (cellF S.c) S.nc ≠ 0 then scan (cellF S.c) S.nc else 1 := fun S hb h => by
    unfold storeF
    rw [if_neg hb, h, if_pos (show (1 : Int) ≠ 0 by decide)]
  have wk : ∀ S : Sto, ¬ (200 < S.nc ∨ 200 < S.nl ∨ 200 < S.nw) → scan (writeF S.k) S.nw = 1 → storeF S = if scan (cellF S.c) S.nc ≠ 0 then scan (cellF S.c) S.nc else if scan (lockF S.l) S.nl ≠ 0 then scan (lockF S.l) S.nl else 1 := fun S hb h => by
    unfold storeF
    rw [if_neg hb, h, if_pos (show (1 : Int) ≠ 0 by decide)]
  have same2 : ∀ S T : Sto, ¬ (200 < S.nc ∨ 200 < S.nl ∨ 200 < S.nw) → ¬ (200 < T.nc ∨ 200 < T.nl ∨ 200 < T.nw) → (S.nc = T.nc ∧ S.c = T.c) → scan (lockF S.l) S.nl = 1 → scan (lockF T.l) T.nl = 1 → storeF S = storeF T ∧ storeF T ≠ 0 := fun S T hb hb2 e h h2 => by
    rw [lk S hb h, lk T hb2 h2, e.1, e.2]
    refine ⟨rfl, ?_⟩
    split
    · assumption
    · decide
  have same3 : ∀ S T : Sto, ¬ (200 < S.nc ∨ 200 < S.nl ∨ 200 < S.nw) → ¬ (200 < T.nc ∨ 200 < T.nl ∨ 200 < T.nw) → (S.nc = T.nc ∧ S.c = T.c) → (S.nl = T.nl ∧ S.l = T.l) → scan (writeF S.k) S.nw = 1 → scan (writeF T.k) T.nw = 1 → storeF S = storeF T ∧ storeF T ≠ 0 := fun S T hb hb2 e e' h h2 => by
    rw [wk S hb h, wk T hb2 h2, e.1, e.2, e'.1, e'.2]
    refine ⟨rfl, ?_⟩
    split
    · assumption
    · split
      · assumption
      · decide
  rcases h1 with rfl | ⟨s1, s2⟩
  · rcases h2 with rfl | ⟨s1, s2⟩
    · rcases h3 with rfl | ⟨s1, s2⟩
      · exact ⟨rfl, fun _ => rfl⟩
      · obtain ⟨e1, e2⟩ := same3 (stoOf (joinC A B) (joinL A B) R) (joinS A B) hbig hbig2 ⟨rfl, rfl⟩ ⟨rfl, rfl⟩ s1 s2
        exact ⟨e1, fun h => absurd h e2⟩
    · obtain ⟨e1, e2⟩ := same2 (stoOf (joinC A B) Q R) (joinS A B) hbig hbig2 ⟨rfl, rfl⟩ s1 s2
      exact ⟨e1, fun h => absurd h e2⟩
  · rw [same (stoOf P Q R) hbig s1, same (joinS A B) hbig2 s2]
    exact ⟨rfl, fun h => absurd h (by decide)⟩
/-- What JoinStores answers. -/
def JoinAns (A B : Sto) (c : Int) (R : Sto) : Prop := (storeF A ≠ 0 ∧ c = storeF A ∧ R = emptyS) ∨ (storeF A = 0 ∧ storeF B ≠ 0 ∧ c = storeF B ∧ R = emptyS) ∨ (storeF A = 0 ∧ storeF B = 0 ∧ storeF (joinS A B) ≠ 0 ∧ c = storeF (joinS A B) ∧ R = emptyS) ∨ (storeF A = 0 ∧ storeF B = 0 ∧ storeF (joinS A B) = 0 ∧ c = 0 ∧ R = joinS A B)
end Go.Proofs.YtknbeggnlhiamaaGreat

namespace Go.Proofs.YtknbeggnlhiamaaGreat
section
open Go.RowKit
/-- Write j stands ahead of one of key a and commit b. -/
def aheadW (F : Nat → Int) (a b : Int) (j : Nat) : Prop := F (j * 4) < a ∨ F (j * 4) = a ∧ F (j * 4 + 1) < b
/-- The place of one more. -/
def placeAt (p : Nat → Prop) (n k : Nat) : Prop := k ≤ n ∧ (∀ j, j < k → p j) ∧ (k < n → ¬ p k)

/-- What the last region of l2AddWrite holds. -/
def AW (w : World) (B n : Nat) (F : Nat → Int) (ao : Option Addr) (cp : Nat) (x0 x1 x2 x3 : Int) (X : World) : Prop :=
  (X.cell? ⟨w.heap.size, 0, none⟩ = some (.int .i64 x0) ∧ X.cell? ⟨w.heap.size, 1, none⟩ = some (.int .i64 x1) ∧ X.cell? ⟨w.heap.size, 2, none⟩ = some (.int .i64 x2) ∧ X.cell? ⟨w.heap.size, 3, none⟩ = some (.int .i64 x3)) ∧ Row X B 4 n F (.slice ao n cp) ∧ Below w.heap.size w X
theorem AW.drew {w X : World} {B n : Nat} {F : Nat → Int} {ao : Option Addr} {cp : Nat} {x0 x1 x2 x3 : Int} (h : AW w B n F ao cp x0 x1 x2 x3 X) : AW w B n F ao cp x0 x1 x2 x3 X.drew := ⟨h.1, h.2.1, h.2.2.drew⟩
theorem AW.grown {w X X' : World} {B n : Nat} {F : Nat → Int} {ao : Option Addr} {cp : Nat} {x0 x1 x2 x3 : Int} {row : Option Nat} (h : AW w B n F ao cp x0 x1 x2 x3 X) (h0 : Row w B 4 n F (.slice ao n cp)) (hg : X.grownBy X' row) (hr : ∀ r, row = some r → w.heap.size < r) : AW w B n F ao cp x0 x1 x2 x3 X' := by
  obtain ⟨⟨c0, c1, c2, c3⟩, _, hb⟩ := h
  have far : ∀ k v, X.cell? ⟨w.heap.size, k, none⟩ = some v → X'.cell? ⟨w.heap.size, k, none⟩ = some v := fun k v hc => hg.cell hc (fun e => by have := hr _ e.symm; simp at this)
  have hb' : Below w.heap.size w X' := hb.grown hg hb.size (fun r e => Nat.le_of_lt (hr r e))
  exact ⟨⟨far _ _ c0, far _ _ c1, far _ _ c2, far _ _ c3⟩, h0.later hb', hb'⟩
theorem aw_first {w w2 : World} {B n q : Nat} {F : Nat → Int} {ao : Option Addr} {cp : Nat} {x0 x1 x2 x3 : Int} (h : Row w B 4 n F (.slice ao n cp))
    (hg : (((w.alloc (.cells #[.int .i64 x0, .int .i64 x1, .int .i64 x2, .int .i64 x3] 68)).drewN q).alloc (.cells #[] 68)).grownBy w2 (some (w.heap.size + 1))) : AW w B n F ao cp x0 x1 x2 x3 w2 := by
  have hb : Below w.heap.size w (((w.alloc (.cells #[.int .i64 x0, .int .i64 x1, .int .i64 x2, .int .i64 x3] 68)).drewN q).alloc (.cells #[] 68)) := (below_drewN ((Below.refl _ _).alloc (Nat.le_refl _) _) q).alloc (by simp) _
  have b1 : Below (w.heap.size + 1) (w.alloc (.cells #[.int .i64 x0, .int .i64 x1, .int .i64 x2, .int .i64 x3] 68)) (((w.alloc (.cells #[.int .i64 x0, .int .i64 x1, .int .i64 x2, .int .i64 x3] 68)).drewN q).alloc (.cells #[] 68)) := (below_drewN (Below.refl _ _) q).alloc (by simp) _
  have near : ∀ k v, (w.alloc (.cells #[.int .i64 x0, .int .i64 x1, .int .i64 x2, .int .i64 x3] 68)).cell? ⟨w.heap.size, k, none⟩ = some v → (((w.alloc (.cells #[.int .i64 x0, .int .i64 x1, .int .i64 x2, .int .i64 x3] 68)).drewN q).alloc (.cells #[] 68)).cell? ⟨w.heap.size, k, none⟩ = some v := fun k v hc => (b1.cell (p := ⟨w.heap.size, k, none⟩) (Nat.lt_succ_self _)).trans hc
  refine AW.grown (X := ((w.alloc (.cells #[.int .i64 x0, .int .i64 x1, .int .i64 x2, .int .i64 x3] 68)).drewN q).alloc (.cells #[] 68)) ⟨⟨near _ _ (World.cell?_alloc_mark w _ _ _ 0), near _ _ (World.cell?_alloc_mark w _ _ _ 1), near _ _ (World.cell?_alloc_mark w _ _ _ 2), near _ _ (World.cell?_alloc_mark w _ _ _ 3)⟩, h.later hb, hb⟩ h hg (fun r e => by cases e; omega)
theorem row_lit4 (w : World) (x0 x1 x2 x3 : Int) (t : TypeId) : Row (w.alloc (.cells #[.int .i64 x0, .int .i64 x1, .int .i64 x2, .int .i64 x3] t)) 0 4 1 (fun p => [x0, x1, x2, x3].getD p 0) (.slice (some ⟨w.heap.size, 0, none⟩) 1 1) := by
  refine ⟨_, _, rfl, fun _ => ⟨w.heap.size, 0, rfl, Nat.zero_le _, by simp, fun p hp => ?_⟩⟩
  rw [Nat.zero_add, World.cell?_alloc_mark]
  match p, hp with
  | 0, _ => rfl
  | 1, _ => rfl
  | 2, _ => rfl
  | 3, _ => rfl
theorem lt_cell {X : World} {b k : Nat} {v : Value} (h : X.cell? ⟨b, k, none⟩ = some v) : b < X.heap.size := World.block_lt_of_cell? X ⟨b, k, none⟩ h
/-- What l2AddWrite answers. -/
def AddedW (w : World) (n : Nat) (F : Nat → Int) (x0 x1 x2 x3 : Int) (e : Ending) (w' : World) : Prop := ∃ k ao' cp', placeAt (aheadW F x0 x1) n k ∧ e = .returned (.slice ao' (n + 1) cp') ∧
  OwnM w' w.heap.size 68 4 (.slice ao' (n + 1) cp') (n + 1) (nums F (k * 4) ++ [x0, x1, x2, x3] ++ nums (fun p => F (k * 4 + p)) ((n - k) * 4)) ∧ Below w.heap.size w w'
set_option maxRecDepth 100000 in
set_option maxHeartbeats 4000000 in
theorem l2AddWrite_any (n : Nat) (F : Nat → Int) (ao : Option Addr) (cp : Nat) (B : Nat) (x0 x1 x2 x3 : Int) (w : World) (h : Row w B 4 n F (.slice ao n cp)) (hn : n ≤ 1000) (hcap : n ≤ cp) :
    Calls Tryz.prog 38 #[.slice ao n cp, .agg #[.int .i64 x0, .int .i64 x1, .int .i64 x2, .int .i64 x3]] w (AddedW w n F x0 x1 x2 x3) := by
  have H : Hid (Row w B 4 n F (.slice ao n cp)) := h
  clear h
  obtain ⟨i0, hi, hz0, hz1, hz2⟩ := info_parts info_Write
  go_enter Tryz.func38, Tryz.ntmps38
  go_wp2
  go_loopw [5] (fun i wr => ∃ k q : Nat, i = .int .i64 k ∧ k ≤ n ∧ Hid (∀ j, j < k → aheadW F x0 x1 j) ∧ wr = (w.alloc (.cells #[.int .i64 x0, .int .i64 x1, .int .i64 x2, .int .i64 x3] 68)).drewN q) (fun i _ => n - (intOf i).toNat)
  case atStart => exact ⟨0, 0, rfl, Nat.zero_le _, fun j hj => absurd hj (Nat.not_lt_zero j), rfl⟩
  case round =>
    obtain ⟨k, q, rfl, hk, hP, rfl⟩ := hrel
    by_cases hlt : k < n
    · obtain ⟨g, o, hao, _, hg, c0, c1, c2, c3⟩ := H.out.at4 hlt
      subst hao
      have d0 : (w.alloc (.cells #[.int .i64 x0, .int .i64 x1, .int .i64 x2, .int .i64 x3] 68)).cell? ⟨g, o + k * 4, none⟩ = some (.int .i64 (F (k * 4))) := (World.cell?_alloc_lt _ _ _ hg).trans c0
      have d1 : (w.alloc (.cells #[.int .i64 x0, .int .i64 x1, .int .i64 x2, .int .i64 x3] 68)).cell? ⟨g, o + k * 4 + 1, none⟩ = some (.int .i64 (F (k * 4 + 1))) := (World.cell?_alloc_lt _ _ _ hg).trans c1
      obtain ⟨y0, N0⟩ : ∃ y, F (k * 4) = y := ⟨_, rfl⟩
      obtain ⟨y1, N1⟩ : ∃ y, F (k * 4 + 1) = y := ⟨_, rfl⟩
      rw [N0] at d0
      rw [N1] at d1
      have HA : Hid (aheadW F x0 x1 k ↔ y0 < x0 ∨ y0 = x0 ∧ y1 < x1) := by unfold aheadW; rw [N0, N1]; exact Iff.rfl
      clear c0 c1 c2 c3 N0 N1
      by_cases h0 : y0 < x0
      · have HP : Hid (∀ j, j < k + 1 → aheadW F x0 x1 j) := fun j hj => by
          rcases Nat.lt_or_ge j k with q | q
          · exact hP.out j q
          · obtain rfl : j = k := by omega
            exact HA.out.2 (Or.inl h0)
        clear HA hP
        have t0 : decide (y0 < x0) = true := decide_eq_true h0
        go_wp2
        go_quiet (fail)
        go_wp2
        go_roundw
        case rel => exact ⟨k + 1, _, by go_num, by omega, HP, rfl⟩
        case measure => simp [intOf]; omega
      · have t0 : decide (y0 < x0) = false := decide_eq_false h0
        by_cases h1 : y0 = x0
        · have t1 : (y0 == x0) = true := beq_iff_eq.2 h1
          by_cases h2 : y1 < x1
          · have HP : Hid (∀ j, j < k + 1 → aheadW F x0 x1 j) := fun j hj => by
              rcases Nat.lt_or_ge j k with q | q
              · exact hP.out j q
              · obtain rfl : j = k := by omega
                exact HA.out.2 (Or.inr ⟨h1, h2⟩)
            have t2 : decide (y1 < x1) = true := decide_eq_true h2
            clear HA hP
            subst h1
            go_wp2
            go_quiet (fail)
            go_wp2
            go_roundw
            case rel => exact ⟨k + 1, _, by go_num, by omega, HP, rfl⟩
            case measure => simp [intOf]; omega
          · have HL : Hid (placeAt (aheadW F x0 x1) n k) := ⟨hk, hP.out, fun _ q => by rcases HA.out.1 q with r | r; exact h0 r; exact h2 r.2⟩
            have t2 : decide (y1 < x1) = false := decide_eq_false h2
            clear HA hP
            subst h1
            go_wp2
            go_quiet (fail)
            have hkcp : k ≤ cp := by omega
            go_wp2_with (at_builtin; refine wpList_app 68 i0 (.agg #[.int .i64 0, .int .i64 0, .int .i64 0, .int .i64 0]) 4 32 rfl _ _ 30 rfl Tryz.underlying30 hi hz0 hz1 hz2 rfl (by omega) (by omega) _ (w.heap.size + 1) 0 [] _ rfl (OwnM.lit0 _ _ _ _ (by simp)) B k F _ rfl ((((H.out.head hk cp).alloc _).drewN _).alloc _) (by omega) (by simp) ?_; intro ao1 cp1 w2 O2 G2)
            rw [Nat.zero_add, List.nil_append] at O2
            have D2 := aw_first H.out G2
            have O2' : Hid (OwnM w2 (w.heap.size + 1) 68 4 (.slice ao1 k cp1) k (nums F (k * 4))) := O2
            clear O2 G2
            refine wp_region_held_drew (S := AW w B n F (some ⟨g, o, none⟩) cp y0 x1 x2 x3) (by kernel_rfl) D2.drew (fun hS => ?_)
            refine tkH 0 ?_ hS (fun wx hx => ?_) ?_; rotate_left
            · obtain ⟨⟨hx0, hx1, hx2, hx3⟩, _⟩ := hx; go_simp; try with_reducible rfl
            refine tkH 1 ?_ hS (fun wx hx => ?_) ?_; rotate_left
            · obtain ⟨⟨hx0, hx1, hx2, hx3⟩, _⟩ := hx; go_simp; try with_reducible rfl
            refine tkH 4 ?_ hS (fun wx hx => ?_) ?_; rotate_left
            · obtain ⟨⟨hx0, hx1, hx2, hx3⟩, _⟩ := hx; go_simp; try with_reducible rfl
            refine tkH 5 ?_ hS (fun wx hx => ?_) ?_; rotate_left
            · obtain ⟨⟨hx0, hx1, hx2, hx3⟩, _⟩ := hx; go_simp; try with_reducible rfl
            refine tkH 6 ?_ hS (fun wx hx => ?_) ?_; rotate_left
            · obtain ⟨⟨hx0, hx1, hx2, hx3⟩, _⟩ := hx; go_simp; try with_reducible rfl
            refine rdH 2 (fun K hK => ?_)
            go_simp
            have S3 := hS.grown H.out (World.grownBy_alloc w2.drew (.cells #[.int .i64 y0, .int .i64 x1, .int .i64 x2, .int .i64 x3] 68) none) (fun r e => by cases e)
            have O3 : Hid (OwnM (w2.drew.alloc (.cells #[.int .i64 y0, .int .i64 x1, .int .i64 x2, .int .i64 x3] 68)) (w.heap.size + 1) 68 4 (.slice ao1 k cp1) k (nums F (k * 4))) := O2'.out.later (below_alloc w2 _).drew
            have R3 : Hid (Row (w2.drew.alloc (.cells #[.int .i64 y0, .int .i64 x1, .int .i64 x2, .int .i64 x3] 68)) 0 4 1 (fun p => [y0, x1, x2, x3].getD p 0) (.slice (some ⟨w2.heap.size, 0, none⟩) 1 1)) := row_lit4 w2.drew y0 x1 x2 x3 68
            refine hK.out _ _ S3 (fun hS => ?_)
            clear hK K S3
            refine rdH 3 (fun K hK => ?_)
            refine step_app 68 i0 (.agg #[.int .i64 0, .int .i64 0, .int .i64 0, .int .i64 0]) 4 32 (by rfl) _ _ 30 (by rfl) Tryz.underlying30 hi hz0 hz1 hz2 rfl (by omega) (by omega) _ (w.heap.size + 1) k (nums F (k * 4)) (.slice ao1 k cp1) (by rfl) O3.out 0 1 (fun p => [y0, x1, x2, x3].getD p 0) (.slice (some ⟨w2.heap.size, 0, none⟩) 1 1) (by rfl) R3.out (by omega) (by have := hS.2.2.size; have := hS.1.1; have := lt_cell hS.1.1; omega) ?_
            intro ao3 cp3 w4 O4 G4
            have S4 := hS.grown H.out G4 (fun r e => by have := (O3.out.block r e).1; omega)
            have O4' : Hid (OwnM w4 (w.heap.size + 1) 68 4 (.slice ao3 (k + 1) cp3) (k + 1) (nums F (k * 4) ++ [y0, x1, x2, x3])) := O4
            clear O4 G4 O3 R3 O2'
            refine hK.out _ _ S4 (fun hS => ?_)
            clear hK K S4
            refine rdH 7 (fun K hK => ?_)
            refine step_app 68 i0 (.agg #[.int .i64 0, .int .i64 0, .int .i64 0, .int .i64 0]) 4 32 (by rfl) _ _ 30 (by rfl) Tryz.underlying30 hi hz0 hz1 hz2 rfl (by omega) (by omega) _ (w.heap.size + 1) (k + 1) (nums F (k * 4) ++ [y0, x1, x2, x3]) (.slice ao3 (k + 1) cp3) (by rfl) O4'.out B (n - k) (fun p => F (k * 4 + p)) (.slice (if cp = k then some ⟨g, o, none⟩ else some ⟨g, o + k * 4, none⟩) (n - k) (cp - k)) (by rfl) (hS.2.1.tailS hlt hcap) (by omega) (by have := hS.2.2.size; have := lt_cell hS.1.1; omega) ?_
            intro ao5 cp5 w6 O6 G6
            have S6 := hS.grown H.out G6 (fun r e => by have := (O4'.out.block r e).1; omega)
            have O6' : Hid (OwnM w6 w.heap.size 68 4 (.slice ao5 (n + 1) cp5) (n + 1) (nums F (k * 4) ++ [y0, x1, x2, x3] ++ nums (fun p => F (k * 4 + p)) ((n - k) * 4))) := by
              have e1 : k + 1 + (n - k) = n + 1 := by omega
              rw [e1] at O6
              exact World.ownsRow.mono O6 (Nat.le_succ _)
            clear O6 G6 O4'
            refine hK.out _ _ S6 (fun hS => ?_)
            clear hK K S6
            refine tkH 8 ?_ hS (fun wx hx => ?_) ?_; rotate_left
            · obtain ⟨⟨hx0, hx1, hx2, hx3⟩, _⟩ := hx; go_simp; try with_reducible rfl
            refine wpAnyH_done (by kernel_rfl) ?_ _
            go_simp
            go_wp2
            all_goals
              go_ret
              refine ⟨k, ao5, cp5, HL.out, ?_, O6'.out, hS.2.2⟩
              show Ending.returned (Value.slice ao5 (k + 1 + (n - k)) cp5) = _
              rw [show k + 1 + (n - k) = n + 1 by omega]
        · have t1 : (y0 == x0) = false := beq_eq_false_iff_ne.2 h1
          have HL : Hid (placeAt (aheadW F x0 x1) n k) := ⟨hk, hP.out, fun _ q => by rcases HA.out.1 q with r | r; exact h0 r; exact h1 r.1⟩
          clear HA hP
          go_wp2
          go_quiet (fail)
          have hkcp : k ≤ cp := by omega
          go_wp2_with (at_builtin; refine wpList_app 68 i0 (.agg #[.int .i64 0, .int .i64 0, .int .i64 0, .int .i64 0]) 4 32 rfl _ _ 30 rfl Tryz.underlying30 hi hz0 hz1 hz2 rfl (by omega) (by omega) _ (w.heap.size + 1) 0 [] _ rfl (OwnM.lit0 _ _ _ _ (by simp)) B k F _ rfl ((((H.out.head hk cp).alloc _).drewN _).alloc _) (by omega) (by simp) ?_; intro ao1 cp1 w2 O2 G2)
          rw [Nat.zero_add, List.nil_append] at O2
          have D2 := aw_first H.out G2
          have O2' : Hid (OwnM w2 (w.heap.size + 1) 68 4 (.slice ao1 k cp1) k (nums F (k * 4))) := O2
          clear O2 G2
          refine wp_region_held_drew (S := AW w B n F (some ⟨g, o, none⟩) cp x0 x1 x2 x3) (by kernel_rfl) D2.drew (fun hS => ?_)
          refine tkH 0 ?_ hS (fun wx hx => ?_) ?_; rotate_left
          · obtain ⟨⟨hx0, hx1, hx2, hx3⟩, _⟩ := hx; go_simp; try with_reducible rfl
          refine tkH 1 ?_ hS (fun wx hx => ?_) ?_; rotate_left
          · obtain ⟨⟨hx0, hx1, hx2, hx3⟩, _⟩ := hx; go_simp; try with_reducible rfl
          refine tkH 4 ?_ hS (fun wx hx => ?_) ?_; rotate_left
          · obtain ⟨⟨hx0, hx1, hx2, hx3⟩, _⟩ := hx; go_simp; try with_reducible rfl
          refine tkH 5 ?_ hS (fun wx hx => ?_) ?_; rotate_left
          · obtain ⟨⟨hx0, hx1, hx2, hx3⟩, _⟩ := hx; go_simp; try with_reducible rfl
          refine tkH 6 ?_ hS (fun wx hx => ?_) ?_; rotate_left
          · obtain ⟨⟨hx0, hx1, hx2, hx3⟩, _⟩ := hx; go_simp; try with_reducible rfl
          refine rdH 2 (fun K hK => ?_)
          go_simp
          have S3 := hS.grown H.out (World.grownBy_alloc w2.drew (.cells #[.int .i64 x0, .int .i64 x1, .int .i64 x2, .int .i64 x3] 68) none) (fun r e => by cases e)
          have O3 : Hid (OwnM (w2.drew.alloc (.cells #[.int .i64 x0, .int .i64 x1, .int .i64 x2, .int .i64 x3] 68)) (w.heap.size + 1) 68 4 (.slice ao1 k cp1) k (nums F (k * 4))) := O2'.out.later (below_alloc w2 _).drew
          have R3 : Hid (Row (w2.drew.alloc (.cells #[.int .i64 x0, .int .i64 x1, .int .i64 x2, .int .i64 x3] 68)) 0 4 1 (fun p => [x0, x1, x2, x3].getD p 0) (.slice (some ⟨w2.heap.size, 0, none⟩) 1 1)) := row_lit4 w2.drew x0 x1 x2 x3 68
          refine hK.out _ _ S3 (fun hS => ?_)
          clear hK K S3
          refine rdH 3 (fun K hK => ?_)
          refine step_app 68 i0 (.agg #[.int .i64 0, .int .i64 0, .int .i64 0, .int .i64 0]) 4 32 (by rfl) _ _ 30 (by rfl) Tryz.underlying30 hi hz0 hz1 hz2 rfl (by omega) (by omega) _ (w.heap.size + 1) k (nums F (k * 4)) (.slice ao1 k cp1) (by rfl) O3.out 0 1 (fun p => [x0, x1, x2, x3].getD p 0) (.slice (some ⟨w2.heap.size, 0, none⟩) 1 1) (by rfl) R3.out (by omega) (by have := hS.2.2.size; have := hS.1.1; have := lt_cell hS.1.1; omega) ?_
          intro ao3 cp3 w4 O4 G4
          have S4 := hS.grown H.out G4 (fun r e => by have := (O3.out.block r e).1; omega)
          have O4' : Hid (OwnM w4 (w.heap.size + 1) 68 4 (.slice ao3 (k + 1) cp3) (k + 1) (nums F (k * 4) ++ [x0, x1, x2, x3])) := O4
          clear O4 G4 O3 R3 O2'
          refine hK.out _ _ S4 (fun hS => ?_)
          clear hK K S4
          refine rdH 7 (fun K hK => ?_)
          refine step_app 68 i0 (.agg #[.int .i64 0, .int .i64 0, .int .i64 0, .int .i64 0]) 4 32 (by rfl) _ _ 30 (by rfl) Tryz.underlying30 hi hz0 hz1 hz2 rfl (by omega) (by omega) _ (w.heap.size + 1) (k + 1) (nums F (k * 4) ++ [x0, x1, x2, x3]) (.slice ao3 (k + 1) cp3) (by rfl) O4'.out B (n - k) (fun p => F (k * 4 + p)) (.slice (if cp = k then some ⟨g, o, none⟩ else some ⟨g, o + k * 4, none⟩) (n - k) (cp - k)) (by rfl) (hS.2.1.tailS hlt hcap) (by omega) (by have := hS.2.2.size; have := lt_cell hS.1.1; omega) ?_
          intro ao5 cp5 w6 O6 G6
          have S6 := hS.grown H.out G6 (fun r e => by have := (O4'.out.block r e).1; omega)
          have O6' : Hid (OwnM w6 w.heap.size 68 4 (.slice ao5 (n + 1) cp5) (n + 1) (nums F (k * 4) ++ [x0, x1, x2, x3] ++ nums (fun p => F (k * 4 + p)) ((n - k) * 4))) := by
            have e1 : k + 1 + (n - k) = n + 1 := by omega
            rw [e1] at O6
            exact World.ownsRow.mono O6 (Nat.le_succ _)
          clear O6 G6 O4'
          refine hK.out _ _ S6 (fun hS => ?_)
          clear hK K S6
          refine tkH 8 ?_ hS (fun wx hx => ?_) ?_; rotate_left
          · obtain ⟨⟨hx0, hx1, hx2, hx3⟩, _⟩ := hx; go_simp; try with_reducible rfl
          refine wpAnyH_done (by kernel_rfl) ?_ _
          go_simp
          go_wp2
          all_goals
            go_ret
            refine ⟨k, ao5, cp5, HL.out, ?_, O6'.out, hS.2.2⟩
            show Ending.returned (Value.slice ao5 (k + 1 + (n - k)) cp5) = _
            rw [show k + 1 + (n - k) = n + 1 by omega]
    · have HL : Hid (placeAt (aheadW F x0 x1) n k) := ⟨hk, hP.out, fun q => absurd q hlt⟩
      clear hP
      go_wp2
      go_quiet (fail)
      have hkcp : k ≤ cp := by omega
      go_wp2_with (at_builtin; refine wpList_app 68 i0 (.agg #[.int .i64 0, .int .i64 0, .int .i64 0, .int .i64 0]) 4 32 rfl _ _ 30 rfl Tryz.underlying30 hi hz0 hz1 hz2 rfl (by omega) (by omega) _ (w.heap.size + 1) 0 [] _ rfl (OwnM.lit0 _ _ _ _ (by simp)) B k F _ rfl ((((H.out.head hk cp).alloc _).drewN _).alloc _) (by omega) (by simp) ?_; intro ao1 cp1 w2 O2 G2)
      rw [Nat.zero_add, List.nil_append] at O2
      have D2 := aw_first H.out G2
      have O2' : Hid (OwnM w2 (w.heap.size + 1) 68 4 (.slice ao1 k cp1) k (nums F (k * 4))) := O2
      clear O2 G2
      refine wp_region_held_drew (S := AW w B n F ao cp x0 x1 x2 x3) (by kernel_rfl) D2.drew (fun hS => ?_)
      refine tkH 0 ?_ hS (fun wx hx => ?_) ?_; rotate_left
      · obtain ⟨⟨hx0, hx1, hx2, hx3⟩, _⟩ := hx; go_simp; try with_reducible rfl
      refine tkH 1 ?_ hS (fun wx hx => ?_) ?_; rotate_left
      · obtain ⟨⟨hx0, hx1, hx2, hx3⟩, _⟩ := hx; go_simp; try with_reducible rfl
      refine tkH 4 ?_ hS (fun wx hx => ?_) ?_; rotate_left
      · obtain ⟨⟨hx0, hx1, hx2, hx3⟩, _⟩ := hx; go_simp; try with_reducible rfl
      refine tkH 5 ?_ hS (fun wx hx => ?_) ?_; rotate_left
      · obtain ⟨⟨hx0, hx1, hx2, hx3⟩, _⟩ := hx; go_simp; try with_reducible rfl
      refine tkH 6 ?_ hS (fun wx hx => ?_) ?_; rotate_left
      · obtain ⟨⟨hx0, hx1, hx2, hx3⟩, _⟩ := hx; go_simp; try with_reducible rfl
      refine rdH 2 (fun K hK => ?_)
      go_simp
      have S3 := hS.grown H.out (World.grownBy_alloc w2.drew (.cells #[.int .i64 x0, .int .i64 x1, .int .i64 x2, .int .i64 x3] 68) none) (fun r e => by cases e)
      have O3 : Hid (OwnM (w2.drew.alloc (.cells #[.int .i64 x0, .int .i64 x1, .int .i64 x2, .int .i64 x3] 68)) (w.heap.size + 1) 68 4 (.slice ao1 k cp1) k (nums F (k * 4))) := O2'.out.later (below_alloc w2 _).drew
      have R3 : Hid (Row (w2.drew.alloc (.cells #[.int .i64 x0, .int .i64 x1, .int .i64 x2, .int .i64 x3] 68)) 0 4 1 (fun p => [x0, x1, x2, x3].getD p 0) (.slice (some ⟨w2.heap.size, 0, none⟩) 1 1)) := row_lit4 w2.drew x0 x1 x2 x3 68
      refine hK.out _ _ S3 (fun hS => ?_)
      clear hK K S3
      refine rdH 3 (fun K hK => ?_)
      refine step_app 68 i0 (.agg #[.int .i64 0, .int .i64 0, .int .i64 0, .int .i64 0]) 4 32 (by rfl) _ _ 30 (by rfl) Tryz.underlying30 hi hz0 hz1 hz2 rfl (by omega) (by omega) _ (w.heap.size + 1) k (nums F (k * 4)) (.slice ao1 k cp1) (by rfl) O3.out 0 1 (fun p => [x0, x1, x2, x3].getD p 0) (.slice (some ⟨w2.heap.size, 0, none⟩) 1 1) (by rfl) R3.out (by omega) (by have := hS.2.2.size; have := hS.1.1; have := lt_cell hS.1.1; omega) ?_
      intro ao3 cp3 w4 O4 G4
      have S4 := hS.grown H.out G4 (fun r e => by have := (O3.out.block r e).1; omega)
      have O4' : Hid (OwnM w4 (w.heap.size + 1) 68 4 (.slice ao3 (k + 1) cp3) (k + 1) (nums F (k * 4) ++ [x0, x1, x2, x3])) := O4
      clear O4 G4 O3 R3 O2'
      refine hK.out _ _ S4 (fun hS => ?_)
      clear hK K S4
      refine rdH 7 (fun K hK => ?_)
      refine step_app 68 i0 (.agg #[.int .i64 0, .int .i64 0, .int .i64 0, .int .i64 0]) 4 32 (by rfl) _ _ 30 (by rfl) Tryz.underlying30 hi hz0 hz1 hz2 rfl (by omega) (by omega) _ (w.heap.size + 1) (k + 1) (nums F (k * 4) ++ [x0, x1, x2, x3]) (.slice ao3 (k + 1) cp3) (by rfl) O4'.out B (n - k) (fun p => F (k * 4 + p)) (.slice (if cp = k then ao else Option.map (fun x => x.add (k * 4)) ao) (n - k) (cp - k)) (by rfl) (Row.over _ _ _ _ _ _ _ _ hlt) (by omega) (by have := hS.2.2.size; have := lt_cell hS.1.1; omega) ?_
      intro ao5 cp5 w6 O6 G6
      have S6 := hS.grown H.out G6 (fun r e => by have := (O4'.out.block r e).1; omega)
      have O6' : Hid (OwnM w6 w.heap.size 68 4 (.slice ao5 (n + 1) cp5) (n + 1) (nums F (k * 4) ++ [x0, x1, x2, x3] ++ nums (fun p => F (k * 4 + p)) ((n - k) * 4))) := by
        have e1 : k + 1 + (n - k) = n + 1 := by omega
        rw [e1] at O6
        exact World.ownsRow.mono O6 (Nat.le_succ _)
      clear O6 G6 O4'
      refine hK.out _ _ S6 (fun hS => ?_)
      clear hK K S6
      refine tkH 8 ?_ hS (fun wx hx => ?_) ?_; rotate_left
      · obtain ⟨⟨hx0, hx1, hx2, hx3⟩, _⟩ := hx; go_simp; try with_reducible rfl
      refine wpAnyH_done (by kernel_rfl) ?_ _
      go_simp
      go_wp2
      all_goals
        go_ret
        refine ⟨k, ao5, cp5, HL.out, ?_, O6'.out, hS.2.2⟩
        show Ending.returned (Value.slice ao5 (k + 1 + (n - k)) cp5) = _
        rw [show k + 1 + (n - k) = n + 1 by omega]
end

section
open Go.RowKit
/-- Write j stands ahead of one of key a and commit b. -/
def aheadL (F : Nat → Int) (a : Int) (j : Nat) : Prop := F (j * 5) < a

/-- What the last region of l2AddLock holds. -/
def AL (w : World) (B n : Nat) (F : Nat → Int) (ao : Option Addr) (cp : Nat) (x0 x1 x2 x3 x4 : Int) (X : World) : Prop :=
  (X.cell? ⟨w.heap.size, 0, none⟩ = some (.int .i64 x0) ∧ X.cell? ⟨w.heap.size, 1, none⟩ = some (.int .i64 x1) ∧ X.cell? ⟨w.heap.size, 2, none⟩ = some (.int .i64 x2) ∧ X.cell? ⟨w.heap.size, 3, none⟩ = some (.int .i64 x3) ∧ X.cell? ⟨w.heap.size, 4, none⟩ = some (.int .i64 x4)) ∧ Row X B 5 n F (.slice ao n cp) ∧ Below w.heap.size w X
theorem AL.drew {w X : World} {B n : Nat} {F : Nat → Int} {ao : Option Addr} {cp : Nat} {x0 x1 x2 x3 x4 : Int} (h : AL w B n F ao cp x0 x1 x2 x3 x4 X) : AL w B n F ao cp x0 x1 x2 x3 x4 X.drew := ⟨h.1, h.2.1, h.2.2.drew⟩
theorem AL.grown {w X X' : World} {B n : Nat} {F : Nat → Int} {ao : Option Addr} {cp : Nat} {x0 x1 x2 x3 x4 : Int} {row : Option Nat} (h : AL w B n F ao cp x0 x1 x2 x3 x4 X) (h0 : Row w B 5 n F (.slice ao n cp)) (hg : X.grownBy X' row) (hr : ∀ r, row = some r → w.heap.size < r) : AL w B n F ao cp x0 x1 x2 x3 x4 X' := by
  obtain ⟨⟨c0, c1, c2, c3, c4⟩, _, hb⟩ := h
  have far : ∀ k v, X.cell? ⟨w.heap.size, k, none⟩ = some v → X'.cell? ⟨w.heap.size, k, none⟩ = some v := fun k v hc => hg.cell hc (fun e => by have := hr _ e.symm; simp at this)
  have hb' : Below w.heap.size w X' := hb.grown hg hb.size (fun r e => Nat.le_of_lt (hr r e))
  exact ⟨⟨far _ _ c0, far _ _ c1, far _ _ c2, far _ _ c3, far _ _ c4⟩, h0.later hb', hb'⟩
theorem al_first {w w2 : World} {B n q : Nat} {F : Nat → Int} {ao : Option Addr} {cp : Nat} {x0 x1 x2 x3 x4 : Int} (h : Row w B 5 n F (.slice ao n cp))
    (hg : (((w.alloc (.cells #[.int .i64 x0, .int .i64 x1, .int .i64 x2, .int .i64 x3, .int .i64 x4] 65)).drewN q).alloc (.cells #[] 65)).grownBy w2 (some (w.heap.size + 1))) : AL w B n F ao cp x0 x1 x2 x3 x4 w2 := by
  have hb : Below w.heap.size w (((w.alloc (.cells #[.int .i64 x0, .int .i64 x1, .int .i64 x2, .int .i64 x3, .int .i64 x4] 65)).drewN q).alloc (.cells #[] 65)) := (below_drewN ((Below.refl _ _).alloc (Nat.le_refl _) _) q).alloc (by simp) _
  have b1 : Below (w.heap.size + 1) (w.alloc (.cells #[.int .i64 x0, .int .i64 x1, .int .i64 x2, .int .i64 x3, .int .i64 x4] 65)) (((w.alloc (.cells #[.int .i64 x0, .int .i64 x1, .int .i64 x2, .int .i64 x3, .int .i64 x4] 65)).drewN q).alloc (.cells #[] 65)) := (below_drewN (Below.refl _ _) q).alloc (by simp) _
  have near : ∀ k v, (w.alloc (.cells #[.int .i64 x0, .int .i64 x1, .int .i64 x2, .int .i64 x3, .int .i64 x4] 65)).cell? ⟨w.heap.size, k, none⟩ = some v → (((w.alloc (.cells #[.int .i64 x0, .int .i64 x1, .int .i64 x2, .int .i64 x3, .int .i64 x4] 65)).drewN q).alloc (.cells #[] 65)).cell? ⟨w.heap.size, k, none⟩ = some v := fun k v hc => (b1.cell (p := ⟨w.heap.size, k, none⟩) (Nat.lt_succ_self _)).trans hc
  refine AL.grown (X := ((w.alloc (.cells #[.int .i64 x0, .int .i64 x1, .int .i64 x2, .int .i64 x3, .int .i64 x4] 65)).drewN q).alloc (.cells #[] 65)) ⟨⟨near _ _ (World.cell?_alloc_mark w _ _ _ 0), near _ _ (World.cell?_alloc_mark w _ _ _ 1), near _ _ (World.cell?_alloc_mark w _ _ _ 2), near _ _ (World.cell?_alloc_mark w _ _ _ 3), near _ _ (World.cell?_alloc_mark w _ _ _ 4)⟩, h.later hb, hb⟩ h hg (fun r e => by cases e; omega)
theorem row_lit5 (w : World) (x0 x1 x2 x3 x4 : Int) (t : TypeId) : Row (w.alloc (.cells #[.int .i64 x0, .int .i64 x1, .int .i64 x2, .int .i64 x3, .int .i64 x4] t)) 0 5 1 (fun p => [x0, x1, x2, x3, x4].getD p 0) (.slice (some ⟨w.heap.size, 0, none⟩) 1 1) := by
  refine ⟨_, _, rfl, fun _ => ⟨w.heap.size, 0, rfl, Nat.zero_le _, by simp, fun p hp => ?_⟩⟩
  rw [Nat.zero_add, World.cell?_alloc_mark]
  match p, hp with
  | 0, _ => rfl
  | 1, _ => rfl
  | 2, _ => rfl
  | 3, _ => rfl
  | 4, _ => rfl
/-- What l2AddLock answers. -/
def AddedL (w : World) (n : Nat) (F : Nat → Int) (x0 x1 x2 x3 x4 : Int) (e : Ending) (w' : World) : Prop := ∃ k ao' cp', placeAt (aheadL F x0) n k ∧ e = .returned (.slice ao' (n + 1) cp') ∧
  OwnM w' w.heap.size 65 5 (.slice ao' (n + 1) cp') (n + 1) (nums F (k * 5) ++ [x0, x1, x2, x3, x4] ++ nums (fun p => F (k * 5 + p)) ((n - k) * 5)) ∧ Below w.heap.size w w'
set_option maxRecDepth 100000 in
set_option maxHeartbeats 4000000 in
theorem l2AddLock_any (n : Nat) (F : Nat → Int) (ao : Option Addr) (cp : Nat) (B : Nat) (x0 x1 x2 x3 x4 : Int) (w : World) (h : Row w B 5 n F (.slice ao n cp)) (hn : n ≤ 1000) (hcap : n ≤ cp) :
    Calls Tryz.prog 37 #[.slice ao n cp, .agg #[.int .i64 x0, .int .i64 x1, .int .i64 x2, .int .i64 x3, .int .i64 x4]] w (AddedL w n F x0 x1 x2 x3 x4) := by
  have H : Hid (Row w B 5 n F (.slice ao n cp)) := h
  clear h
  obtain ⟨i0, hi, hz0, hz1, hz2⟩ := info_parts info_Lock
  go_enter Tryz.func37, Tryz.ntmps37
  go_wp2
  go_loopw [5] (fun i wr => ∃ k q : Nat, i = .int .i64 k ∧ k ≤ n ∧ Hid (∀ j, j < k → aheadL F x0 j) ∧ wr = (w.alloc (.cells #[.int .i64 x0, .int .i64 x1, .int .i64 x2, .int .i64 x3, .int .i64 x4] 65)).drewN q) (fun i _ => n - (intOf i).toNat)
  case atStart => exact ⟨0, 0, rfl, Nat.zero_le _, fun j hj => absurd hj (Nat.not_lt_zero j), rfl⟩
  case round =>
    obtain ⟨k, q, rfl, hk, hP, rfl⟩ := hrel
    by_cases hlt : k < n
    · obtain ⟨g, o, hao, _, hg, c0, c1, c2, c3, c4⟩ := H.out.at5 hlt
      subst hao
      have d0 : (w.alloc (.cells #[.int .i64 x0, .int .i64 x1, .int .i64 x2, .int .i64 x3, .int .i64 x4] 65)).cell? ⟨g, o + k * 5, none⟩ = some (.int .i64 (F (k * 5))) := (World.cell?_alloc_lt _ _ _ hg).trans c0
      have d1 : (w.alloc (.cells #[.int .i64 x0, .int .i64 x1, .int .i64 x2, .int .i64 x3, .int .i64 x4] 65)).cell? ⟨g, o + k * 5 + 1, none⟩ = some (.int .i64 (F (k * 5 + 1))) := (World.cell?_alloc_lt _ _ _ hg).trans c1
      obtain ⟨y0, N0⟩ : ∃ y, F (k * 5) = y := ⟨_, rfl⟩
      rw [N0] at d0
      have HA : Hid (aheadL F x0 k ↔ y0 < x0) := by unfold aheadL; rw [N0]; exact Iff.rfl
      clear c0 c1 c2 c3 c4 N0 d1
      by_cases h0 : y0 < x0
      · have HP : Hid (∀ j, j < k + 1 → aheadL F x0 j) := fun j hj => by
          rcases Nat.lt_or_ge j k with q | q
          · exact hP.out j q
          · obtain rfl : j = k := by omega
            exact HA.out.2 h0
        clear HA hP
        have t0 : decide (y0 < x0) = true := decide_eq_true h0
        go_wp2
        go_quiet (fail)
        go_wp2
        go_roundw
        case rel => exact ⟨k + 1, _, by go_num, by omega, HP, rfl⟩
        case measure => simp [intOf]; omega
      · have t0 : decide (y0 < x0) = false := decide_eq_false h0
        have HL : Hid (placeAt (aheadL F x0) n k) := ⟨hk, hP.out, fun _ q => h0 (HA.out.1 q)⟩
        clear HA hP
        go_wp2
        go_quiet (fail)
        have hkcp : k ≤ cp := by omega
        go_wp2_with (at_builtin; refine wpList_app 65 i0 (.agg #[.int .i64 0, .int .i64 0, .int .i64 0, .int .i64 0, .int .i64 0]) 5 40 rfl _ _ 29 rfl Tryz.underlying29 hi hz0 hz1 hz2 rfl (by omega) (by omega) _ (w.heap.size + 1) 0 [] _ rfl (OwnM.lit0 _ _ _ _ (by simp)) B k F _ rfl ((((H.out.head hk cp).alloc _).drewN _).alloc _) (by omega) (by simp) ?_; intro ao1 cp1 w2 O2 G2)
        rw [Nat.zero_add, List.nil_append] at O2
        have D2 := al_first H.out G2
        have O2' : Hid (OwnM w2 (w.heap.size + 1) 65 5 (.slice ao1 k cp1) k (nums F (k * 5))) := O2
        clear O2 G2
        refine wp_region_held_drew (S := AL w B n F (some ⟨g, o, none⟩) cp x0 x1 x2 x3 x4) (by kernel_rfl) D2.drew (fun hS => ?_)
        refine tkH 0 ?_ hS (fun wx hx => ?_) ?_; rotate_left
        · obtain ⟨⟨hx0, hx1, hx2, hx3, hx4⟩, _⟩ := hx; go_simp; try with_reducible rfl
        refine tkH 1 ?_ hS (fun wx hx => ?_) ?_; rotate_left
        · obtain ⟨⟨hx0, hx1, hx2, hx3, hx4⟩, _⟩ := hx; go_simp; try with_reducible rfl
        refine tkH 4 ?_ hS (fun wx hx => ?_) ?_; rotate_left
        · obtain ⟨⟨hx0, hx1, hx2, hx3, hx4⟩, _⟩ := hx; go_simp; try with_reducible rfl
        refine tkH 5 ?_ hS (fun wx hx => ?_) ?_; rotate_left
        · obtain ⟨⟨hx0, hx1, hx2, hx3, hx4⟩, _⟩ := hx; go_simp; try with_reducible rfl
        refine tkH 6 ?_ hS (fun wx hx => ?_) ?_; rotate_left
        · obtain ⟨⟨hx0, hx1, hx2, hx3, hx4⟩, _⟩ := hx; go_simp; try with_reducible rfl
        refine rdH 2 (fun K hK => ?_)
        go_simp
        have S3 := hS.grown H.out (World.grownBy_alloc w2.drew (.cells #[.int .i64 x0, .int .i64 x1, .int .i64 x2, .int .i64 x3, .int .i64 x4] 65) none) (fun r e => by cases e)
        have O3 : Hid (OwnM (w2.drew.alloc (.cells #[.int .i64 x0, .int .i64 x1, .int .i64 x2, .int .i64 x3, .int .i64 x4] 65)) (w.heap.size + 1) 65 5 (.slice ao1 k cp1) k (nums F (k * 5))) := O2'.out.later (below_alloc w2 _).drew
        have R3 : Hid (Row (w2.drew.alloc (.cells #[.int .i64 x0, .int .i64 x1, .int .i64 x2, .int .i64 x3, .int .i64 x4] 65)) 0 5 1 (fun p => [x0, x1, x2, x3, x4].getD p 0) (.slice (some ⟨w2.heap.size, 0, none⟩) 1 1)) := row_lit5 w2.drew x0 x1 x2 x3 x4 65
        refine hK.out _ _ S3 (fun hS => ?_)
        clear hK K S3
        refine rdH 3 (fun K hK => ?_)
        refine step_app 65 i0 (.agg #[.int .i64 0, .int .i64 0, .int .i64 0, .int .i64 0, .int .i64 0]) 5 40 (by rfl) _ _ 29 (by rfl) Tryz.underlying29 hi hz0 hz1 hz2 rfl (by omega) (by omega) _ (w.heap.size + 1) k (nums F (k * 5)) (.slice ao1 k cp1) (by rfl) O3.out 0 1 (fun p => [x0, x1, x2, x3, x4].getD p 0) (.slice (some ⟨w2.heap.size, 0, none⟩) 1 1) (by rfl) R3.out (by omega) (by have := hS.2.2.size; have := hS.1.1; have := lt_cell hS.1.1; omega) ?_
        intro ao3 cp3 w4 O4 G4
        have S4 := hS.grown H.out G4 (fun r e => by have := (O3.out.block r e).1; omega)
        have O4' : Hid (OwnM w4 (w.heap.size + 1) 65 5 (.slice ao3 (k + 1) cp3) (k + 1) (nums F (k * 5) ++ [x0, x1, x2, x3, x4])) := O4
        clear O4 G4 O3 R3 O2'
        refine hK.out _ _ S4 (fun hS => ?_)
        clear hK K S4
        refine rdH 7 (fun K hK => ?_)
        refine step_app 65 i0 (.agg #[.int .i64 0, .int .i64 0, .int .i64 0, .int .i64 0, .int .i64 0]) 5 40 (by rfl) _ _ 29 (by rfl) Tryz.underlying29 hi hz0 hz1 hz2 rfl (by omega) (by omega) _ (w.heap.size + 1) (k + 1) (nums F (k * 5) ++ [x0, x1, x2, x3, x4]) (.slice ao3 (k + 1) cp3) (by rfl) O4'.out B (n - k) (fun p => F (k * 5 + p)) (.slice (if cp = k then some ⟨g, o, none⟩ else some ⟨g, o + k * 5, none⟩) (n - k) (cp - k)) (by rfl) (hS.2.1.tailS hlt hcap) (by omega) (by have := hS.2.2.size; have := lt_cell hS.1.1; omega) ?_
        intro ao5 cp5 w6 O6 G6
        have S6 := hS.grown H.out G6 (fun r e => by have := (O4'.out.block r e).1; omega)
        have O6' : Hid (OwnM w6 w.heap.size 65 5 (.slice ao5 (n + 1) cp5) (n + 1) (nums F (k * 5) ++ [x0, x1, x2, x3, x4] ++ nums (fun p => F (k * 5 + p)) ((n - k) * 5))) := by
          have e1 : k + 1 + (n - k) = n + 1 := by omega
          rw [e1] at O6
          exact World.ownsRow.mono O6 (Nat.le_succ _)
        clear O6 G6 O4'
        refine hK.out _ _ S6 (fun hS => ?_)
        clear hK K S6
        refine tkH 8 ?_ hS (fun wx hx => ?_) ?_; rotate_left
        · obtain ⟨⟨hx0, hx1, hx2, hx3, hx4⟩, _⟩ := hx; go_simp; try with_reducible rfl
        refine wpAnyH_done (by kernel_rfl) ?_ _
        go_simp
        go_wp2
        all_goals
          go_ret
          refine ⟨k, ao5, cp5, HL.out, ?_, O6'.out, hS.2.2⟩
          show Ending.returned (Value.slice ao5 (k + 1 + (n - k)) cp5) = _
          rw [show k + 1 + (n - k) = n + 1 by omega]
    · have HL : Hid (placeAt (aheadL F x0) n k) := ⟨hk, hP.out, fun q => absurd q hlt⟩
      clear hP
      go_wp2
      go_quiet (fail)
      have hkcp : k ≤ cp := by omega
      go_wp2_with (at_builtin; refine wpList_app 65 i0 (.agg #[.int .i64 0, .int .i64 0, .int .i64 0, .int .i64 0, .int .i64 0]) 5 40 rfl _ _ 29 rfl Tryz.underlying29 hi hz0 hz1 hz2 rfl (by omega) (by omega) _ (w.heap.size + 1) 0 [] _ rfl (OwnM.lit0 _ _ _ _ (by simp)) B k F _ rfl ((((H.out.head hk cp).alloc _).drewN _).alloc _) (by omega) (by simp) ?_; intro ao1 cp1 w2 O2 G2)
      rw [Nat.zero_add, List.nil_append] at O2
      have D2 := al_first H.out G2
      have O2' : Hid (OwnM w2 (w.heap.size + 1) 65 5 (.slice ao1 k cp1) k (nums F (k * 5))) := O2
      clear O2 G2
      refine wp_region_held_drew (S := AL w B n F ao cp x0 x1 x2 x3 x4) (by kernel_rfl) D2.drew (fun hS => ?_)
      refine tkH 0 ?_ hS (fun wx hx => ?_) ?_; rotate_left
      · obtain ⟨⟨hx0, hx1, hx2, hx3, hx4⟩, _⟩ := hx; go_simp; try with_reducible rfl
      refine tkH 1 ?_ hS (fun wx hx => ?_) ?_; rotate_left
      · obtain ⟨⟨hx0, hx1, hx2, hx3, hx4⟩, _⟩ := hx; go_simp; try with_reducible rfl
      refine tkH 4 ?_ hS (fun wx hx => ?_) ?_; rotate_left
      · obtain ⟨⟨hx0, hx1, hx2, hx3, hx4⟩, _⟩ := hx; go_simp; try with_reducible rfl
      refine tkH 5 ?_ hS (fun wx hx => ?_) ?_; rotate_left
      · obtain ⟨⟨hx0, hx1, hx2, hx3, hx4⟩, _⟩ := hx; go_simp; try with_reducible rfl
      refine tkH 6 ?_ hS (fun wx hx => ?_) ?_; rotate_left
      · obtain ⟨⟨hx0, hx1, hx2, hx3, hx4⟩, _⟩ := hx; go_simp; try with_reducible rfl
      refine rdH 2 (fun K hK => ?_)
      go_simp
      have S3 := hS.grown H.out (World.grownBy_alloc w2.drew (.cells #[.int .i64 x0, .int .i64 x1, .int .i64 x2, .int .i64 x3, .int .i64 x4] 65) none) (fun r e => by cases e)
      have O3 : Hid (OwnM (w2.drew.alloc (.cells #[.int .i64 x0, .int .i64 x1, .int .i64 x2, .int .i64 x3, .int .i64 x4] 65)) (w.heap.size + 1) 65 5 (.slice ao1 k cp1) k (nums F (k * 5))) := O2'.out.later (below_alloc w2 _).drew
      have R3 : Hid (Row (w2.drew.alloc (.cells #[.int .i64 x0, .int .i64 x1, .int .i64 x2, .int .i64 x3, .int .i64 x4] 65)) 0 5 1 (fun p => [x0, x1, x2, x3, x4].getD p 0) (.slice (some ⟨w2.heap.size, 0, none⟩) 1 1)) := row_lit5 w2.drew x0 x1 x2 x3 x4 65
      refine hK.out _ _ S3 (fun hS => ?_)
      clear hK K S3
      refine rdH 3 (fun K hK => ?_)
      refine step_app 65 i0 (.agg #[.int .i64 0, .int .i64 0, .int .i64 0, .int .i64 0, .int .i64 0]) 5 40 (by rfl) _ _ 29 (by rfl) Tryz.underlying29 hi hz0 hz1 hz2 rfl (by omega) (by omega) _ (w.heap.size + 1) k (nums F (k * 5)) (.slice ao1 k cp1) (by rfl) O3.out 0 1 (fun p => [x0, x1, x2, x3, x4].getD p 0) (.slice (some ⟨w2.heap.size, 0, none⟩) 1 1) (by rfl) R3.out (by omega) (by have := hS.2.2.size; have := hS.1.1; have := lt_cell hS.1.1; omega) ?_
      intro ao3 cp3 w4 O4 G4
      have S4 := hS.grown H.out G4 (fun r e => by have := (O3.out.block r e).1; omega)
      have O4' : Hid (OwnM w4 (w.heap.size + 1) 65 5 (.slice ao3 (k + 1) cp3) (k + 1) (nums F (k * 5) ++ [x0, x1, x2, x3, x4])) := O4
      clear O4 G4 O3 R3 O2'
      refine hK.out _ _ S4 (fun hS => ?_)
      clear hK K S4
      refine rdH 7 (fun K hK => ?_)
      refine step_app 65 i0 (.agg #[.int .i64 0, .int .i64 0, .int .i64 0, .int .i64 0, .int .i64 0]) 5 40 (by rfl) _ _ 29 (by rfl) Tryz.underlying29 hi hz0 hz1 hz2 rfl (by omega) (by omega) _ (w.heap.size + 1) (k + 1) (nums F (k * 5) ++ [x0, x1, x2, x3, x4]) (.slice ao3 (k + 1) cp3) (by rfl) O4'.out B (n - k) (fun p => F (k * 5 + p)) (.slice (if cp = k then ao else Option.map (fun x => x.add (k * 5)) ao) (n - k) (cp - k)) (by rfl) (Row.over _ _ _ _ _ _ _ _ hlt) (by omega) (by have := hS.2.2.size; have := lt_cell hS.1.1; omega) ?_
      intro ao5 cp5 w6 O6 G6
      have S6 := hS.grown H.out G6 (fun r e => by have := (O4'.out.block r e).1; omega)
      have O6' : Hid (OwnM w6 w.heap.size 65 5 (.slice ao5 (n + 1) cp5) (n + 1) (nums F (k * 5) ++ [x0, x1, x2, x3, x4] ++ nums (fun p => F (k * 5 + p)) ((n - k) * 5))) := by
        have e1 : k + 1 + (n - k) = n + 1 := by omega
        rw [e1] at O6
        exact World.ownsRow.mono O6 (Nat.le_succ _)
      clear O6 G6 O4'
      refine hK.out _ _ S6 (fun hS => ?_)
      clear hK K S6
      refine tkH 8 ?_ hS (fun wx hx => ?_) ?_; rotate_left
      · obtain ⟨⟨hx0, hx1, hx2, hx3, hx4⟩, _⟩ := hx; go_simp; try with_reducible rfl
      refine wpAnyH_done (by kernel_rfl) ?_ _
      go_simp
      go_wp2
      all_goals
        go_ret
        refine ⟨k, ao5, cp5, HL.out, ?_, O6'.out, hS.2.2⟩
        show Ending.returned (Value.slice ao5 (k + 1 + (n - k)) cp5) = _
        rw [show k + 1 + (n - k) = n + 1 by omega]
end

section
open Go.RowKit
/-- Write j stands ahead of one of key a and commit b. -/
def aheadC (F : Nat → Int) (a b : Int) (j : Nat) : Prop := F (j * 3) < a ∨ F (j * 3) = a ∧ F (j * 3 + 1) < b

/-- What the last region of l2AddCell holds. -/
def AC (w : World) (B n : Nat) (F : Nat → Int) (ao : Option Addr) (cp : Nat) (x0 x1 x2 : Int) (X : World) : Prop :=
  (X.cell? ⟨w.heap.size, 0, none⟩ = some (.int .i64 x0) ∧ X.cell? ⟨w.heap.size, 1, none⟩ = some (.int .i64 x1) ∧ X.cell? ⟨w.heap.size, 2, none⟩ = some (.int .i64 x2)) ∧ Row X B 3 n F (.slice ao n cp) ∧ Below w.heap.size w X
theorem AC.drew {w X : World} {B n : Nat} {F : Nat → Int} {ao : Option Addr} {cp : Nat} {x0 x1 x2 : Int} (h : AC w B n F ao cp x0 x1 x2 X) : AC w B n F ao cp x0 x1 x2 X.drew := ⟨h.1, h.2.1, h.2.2.drew⟩
theorem AC.grown {w X X' : World} {B n : Nat} {F : Nat → Int} {ao : Option Addr} {cp : Nat} {x0 x1 x2 : Int} {row : Option Nat} (h : AC w B n F ao cp x0 x1 x2 X) (h0 : Row w B 3 n F (.slice ao n cp)) (hg : X.grownBy X' row) (hr : ∀ r, row = some r → w.heap.size < r) : AC w B n F ao cp x0 x1 x2 X' := by
  obtain ⟨⟨c0, c1, c2⟩, _, hb⟩ := h
  have far : ∀ k v, X.cell? ⟨w.heap.size, k, none⟩ = some v → X'.cell? ⟨w.heap.size, k, none⟩ = some v := fun k v hc => hg.cell hc (fun e => by have := hr _ e.symm; simp at this)
  have hb' : Below w.heap.size w X' := hb.grown hg hb.size (fun r e => Nat.le_of_lt (hr r e))
  exact ⟨⟨far _ _ c0, far _ _ c1, far _ _ c2⟩, h0.later hb', hb'⟩
theorem ac_first {w w2 : World} {B n q : Nat} {F : Nat → Int} {ao : Option Addr} {cp : Nat} {x0 x1 x2 : Int} (h : Row w B 3 n F (.slice ao n cp))
    (hg : (((w.alloc (.cells #[.int .i64 x0, .int .i64 x1, .int .i64 x2] 62)).drewN q).alloc (.cells #[] 62)).grownBy w2 (some (w.heap.size + 1))) : AC w B n F ao cp x0 x1 x2 w2 := by
  have hb : Below w.heap.size w (((w.alloc (.cells #[.int .i64 x0, .int .i64 x1, .int .i64 x2] 62)).drewN q).alloc (.cells #[] 62)) := (below_drewN ((Below.refl _ _).alloc (Nat.le_refl _) _) q).alloc (by simp) _
  have b1 : Below (w.heap.size + 1) (w.alloc (.cells #[.int .i64 x0, .int .i64 x1, .int .i64 x2] 62)) (((w.alloc (.cells #[.int .i64 x0, .int .i64 x1, .int .i64 x2] 62)).drewN q).alloc (.cells #[] 62)) := (below_drewN (Below.refl _ _) q).alloc (by simp) _
  have near : ∀ k v, (w.alloc (.cells #[.int .i64 x0, .int .i64 x1, .int .i64 x2] 62)).cell? ⟨w.heap.size, k, none⟩ = some v → (((w.alloc (.cells #[.int .i64 x0, .int .i64 x1, .int .i64 x2] 62)).drewN q).alloc (.cells #[] 62)).cell? ⟨w.heap.size, k, none⟩ = some v := fun k v hc => (b1.cell (p := ⟨w.heap.size, k, none⟩) (Nat.lt_succ_self _)).trans hc
  refine AC.grown (X := ((w.alloc (.cells #[.int .i64 x0, .int .i64 x1, .int .i64 x2] 62)).drewN q).alloc (.cells #[] 62)) ⟨⟨near _ _ (World.cell?_alloc_mark w _ _ _ 0), near _ _ (World.cell?_alloc_mark w _ _ _ 1), near _ _ (World.cell?_alloc_mark w _ _ _ 2)⟩, h.later hb, hb⟩ h hg (fun r e => by cases e; omega)
theorem row_lit3 (w : World) (x0 x1 x2 : Int) (t : TypeId) : Row (w.alloc (.cells #[.int .i64 x0, .int .i64 x1, .int .i64 x2] t)) 0 3 1 (fun p => [x0, x1, x2].getD p 0) (.slice (some ⟨w.heap.size, 0, none⟩) 1 1) := by
  refine ⟨_, _, rfl, fun _ => ⟨w.heap.size, 0, rfl, Nat.zero_le _, by simp, fun p hp => ?_⟩⟩
  rw [Nat.zero_add, World.cell?_alloc_mark]
  match p, hp with
  | 0, _ => rfl
  | 1, _ => rfl
  | 2, _ => rfl
/-- What l2AddCell answers. -/
def AddedC (w : World) (n : Nat) (F : Nat → Int) (x0 x1 x2 : Int) (e : Ending) (w' : World) : Prop := ∃ k ao' cp', placeAt (aheadC F x0 x1) n k ∧ e = .returned (.slice ao' (n + 1) cp') ∧
  OwnM w' w.heap.size 62 3 (.slice ao' (n + 1) cp') (n + 1) (nums F (k * 3) ++ [x0, x1, x2] ++ nums (fun p => F (k * 3 + p)) ((n - k) * 3)) ∧ Below w.heap.size w w'
set_option maxRecDepth 100000 in
set_option maxHeartbeats 4000000 in
theorem l2AddCell_any (n : Nat) (F : Nat → Int) (ao : Option Addr) (cp : Nat) (B : Nat) (x0 x1 x2 : Int) (w : World) (h : Row w B 3 n F (.slice ao n cp)) (hn : n ≤ 1000) (hcap : n ≤ cp) :
    Calls Tryz.prog 36 #[.slice ao n cp, .agg #[.int .i64 x0, .int .i64 x1, .int .i64 x2]] w (AddedC w n F x0 x1 x2) := by
  have H : Hid (Row w B 3 n F (.slice ao n cp)) := h
  clear h
  obtain ⟨i0, hi, hz0, hz1, hz2⟩ := info_parts info_Cell
  go_enter Tryz.func36, Tryz.ntmps36
  go_wp2
  go_loopw [5] (fun i wr => ∃ k q : Nat, i = .int .i64 k ∧ k ≤ n ∧ Hid (∀ j, j < k → aheadC F x0 x1 j) ∧ wr = (w.alloc (.cells #[.int .i64 x0, .int .i64 x1, .int .i64 x2] 62)).drewN q) (fun i _ => n - (intOf i).toNat)
  case atStart => exact ⟨0, 0, rfl, Nat.zero_le _, fun j hj => absurd hj (Nat.not_lt_zero j), rfl⟩
  case round =>
    obtain ⟨k, q, rfl, hk, hP, rfl⟩ := hrel
    by_cases hlt : k < n
    · obtain ⟨g, o, hao, _, hg, c0, c1, c2⟩ := H.out.at3 hlt
      subst hao
      have d0 : (w.alloc (.cells #[.int .i64 x0, .int .i64 x1, .int .i64 x2] 62)).cell? ⟨g, o + k * 3, none⟩ = some (.int .i64 (F (k * 3))) := (World.cell?_alloc_lt _ _ _ hg).trans c0
      have d1 : (w.alloc (.cells #[.int .i64 x0, .int .i64 x1, .int .i64 x2] 62)).cell? ⟨g, o + k * 3 + 1, none⟩ = some (.int .i64 (F (k * 3 + 1))) := (World.cell?_alloc_lt _ _ _ hg).trans c1
      obtain ⟨y0, N0⟩ : ∃ y, F (k * 3) = y := ⟨_, rfl⟩
      obtain ⟨y1, N1⟩ : ∃ y, F (k * 3 + 1) = y := ⟨_, rfl⟩
      rw [N0] at d0
      rw [N1] at d1
      have HA : Hid (aheadC F x0 x1 k ↔ y0 < x0 ∨ y0 = x0 ∧ y1 < x1) := by unfold aheadC; rw [N0, N1]; exact Iff.rfl
      clear c0 c1 c2 N0 N1
      by_cases h0 : y0 < x0
      · have HP : Hid (∀ j, j < k + 1 → aheadC F x0 x1 j) := fun j hj => by
          rcases Nat.lt_or_ge j k with q | q
          · exact hP.out j q
          · obtain rfl : j = k := by omega
            exact HA.out.2 (Or.inl h0)
        clear HA hP
        have t0 : decide (y0 < x0) = true := decide_eq_true h0
        go_wp2
        go_quiet (fail)
        go_wp2
        go_roundw
        case rel => exact ⟨k + 1, _, by go_num, by omega, HP, rfl⟩
        case measure => simp [intOf]; omega
      · have t0 : decide (y0 < x0) = false := decide_eq_false h0
        by_cases h1 : y0 = x0
        · have t1 : (y0 == x0) = true := beq_iff_eq.2 h1
          by_cases h2 : y1 < x1
          · have HP : Hid (∀ j, j < k + 1 → aheadC F x0 x1 j) := fun j hj => by
              rcases Nat.lt_or_ge j k with q | q
              · exact hP.out j q
              · obtain rfl : j = k := by omega
                exact HA.out.2 (Or.inr ⟨h1, h2⟩)
            have t2 : decide (y1 < x1) = true := decide_eq_true h2
            clear HA hP
            subst h1
            go_wp2
            go_quiet (fail)
            go_wp2
            go_roundw
            case rel => exact ⟨k + 1, _, by go_num, by omega, HP, rfl⟩
            case measure => simp [intOf]; omega
          · have HL : Hid (placeAt (aheadC F x0 x1) n k) := ⟨hk, hP.out, fun _ q => by rcases HA.out.1 q with r | r; exact h0 r; exact h2 r.2⟩
            have t2 : decide (y1 < x1) = false := decide_eq_false h2
            clear HA hP
            subst h1
            go_wp2
            go_quiet (fail)
            have hkcp : k ≤ cp := by omega
            go_wp2_with (at_builtin; refine wpList_app 62 i0 (.agg #[.int .i64 0, .int .i64 0, .int .i64 0]) 3 24 rfl _ _ 28 rfl Tryz.underlying28 hi hz0 hz1 hz2 rfl (by omega) (by omega) _ (w.heap.size + 1) 0 [] _ rfl (OwnM.lit0 _ _ _ _ (by simp)) B k F _ rfl ((((H.out.head hk cp).alloc _).drewN _).alloc _) (by omega) (by simp) ?_; intro ao1 cp1 w2 O2 G2)
            rw [Nat.zero_add, List.nil_append] at O2
            have D2 := ac_first H.out G2
            have O2' : Hid (OwnM w2 (w.heap.size + 1) 62 3 (.slice ao1 k cp1) k (nums F (k * 3))) := O2
            clear O2 G2
            refine wp_region_held_drew (S := AC w B n F (some ⟨g, o, none⟩) cp y0 x1 x2) (by kernel_rfl) D2.drew (fun hS => ?_)
            refine tkH 0 ?_ hS (fun wx hx => ?_) ?_; rotate_left
            · obtain ⟨⟨hx0, hx1, hx2⟩, _⟩ := hx; go_simp; try with_reducible rfl
            refine tkH 1 ?_ hS (fun wx hx => ?_) ?_; rotate_left
            · obtain ⟨⟨hx0, hx1, hx2⟩, _⟩ := hx; go_simp; try with_reducible rfl
            refine tkH 4 ?_ hS (fun wx hx => ?_) ?_; rotate_left
            · obtain ⟨⟨hx0, hx1, hx2⟩, _⟩ := hx; go_simp; try with_reducible rfl
            refine tkH 5 ?_ hS (fun wx hx => ?_) ?_; rotate_left
            · obtain ⟨⟨hx0, hx1, hx2⟩, _⟩ := hx; go_simp; try with_reducible rfl
            refine tkH 6 ?_ hS (fun wx hx => ?_) ?_; rotate_left
            · obtain ⟨⟨hx0, hx1, hx2⟩, _⟩ := hx; go_simp; try with_reducible rfl
            refine rdH 2 (fun K hK => ?_)
            go_simp
            have S3 := hS.grown H.out (World.grownBy_alloc w2.drew (.cells #[.int .i64 y0, .int .i64 x1, .int .i64 x2] 62) none) (fun r e => by cases e)
            have O3 : Hid (OwnM (w2.drew.alloc (.cells #[.int .i64 y0, .int .i64 x1, .int .i64 x2] 62)) (w.heap.size + 1) 62 3 (.slice ao1 k cp1) k (nums F (k * 3))) := O2'.out.later (below_alloc w2 _).drew
            have R3 : Hid (Row (w2.drew.alloc (.cells #[.int .i64 y0, .int .i64 x1, .int .i64 x2] 62)) 0 3 1 (fun p => [y0, x1, x2].getD p 0) (.slice (some ⟨w2.heap.size, 0, none⟩) 1 1)) := row_lit3 w2.drew y0 x1 x2 62
            refine hK.out _ _ S3 (fun hS => ?_)
            clear hK K S3
            refine rdH 3 (fun K hK => ?_)
            refine step_app 62 i0 (.agg #[.int .i64 0, .int .i64 0, .int .i64 0]) 3 24 (by rfl) _ _ 28 (by rfl) Tryz.underlying28 hi hz0 hz1 hz2 rfl (by omega) (by omega) _ (w.heap.size + 1) k (nums F (k * 3)) (.slice ao1 k cp1) (by rfl) O3.out 0 1 (fun p => [y0, x1, x2].getD p 0) (.slice (some ⟨w2.heap.size, 0, none⟩) 1 1) (by rfl) R3.out (by omega) (by have := hS.2.2.size; have := hS.1.1; have := lt_cell hS.1.1; omega) ?_
            intro ao3 cp3 w4 O4 G4
            have S4 := hS.grown H.out G4 (fun r e => by have := (O3.out.block r e).1; omega)
            have O4' : Hid (OwnM w4 (w.heap.size + 1) 62 3 (.slice ao3 (k + 1) cp3) (k + 1) (nums F (k * 3) ++ [y0, x1, x2])) := O4
            clear O4 G4 O3 R3 O2'
            refine hK.out _ _ S4 (fun hS => ?_)
            clear hK K S4
            refine rdH 7 (fun K hK => ?_)
            refine step_app 62 i0 (.agg #[.int .i64 0, .int .i64 0, .int .i64 0]) 3 24 (by rfl) _ _ 28 (by rfl) Tryz.underlying28 hi hz0 hz1 hz2 rfl (by omega) (by omega) _ (w.heap.size + 1) (k + 1) (nums F (k * 3) ++ [y0, x1, x2]) (.slice ao3 (k + 1) cp3) (by rfl) O4'.out B (n - k) (fun p => F (k * 3 + p)) (.slice (if cp = k then some ⟨g, o, none⟩ else some ⟨g, o + k * 3, none⟩) (n - k) (cp - k)) (by rfl) (hS.2.1.tailS hlt hcap) (by omega) (by have := hS.2.2.size; have := lt_cell hS.1.1; omega) ?_
            intro ao5 cp5 w6 O6 G6
            have S6 := hS.grown H.out G6 (fun r e => by have := (O4'.out.block r e).1; omega)
            have O6' : Hid (OwnM w6 w.heap.size 62 3 (.slice ao5 (n + 1) cp5) (n + 1) (nums F (k * 3) ++ [y0, x1, x2] ++ nums (fun p => F (k * 3 + p)) ((n - k) * 3))) := by
              have e1 : k + 1 + (n - k) = n + 1 := by omega
              rw [e1] at O6
              exact World.ownsRow.mono O6 (Nat.le_succ _)
            clear O6 G6 O4'
            refine hK.out _ _ S6 (fun hS => ?_)
            clear hK K S6
            refine tkH 8 ?_ hS (fun wx hx => ?_) ?_; rotate_left
            · obtain ⟨⟨hx0, hx1, hx2⟩, _⟩ := hx; go_simp; try with_reducible rfl
            refine wpAnyH_done (by kernel_rfl) ?_ _
            go_simp
            go_wp2
            all_goals
              go_ret
              refine ⟨k, ao5, cp5, HL.out, ?_, O6'.out, hS.2.2⟩
              show Ending.returned (Value.slice ao5 (k + 1 + (n - k)) cp5) = _
              rw [show k + 1 + (n - k) = n + 1 by omega]
        · have t1 : (y0 == x0) = false := beq_eq_false_iff_ne.2 h1
          have HL : Hid (placeAt (aheadC F x0 x1) n k) := ⟨hk, hP.out, fun _ q => by rcases HA.out.1 q with r | r; exact h0 r; exact h1 r.1⟩
          clear HA hP
          go_wp2
          go_quiet (fail)
          have hkcp : k ≤ cp := by omega
          go_wp2_with (at_builtin; refine wpList_app 62 i0 (.agg #[.int .i64 0, .int .i64 0, .int .i64 0]) 3 24 rfl _ _ 28 rfl Tryz.underlying28 hi hz0 hz1 hz2 rfl (by omega) (by omega) _ (w.heap.size + 1) 0 [] _ rfl (OwnM.lit0 _ _ _ _ (by simp)) B k F _ rfl ((((H.out.head hk cp).alloc _).drewN _).alloc _) (by omega) (by simp) ?_; intro ao1 cp1 w2 O2 G2)
          rw [Nat.zero_add, List.nil_append] at O2
          have D2 := ac_first H.out G2
          have O2' : Hid (OwnM w2 (w.heap.size + 1) 62 3 (.slice ao1 k cp1) k (nums F (k * 3))) := O2
          clear O2 G2
          refine wp_region_held_drew (S := AC w B n F (some ⟨g, o, none⟩) cp x0 x1 x2) (by kernel_rfl) D2.drew (fun hS => ?_)
          refine tkH 0 ?_ hS (fun wx hx => ?_) ?_; rotate_left
          · obtain ⟨⟨hx0, hx1, hx2⟩, _⟩ := hx; go_simp; try with_reducible rfl
          refine tkH 1 ?_ hS (fun wx hx => ?_) ?_; rotate_left
          · obtain ⟨⟨hx0, hx1, hx2⟩, _⟩ := hx; go_simp; try with_reducible rfl
          refine tkH 4 ?_ hS (fun wx hx => ?_) ?_; rotate_left
          · obtain ⟨⟨hx0, hx1, hx2⟩, _⟩ := hx; go_simp; try with_reducible rfl
          refine tkH 5 ?_ hS (fun wx hx => ?_) ?_; rotate_left
          · obtain ⟨⟨hx0, hx1, hx2⟩, _⟩ := hx; go_simp; try with_reducible rfl
          refine tkH 6 ?_ hS (fun wx hx => ?_) ?_; rotate_left
          · obtain ⟨⟨hx0, hx1, hx2⟩, _⟩ := hx; go_simp; try with_reducible rfl
          refine rdH 2 (fun K hK => ?_)
          go_simp
          have S3 := hS.grown H.out (World.grownBy_alloc w2.drew (.cells #[.int .i64 x0, .int .i64 x1, .int .i64 x2] 62) none) (fun r e => by cases e)
          have O3 : Hid (OwnM (w2.drew.alloc (.cells #[.int .i64 x0, .int .i64 x1, .int .i64 x2] 62)) (w.heap.size + 1) 62 3 (.slice ao1 k cp1) k (nums F (k * 3))) := O2'.out.later (below_alloc w2 _).drew
          have R3 : Hid (Row (w2.drew.alloc (.cells #[.int .i64 x0, .int .i64 x1, .int .i64 x2] 62)) 0 3 1 (fun p => [x0, x1, x2].getD p 0) (.slice (some ⟨w2.heap.size, 0, none⟩) 1 1)) := row_lit3 w2.drew x0 x1 x2 62
          refine hK.out _ _ S3 (fun hS => ?_)
          clear hK K S3
          refine rdH 3 (fun K hK => ?_)
          refine step_app 62 i0 (.agg #[.int .i64 0, .int .i64 0, .int .i64 0]) 3 24 (by rfl) _ _ 28 (by rfl) Tryz.underlying28 hi hz0 hz1 hz2 rfl (by omega) (by omega) _ (w.heap.size + 1) k (nums F (k * 3)) (.slice ao1 k cp1) (by rfl) O3.out 0 1 (fun p => [x0, x1, x2].getD p 0) (.slice (some ⟨w2.heap.size, 0, none⟩) 1 1) (by rfl) R3.out (by omega) (by have := hS.2.2.size; have := hS.1.1; have := lt_cell hS.1.1; omega) ?_
          intro ao3 cp3 w4 O4 G4
          have S4 := hS.grown H.out G4 (fun r e => by have := (O3.out.block r e).1; omega)
          have O4' : Hid (OwnM w4 (w.heap.size + 1) 62 3 (.slice ao3 (k + 1) cp3) (k + 1) (nums F (k * 3) ++ [x0, x1, x2])) := O4
          clear O4 G4 O3 R3 O2'
          refine hK.out _ _ S4 (fun hS => ?_)
          clear hK K S4
          refine rdH 7 (fun K hK => ?_)
          refine step_app 62 i0 (.agg #[.int .i64 0, .int .i64 0, .int .i64 0]) 3 24 (by rfl) _ _ 28 (by rfl) Tryz.underlying28 hi hz0 hz1 hz2 rfl (by omega) (by omega) _ (w.heap.size + 1) (k + 1) (nums F (k * 3) ++ [x0, x1, x2]) (.slice ao3 (k + 1) cp3) (by rfl) O4'.out B (n - k) (fun p => F (k * 3 + p)) (.slice (if cp = k then some ⟨g, o, none⟩ else some ⟨g, o + k * 3, none⟩) (n - k) (cp - k)) (by rfl) (hS.2.1.tailS hlt hcap) (by omega) (by have := hS.2.2.size; have := lt_cell hS.1.1; omega) ?_
          intro ao5 cp5 w6 O6 G6
          have S6 := hS.grown H.out G6 (fun r e => by have := (O4'.out.block r e).1; omega)
          have O6' : Hid (OwnM w6 w.heap.size 62 3 (.slice ao5 (n + 1) cp5) (n + 1) (nums F (k * 3) ++ [x0, x1, x2] ++ nums (fun p => F (k * 3 + p)) ((n - k) * 3))) := by
            have e1 : k + 1 + (n - k) = n + 1 := by omega
            rw [e1] at O6
            exact World.ownsRow.mono O6 (Nat.le_succ _)
          clear O6 G6 O4'
          refine hK.out _ _ S6 (fun hS => ?_)
          clear hK K S6
          refine tkH 8 ?_ hS (fun wx hx => ?_) ?_; rotate_left
          · obtain ⟨⟨hx0, hx1, hx2⟩, _⟩ := hx; go_simp; try with_reducible rfl
          refine wpAnyH_done (by kernel_rfl) ?_ _
          go_simp
          go_wp2
          all_goals
            go_ret
            refine ⟨k, ao5, cp5, HL.out, ?_, O6'.out, hS.2.2⟩
            show Ending.returned (Value.slice ao5 (k + 1 + (n - k)) cp5) = _
            rw [show k + 1 + (n - k) = n + 1 by omega]
    · have HL : Hid (placeAt (aheadC F x0 x1) n k) := ⟨hk, hP.out, fun q => absurd q hlt⟩
      clear hP
      go_wp2
      go_quiet (fail)
      have hkcp : k ≤ cp := by omega
      go_wp2_with (at_builtin; refine wpList_app 62 i0 (.agg #[.int .i64 0, .int .i64 0, .int .i64 0]) 3 24 rfl _ _ 28 rfl Tryz.underlying28 hi hz0 hz1 hz2 rfl (by omega) (by omega) _ (w.heap.size + 1) 0 [] _ rfl (OwnM.lit0 _ _ _ _ (by simp)) B k F _ rfl ((((H.out.head hk cp).alloc _).drewN _).alloc _) (by omega) (by simp) ?_; intro ao1 cp1 w2 O2 G2)
      rw [Nat.zero_add, List.nil_append] at O2
      have D2 := ac_first H.out G2
      have O2' : Hid (OwnM w2 (w.heap.size + 1) 62 3 (.slice ao1 k cp1) k (nums F (k * 3))) := O2
      clear O2 G2
      refine wp_region_held_drew (S := AC w B n F ao cp x0 x1 x2) (by kernel_rfl) D2.drew (fun hS => ?_)
      refine tkH 0 ?_ hS (fun wx hx => ?_) ?_; rotate_left
      · obtain ⟨⟨hx0, hx1, hx2⟩, _⟩ := hx; go_simp; try with_reducible rfl
      refine tkH 1 ?_ hS (fun wx hx => ?_) ?_; rotate_left
      · obtain ⟨⟨hx0, hx1, hx2⟩, _⟩ := hx; go_simp; try with_reducible rfl
      refine tkH 4 ?_ hS (fun wx hx => ?_) ?_; rotate_left
      · obtain ⟨⟨hx0, hx1, hx2⟩, _⟩ := hx; go_simp; try with_reducible rfl
      refine tkH 5 ?_ hS (fun wx hx => ?_) ?_; rotate_left
      · obtain ⟨⟨hx0, hx1, hx2⟩, _⟩ := hx; go_simp; try with_reducible rfl
      refine tkH 6 ?_ hS (fun wx hx => ?_) ?_; rotate_left
      · obtain ⟨⟨hx0, hx1, hx2⟩, _⟩ := hx; go_simp; try with_reducible rfl
      refine rdH 2 (fun K hK => ?_)
      go_simp
      have S3 := hS.grown H.out (World.grownBy_alloc w2.drew (.cells #[.int .i64 x0, .int .i64 x1, .int .i64 x2] 62) none) (fun r e => by cases e)
      have O3 : Hid (OwnM (w2.drew.alloc (.cells #[.int .i64 x0, .int .i64 x1, .int .i64 x2] 62)) (w.heap.size + 1) 62 3 (.slice ao1 k cp1) k (nums F (k * 3))) := O2'.out.later (below_alloc w2 _).drew
      have R3 : Hid (Row (w2.drew.alloc (.cells #[.int .i64 x0, .int .i64 x1, .int .i64 x2] 62)) 0 3 1 (fun p => [x0, x1, x2].getD p 0) (.slice (some ⟨w2.heap.size, 0, none⟩) 1 1)) := row_lit3 w2.drew x0 x1 x2 62
      refine hK.out _ _ S3 (fun hS => ?_)
      clear hK K S3
      refine rdH 3 (fun K hK => ?_)
      refine step_app 62 i0 (.agg #[.int .i64 0, .int .i64 0, .int .i64 0]) 3 24 (by rfl) _ _ 28 (by rfl) Tryz.underlying28 hi hz0 hz1 hz2 rfl (by omega) (by omega) _ (w.heap.size + 1) k (nums F (k * 3)) (.slice ao1 k cp1) (by rfl) O3.out 0 1 (fun p => [x0, x1, x2].getD p 0) (.slice (some ⟨w2.heap.size, 0, none⟩) 1 1) (by rfl) R3.out (by omega) (by have := hS.2.2.size; have := hS.1.1; have := lt_cell hS.1.1; omega) ?_
      intro ao3 cp3 w4 O4 G4
      have S4 := hS.grown H.out G4 (fun r e => by have := (O3.out.block r e).1; omega)
      have O4' : Hid (OwnM w4 (w.heap.size + 1) 62 3 (.slice ao3 (k + 1) cp3) (k + 1) (nums F (k * 3) ++ [x0, x1, x2])) := O4
      clear O4 G4 O3 R3 O2'
      refine hK.out _ _ S4 (fun hS => ?_)
      clear hK K S4
      refine rdH 7 (fun K hK => ?_)
      refine step_app 62 i0 (.agg #[.int .i64 0, .int .i64 0, .int .i64 0]) 3 24 (by rfl) _ _ 28 (by rfl) Tryz.underlying28 hi hz0 hz1 hz2 rfl (by omega) (by omega) _ (w.heap.size + 1) (k + 1) (nums F (k * 3) ++ [x0, x1, x2]) (.slice ao3 (k + 1) cp3) (by rfl) O4'.out B (n - k) (fun p => F (k * 3 + p)) (.slice (if cp = k then ao else Option.map (fun x => x.add (k * 3)) ao) (n - k) (cp - k)) (by rfl) (Row.over _ _ _ _ _ _ _ _ hlt) (by omega) (by have := hS.2.2.size; have := lt_cell hS.1.1; omega) ?_
      intro ao5 cp5 w6 O6 G6
      have S6 := hS.grown H.out G6 (fun r e => by have := (O4'.out.block r e).1; omega)
      have O6' : Hid (OwnM w6 w.heap.size 62 3 (.slice ao5 (n + 1) cp5) (n + 1) (nums F (k * 3) ++ [x0, x1, x2] ++ nums (fun p => F (k * 3 + p)) ((n - k) * 3))) := by
        have e1 : k + 1 + (n - k) = n + 1 := by omega
        rw [e1] at O6
        exact World.ownsRow.mono O6 (Nat.le_succ _)
      clear O6 G6 O4'
      refine hK.out _ _ S6 (fun hS => ?_)
      clear hK K S6
      refine tkH 8 ?_ hS (fun wx hx => ?_) ?_; rotate_left
      · obtain ⟨⟨hx0, hx1, hx2⟩, _⟩ := hx; go_simp; try with_reducible rfl
      refine wpAnyH_done (by kernel_rfl) ?_ _
      go_simp
      go_wp2
      all_goals
        go_ret
        refine ⟨k, ao5, cp5, HL.out, ?_, O6'.out, hS.2.2⟩
        show Ending.returned (Value.slice ao5 (k + 1 + (n - k)) cp5) = _
        rw [show k + 1 + (n - k) = n + 1 by omega]
end
end Go.Proofs.YtknbeggnlhiamaaGreat

