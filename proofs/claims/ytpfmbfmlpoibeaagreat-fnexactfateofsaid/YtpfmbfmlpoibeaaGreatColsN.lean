/-
  Own text. What the program's cellsFault and locksFault answer: the first fault of a row, element by element, as the model's.
-/
import Derived.Test.YtpfmbfmlpoibeaaGreatColsM
import Derived.Test.YtpfmbfmlpoibeaaGreatKeysB
import Derived.BigQuiet
import Derived.Deep.QuietTactic
namespace Go.Proofs.YtpfmbfmlpoibeaaGreat
open Go.RowKit

theorem below_dn {B : Nat} {a w : World} (h : Below B a w) (q : Nat) : Below B a (w.drewN q) := ⟨h.os, h.tape, h.output, h.size, h.block⟩
theorem orOf_neg (a b c d : Int) : orOf (cmpOf a b) (cmpOf c d) < 0 ↔ a < b ∨ a = b ∧ c < d := by
  unfold orOf cmpOf
  repeat' split
  all_goals omega
theorem wrap_pred (k : Nat) (h : 0 < k) (h2 : k ≤ 200) : IntKind.i64.wrap ((k : Int) - 1) = ((k - 1 : Nat) : Int) := by
  have e : (k : Int) - 1 = ((k - 1 : Nat) : Int) := by omega
  rw [e]
  simp [IntKind.wrap, IntKind.bits, IntKind.signed]
  omega
theorem cmpOf_neg (a b : Int) : cmpOf a b < 0 ↔ a < b := by
  unfold cmpOf
  repeat' split
  all_goals omega
/-- The element ahead and the one that is asked, and that nothing old has turned. -/
def PrevCell (w : World) (g o k N : Nat) (m0 m1 m2 n0 n1 n2 : Int) (x : World) : Prop := (x.cell? ⟨g, o + (k - 1) * 3, none⟩ = some (.int .i64 m0) ∧ x.cell? ⟨g, o + (k - 1) * 3 + 1, none⟩ = some (.int .i64 m1) ∧ x.cell? ⟨g, o + (k - 1) * 3 + 2, none⟩ = some (.int .i64 m2) ∧ x.cell? ⟨N, 0, none⟩ = some (.int .i64 n0) ∧ x.cell? ⟨N, 1, none⟩ = some (.int .i64 n1) ∧ x.cell? ⟨N, 2, none⟩ = some (.int .i64 n2)) ∧ Below w.heap.size w x
theorem PrevCell.later {w x x' : World} {g o k N : Nat} {m0 m1 m2 n0 n1 n2 : Int} (h : PrevCell w g o k N m0 m1 m2 n0 n1 n2 x) (hb : Below x.heap.size x x') : PrevCell w g o k N m0 m1 m2 n0 n1 n2 x' := by
  obtain ⟨⟨hx0, hx1, hx2, hx3, hx4, hx5⟩, hy⟩ := h
  exact ⟨⟨(hb.cell (World.block_lt_of_cell? x _ hx0)).trans hx0, (hb.cell (World.block_lt_of_cell? x _ hx1)).trans hx1, (hb.cell (World.block_lt_of_cell? x _ hx2)).trans hx2, (hb.cell (World.block_lt_of_cell? x _ hx3)).trans hx3, (hb.cell (World.block_lt_of_cell? x _ hx4)).trans hx4, (hb.cell (World.block_lt_of_cell? x _ hx5)).trans hx5⟩, hy.trans (hb.mono hy.size)⟩
set_option maxRecDepth 100000 in
set_option maxHeartbeats 4000000 in
theorem cellsFault_any (S : Sto) (v : Value) (B : Nat) (w : World) (h : Row w B 3 S.nc S.c v) (hn : S.nc ≤ 200) :
    Calls Tryz.prog 81 #[v] w fun e w' => e = .returned (.int .i64 (scan (cellF S.c) S.nc)) ∧ Below w.heap.size w w' := by
  obtain ⟨ao, cp, rfl⟩ := h.form
  have H : Hid (Row w B 3 S.nc S.c (.slice ao S.nc cp)) := h
  clear h
  go_enter Tryz.func81, Tryz.ntmps81
  go_wp2
  go_loopw [8] (fun i wr => ∃ k : Nat, k ≤ S.nc ∧ i = .int .i64 k ∧ Hid (scan (cellF S.c) k = 0) ∧ Below w.heap.size w wr) (fun i _ => S.nc - (intOf i).toNat)
  case atStart => exact ⟨0, Nat.zero_le _, rfl, rfl, Below.refl _ _⟩
  case round =>
    obtain ⟨k, hk, rfl, HS, hbw⟩ := hrel
    by_cases hlt : k < S.nc
    case neg =>
      have en : k = S.nc := by omega
      have E : Hid (scan (cellF S.c) S.nc = 0) := en ▸ HS.out
      clear HS
      go_wp2
      go_ret
      exact ⟨by rw [E.out]; rfl, hbw⟩
    obtain ⟨g, o, rfl, _, hg, x0, x1, x2⟩ := (H.out.later hbw).at3 hlt
    obtain ⟨n0, N0⟩ : ∃ x, S.c (k * 3) = x := ⟨_, rfl⟩
    rw [N0] at x0
    obtain ⟨n1, N1⟩ : ∃ x, S.c (k * 3 + 1) = x := ⟨_, rfl⟩
    rw [N1] at x1
    obtain ⟨n2, N2⟩ : ∃ x, S.c (k * 3 + 2) = x := ⟨_, rfl⟩
    rw [N2] at x2
    have NN : Hid (S.c (k * 3) = n0 ∧ S.c (k * 3 + 1) = n1 ∧ S.c (k * 3 + 2) = n2) := ⟨N0, N1, N2⟩
    clear N0 N1 N2
    by_cases h0 : faultOf n0 = 0
    case neg =>
      obtain ⟨f, hff⟩ : ∃ f, faultOf n0 = f := ⟨_, rfl⟩
      have L0 : Hid (∀ w, Calls Tryz.prog 72 #[.int .i64 n0] w fun e w' => e = .returned (.int .i64 f) ∧ w' = w) := fun w => hff ▸ keyFault_any n0 w
      have E : Hid (scan (cellF S.c) S.nc = f) := by
        have : cellF S.c k = f := by
          unfold cellF
          rw [NN.out.1, NN.out.2.1, NN.out.2.2]
          rw [if_pos h0]; exact hff
        exact (scan_stop HS.out (by rw [this, ← hff]; exact h0) hlt).trans this
      have hfn : (f == 0) = false := beq_eq_false_iff_ne.2 (by rw [← hff]; exact h0)
      clear hff h0 HS NN
      go_wp2_with fail
      refine (L0.out _).mono ?_
      rintro e w1 ⟨rfl, rfl⟩
      go_wp2
      go_ret
      exact ⟨by rw [E.out]; rfl, by first | exact hbw.alloc hbw.size _ | exact below_dn (hbw.alloc hbw.size _) _ | exact below_dn (below_dn (hbw.alloc hbw.size _) _) _⟩
    have L0 : Hid (∀ w, Calls Tryz.prog 72 #[.int .i64 n0] w fun e w' => e = .returned (.int .i64 0) ∧ w' = w) := fun w => h0 ▸ keyFault_any n0 w
    have G0 : Hid (faultOf n0 = 0) := h0
    clear h0
    by_cases h1 : 1 ≤ n1 ∧ n1 ≤ 100000
    case neg =>
      have L1 : Hid (decide (1 ≤ n1 ∧ n1 ≤ 100000) = false) := decide_eq_false h1
      have E : Hid (scan (cellF S.c) S.nc = 3) := by
        have : cellF S.c k = 3 := by
          unfold cellF
          rw [NN.out.1, NN.out.2.1, NN.out.2.2]
          rw [if_neg (fun h => h G0.out)]
          rw [if_pos (by omega)]
        exact (scan_stop HS.out (by rw [this]; decide) hlt).trans this
      clear h1 HS NN G0
      go_wp2_with fail
      refine (L0.out _).mono ?_
      rintro e w1 ⟨rfl, rfl⟩
      go_wp2_with fail
      refine (isTime_is _ false L1.out _).mono ?_
      rintro e w1 ⟨rfl, rfl⟩
      go_wp2
      go_ret
      exact ⟨by rw [E.out]; rfl, by first | exact hbw.alloc hbw.size _ | exact below_dn (hbw.alloc hbw.size _) _ | exact below_dn (below_dn (hbw.alloc hbw.size _) _) _⟩
    have L1 : Hid (decide (1 ≤ n1 ∧ n1 ≤ 100000) = true) := decide_eq_true h1
    have G1 : Hid (1 ≤ n1 ∧ n1 ≤ 100000) := h1
    clear h1
    by_cases h2 : 0 ≤ n2 ∧ n2 ≤ 9999
    case neg =>
      have L2 : Hid (decide (0 ≤ n2 ∧ n2 ≤ 9999) = false) := decide_eq_false h2
      have E : Hid (scan (cellF S.c) S.nc = 3) := by
        have : cellF S.c k = 3 := by
          unfold cellF
          rw [NN.out.1, NN.out.2.1, NN.out.2.2]
          rw [if_neg (fun h => h G0.out)]
          rw [if_pos (by omega)]
        exact (scan_stop HS.out (by rw [this]; decide) hlt).trans this
      clear h2 HS NN G0 G1
      go_wp2_with fail
      refine (L0.out _).mono ?_
      rintro e w1 ⟨rfl, rfl⟩
      go_wp2_with fail
      refine (isTime_is _ true L1.out _).mono ?_
      rintro e w1 ⟨rfl, rfl⟩
      go_wp2_with fail
      refine (isValue_is _ false L2.out _).mono ?_
      rintro e w1 ⟨rfl, rfl⟩
      go_wp2
      go_ret
      exact ⟨by rw [E.out]; rfl, by first | exact hbw.alloc hbw.size _ | exact below_dn (hbw.alloc hbw.size _) _ | exact below_dn (below_dn (hbw.alloc hbw.size _) _) _⟩
    have L2 : Hid (decide (0 ≤ n2 ∧ n2 ≤ 9999) = true) := decide_eq_true h2
    have G2 : Hid (0 ≤ n2 ∧ n2 ≤ 9999) := h2
    clear h2
    rcases Nat.eq_zero_or_pos k with hk0 | hk0
    · have E : Hid (scan (cellF S.c) (k + 1) = 0) := by
        have : cellF S.c k = 0 := by
          unfold cellF
          rw [NN.out.1, NN.out.2.1, NN.out.2.2]
          rw [if_neg (fun h => h G0.out)]
          have g1 := G1.out; have g2 := G2.out; rw [if_neg (by omega)]
          rw [if_neg (by omega)]
        exact scan_go HS.out this
      have dk : decide (0 < k) = false := decide_eq_false (by omega)
      clear HS NN G0 G1 G2 hk0
      go_wp2_with fail
      refine (L0.out _).mono ?_
      rintro e w1 ⟨rfl, rfl⟩
      go_wp2_with fail
      refine (isTime_is _ true L1.out _).mono ?_
      rintro e w1 ⟨rfl, rfl⟩
      go_wp2_with fail
      refine (isValue_is _ true L2.out _).mono ?_
      rintro e w1 ⟨rfl, rfl⟩
      go_wp2_with fail
      go_quiet (fail)
      go_wp2
      go_roundw
      case rel => exact ⟨k + 1, by omega, by go_num, E, by first | exact hbw.alloc hbw.size _ | exact below_dn (hbw.alloc hbw.size _) _ | exact below_dn (below_dn (hbw.alloc hbw.size _) _) _⟩
      case measure => simp [intOf]; omega
    obtain ⟨g', o', he, _, _, y0, y1, y2⟩ := (H.out.later hbw).at3 (k := k - 1) (by omega)
    simp only [Option.some.injEq, Addr.mk.injEq, and_true] at he
    obtain ⟨rfl, rfl⟩ := he
    obtain ⟨m0, M0⟩ : ∃ x, S.c ((k - 1) * 3) = x := ⟨_, rfl⟩
    rw [M0] at y0
    obtain ⟨m1, M1⟩ : ∃ x, S.c ((k - 1) * 3 + 1) = x := ⟨_, rfl⟩
    rw [M1] at y1
    obtain ⟨m2, M2⟩ : ∃ x, S.c ((k - 1) * 3 + 2) = x := ⟨_, rfl⟩
    rw [M2] at y2
    have MM : Hid (S.c ((k - 1) * 3) = m0 ∧ S.c ((k - 1) * 3 + 1) = m1) := ⟨M0, M1⟩
    clear M0 M1 M2
    have dk : decide (0 < k) = true := decide_eq_true hk0
    have hwr := wrap_pred k hk0 (by omega)
    have hkn : ((k - 1 : Nat) : Int) < (S.nc : Int) := by omega
    obtain ⟨r, HR⟩ : ∃ r, Hid (orOf (cmpOf m0 n0) (cmpOf m1 n1) = r) := ⟨_, rfl⟩
    have HO : Hid (r < 0 ↔ m0 < n0 ∨ m0 = n0 ∧ m1 < n1) := by unfold Hid; rw [← HR.out]; exact orOf_neg _ _ _ _
    have h0 : PrevCell w g o k wr.heap.size m0 m1 m2 n0 n1 n2 (wr.alloc (.cells #[.int .i64 n0, .int .i64 n1, .int .i64 n2] 140)).drew := ⟨⟨(World.cell?_alloc_lt _ _ _ hg).trans y0, (World.cell?_alloc_lt _ _ _ hg).trans y1, (World.cell?_alloc_lt _ _ _ hg).trans y2, World.cell?_alloc_mark wr _ _ _ 0, World.cell?_alloc_mark wr _ _ _ 1, World.cell?_alloc_mark wr _ _ _ 2⟩, (hbw.alloc hbw.size _).drew⟩
    by_cases hr : 0 ≤ r
    · have E : Hid (scan (cellF S.c) S.nc = 1) := by
        have : cellF S.c k = 1 := by
          unfold cellF
          rw [NN.out.1, NN.out.2.1, NN.out.2.2]
          rw [if_neg (fun h => h G0.out)]
          have g1 := G1.out; have g2 := G2.out; rw [if_neg (by omega)]
          rw [MM.out.1, MM.out.2]
          have ho := HO.out
          rw [if_pos (by omega)]
        exact (scan_stop HS.out (by rw [this]; decide) hlt).trans this
      have dr : decide (0 ≤ r) = true := decide_eq_true hr
      clear HS NN G0 G1 G2 MM HO hr
      go_wp2_with fail
      refine (L0.out _).mono ?_
      rintro e w1 ⟨rfl, rfl⟩
      go_wp2_with fail
      refine (isTime_is _ true L1.out _).mono ?_
      rintro e w1 ⟨rfl, rfl⟩
      go_wp2_with fail
      refine (isValue_is _ true L2.out _).mono ?_
      rintro e w1 ⟨rfl, rfl⟩
      go_wp2_with fail
      refine wp_region_held_drew (S := PrevCell w g o k wr.heap.size m0 m1 m2 n0 n1 n2) (by kernel_rfl) h0 (fun hS => ?_)
      clear h0
      refine wpAnyH_take (i := 0) (v := ?_) rfl (by kernel_rfl) (by kernel_rfl) (by kernel_rfl) (fun _ _ _ h => h) (Or.inl ⟨by kernel_rfl, ?_⟩) hS ?_
      rotate_left
      · intro wx hx
        obtain ⟨⟨hx0, hx1, hx2, hx3, hx4, hx5⟩, _⟩ := hx
        go_simp
        try with_reducible rfl
      refine wpAnyH_take (i := 1) (v := ?_) rfl (by kernel_rfl) (by kernel_rfl) (by kernel_rfl) (fun _ _ _ h => h) (Or.inl ⟨by kernel_rfl, ?_⟩) hS ?_
      rotate_left
      · intro wx hx
        obtain ⟨⟨hx0, hx1, hx2, hx3, hx4, hx5⟩, _⟩ := hx
        go_simp
        try with_reducible rfl
      refine wpAnyH_take (i := 2) (v := ?_) rfl (by kernel_rfl) (by kernel_rfl) (by kernel_rfl) (fun _ _ _ h => h) (Or.inl ⟨by kernel_rfl, ?_⟩) hS ?_
      rotate_left
      · intro wx hx
        obtain ⟨⟨hx0, hx1, hx2, hx3, hx4, hx5⟩, _⟩ := hx
        go_simp
        try with_reducible rfl
      refine wpAnyH_take (i := 3) (v := ?_) rfl (by kernel_rfl) (by kernel_rfl) (by kernel_rfl) (fun _ _ _ h => h) (Or.inl ⟨by kernel_rfl, ?_⟩) hS ?_
      rotate_left
      · intro wx hx
        obtain ⟨⟨hx0, hx1, hx2, hx3, hx4, hx5⟩, _⟩ := hx
        go_simp
        try with_reducible rfl
      refine wpAnyH_take (i := 4) (v := ?_) rfl (by kernel_rfl) (by kernel_rfl) (by kernel_rfl) (fun _ _ _ h => h) (Or.inl ⟨by kernel_rfl, ?_⟩) hS ?_
      rotate_left
      · intro wx hx
        obtain ⟨⟨hx0, hx1, hx2, hx3, hx4, hx5⟩, _⟩ := hx
        go_simp
        try with_reducible rfl
      refine wpAnyH_take (i := 5) (v := ?_) rfl (by kernel_rfl) (by kernel_rfl) (by kernel_rfl) (fun _ _ _ h => h) (Or.inl ⟨by kernel_rfl, ?_⟩) hS ?_
      rotate_left
      · intro wx hx
        obtain ⟨⟨hx0, hx1, hx2, hx3, hx4, hx5⟩, _⟩ := hx
        go_simp
        try with_reducible rfl
      refine wpAnyH_take (i := 6) (v := ?_) rfl (by kernel_rfl) (by kernel_rfl) (by kernel_rfl) (fun _ _ _ h => h) (Or.inl ⟨by kernel_rfl, ?_⟩) hS ?_
      rotate_left
      · intro wx hx
        obtain ⟨⟨hx0, hx1, hx2, hx3, hx4, hx5⟩, _⟩ := hx
        go_simp
        try with_reducible rfl
      refine wpAnyH_take (i := 7) (v := ?_) rfl (by kernel_rfl) (by kernel_rfl) (by kernel_rfl) (fun _ _ _ h => h) (Or.inl ⟨by kernel_rfl, ?_⟩) hS ?_
      rotate_left
      · intro wx hx
        obtain ⟨⟨hx0, hx1, hx2, hx3, hx4, hx5⟩, _⟩ := hx
        go_simp
        try with_reducible rfl
      refine wpAnyH_take (i := 8) (v := ?_) rfl (by kernel_rfl) (by kernel_rfl) (by kernel_rfl) (fun _ _ _ h => h) (Or.inl ⟨by kernel_rfl, ?_⟩) hS ?_
      rotate_left
      · intro wx hx
        obtain ⟨⟨hx0, hx1, hx2, hx3, hx4, hx5⟩, _⟩ := hx
        go_simp
        try with_reducible rfl
      refine wpAnyH_ready (rs := [9]) (by kernel_rfl) (by simp) ?_
      refine AllReadyH.cons rfl (fun K hK => ?_) AllReadyH.nil
      go_simp
      go_wp2_with fail
      refine (compareCells_is _ _ _ _ _ _ r HR.out _).mono ?_
      rintro e w1 ⟨rfl, q1⟩
      have hS' := hS.later q1
      clear q1
      go_wp2_with fail
      refine hK.out _ _ hS' (fun hS => ?_)
      clear hK K hS'
      refine wpAnyH_take (i := 10) (v := ?_) rfl (by kernel_rfl) (by kernel_rfl) (by kernel_rfl) (fun _ _ _ h => h) (Or.inl ⟨by kernel_rfl, ?_⟩) hS ?_
      rotate_left
      · intro wx hx
        obtain ⟨⟨hx0, hx1, hx2, hx3, hx4, hx5⟩, _⟩ := hx
        go_simp
        try with_reducible rfl
      refine wpAnyH_take (i := 11) (v := ?_) rfl (by kernel_rfl) (by kernel_rfl) (by kernel_rfl) (fun _ _ _ h => h) (Or.inl ⟨by kernel_rfl, ?_⟩) hS ?_
      rotate_left
      · intro wx hx
        obtain ⟨⟨hx0, hx1, hx2, hx3, hx4, hx5⟩, _⟩ := hx
        go_simp
        try with_reducible rfl
      refine wpAnyH_done (by kernel_rfl) ?_ _
      go_simp
      go_wp2
      go_ret
      exact ⟨by rw [E.out]; rfl, hS.2⟩
    · have E : Hid (scan (cellF S.c) (k + 1) = 0) := by
        have : cellF S.c k = 0 := by
          unfold cellF
          rw [NN.out.1, NN.out.2.1, NN.out.2.2]
          rw [if_neg (fun h => h G0.out)]
          have g1 := G1.out; have g2 := G2.out; rw [if_neg (by omega)]
          rw [MM.out.1, MM.out.2]
          have ho := HO.out
          rw [if_neg (by omega)]
        exact scan_go HS.out this
      have dr : decide (0 ≤ r) = false := decide_eq_false hr
      clear HS NN G0 G1 G2 MM HO hr
      go_wp2_with fail
      refine (L0.out _).mono ?_
      rintro e w1 ⟨rfl, rfl⟩
      go_wp2_with fail
      refine (isTime_is _ true L1.out _).mono ?_
      rintro e w1 ⟨rfl, rfl⟩
      go_wp2_with fail
      refine (isValue_is _ true L2.out _).mono ?_
      rintro e w1 ⟨rfl, rfl⟩
      go_wp2_with fail
      refine wp_region_held_drew (S := PrevCell w g o k wr.heap.size m0 m1 m2 n0 n1 n2) (by kernel_rfl) h0 (fun hS => ?_)
      clear h0
      refine wpAnyH_take (i := 0) (v := ?_) rfl (by kernel_rfl) (by kernel_rfl) (by kernel_rfl) (fun _ _ _ h => h) (Or.inl ⟨by kernel_rfl, ?_⟩) hS ?_
      rotate_left
      · intro wx hx
        obtain ⟨⟨hx0, hx1, hx2, hx3, hx4, hx5⟩, _⟩ := hx
        go_simp
        try with_reducible rfl
      refine wpAnyH_take (i := 1) (v := ?_) rfl (by kernel_rfl) (by kernel_rfl) (by kernel_rfl) (fun _ _ _ h => h) (Or.inl ⟨by kernel_rfl, ?_⟩) hS ?_
      rotate_left
      · intro wx hx
        obtain ⟨⟨hx0, hx1, hx2, hx3, hx4, hx5⟩, _⟩ := hx
        go_simp
        try with_reducible rfl
      refine wpAnyH_take (i := 2) (v := ?_) rfl (by kernel_rfl) (by kernel_rfl) (by kernel_rfl) (fun _ _ _ h => h) (Or.inl ⟨by kernel_rfl, ?_⟩) hS ?_
      rotate_left
      · intro wx hx
        obtain ⟨⟨hx0, hx1, hx2, hx3, hx4, hx5⟩, _⟩ := hx
        go_simp
        try with_reducible rfl
      refine wpAnyH_take (i := 3) (v := ?_) rfl (by kernel_rfl) (by kernel_rfl) (by kernel_rfl) (fun _ _ _ h => h) (Or.inl ⟨by kernel_rfl, ?_⟩) hS ?_
      rotate_left
      · intro wx hx
        obtain ⟨⟨hx0, hx1, hx2, hx3, hx4, hx5⟩, _⟩ := hx
        go_simp
        try with_reducible rfl
      refine wpAnyH_take (i := 4) (v := ?_) rfl (by kernel_rfl) (by kernel_rfl) (by kernel_rfl) (fun _ _ _ h => h) (Or.inl ⟨by kernel_rfl, ?_⟩) hS ?_
      rotate_left
      · intro wx hx
        obtain ⟨⟨hx0, hx1, hx2, hx3, hx4, hx5⟩, _⟩ := hx
        go_simp
        try with_reducible rfl
      refine wpAnyH_take (i := 5) (v := ?_) rfl (by kernel_rfl) (by kernel_rfl) (by kernel_rfl) (fun _ _ _ h => h) (Or.inl ⟨by kernel_rfl, ?_⟩) hS ?_
      rotate_left
      · intro wx hx
        obtain ⟨⟨hx0, hx1, hx2, hx3, hx4, hx5⟩, _⟩ := hx
        go_simp
        try with_reducible rfl
      refine wpAnyH_take (i := 6) (v := ?_) rfl (by kernel_rfl) (by kernel_rfl) (by kernel_rfl) (fun _ _ _ h => h) (Or.inl ⟨by kernel_rfl, ?_⟩) hS ?_
      rotate_left
      · intro wx hx
        obtain ⟨⟨hx0, hx1, hx2, hx3, hx4, hx5⟩, _⟩ := hx
        go_simp
        try with_reducible rfl
      refine wpAnyH_take (i := 7) (v := ?_) rfl (by kernel_rfl) (by kernel_rfl) (by kernel_rfl) (fun _ _ _ h => h) (Or.inl ⟨by kernel_rfl, ?_⟩) hS ?_
      rotate_left
      · intro wx hx
        obtain ⟨⟨hx0, hx1, hx2, hx3, hx4, hx5⟩, _⟩ := hx
        go_simp
        try with_reducible rfl
      refine wpAnyH_take (i := 8) (v := ?_) rfl (by kernel_rfl) (by kernel_rfl) (by kernel_rfl) (fun _ _ _ h => h) (Or.inl ⟨by kernel_rfl, ?_⟩) hS ?_
      rotate_left
      · intro wx hx
        obtain ⟨⟨hx0, hx1, hx2, hx3, hx4, hx5⟩, _⟩ := hx
        go_simp
        try with_reducible rfl
      refine wpAnyH_ready (rs := [9]) (by kernel_rfl) (by simp) ?_
      refine AllReadyH.cons rfl (fun K hK => ?_) AllReadyH.nil
      go_simp
      go_wp2_with fail
      refine (compareCells_is _ _ _ _ _ _ r HR.out _).mono ?_
      rintro e w1 ⟨rfl, q1⟩
      have hS' := hS.later q1
      clear q1
      go_wp2_with fail
      refine hK.out _ _ hS' (fun hS => ?_)
      clear hK K hS'
      refine wpAnyH_take (i := 10) (v := ?_) rfl (by kernel_rfl) (by kernel_rfl) (by kernel_rfl) (fun _ _ _ h => h) (Or.inl ⟨by kernel_rfl, ?_⟩) hS ?_
      rotate_left
      · intro wx hx
        obtain ⟨⟨hx0, hx1, hx2, hx3, hx4, hx5⟩, _⟩ := hx
        go_simp
        try with_reducible rfl
      refine wpAnyH_take (i := 11) (v := ?_) rfl (by kernel_rfl) (by kernel_rfl) (by kernel_rfl) (fun _ _ _ h => h) (Or.inl ⟨by kernel_rfl, ?_⟩) hS ?_
      rotate_left
      · intro wx hx
        obtain ⟨⟨hx0, hx1, hx2, hx3, hx4, hx5⟩, _⟩ := hx
        go_simp
        try with_reducible rfl
      refine wpAnyH_done (by kernel_rfl) ?_ _
      go_simp
      go_wp2
      go_roundw
      case rel => exact ⟨k + 1, by omega, by go_num, E, hS.2⟩
      case measure => simp [intOf]; omega

/-- The element ahead and the one that is asked, and that nothing old has turned. -/
def PrevLock (w : World) (g o k N : Nat) (m0 m1 m2 m3 m4 n0 n1 n2 n3 n4 : Int) (x : World) : Prop := (x.cell? ⟨g, o + (k - 1) * 5, none⟩ = some (.int .i64 m0) ∧ x.cell? ⟨g, o + (k - 1) * 5 + 1, none⟩ = some (.int .i64 m1) ∧ x.cell? ⟨g, o + (k - 1) * 5 + 2, none⟩ = some (.int .i64 m2) ∧ x.cell? ⟨g, o + (k - 1) * 5 + 3, none⟩ = some (.int .i64 m3) ∧ x.cell? ⟨g, o + (k - 1) * 5 + 4, none⟩ = some (.int .i64 m4) ∧ x.cell? ⟨N, 0, none⟩ = some (.int .i64 n0) ∧ x.cell? ⟨N, 1, none⟩ = some (.int .i64 n1) ∧ x.cell? ⟨N, 2, none⟩ = some (.int .i64 n2) ∧ x.cell? ⟨N, 3, none⟩ = some (.int .i64 n3) ∧ x.cell? ⟨N, 4, none⟩ = some (.int .i64 n4)) ∧ Below w.heap.size w x
theorem PrevLock.later {w x x' : World} {g o k N : Nat} {m0 m1 m2 m3 m4 n0 n1 n2 n3 n4 : Int} (h : PrevLock w g o k N m0 m1 m2 m3 m4 n0 n1 n2 n3 n4 x) (hb : Below x.heap.size x x') : PrevLock w g o k N m0 m1 m2 m3 m4 n0 n1 n2 n3 n4 x' := by
  obtain ⟨⟨hx0, hx1, hx2, hx3, hx4, hx5, hx6, hx7, hx8, hx9⟩, hy⟩ := h
  exact ⟨⟨(hb.cell (World.block_lt_of_cell? x _ hx0)).trans hx0, (hb.cell (World.block_lt_of_cell? x _ hx1)).trans hx1, (hb.cell (World.block_lt_of_cell? x _ hx2)).trans hx2, (hb.cell (World.block_lt_of_cell? x _ hx3)).trans hx3, (hb.cell (World.block_lt_of_cell? x _ hx4)).trans hx4, (hb.cell (World.block_lt_of_cell? x _ hx5)).trans hx5, (hb.cell (World.block_lt_of_cell? x _ hx6)).trans hx6, (hb.cell (World.block_lt_of_cell? x _ hx7)).trans hx7, (hb.cell (World.block_lt_of_cell? x _ hx8)).trans hx8, (hb.cell (World.block_lt_of_cell? x _ hx9)).trans hx9⟩, hy.trans (hb.mono hy.size)⟩
set_option maxRecDepth 100000 in
set_option maxHeartbeats 4000000 in
theorem locksFault_any (S : Sto) (v : Value) (B : Nat) (w : World) (h : Row w B 5 S.nl S.l v) (hn : S.nl ≤ 200) :
    Calls Tryz.prog 82 #[v] w fun e w' => e = .returned (.int .i64 (scan (lockF S.l) S.nl)) ∧ Below w.heap.size w w' := by
  obtain ⟨ao, cp, rfl⟩ := h.form
  have H : Hid (Row w B 5 S.nl S.l (.slice ao S.nl cp)) := h
  clear h
  go_enter Tryz.func82, Tryz.ntmps82
  go_wp2
  go_loopw [9] (fun i wr => ∃ k : Nat, k ≤ S.nl ∧ i = .int .i64 k ∧ Hid (scan (lockF S.l) k = 0) ∧ Below w.heap.size w wr) (fun i _ => S.nl - (intOf i).toNat)
  case atStart => exact ⟨0, Nat.zero_le _, rfl, rfl, Below.refl _ _⟩
  case round =>
    obtain ⟨k, hk, rfl, HS, hbw⟩ := hrel
    by_cases hlt : k < S.nl
    case neg =>
      have en : k = S.nl := by omega
      have E : Hid (scan (lockF S.l) S.nl = 0) := en ▸ HS.out
      clear HS
      go_wp2
      go_ret
      exact ⟨by rw [E.out]; rfl, hbw⟩
    obtain ⟨g, o, rfl, _, hg, x0, x1, x2, x3, x4⟩ := (H.out.later hbw).at5 hlt
    obtain ⟨n0, N0⟩ : ∃ x, S.l (k * 5) = x := ⟨_, rfl⟩
    rw [N0] at x0
    obtain ⟨n1, N1⟩ : ∃ x, S.l (k * 5 + 1) = x := ⟨_, rfl⟩
    rw [N1] at x1
    obtain ⟨n2, N2⟩ : ∃ x, S.l (k * 5 + 2) = x := ⟨_, rfl⟩
    rw [N2] at x2
    obtain ⟨n3, N3⟩ : ∃ x, S.l (k * 5 + 3) = x := ⟨_, rfl⟩
    rw [N3] at x3
    obtain ⟨n4, N4⟩ : ∃ x, S.l (k * 5 + 4) = x := ⟨_, rfl⟩
    rw [N4] at x4
    have NN : Hid (S.l (k * 5) = n0 ∧ S.l (k * 5 + 1) = n1 ∧ S.l (k * 5 + 2) = n2 ∧ S.l (k * 5 + 3) = n3 ∧ S.l (k * 5 + 4) = n4) := ⟨N0, N1, N2, N3, N4⟩
    clear N0 N1 N2 N3 N4
    by_cases h0 : faultOf n0 = 0
    case neg =>
      obtain ⟨f, hff⟩ : ∃ f, faultOf n0 = f := ⟨_, rfl⟩
      have L0 : Hid (∀ w, Calls Tryz.prog 72 #[.int .i64 n0] w fun e w' => e = .returned (.int .i64 f) ∧ w' = w) := fun w => hff ▸ keyFault_any n0 w
      have E : Hid (scan (lockF S.l) S.nl = f) := by
        have : lockF S.l k = f := by
          unfold lockF
          rw [NN.out.1, NN.out.2.1, NN.out.2.2.1, NN.out.2.2.2.1, NN.out.2.2.2.2]
          rw [if_pos h0]; exact hff
        exact (scan_stop HS.out (by rw [this, ← hff]; exact h0) hlt).trans this
      have hfn : (f == 0) = false := beq_eq_false_iff_ne.2 (by rw [← hff]; exact h0)
      clear hff h0 HS NN
      go_wp2_with fail
      refine (L0.out _).mono ?_
      rintro e w1 ⟨rfl, rfl⟩
      go_wp2
      go_ret
      exact ⟨by rw [E.out]; rfl, by first | exact hbw.alloc hbw.size _ | exact below_dn (hbw.alloc hbw.size _) _ | exact below_dn (below_dn (hbw.alloc hbw.size _) _) _⟩
    have L0 : Hid (∀ w, Calls Tryz.prog 72 #[.int .i64 n0] w fun e w' => e = .returned (.int .i64 0) ∧ w' = w) := fun w => h0 ▸ keyFault_any n0 w
    have G0 : Hid (faultOf n0 = 0) := h0
    clear h0
    by_cases h1 : faultOf n3 = 0
    case neg =>
      obtain ⟨f, hff⟩ : ∃ f, faultOf n3 = f := ⟨_, rfl⟩
      have L1 : Hid (∀ w, Calls Tryz.prog 72 #[.int .i64 n3] w fun e w' => e = .returned (.int .i64 f) ∧ w' = w) := fun w => hff ▸ keyFault_any n3 w
      have E : Hid (scan (lockF S.l) S.nl = f) := by
        have : lockF S.l k = f := by
          unfold lockF
          rw [NN.out.1, NN.out.2.1, NN.out.2.2.1, NN.out.2.2.2.1, NN.out.2.2.2.2]
          rw [if_neg (fun h => h G0.out)]
          rw [if_pos h1]; exact hff
        exact (scan_stop HS.out (by rw [this, ← hff]; exact h1) hlt).trans this
      have hfn : (f == 0) = false := beq_eq_false_iff_ne.2 (by rw [← hff]; exact h1)
      clear hff h1 HS NN G0
      go_wp2_with fail
      refine (L0.out _).mono ?_
      rintro e w1 ⟨rfl, rfl⟩
      go_wp2_with fail
      refine (L1.out _).mono ?_
      rintro e w1 ⟨rfl, rfl⟩
      go_wp2
      go_ret
      exact ⟨by rw [E.out]; rfl, by first | exact hbw.alloc hbw.size _ | exact below_dn (hbw.alloc hbw.size _) _ | exact below_dn (below_dn (hbw.alloc hbw.size _) _) _⟩
    have L1 : Hid (∀ w, Calls Tryz.prog 72 #[.int .i64 n3] w fun e w' => e = .returned (.int .i64 0) ∧ w' = w) := fun w => h1 ▸ keyFault_any n3 w
    have G1 : Hid (faultOf n3 = 0) := h1
    clear h1
    by_cases h2 : 1 ≤ n1 ∧ n1 ≤ 100000
    case neg =>
      have L2 : Hid (decide (1 ≤ n1 ∧ n1 ≤ 100000) = false) := decide_eq_false h2
      have E : Hid (scan (lockF S.l) S.nl = 3) := by
        have : lockF S.l k = 3 := by
          unfold lockF
          rw [NN.out.1, NN.out.2.1, NN.out.2.2.1, NN.out.2.2.2.1, NN.out.2.2.2.2]
          rw [if_neg (fun h => h G0.out)]
          rw [if_neg (fun h => h G1.out)]
          rw [if_pos (by omega)]
        exact (scan_stop HS.out (by rw [this]; decide) hlt).trans this
      clear h2 HS NN G0 G1
      go_wp2_with fail
      refine (L0.out _).mono ?_
      rintro e w1 ⟨rfl, rfl⟩
      go_wp2_with fail
      refine (L1.out _).mono ?_
      rintro e w1 ⟨rfl, rfl⟩
      go_wp2_with fail
      refine (isTime_is _ false L2.out _).mono ?_
      rintro e w1 ⟨rfl, rfl⟩
      go_wp2
      go_ret
      exact ⟨by rw [E.out]; rfl, by first | exact hbw.alloc hbw.size _ | exact below_dn (hbw.alloc hbw.size _) _ | exact below_dn (below_dn (hbw.alloc hbw.size _) _) _⟩
    have L2 : Hid (decide (1 ≤ n1 ∧ n1 ≤ 100000) = true) := decide_eq_true h2
    have G2 : Hid (1 ≤ n1 ∧ n1 ≤ 100000) := h2
    clear h2
    by_cases h3 : 1 ≤ n2 ∧ n2 ≤ 3
    case neg =>
      have L3 : Hid (decide (1 ≤ n2 ∧ n2 ≤ 3) = false) := decide_eq_false h3
      have E : Hid (scan (lockF S.l) S.nl = 3) := by
        have : lockF S.l k = 3 := by
          unfold lockF
          rw [NN.out.1, NN.out.2.1, NN.out.2.2.1, NN.out.2.2.2.1, NN.out.2.2.2.2]
          rw [if_neg (fun h => h G0.out)]
          rw [if_neg (fun h => h G1.out)]
          rw [if_pos (by omega)]
        exact (scan_stop HS.out (by rw [this]; decide) hlt).trans this
      clear h3 HS NN G0 G1 G2
      go_wp2_with fail
      refine (L0.out _).mono ?_
      rintro e w1 ⟨rfl, rfl⟩
      go_wp2_with fail
      refine (L1.out _).mono ?_
      rintro e w1 ⟨rfl, rfl⟩
      go_wp2_with fail
      refine (isTime_is _ true L2.out _).mono ?_
      rintro e w1 ⟨rfl, rfl⟩
      go_wp2_with fail
      refine (isLockKind_is _ false L3.out _).mono ?_
      rintro e w1 ⟨rfl, rfl⟩
      go_wp2
      go_ret
      exact ⟨by rw [E.out]; rfl, by first | exact hbw.alloc hbw.size _ | exact below_dn (hbw.alloc hbw.size _) _ | exact below_dn (below_dn (hbw.alloc hbw.size _) _) _⟩
    have L3 : Hid (decide (1 ≤ n2 ∧ n2 ≤ 3) = true) := decide_eq_true h3
    have G3 : Hid (1 ≤ n2 ∧ n2 ≤ 3) := h3
    clear h3
    by_cases h4 : 0 ≤ n4 ∧ n4 ≤ 100000
    case neg =>
      have L4 : Hid (decide (0 ≤ n4 ∧ n4 ≤ 100000) = false) := decide_eq_false h4
      have E : Hid (scan (lockF S.l) S.nl = 3) := by
        have : lockF S.l k = 3 := by
          unfold lockF
          rw [NN.out.1, NN.out.2.1, NN.out.2.2.1, NN.out.2.2.2.1, NN.out.2.2.2.2]
          rw [if_neg (fun h => h G0.out)]
          rw [if_neg (fun h => h G1.out)]
          rw [if_pos (by omega)]
        exact (scan_stop HS.out (by rw [this]; decide) hlt).trans this
      clear h4 HS NN G0 G1 G2 G3
      go_wp2_with fail
      refine (L0.out _).mono ?_
      rintro e w1 ⟨rfl, rfl⟩
      go_wp2_with fail
      refine (L1.out _).mono ?_
      rintro e w1 ⟨rfl, rfl⟩
      go_wp2_with fail
      refine (isTime_is _ true L2.out _).mono ?_
      rintro e w1 ⟨rfl, rfl⟩
      go_wp2_with fail
      refine (isLockKind_is _ true L3.out _).mono ?_
      rintro e w1 ⟨rfl, rfl⟩
      go_wp2_with fail
      refine (isUntil_is _ false L4.out _).mono ?_
      rintro e w1 ⟨rfl, rfl⟩
      go_wp2
      go_ret
      exact ⟨by rw [E.out]; rfl, by first | exact hbw.alloc hbw.size _ | exact below_dn (hbw.alloc hbw.size _) _ | exact below_dn (below_dn (hbw.alloc hbw.size _) _) _⟩
    have L4 : Hid (decide (0 ≤ n4 ∧ n4 ≤ 100000) = true) := decide_eq_true h4
    have G4 : Hid (0 ≤ n4 ∧ n4 ≤ 100000) := h4
    clear h4
    rcases Nat.eq_zero_or_pos k with hk0 | hk0
    · have E : Hid (scan (lockF S.l) (k + 1) = 0) := by
        have : lockF S.l k = 0 := by
          unfold lockF
          rw [NN.out.1, NN.out.2.1, NN.out.2.2.1, NN.out.2.2.2.1, NN.out.2.2.2.2]
          rw [if_neg (fun h => h G0.out)]
          rw [if_neg (fun h => h G1.out)]
          have g2 := G2.out; have g3 := G3.out; have g4 := G4.out; rw [if_neg (by omega)]
          rw [if_neg (by omega)]
        exact scan_go HS.out this
      have dk : decide (0 < k) = false := decide_eq_false (by omega)
      clear HS NN G0 G1 G2 G3 G4 hk0
      go_wp2_with fail
      refine (L0.out _).mono ?_
      rintro e w1 ⟨rfl, rfl⟩
      go_wp2_with fail
      refine (L1.out _).mono ?_
      rintro e w1 ⟨rfl, rfl⟩
      go_wp2_with fail
      refine (isTime_is _ true L2.out _).mono ?_
      rintro e w1 ⟨rfl, rfl⟩
      go_wp2_with fail
      refine (isLockKind_is _ true L3.out _).mono ?_
      rintro e w1 ⟨rfl, rfl⟩
      go_wp2_with fail
      refine (isUntil_is _ true L4.out _).mono ?_
      rintro e w1 ⟨rfl, rfl⟩
      go_wp2_with fail
      go_quiet (fail)
      go_wp2
      go_roundw
      case rel => exact ⟨k + 1, by omega, by go_num, E, by first | exact hbw.alloc hbw.size _ | exact below_dn (hbw.alloc hbw.size _) _ | exact below_dn (below_dn (hbw.alloc hbw.size _) _) _⟩
      case measure => simp [intOf]; omega
    obtain ⟨g', o', he, _, _, y0, y1, y2, y3, y4⟩ := (H.out.later hbw).at5 (k := k - 1) (by omega)
    simp only [Option.some.injEq, Addr.mk.injEq, and_true] at he
    obtain ⟨rfl, rfl⟩ := he
    obtain ⟨m0, M0⟩ : ∃ x, S.l ((k - 1) * 5) = x := ⟨_, rfl⟩
    rw [M0] at y0
    obtain ⟨m1, M1⟩ : ∃ x, S.l ((k - 1) * 5 + 1) = x := ⟨_, rfl⟩
    rw [M1] at y1
    obtain ⟨m2, M2⟩ : ∃ x, S.l ((k - 1) * 5 + 2) = x := ⟨_, rfl⟩
    rw [M2] at y2
    obtain ⟨m3, M3⟩ : ∃ x, S.l ((k - 1) * 5 + 3) = x := ⟨_, rfl⟩
    rw [M3] at y3
    obtain ⟨m4, M4⟩ : ∃ x, S.l ((k - 1) * 5 + 4) = x := ⟨_, rfl⟩
    rw [M4] at y4
    have MM : Hid (S.l ((k - 1) * 5) = m0 ∧ S.l ((k - 1) * 5 + 1) = m1) := ⟨M0, M1⟩
    clear M0 M1 M2 M3 M4
    have dk : decide (0 < k) = true := decide_eq_true hk0
    have hwr := wrap_pred k hk0 (by omega)
    have hkn : ((k - 1 : Nat) : Int) < (S.nl : Int) := by omega
    obtain ⟨r, HR⟩ : ∃ r, Hid (cmpOf m0 n0 = r) := ⟨_, rfl⟩
    have HO : Hid (r < 0 ↔ m0 < n0) := by unfold Hid; rw [← HR.out]; exact cmpOf_neg _ _
    have h0 : PrevLock w g o k wr.heap.size m0 m1 m2 m3 m4 n0 n1 n2 n3 n4 (wr.alloc (.cells #[.int .i64 n0, .int .i64 n1, .int .i64 n2, .int .i64 n3, .int .i64 n4] 96)).drew := ⟨⟨(World.cell?_alloc_lt _ _ _ hg).trans y0, (World.cell?_alloc_lt _ _ _ hg).trans y1, (World.cell?_alloc_lt _ _ _ hg).trans y2, (World.cell?_alloc_lt _ _ _ hg).trans y3, (World.cell?_alloc_lt _ _ _ hg).trans y4, World.cell?_alloc_mark wr _ _ _ 0, World.cell?_alloc_mark wr _ _ _ 1, World.cell?_alloc_mark wr _ _ _ 2, World.cell?_alloc_mark wr _ _ _ 3, World.cell?_alloc_mark wr _ _ _ 4⟩, (hbw.alloc hbw.size _).drew⟩
    by_cases hr : 0 ≤ r
    · have E : Hid (scan (lockF S.l) S.nl = 1) := by
        have : lockF S.l k = 1 := by
          unfold lockF
          rw [NN.out.1, NN.out.2.1, NN.out.2.2.1, NN.out.2.2.2.1, NN.out.2.2.2.2]
          rw [if_neg (fun h => h G0.out)]
          rw [if_neg (fun h => h G1.out)]
          have g2 := G2.out; have g3 := G3.out; have g4 := G4.out; rw [if_neg (by omega)]
          rw [MM.out.1]
          have ho := HO.out
          rw [if_pos (by omega)]
        exact (scan_stop HS.out (by rw [this]; decide) hlt).trans this
      have dr : decide (0 ≤ r) = true := decide_eq_true hr
      clear HS NN G0 G1 G2 G3 G4 MM HO hr
      go_wp2_with fail
      refine (L0.out _).mono ?_
      rintro e w1 ⟨rfl, rfl⟩
      go_wp2_with fail
      refine (L1.out _).mono ?_
      rintro e w1 ⟨rfl, rfl⟩
      go_wp2_with fail
      refine (isTime_is _ true L2.out _).mono ?_
      rintro e w1 ⟨rfl, rfl⟩
      go_wp2_with fail
      refine (isLockKind_is _ true L3.out _).mono ?_
      rintro e w1 ⟨rfl, rfl⟩
      go_wp2_with fail
      refine (isUntil_is _ true L4.out _).mono ?_
      rintro e w1 ⟨rfl, rfl⟩
      go_wp2_with fail
      refine wp_region_held_drew (S := PrevLock w g o k wr.heap.size m0 m1 m2 m3 m4 n0 n1 n2 n3 n4) (by kernel_rfl) h0 (fun hS => ?_)
      clear h0
      refine wpAnyH_take (i := 0) (v := ?_) rfl (by kernel_rfl) (by kernel_rfl) (by kernel_rfl) (fun _ _ _ h => h) (Or.inl ⟨by kernel_rfl, ?_⟩) hS ?_
      rotate_left
      · intro wx hx
        obtain ⟨⟨hx0, hx1, hx2, hx3, hx4, hx5, hx6, hx7, hx8, hx9⟩, _⟩ := hx
        go_simp
        try with_reducible rfl
      refine wpAnyH_take (i := 1) (v := ?_) rfl (by kernel_rfl) (by kernel_rfl) (by kernel_rfl) (fun _ _ _ h => h) (Or.inl ⟨by kernel_rfl, ?_⟩) hS ?_
      rotate_left
      · intro wx hx
        obtain ⟨⟨hx0, hx1, hx2, hx3, hx4, hx5, hx6, hx7, hx8, hx9⟩, _⟩ := hx
        go_simp
        try with_reducible rfl
      refine wpAnyH_take (i := 2) (v := ?_) rfl (by kernel_rfl) (by kernel_rfl) (by kernel_rfl) (fun _ _ _ h => h) (Or.inl ⟨by kernel_rfl, ?_⟩) hS ?_
      rotate_left
      · intro wx hx
        obtain ⟨⟨hx0, hx1, hx2, hx3, hx4, hx5, hx6, hx7, hx8, hx9⟩, _⟩ := hx
        go_simp
        try with_reducible rfl
      refine wpAnyH_take (i := 3) (v := ?_) rfl (by kernel_rfl) (by kernel_rfl) (by kernel_rfl) (fun _ _ _ h => h) (Or.inl ⟨by kernel_rfl, ?_⟩) hS ?_
      rotate_left
      · intro wx hx
        obtain ⟨⟨hx0, hx1, hx2, hx3, hx4, hx5, hx6, hx7, hx8, hx9⟩, _⟩ := hx
        go_simp
        try with_reducible rfl
      refine wpAnyH_take (i := 4) (v := ?_) rfl (by kernel_rfl) (by kernel_rfl) (by kernel_rfl) (fun _ _ _ h => h) (Or.inl ⟨by kernel_rfl, ?_⟩) hS ?_
      rotate_left
      · intro wx hx
        obtain ⟨⟨hx0, hx1, hx2, hx3, hx4, hx5, hx6, hx7, hx8, hx9⟩, _⟩ := hx
        go_simp
        try with_reducible rfl
      refine wpAnyH_take (i := 5) (v := ?_) rfl (by kernel_rfl) (by kernel_rfl) (by kernel_rfl) (fun _ _ _ h => h) (Or.inl ⟨by kernel_rfl, ?_⟩) hS ?_
      rotate_left
      · intro wx hx
        obtain ⟨⟨hx0, hx1, hx2, hx3, hx4, hx5, hx6, hx7, hx8, hx9⟩, _⟩ := hx
        go_simp
        try with_reducible rfl
      refine wpAnyH_take (i := 6) (v := ?_) rfl (by kernel_rfl) (by kernel_rfl) (by kernel_rfl) (fun _ _ _ h => h) (Or.inl ⟨by kernel_rfl, ?_⟩) hS ?_
      rotate_left
      · intro wx hx
        obtain ⟨⟨hx0, hx1, hx2, hx3, hx4, hx5, hx6, hx7, hx8, hx9⟩, _⟩ := hx
        go_simp
        try with_reducible rfl
      refine wpAnyH_take (i := 7) (v := ?_) rfl (by kernel_rfl) (by kernel_rfl) (by kernel_rfl) (fun _ _ _ h => h) (Or.inl ⟨by kernel_rfl, ?_⟩) hS ?_
      rotate_left
      · intro wx hx
        obtain ⟨⟨hx0, hx1, hx2, hx3, hx4, hx5, hx6, hx7, hx8, hx9⟩, _⟩ := hx
        go_simp
        try with_reducible rfl
      refine wpAnyH_take (i := 8) (v := ?_) rfl (by kernel_rfl) (by kernel_rfl) (by kernel_rfl) (fun _ _ _ h => h) (Or.inl ⟨by kernel_rfl, ?_⟩) hS ?_
      rotate_left
      · intro wx hx
        obtain ⟨⟨hx0, hx1, hx2, hx3, hx4, hx5, hx6, hx7, hx8, hx9⟩, _⟩ := hx
        go_simp
        try with_reducible rfl
      refine wpAnyH_ready (rs := [9]) (by kernel_rfl) (by simp) ?_
      refine AllReadyH.cons rfl (fun K hK => ?_) AllReadyH.nil
      go_simp
      go_wp2_with fail
      refine (compareLocks_is _ _ _ _ _ _ _ _ _ _ r HR.out _).mono ?_
      rintro e w1 ⟨rfl, q1⟩
      have hS' := hS.later q1
      clear q1
      go_wp2_with fail
      refine hK.out _ _ hS' (fun hS => ?_)
      clear hK K hS'
      refine wpAnyH_take (i := 10) (v := ?_) rfl (by kernel_rfl) (by kernel_rfl) (by kernel_rfl) (fun _ _ _ h => h) (Or.inl ⟨by kernel_rfl, ?_⟩) hS ?_
      rotate_left
      · intro wx hx
        obtain ⟨⟨hx0, hx1, hx2, hx3, hx4, hx5, hx6, hx7, hx8, hx9⟩, _⟩ := hx
        go_simp
        try with_reducible rfl
      refine wpAnyH_take (i := 11) (v := ?_) rfl (by kernel_rfl) (by kernel_rfl) (by kernel_rfl) (fun _ _ _ h => h) (Or.inl ⟨by kernel_rfl, ?_⟩) hS ?_
      rotate_left
      · intro wx hx
        obtain ⟨⟨hx0, hx1, hx2, hx3, hx4, hx5, hx6, hx7, hx8, hx9⟩, _⟩ := hx
        go_simp
        try with_reducible rfl
      refine wpAnyH_done (by kernel_rfl) ?_ _
      go_simp
      go_wp2
      go_ret
      exact ⟨by rw [E.out]; rfl, hS.2⟩
    · have E : Hid (scan (lockF S.l) (k + 1) = 0) := by
        have : lockF S.l k = 0 := by
          unfold lockF
          rw [NN.out.1, NN.out.2.1, NN.out.2.2.1, NN.out.2.2.2.1, NN.out.2.2.2.2]
          rw [if_neg (fun h => h G0.out)]
          rw [if_neg (fun h => h G1.out)]
          have g2 := G2.out; have g3 := G3.out; have g4 := G4.out; rw [if_neg (by omega)]
          rw [MM.out.1]
          have ho := HO.out
          rw [if_neg (by omega)]
        exact scan_go HS.out this
      have dr : decide (0 ≤ r) = false := decide_eq_false hr
      clear HS NN G0 G1 G2 G3 G4 MM HO hr
      go_wp2_with fail
      refine (L0.out _).mono ?_
      rintro e w1 ⟨rfl, rfl⟩
      go_wp2_with fail
      refine (L1.out _).mono ?_
      rintro e w1 ⟨rfl, rfl⟩
      go_wp2_with fail
      refine (isTime_is _ true L2.out _).mono ?_
      rintro e w1 ⟨rfl, rfl⟩
      go_wp2_with fail
      refine (isLockKind_is _ true L3.out _).mono ?_
      rintro e w1 ⟨rfl, rfl⟩
      go_wp2_with fail
      refine (isUntil_is _ true L4.out _).mono ?_
      rintro e w1 ⟨rfl, rfl⟩
      go_wp2_with fail
      refine wp_region_held_drew (S := PrevLock w g o k wr.heap.size m0 m1 m2 m3 m4 n0 n1 n2 n3 n4) (by kernel_rfl) h0 (fun hS => ?_)
      clear h0
      refine wpAnyH_take (i := 0) (v := ?_) rfl (by kernel_rfl) (by kernel_rfl) (by kernel_rfl) (fun _ _ _ h => h) (Or.inl ⟨by kernel_rfl, ?_⟩) hS ?_
      rotate_left
      · intro wx hx
        obtain ⟨⟨hx0, hx1, hx2, hx3, hx4, hx5, hx6, hx7, hx8, hx9⟩, _⟩ := hx
        go_simp
        try with_reducible rfl
      refine wpAnyH_take (i := 1) (v := ?_) rfl (by kernel_rfl) (by kernel_rfl) (by kernel_rfl) (fun _ _ _ h => h) (Or.inl ⟨by kernel_rfl, ?_⟩) hS ?_
      rotate_left
      · intro wx hx
        obtain ⟨⟨hx0, hx1, hx2, hx3, hx4, hx5, hx6, hx7, hx8, hx9⟩, _⟩ := hx
        go_simp
        try with_reducible rfl
      refine wpAnyH_take (i := 2) (v := ?_) rfl (by kernel_rfl) (by kernel_rfl) (by kernel_rfl) (fun _ _ _ h => h) (Or.inl ⟨by kernel_rfl, ?_⟩) hS ?_
      rotate_left
      · intro wx hx
        obtain ⟨⟨hx0, hx1, hx2, hx3, hx4, hx5, hx6, hx7, hx8, hx9⟩, _⟩ := hx
        go_simp
        try with_reducible rfl
      refine wpAnyH_take (i := 3) (v := ?_) rfl (by kernel_rfl) (by kernel_rfl) (by kernel_rfl) (fun _ _ _ h => h) (Or.inl ⟨by kernel_rfl, ?_⟩) hS ?_
      rotate_left
      · intro wx hx
        obtain ⟨⟨hx0, hx1, hx2, hx3, hx4, hx5, hx6, hx7, hx8, hx9⟩, _⟩ := hx
        go_simp
        try with_reducible rfl
      refine wpAnyH_take (i := 4) (v := ?_) rfl (by kernel_rfl) (by kernel_rfl) (by kernel_rfl) (fun _ _ _ h => h) (Or.inl ⟨by kernel_rfl, ?_⟩) hS ?_
      rotate_left
      · intro wx hx
        obtain ⟨⟨hx0, hx1, hx2, hx3, hx4, hx5, hx6, hx7, hx8, hx9⟩, _⟩ := hx
        go_simp
        try with_reducible rfl
      refine wpAnyH_take (i := 5) (v := ?_) rfl (by kernel_rfl) (by kernel_rfl) (by kernel_rfl) (fun _ _ _ h => h) (Or.inl ⟨by kernel_rfl, ?_⟩) hS ?_
      rotate_left
      · intro wx hx
        obtain ⟨⟨hx0, hx1, hx2, hx3, hx4, hx5, hx6, hx7, hx8, hx9⟩, _⟩ := hx
        go_simp
        try with_reducible rfl
      refine wpAnyH_take (i := 6) (v := ?_) rfl (by kernel_rfl) (by kernel_rfl) (by kernel_rfl) (fun _ _ _ h => h) (Or.inl ⟨by kernel_rfl, ?_⟩) hS ?_
      rotate_left
      · intro wx hx
        obtain ⟨⟨hx0, hx1, hx2, hx3, hx4, hx5, hx6, hx7, hx8, hx9⟩, _⟩ := hx
        go_simp
        try with_reducible rfl
      refine wpAnyH_take (i := 7) (v := ?_) rfl (by kernel_rfl) (by kernel_rfl) (by kernel_rfl) (fun _ _ _ h => h) (Or.inl ⟨by kernel_rfl, ?_⟩) hS ?_
      rotate_left
      · intro wx hx
        obtain ⟨⟨hx0, hx1, hx2, hx3, hx4, hx5, hx6, hx7, hx8, hx9⟩, _⟩ := hx
        go_simp
        try with_reducible rfl
      refine wpAnyH_take (i := 8) (v := ?_) rfl (by kernel_rfl) (by kernel_rfl) (by kernel_rfl) (fun _ _ _ h => h) (Or.inl ⟨by kernel_rfl, ?_⟩) hS ?_
      rotate_left
      · intro wx hx
        obtain ⟨⟨hx0, hx1, hx2, hx3, hx4, hx5, hx6, hx7, hx8, hx9⟩, _⟩ := hx
        go_simp
        try with_reducible rfl
      refine wpAnyH_ready (rs := [9]) (by kernel_rfl) (by simp) ?_
      refine AllReadyH.cons rfl (fun K hK => ?_) AllReadyH.nil
      go_simp
      go_wp2_with fail
      refine (compareLocks_is _ _ _ _ _ _ _ _ _ _ r HR.out _).mono ?_
      rintro e w1 ⟨rfl, q1⟩
      have hS' := hS.later q1
      clear q1
      go_wp2_with fail
      refine hK.out _ _ hS' (fun hS => ?_)
      clear hK K hS'
      refine wpAnyH_take (i := 10) (v := ?_) rfl (by kernel_rfl) (by kernel_rfl) (by kernel_rfl) (fun _ _ _ h => h) (Or.inl ⟨by kernel_rfl, ?_⟩) hS ?_
      rotate_left
      · intro wx hx
        obtain ⟨⟨hx0, hx1, hx2, hx3, hx4, hx5, hx6, hx7, hx8, hx9⟩, _⟩ := hx
        go_simp
        try with_reducible rfl
      refine wpAnyH_take (i := 11) (v := ?_) rfl (by kernel_rfl) (by kernel_rfl) (by kernel_rfl) (fun _ _ _ h => h) (Or.inl ⟨by kernel_rfl, ?_⟩) hS ?_
      rotate_left
      · intro wx hx
        obtain ⟨⟨hx0, hx1, hx2, hx3, hx4, hx5, hx6, hx7, hx8, hx9⟩, _⟩ := hx
        go_simp
        try with_reducible rfl
      refine wpAnyH_done (by kernel_rfl) ?_ _
      go_simp
      go_wp2
      go_roundw
      case rel => exact ⟨k + 1, by omega, by go_num, E, hS.2⟩
      case measure => simp [intOf]; omega

end Go.Proofs.YtpfmbfmlpoibeaaGreat
