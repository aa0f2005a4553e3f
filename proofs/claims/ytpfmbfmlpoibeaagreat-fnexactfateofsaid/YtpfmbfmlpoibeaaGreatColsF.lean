/-
  Own text. What the model's functions l2Cells, l2Locks and l2Writes answer: the first fault of a row, element by element.
-/
import Derived.Test.YtpfmbfmlpoibeaaGreatColsP
namespace Go.Proofs.YtpfmbfmlpoibeaaGreat
open Go.RowKit

/-- Block b holds a store: its three lists, and all their numbers. -/
def Lies (w : World) (b : Nat) (S : Sto) (v0 v1 v2 : Value) : Prop := (w.cell? ⟨b, 0, none⟩ = some v0 ∧ w.cell? ⟨b, 1, none⟩ = some v1 ∧ w.cell? ⟨b, 2, none⟩ = some v2) ∧ St w 0 S v0 v1 v2
theorem Lies.lt {w : World} {b : Nat} {S : Sto} {v0 v1 v2 : Value} (h : Lies w b S v0 v1 v2) : b < w.heap.size := World.block_lt_of_cell? w _ h.1.1
theorem Lies.later {w w' : World} {b : Nat} {S : Sto} {v0 v1 v2 : Value} (h : Lies w b S v0 v1 v2) (hb : Below w.heap.size w w') : Lies w' b S v0 v1 v2 :=
  ⟨⟨(hb.cell (p := ⟨b, 0, none⟩) h.lt).trans h.1.1, (hb.cell (p := ⟨b, 1, none⟩) h.lt).trans h.1.2.1, (hb.cell (p := ⟨b, 2, none⟩) h.lt).trans h.1.2.2⟩, h.2.later hb⟩

/-- From place oo of block b on lies a store: its three lists, and all their numbers. -/
def LiesO (w : World) (b oo : Nat) (S : Sto) (v0 v1 v2 : Value) : Prop := (w.cell? ⟨b, oo, none⟩ = some v0 ∧ w.cell? ⟨b, oo + 1, none⟩ = some v1 ∧ w.cell? ⟨b, oo + 2, none⟩ = some v2) ∧ St w 0 S v0 v1 v2
theorem LiesO.lt {w : World} {b oo : Nat} {S : Sto} {v0 v1 v2 : Value} (h : LiesO w b oo S v0 v1 v2) : b < w.heap.size := World.block_lt_of_cell? w ⟨b, oo, none⟩ h.1.1
theorem LiesO.later {w w' : World} {b oo : Nat} {S : Sto} {v0 v1 v2 : Value} (h : LiesO w b oo S v0 v1 v2) (hb : Below w.heap.size w w') : LiesO w' b oo S v0 v1 v2 :=
  ⟨⟨(hb.cell (p := ⟨b, oo, none⟩) h.lt).trans h.1.1, (hb.cell (p := ⟨b, oo + 1, none⟩) h.lt).trans h.1.2.1, (hb.cell (p := ⟨b, oo + 2, none⟩) h.lt).trans h.1.2.2⟩, h.2.later hb⟩
theorem Lies.o {w : World} {b : Nat} {S : Sto} {v0 v1 v2 : Value} (h : Lies w b S v0 v1 v2) : LiesO w b 0 S v0 v1 v2 := h

theorem l1In_is (v lo hi : Int) (r : Bool) (hr : decide (lo ≤ v ∧ v ≤ hi) = r) (w : World) :
    Calls Tryz.prog 66 #[.int .i64 v, .int .i64 lo, .int .i64 hi] w fun e w' => e = .returned (.bool r) ∧ w' = w := by
  by_cases h1 : lo ≤ v
  · by_cases h2 : v ≤ hi
    · have d : decide (v ≤ hi) = true := decide_eq_true h2
      rw [decide_eq_true (show lo ≤ v ∧ v ≤ hi from ⟨h1, h2⟩)] at hr
      subst hr
      go_enter Tryz.func66, Tryz.ntmps66
      go_wp2
      go_ret
      exact ⟨rfl, rfl⟩
    · have d : decide (v ≤ hi) = false := decide_eq_false h2
      rw [decide_eq_false (show ¬ (lo ≤ v ∧ v ≤ hi) from fun h => h2 h.2)] at hr
      subst hr
      go_enter Tryz.func66, Tryz.ntmps66
      go_wp2
      go_ret
      exact ⟨rfl, rfl⟩
  · have d : decide (lo ≤ v) = false := decide_eq_false h1
    rw [decide_eq_false (show ¬ (lo ≤ v ∧ v ≤ hi) from fun h => h1 h.1)] at hr
    subst hr
    go_enter Tryz.func66, Tryz.ntmps66
    go_wp2
    go_ret
    exact ⟨rfl, rfl⟩
theorem l2Ts_is (t : Int) (r : Bool) (hr : decide (1 ≤ t ∧ t ≤ 100000) = r) (w : World) :
    Calls Tryz.prog 159 #[.int .i64 t] w fun e w' => e = .returned (.bool r) ∧ w' = w := by
  have H : Hid (decide (1 ≤ t ∧ t ≤ 100000) = r) := hr
  clear hr
  go_enter Tryz.func159, Tryz.ntmps159
  go_wp2_with fail
  refine (l1In_is _ _ _ r H.out _).mono ?_
  rintro e w' ⟨rfl, rfl⟩
  go_wp2
  go_ret
  exact ⟨rfl, rfl⟩

theorem below_dr {B : Nat} {a w : World} (h : Below B a w) (q : Nat) : Below B a (w.drewN q) := ⟨h.os, h.tape, h.output, h.size, h.block⟩
set_option maxRecDepth 10000 in
set_option maxHeartbeats 4000000 in
theorem l2Cells_anyO (S : Sto) (b oo : Nat) (v0 v1 v2 : Value) (w : World) (h : LiesO w b oo S v0 v1 v2) (hn : S.nc ≤ 200) :
    Calls Tryz.prog 119 #[.pointer (some ⟨b, oo, none⟩)] w fun e w' => e = .returned (.int .i64 (scan (cellF S.c) S.nc)) ∧ Below w.heap.size w w' := by
  obtain ⟨a0, c0, a1, c1, a2, c2, rfl, rfl, rfl⟩ := h.2.form
  have H : Hid (LiesO w b oo S (.slice a0 S.nc c0) (.slice a1 S.nl c1) (.slice a2 S.nw c2)) := h
  have p0 := h.1.1
  have hb := h.lt
  clear h
  go_enter Tryz.func119, Tryz.ntmps119
  go_wp2
  go_loopw [3] (fun i wr => ∃ k : Nat, k ≤ S.nc ∧ i = .int .i64 k ∧ Hid (scan (cellF S.c) k = 0) ∧ Below w.heap.size w wr) (fun i _ => S.nc - (intOf i).toNat)
  case atStart => exact ⟨0, Nat.zero_le _, rfl, rfl, Below.refl _ _⟩
  case round =>
    obtain ⟨k, hk, rfl, HS, hbw⟩ := hrel
    have e0 := (hbw.cell (p := ⟨b, oo, none⟩) hb).trans p0
    have hbr : b < wr.heap.size := Nat.lt_of_lt_of_le hb hbw.size
    by_cases hlt : k < S.nc
    case neg =>
      have en : k = S.nc := by omega
      have E : Hid (scan (cellF S.c) S.nc = 0) := en ▸ HS.out
      clear HS
      go_wp2
      go_ret
      exact ⟨by rw [E.out]; rfl, hbw⟩
    obtain ⟨g, o, rfl, _, hg, x0, x1, x2⟩ := (H.out.2.1.later hbw).at3 hlt
    obtain ⟨n0, N0⟩ : ∃ x, S.c (k * 3) = x := ⟨_, rfl⟩
    rw [N0] at x0
    obtain ⟨n1, N1⟩ : ∃ x, S.c (k * 3 + 1) = x := ⟨_, rfl⟩
    rw [N1] at x1
    obtain ⟨n2, N2⟩ : ∃ x, S.c (k * 3 + 2) = x := ⟨_, rfl⟩
    rw [N2] at x2
    have NN : Hid (S.c (k * 3) = n0 ∧ S.c (k * 3 + 1) = n1 ∧ S.c (k * 3 + 2) = n2) := ⟨N0, N1, N2⟩
    clear N0 N1 N2
    by_cases h0 : faultOf n0 = 0
    case neg =>
      obtain ⟨f, hff⟩ : ∃ f, faultOf n0 = f := ⟨_, rfl⟩
      have L0 : Hid (∀ w, Calls Tryz.prog 27 #[.int .i64 n0] w fun e w' => e = .returned (.int .i64 f) ∧ w' = w) := fun w => hff ▸ l1Fault_any n0 w
      have E : Hid (scan (cellF S.c) S.nc = f) := by
        have : cellF S.c k = f := by
          unfold cellF
          rw [NN.out.1, NN.out.2.1, NN.out.2.2]
          rw [if_pos h0]; exact hff
        exact (scan_stop HS.out (by rw [this, ← hff]; exact h0) hlt).trans this
      have hfn : (f == 0) = false := beq_eq_false_iff_ne.2 (by rw [← hff]; exact h0)
      clear hff h0 HS NN
      go_wp2_with fail
      refine (L0.out _).mono ?_
      rintro e w1 ⟨rfl, rfl⟩
      go_wp2
      go_ret
      exact ⟨by rw [E.out]; rfl, by first | exact hbw.alloc hbw.size _ | exact below_dr (hbw.alloc hbw.size _) _ | exact below_dr (below_dr (hbw.alloc hbw.size _) _) _⟩
    have L0 : Hid (∀ w, Calls Tryz.prog 27 #[.int .i64 n0] w fun e w' => e = .returned (.int .i64 0) ∧ w' = w) := fun w => h0 ▸ l1Fault_any n0 w
    have G0 : Hid (faultOf n0 = 0) := h0
    clear h0
    by_cases h1 : 1 ≤ n1 ∧ n1 ≤ 100000
    case neg =>
      have L1 : Hid (decide (1 ≤ n1 ∧ n1 ≤ 100000) = false) := decide_eq_false h1
      have E : Hid (scan (cellF S.c) S.nc = 3) := by
        have : cellF S.c k = 3 := by
          unfold cellF
          rw [NN.out.1, NN.out.2.1, NN.out.2.2]
          rw [if_neg (fun h => h G0.out)]
          rw [if_pos (by omega)]
        exact (scan_stop HS.out (by rw [this]; decide) hlt).trans this
      clear h1 HS NN G0
      go_wp2_with fail
      refine (L0.out _).mono ?_
      rintro e w1 ⟨rfl, rfl⟩
      go_wp2_with fail
      refine (l2Ts_is _ false L1.out _).mono ?_
      rintro e w1 ⟨rfl, rfl⟩
      go_wp2
      go_ret
      exact ⟨by rw [E.out]; rfl, by first | exact hbw.alloc hbw.size _ | exact below_dr (hbw.alloc hbw.size _) _ | exact below_dr (below_dr (hbw.alloc hbw.size _) _) _⟩
    have L1 : Hid (decide (1 ≤ n1 ∧ n1 ≤ 100000) = true) := decide_eq_true h1
    have G1 : Hid (1 ≤ n1 ∧ n1 ≤ 100000) := h1
    clear h1
    by_cases h2 : 0 ≤ n2 ∧ n2 ≤ 9999
    case neg =>
      have L2 : Hid (decide (0 ≤ n2 ∧ n2 ≤ 9999) = false) := decide_eq_false h2
      have E : Hid (scan (cellF S.c) S.nc = 3) := by
        have : cellF S.c k = 3 := by
          unfold cellF
          rw [NN.out.1, NN.out.2.1, NN.out.2.2]
          rw [if_neg (fun h => h G0.out)]
          rw [if_pos (by omega)]
        exact (scan_stop HS.out (by rw [this]; decide) hlt).trans this
      clear h2 HS NN G0 G1
      go_wp2_with fail
      refine (L0.out _).mono ?_
      rintro e w1 ⟨rfl, rfl⟩
      go_wp2_with fail
      refine (l2Ts_is _ true L1.out _).mono ?_
      rintro e w1 ⟨rfl, rfl⟩
      go_wp2_with fail
      refine (l1In_is _ _ _ false L2.out _).mono ?_
      rintro e w1 ⟨rfl, rfl⟩
      go_wp2
      go_ret
      exact ⟨by rw [E.out]; rfl, by first | exact hbw.alloc hbw.size _ | exact below_dr (hbw.alloc hbw.size _) _ | exact below_dr (below_dr (hbw.alloc hbw.size _) _) _⟩
    have L2 : Hid (decide (0 ≤ n2 ∧ n2 ≤ 9999) = true) := decide_eq_true h2
    have G2 : Hid (0 ≤ n2 ∧ n2 ≤ 9999) := h2
    clear h2
    rcases Nat.eq_zero_or_pos k with hk0 | hk0
    · have E : Hid (scan (cellF S.c) (k + 1) = 0) := by
        have : cellF S.c k = 0 := by
          unfold cellF
          rw [NN.out.1, NN.out.2.1, NN.out.2.2]
          rw [if_neg (fun h => h G0.out)]
          have g1 := G1.out; have g2 := G2.out; rw [if_neg (by omega)]
          rw [if_neg (by omega)]
        exact scan_go HS.out this
      have dk : decide (0 < k) = false := decide_eq_false (by omega)
      clear HS NN G0 G1 G2 hk0
      go_wp2_with fail
      refine (L0.out _).mono ?_
      rintro e w1 ⟨rfl, rfl⟩
      go_wp2_with fail
      refine (l2Ts_is _ true L1.out _).mono ?_
      rintro e w1 ⟨rfl, rfl⟩
      go_wp2_with fail
      refine (l1In_is _ _ _ true L2.out _).mono ?_
      rintro e w1 ⟨rfl, rfl⟩
      go_wp2_with fail
      go_quiet (fail)
      go_wp2
      go_roundw
      case rel => exact ⟨k + 1, by omega, by go_num, E, by first | exact hbw.alloc hbw.size _ | exact below_dr (hbw.alloc hbw.size _) _ | exact below_dr (below_dr (hbw.alloc hbw.size _) _) _⟩
      case measure => simp [intOf]; omega
    obtain ⟨g', o', he, _, _, y0, y1, _⟩ := (H.out.2.1.later hbw).at3 (k := k - 1) (by omega)
    simp only [Option.some.injEq, Addr.mk.injEq, and_true] at he
    obtain ⟨rfl, rfl⟩ := he
    obtain ⟨m0, M0⟩ : ∃ x, S.c ((k - 1) * 3) = x := ⟨_, rfl⟩
    rw [M0] at y0
    obtain ⟨m1, M1⟩ : ∃ x, S.c ((k - 1) * 3 + 1) = x := ⟨_, rfl⟩
    rw [M1] at y1
    have MM : Hid (S.c ((k - 1) * 3) = m0 ∧ S.c ((k - 1) * 3 + 1) = m1) := ⟨M0, M1⟩
    clear M0 M1
    have dk : decide (0 < k) = true := decide_eq_true hk0
    by_cases r1 : n0 < m0
    · have E : Hid (scan (cellF S.c) S.nc = 1) := by
        have : cellF S.c k = 1 := by
          unfold cellF
          rw [NN.out.1, NN.out.2.1, NN.out.2.2]
          rw [if_neg (fun h => h G0.out)]
          have g1 := G1.out; have g2 := G2.out; rw [if_neg (by omega)]
          rw [MM.out.1, MM.out.2]
          rw [if_pos (by omega)]
        exact (scan_stop HS.out (by rw [this]; decide) hlt).trans this
      clear HS NN G0 G1 G2 MM
      go_wp2_with fail
      refine (L0.out _).mono ?_
      rintro e w1 ⟨rfl, rfl⟩
      go_wp2_with fail
      refine (l2Ts_is _ true L1.out _).mono ?_
      rintro e w1 ⟨rfl, rfl⟩
      go_wp2_with fail
      refine (l1In_is _ _ _ true L2.out _).mono ?_
      rintro e w1 ⟨rfl, rfl⟩
      go_wp2_with fail
      go_quiet (fail)
      go_wp2
      go_ret
      exact ⟨by rw [E.out]; rfl, by first | exact hbw.alloc hbw.size _ | exact below_dr (hbw.alloc hbw.size _) _ | exact below_dr (below_dr (hbw.alloc hbw.size _) _) _⟩
    by_cases r2 : n0 = m0
    · by_cases r3 : n1 ≤ m1
      · have E : Hid (scan (cellF S.c) S.nc = 1) := by
          have : cellF S.c k = 1 := by
            unfold cellF
            rw [NN.out.1, NN.out.2.1, NN.out.2.2]
            rw [if_neg (fun h => h G0.out)]
            have g1 := G1.out; have g2 := G2.out; rw [if_neg (by omega)]
            rw [MM.out.1, MM.out.2]
            rw [if_pos (by omega)]
          exact (scan_stop HS.out (by rw [this]; decide) hlt).trans this
        have s1 : decide (n0 < m0) = false := decide_eq_false r1
        have s2 : (n0 == m0) = true := beq_iff_eq.2 r2
        have s3 : decide (n1 ≤ m1) = true := decide_eq_true r3
        clear HS NN G0 G1 G2 MM r1 r2
        go_wp2_with fail
        refine (L0.out _).mono ?_
        rintro e w1 ⟨rfl, rfl⟩
        go_wp2_with fail
        refine (l2Ts_is _ true L1.out _).mono ?_
        rintro e w1 ⟨rfl, rfl⟩
        go_wp2_with fail
        refine (l1In_is _ _ _ true L2.out _).mono ?_
        rintro e w1 ⟨rfl, rfl⟩
        go_wp2_with fail
        go_quiet (fail)
        go_wp2
        go_ret
        exact ⟨by rw [E.out]; rfl, by first | exact hbw.alloc hbw.size _ | exact below_dr (hbw.alloc hbw.size _) _ | exact below_dr (below_dr (hbw.alloc hbw.size _) _) _⟩
      · have E : Hid (scan (cellF S.c) (k + 1) = 0) := by
          have : cellF S.c k = 0 := by
            unfold cellF
            rw [NN.out.1, NN.out.2.1, NN.out.2.2]
            rw [if_neg (fun h => h G0.out)]
            have g1 := G1.out; have g2 := G2.out; rw [if_neg (by omega)]
            rw [MM.out.1, MM.out.2]
            rw [if_neg (by omega)]
          exact scan_go HS.out this
        have s1 : decide (n0 < m0) = false := decide_eq_false r1
        have s2 : (n0 == m0) = true := beq_iff_eq.2 r2
        have s3 : decide (n1 ≤ m1) = false := decide_eq_false r3
        clear HS NN G0 G1 G2 MM r1 r2 r3
        go_wp2_with fail
        refine (L0.out _).mono ?_
        rintro e w1 ⟨rfl, rfl⟩
        go_wp2_with fail
        refine (l2Ts_is _ true L1.out _).mono ?_
        rintro e w1 ⟨rfl, rfl⟩
        go_wp2_with fail
        refine (l1In_is _ _ _ true L2.out _).mono ?_
        rintro e w1 ⟨rfl, rfl⟩
        go_wp2_with fail
        go_quiet (fail)
        go_wp2
        go_roundw
        case rel => exact ⟨k + 1, by omega, by go_num, E, by first | exact hbw.alloc hbw.size _ | exact below_dr (hbw.alloc hbw.size _) _ | exact below_dr (below_dr (hbw.alloc hbw.size _) _) _⟩
        case measure => simp [intOf]; omega
    · have E : Hid (scan (cellF S.c) (k + 1) = 0) := by
        have : cellF S.c k = 0 := by
          unfold cellF
          rw [NN.out.1, NN.out.2.1, NN.out.2.2]
          rw [if_neg (fun h => h G0.out)]
          have g1 := G1.out; have g2 := G2.out; rw [if_neg (by omega)]
          rw [MM.out.1, MM.out.2]
          rw [if_neg (by omega)]
        exact scan_go HS.out this
      have s1 : decide (n0 < m0) = false := decide_eq_false r1
      have s2 : (n0 == m0) = false := beq_eq_false_iff_ne.2 r2
      clear HS NN G0 G1 G2 MM r1 r2
      go_wp2_with fail
      refine (L0.out _).mono ?_
      rintro e w1 ⟨rfl, rfl⟩
      go_wp2_with fail
      refine (l2Ts_is _ true L1.out _).mono ?_
      rintro e w1 ⟨rfl, rfl⟩
      go_wp2_with fail
      refine (l1In_is _ _ _ true L2.out _).mono ?_
      rintro e w1 ⟨rfl, rfl⟩
      go_wp2_with fail
      go_quiet (fail)
      go_wp2
      go_roundw
      case rel => exact ⟨k + 1, by omega, by go_num, E, by first | exact hbw.alloc hbw.size _ | exact below_dr (hbw.alloc hbw.size _) _ | exact below_dr (below_dr (hbw.alloc hbw.size _) _) _⟩
      case measure => simp [intOf]; omega

set_option maxRecDepth 10000 in
set_option maxHeartbeats 4000000 in
theorem l2Locks_anyO (S : Sto) (b oo : Nat) (v0 v1 v2 : Value) (w : World) (h : LiesO w b oo S v0 v1 v2) (hn : S.nl ≤ 200) :
    Calls Tryz.prog 120 #[.pointer (some ⟨b, oo, none⟩)] w fun e w' => e = .returned (.int .i64 (scan (lockF S.l) S.nl)) ∧ Below w.heap.size w w' := by
  obtain ⟨a0, c0, a1, c1, a2, c2, rfl, rfl, rfl⟩ := h.2.form
  have H : Hid (LiesO w b oo S (.slice a0 S.nc c0) (.slice a1 S.nl c1) (.slice a2 S.nw c2)) := h
  have p0 := h.1.2.1
  have hb := h.lt
  clear h
  go_enter Tryz.func120, Tryz.ntmps120
  go_wp2
  go_loopw [3] (fun i wr => ∃ k : Nat, k ≤ S.nl ∧ i = .int .i64 k ∧ Hid (scan (lockF S.l) k = 0) ∧ Below w.heap.size w wr) (fun i _ => S.nl - (intOf i).toNat)
  case atStart => exact ⟨0, Nat.zero_le _, rfl, rfl, Below.refl _ _⟩
  case round =>
    obtain ⟨k, hk, rfl, HS, hbw⟩ := hrel
    have e0 := (hbw.cell (p := ⟨b, oo + 1, none⟩) hb).trans p0
    have hbr : b < wr.heap.size := Nat.lt_of_lt_of_le hb hbw.size
    by_cases hlt : k < S.nl
    case neg =>
      have en : k = S.nl := by omega
      have E : Hid (scan (lockF S.l) S.nl = 0) := en ▸ HS.out
      clear HS
      go_wp2
      go_ret
      exact ⟨by rw [E.out]; rfl, hbw⟩
    obtain ⟨g, o, rfl, _, hg, x0, x1, x2, x3, x4⟩ := (H.out.2.2.1.later hbw).at5 hlt
    obtain ⟨n0, N0⟩ : ∃ x, S.l (k * 5) = x := ⟨_, rfl⟩
    rw [N0] at x0
    obtain ⟨n1, N1⟩ : ∃ x, S.l (k * 5 + 1) = x := ⟨_, rfl⟩
    rw [N1] at x1
    obtain ⟨n2, N2⟩ : ∃ x, S.l (k * 5 + 2) = x := ⟨_, rfl⟩
    rw [N2] at x2
    obtain ⟨n3, N3⟩ : ∃ x, S.l (k * 5 + 3) = x := ⟨_, rfl⟩
    rw [N3] at x3
    obtain ⟨n4, N4⟩ : ∃ x, S.l (k * 5 + 4) = x := ⟨_, rfl⟩
    rw [N4] at x4
    have NN : Hid (S.l (k * 5) = n0 ∧ S.l (k * 5 + 1) = n1 ∧ S.l (k * 5 + 2) = n2 ∧ S.l (k * 5 + 3) = n3 ∧ S.l (k * 5 + 4) = n4) := ⟨N0, N1, N2, N3, N4⟩
    clear N0 N1 N2 N3 N4
    by_cases h0 : faultOf n0 = 0
    case neg =>
      obtain ⟨f, hff⟩ : ∃ f, faultOf n0 = f := ⟨_, rfl⟩
      have L0 : Hid (∀ w, Calls Tryz.prog 27 #[.int .i64 n0] w fun e w' => e = .returned (.int .i64 f) ∧ w' = w) := fun w => hff ▸ l1Fault_any n0 w
      have E : Hid (scan (lockF S.l) S.nl = f) := by
        have : lockF S.l k = f := by
          unfold lockF
          rw [NN.out.1, NN.out.2.1, NN.out.2.2.1, NN.out.2.2.2.1, NN.out.2.2.2.2]
          rw [if_pos h0]; exact hff
        exact (scan_stop HS.out (by rw [this, ← hff]; exact h0) hlt).trans this
      have hfn : (f == 0) = false := beq_eq_false_iff_ne.2 (by rw [← hff]; exact h0)
      clear hff h0 HS NN
      go_wp2_with fail
      refine (L0.out _).mono ?_
      rintro e w1 ⟨rfl, rfl⟩
      go_wp2
      go_ret
      exact ⟨by rw [E.out]; rfl, by first | exact hbw.alloc hbw.size _ | exact below_dr (hbw.alloc hbw.size _) _ | exact below_dr (below_dr (hbw.alloc hbw.size _) _) _⟩
    have L0 : Hid (∀ w, Calls Tryz.prog 27 #[.int .i64 n0] w fun e w' => e = .returned (.int .i64 0) ∧ w' = w) := fun w => h0 ▸ l1Fault_any n0 w
    have G0 : Hid (faultOf n0 = 0) := h0
    clear h0
    by_cases h1 : faultOf n3 = 0
    case neg =>
      obtain ⟨f, hff⟩ : ∃ f, faultOf n3 = f := ⟨_, rfl⟩
      have L1 : Hid (∀ w, Calls Tryz.prog 27 #[.int .i64 n3] w fun e w' => e = .returned (.int .i64 f) ∧ w' = w) := fun w => hff ▸ l1Fault_any n3 w
      have E : Hid (scan (lockF S.l) S.nl = f) := by
        have : lockF S.l k = f := by
          unfold lockF
          rw [NN.out.1, NN.out.2.1, NN.out.2.2.1, NN.out.2.2.2.1, NN.out.2.2.2.2]
          rw [if_neg (fun h => h G0.out)]
          rw [if_pos h1]; exact hff
        exact (scan_stop HS.out (by rw [this, ← hff]; exact h1) hlt).trans this
      have hfn : (f == 0) = false := beq_eq_false_iff_ne.2 (by rw [← hff]; exact h1)
      clear hff h1 HS NN G0
      go_wp2_with fail
      refine (L0.out _).mono ?_
      rintro e w1 ⟨rfl, rfl⟩
      go_wp2_with fail
      refine (L1.out _).mono ?_
      rintro e w1 ⟨rfl, rfl⟩
      go_wp2
      go_ret
      exact ⟨by rw [E.out]; rfl, by first | exact hbw.alloc hbw.size _ | exact below_dr (hbw.alloc hbw.size _) _ | exact below_dr (below_dr (hbw.alloc hbw.size _) _) _⟩
    have L1 : Hid (∀ w, Calls Tryz.prog 27 #[.int .i64 n3] w fun e w' => e = .returned (.int .i64 0) ∧ w' = w) := fun w => h1 ▸ l1Fault_any n3 w
    have G1 : Hid (faultOf n3 = 0) := h1
    clear h1
    by_cases h2 : 1 ≤ n1 ∧ n1 ≤ 100000
    case neg =>
      have L2 : Hid (decide (1 ≤ n1 ∧ n1 ≤ 100000) = false) := decide_eq_false h2
      have E : Hid (scan (lockF S.l) S.nl = 3) := by
        have : lockF S.l k = 3 := by
          unfold lockF
          rw [NN.out.1, NN.out.2.1, NN.out.2.2.1, NN.out.2.2.2.1, NN.out.2.2.2.2]
          rw [if_neg (fun h => h G0.out)]
          rw [if_neg (fun h => h G1.out)]
          rw [if_pos (by omega)]
        exact (scan_stop HS.out (by rw [this]; decide) hlt).trans this
      clear h2 HS NN G0 G1
      go_wp2_with fail
      refine (L0.out _).mono ?_
      rintro e w1 ⟨rfl, rfl⟩
      go_wp2_with fail
      refine (L1.out _).mono ?_
      rintro e w1 ⟨rfl, rfl⟩
      go_wp2_with fail
      refine (l2Ts_is _ false L2.out _).mono ?_
      rintro e w1 ⟨rfl, rfl⟩
      go_wp2
      go_ret
      exact ⟨by rw [E.out]; rfl, by first | exact hbw.alloc hbw.size _ | exact below_dr (hbw.alloc hbw.size _) _ | exact below_dr (below_dr (hbw.alloc hbw.size _) _) _⟩
    have L2 : Hid (decide (1 ≤ n1 ∧ n1 ≤ 100000) = true) := decide_eq_true h2
    have G2 : Hid (1 ≤ n1 ∧ n1 ≤ 100000) := h2
    clear h2
    by_cases h3 : 1 ≤ n2 ∧ n2 ≤ 3
    case neg =>
      have L3 : Hid (decide (1 ≤ n2 ∧ n2 ≤ 3) = false) := decide_eq_false h3
      have E : Hid (scan (lockF S.l) S.nl = 3) := by
        have : lockF S.l k = 3 := by
          unfold lockF
          rw [NN.out.1, NN.out.2.1, NN.out.2.2.1, NN.out.2.2.2.1, NN.out.2.2.2.2]
          rw [if_neg (fun h => h G0.out)]
          rw [if_neg (fun h => h G1.out)]
          rw [if_pos (by omega)]
        exact (scan_stop HS.out (by rw [this]; decide) hlt).trans this
      clear h3 HS NN G0 G1 G2
      go_wp2_with fail
      refine (L0.out _).mono ?_
      rintro e w1 ⟨rfl, rfl⟩
      go_wp2_with fail
      refine (L1.out _).mono ?_
      rintro e w1 ⟨rfl, rfl⟩
      go_wp2_with fail
      refine (l2Ts_is _ true L2.out _).mono ?_
      rintro e w1 ⟨rfl, rfl⟩
      go_wp2_with fail
      refine (l1In_is _ _ _ false L3.out _).mono ?_
      rintro e w1 ⟨rfl, rfl⟩
      go_wp2
      go_ret
      exact ⟨by rw [E.out]; rfl, by first | exact hbw.alloc hbw.size _ | exact below_dr (hbw.alloc hbw.size _) _ | exact below_dr (below_dr (hbw.alloc hbw.size _) _) _⟩
    have L3 : Hid (decide (1 ≤ n2 ∧ n2 ≤ 3) = true) := decide_eq_true h3
    have G3 : Hid (1 ≤ n2 ∧ n2 ≤ 3) := h3
    clear h3
    by_cases h4 : 0 ≤ n4 ∧ n4 ≤ 100000
    case neg =>
      have L4 : Hid (decide (0 ≤ n4 ∧ n4 ≤ 100000) = false) := decide_eq_false h4
      have E : Hid (scan (lockF S.l) S.nl = 3) := by
        have : lockF S.l k = 3 := by
          unfold lockF
          rw [NN.out.1, NN.out.2.1, NN.out.2.2.1, NN.out.2.2.2.1, NN.out.2.2.2.2]
          rw [if_neg (fun h => h G0.out)]
          rw [if_neg (fun h => h G1.out)]
          rw [if_pos (by omega)]
        exact (scan_stop HS.out (by rw [this]; decide) hlt).trans this
      clear h4 HS NN G0 G1 G2 G3
      go_wp2_with fail
      refine (L0.out _).mono ?_
      rintro e w1 ⟨rfl, rfl⟩
      go_wp2_with fail
      refine (L1.out _).mono ?_
      rintro e w1 ⟨rfl, rfl⟩
      go_wp2_with fail
      refine (l2Ts_is _ true L2.out _).mono ?_
      rintro e w1 ⟨rfl, rfl⟩
      go_wp2_with fail
      refine (l1In_is _ _ _ true L3.out _).mono ?_
      rintro e w1 ⟨rfl, rfl⟩
      go_wp2_with fail
      refine (l1In_is _ _ _ false L4.out _).mono ?_
      rintro e w1 ⟨rfl, rfl⟩
      go_wp2
      go_ret
      exact ⟨by rw [E.out]; rfl, by first | exact hbw.alloc hbw.size _ | exact below_dr (hbw.alloc hbw.size _) _ | exact below_dr (below_dr (hbw.alloc hbw.size _) _) _⟩
    have L4 : Hid (decide (0 ≤ n4 ∧ n4 ≤ 100000) = true) := decide_eq_true h4
    have G4 : Hid (0 ≤ n4 ∧ n4 ≤ 100000) := h4
    clear h4
    rcases Nat.eq_zero_or_pos k with hk0 | hk0
    · have E : Hid (scan (lockF S.l) (k + 1) = 0) := by
        have : lockF S.l k = 0 := by
          unfold lockF
          rw [NN.out.1, NN.out.2.1, NN.out.2.2.1, NN.out.2.2.2.1, NN.out.2.2.2.2]
          rw [if_neg (fun h => h G0.out)]
          rw [if_neg (fun h => h G1.out)]
          have g2 := G2.out; have g3 := G3.out; have g4 := G4.out; rw [if_neg (by omega)]
          rw [if_neg (by omega)]
        exact scan_go HS.out this
      have dk : decide (0 < k) = false := decide_eq_false (by omega)
      clear HS NN G0 G1 G2 G3 G4 hk0
      go_wp2_with fail
      refine (L0.out _).mono ?_
      rintro e w1 ⟨rfl, rfl⟩
      go_wp2_with fail
      refine (L1.out _).mono ?_
      rintro e w1 ⟨rfl, rfl⟩
      go_wp2_with fail
      refine (l2Ts_is _ true L2.out _).mono ?_
      rintro e w1 ⟨rfl, rfl⟩
      go_wp2_with fail
      refine (l1In_is _ _ _ true L3.out _).mono ?_
      rintro e w1 ⟨rfl, rfl⟩
      go_wp2_with fail
      refine (l1In_is _ _ _ true L4.out _).mono ?_
      rintro e w1 ⟨rfl, rfl⟩
      go_wp2_with fail
      go_quiet (fail)
      go_wp2
      go_roundw
      case rel => exact ⟨k + 1, by omega, by go_num, E, by first | exact hbw.alloc hbw.size _ | exact below_dr (hbw.alloc hbw.size _) _ | exact below_dr (below_dr (hbw.alloc hbw.size _) _) _⟩
      case measure => simp [intOf]; omega
    obtain ⟨g', o', he, _, _, y0, y1, _, _, _⟩ := (H.out.2.2.1.later hbw).at5 (k := k - 1) (by omega)
    simp only [Option.some.injEq, Addr.mk.injEq, and_true] at he
    obtain ⟨rfl, rfl⟩ := he
    obtain ⟨m0, M0⟩ : ∃ x, S.l ((k - 1) * 5) = x := ⟨_, rfl⟩
    rw [M0] at y0
    have MM : Hid (S.l ((k - 1) * 5) = m0) := M0
    clear M0
    have dk : decide (0 < k) = true := decide_eq_true hk0
    by_cases r1 : n0 ≤ m0
    · have E : Hid (scan (lockF S.l) S.nl = 1) := by
        have : lockF S.l k = 1 := by
          unfold lockF
          rw [NN.out.1, NN.out.2.1, NN.out.2.2.1, NN.out.2.2.2.1, NN.out.2.2.2.2]
          rw [if_neg (fun h => h G0.out)]
          rw [if_neg (fun h => h G1.out)]
          have g2 := G2.out; have g3 := G3.out; have g4 := G4.out; rw [if_neg (by omega)]
          rw [MM.out]
          rw [if_pos (by omega)]
        exact (scan_stop HS.out (by rw [this]; decide) hlt).trans this
      have s1 : decide (n0 ≤ m0) = true := decide_eq_true r1
      clear HS NN G0 G1 G2 G3 G4 MM
      go_wp2_with fail
      refine (L0.out _).mono ?_
      rintro e w1 ⟨rfl, rfl⟩
      go_wp2_with fail
      refine (L1.out _).mono ?_
      rintro e w1 ⟨rfl, rfl⟩
      go_wp2_with fail
      refine (l2Ts_is _ true L2.out _).mono ?_
      rintro e w1 ⟨rfl, rfl⟩
      go_wp2_with fail
      refine (l1In_is _ _ _ true L3.out _).mono ?_
      rintro e w1 ⟨rfl, rfl⟩
      go_wp2_with fail
      refine (l1In_is _ _ _ true L4.out _).mono ?_
      rintro e w1 ⟨rfl, rfl⟩
      go_wp2_with fail
      go_quiet (fail)
      go_wp2
      go_ret
      exact ⟨by rw [E.out]; rfl, by first | exact hbw.alloc hbw.size _ | exact below_dr (hbw.alloc hbw.size _) _ | exact below_dr (below_dr (hbw.alloc hbw.size _) _) _⟩
    · have E : Hid (scan (lockF S.l) (k + 1) = 0) := by
        have : lockF S.l k = 0 := by
          unfold lockF
          rw [NN.out.1, NN.out.2.1, NN.out.2.2.1, NN.out.2.2.2.1, NN.out.2.2.2.2]
          rw [if_neg (fun h => h G0.out)]
          rw [if_neg (fun h => h G1.out)]
          have g2 := G2.out; have g3 := G3.out; have g4 := G4.out; rw [if_neg (by omega)]
          rw [MM.out]
          rw [if_neg (by omega)]
        exact scan_go HS.out this
      have s1 : decide (n0 ≤ m0) = false := decide_eq_false r1
      clear HS NN G0 G1 G2 G3 G4 MM r1
      go_wp2_with fail
      refine (L0.out _).mono ?_
      rintro e w1 ⟨rfl, rfl⟩
      go_wp2_with fail
      refine (L1.out _).mono ?_
      rintro e w1 ⟨rfl, rfl⟩
      go_wp2_with fail
      refine (l2Ts_is _ true L2.out _).mono ?_
      rintro e w1 ⟨rfl, rfl⟩
      go_wp2_with fail
      refine (l1In_is _ _ _ true L3.out _).mono ?_
      rintro e w1 ⟨rfl, rfl⟩
      go_wp2_with fail
      refine (l1In_is _ _ _ true L4.out _).mono ?_
      rintro e w1 ⟨rfl, rfl⟩
      go_wp2_with fail
      go_quiet (fail)
      go_wp2
      go_roundw
      case rel => exact ⟨k + 1, by omega, by go_num, E, by first | exact hbw.alloc hbw.size _ | exact below_dr (hbw.alloc hbw.size _) _ | exact below_dr (below_dr (hbw.alloc hbw.size _) _) _⟩
      case measure => simp [intOf]; omega

theorem l2Cells_any (S : Sto) (b : Nat) (v0 v1 v2 : Value) (w : World) (h : Lies w b S v0 v1 v2) (hn : S.nc ≤ 200) :
    Calls Tryz.prog 119 #[.pointer (some ⟨b, 0, none⟩)] w fun e w' => e = .returned (.int .i64 (scan (cellF S.c) S.nc)) ∧ Below w.heap.size w w' := l2Cells_anyO S b 0 v0 v1 v2 w h.o hn
theorem l2Locks_any (S : Sto) (b : Nat) (v0 v1 v2 : Value) (w : World) (h : Lies w b S v0 v1 v2) (hn : S.nl ≤ 200) :
    Calls Tryz.prog 120 #[.pointer (some ⟨b, 0, none⟩)] w fun e w' => e = .returned (.int .i64 (scan (lockF S.l) S.nl)) ∧ Below w.heap.size w w' := l2Locks_anyO S b 0 v0 v1 v2 w h.o hn
end Go.Proofs.YtpfmbfmlpoibeaaGreat
