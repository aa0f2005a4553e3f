/-
  Own text, merged of ColsG, ColsK, JoiG.
-/
import Derived.Test.YtknbeggnlhiamaaGreatPk6
namespace Go.Proofs.YtknbeggnlhiamaaGreat
open Go.RowKit

set_option maxRecDepth 10000 in
set_option maxHeartbeats 4000000 in
theorem l2Writes_anyO (S : Sto) (b oo : Nat) (v0 v1 v2 : Value) (w : World) (h : LiesO w b oo S v0 v1 v2) (hn : S.nw ≤ 200) :
    Calls Tryz.prog 32 #[.pointer (some ⟨b, oo, none⟩)] w fun e w' => e = .returned (.int .i64 (scan (writeF S.k) S.nw)) ∧ Below w.heap.size w w' := by
  obtain ⟨a0, c0, a1, c1, a2, c2, rfl, rfl, rfl⟩ := h.2.form
  have H : Hid (LiesO w b oo S (.slice a0 S.nc c0) (.slice a1 S.nl c1) (.slice a2 S.nw c2)) := h
  have p0 := h.1.2.2
  have hb := h.lt
  clear h
  go_enter Tryz.func32, Tryz.ntmps32
  go_wp2
  go_loopw [3] (fun i wr => ∃ k : Nat, k ≤ S.nw ∧ i = .int .i64 k ∧ Hid (scan (writeF S.k) k = 0) ∧ Below w.heap.size w wr) (fun i _ => S.nw - (intOf i).toNat)
  case atStart => exact ⟨0, Nat.zero_le _, rfl, rfl, Below.refl _ _⟩
  case round =>
    obtain ⟨k, hk, rfl, HS, hbw⟩ := hrel
    have e0 := (hbw.cell (p := ⟨b, oo + 2, none⟩) hb).trans p0
    have hbr : b < wr.heap.size := Nat.lt_of_lt_of_le hb hbw.size
    by_cases hlt : k < S.nw
    case neg =>
      have en : k = S.nw := by omega
      have E : Hid (scan (writeF S.k) S.nw = 0) := en ▸ HS.out
      clear HS
      go_wp2
      go_ret
      exact ⟨by rw [E.out]; rfl, hbw⟩
    obtain ⟨g, o, rfl, _, hg, x0, x1, x2, x3⟩ := (H.out.2.2.2.later hbw).at4 hlt
    obtain ⟨n0, N0⟩ : ∃ x, S.k (k * 4) = x := ⟨_, rfl⟩
    rw [N0] at x0
    obtain ⟨n1, N1⟩ : ∃ x, S.k (k * 4 + 1) = x := ⟨_, rfl⟩
    rw [N1] at x1
    obtain ⟨n2, N2⟩ : ∃ x, S.k (k * 4 + 2) = x := ⟨_, rfl⟩
    rw [N2] at x2
    obtain ⟨n3, N3⟩ : ∃ x, S.k (k * 4 + 3) = x := ⟨_, rfl⟩
    rw [N3] at x3
    have NN : Hid (S.k (k * 4) = n0 ∧ S.k (k * 4 + 1) = n1 ∧ S.k (k * 4 + 2) = n2 ∧ S.k (k * 4 + 3) = n3) := ⟨N0, N1, N2, N3⟩
    clear N0 N1 N2 N3
    by_cases h0 : faultOf n0 = 0
    case neg =>
      obtain ⟨f, hff⟩ : ∃ f, faultOf n0 = f := ⟨_, rfl⟩
      have L0 : Hid (∀ w, Calls Tryz.prog 62 #[.int .i64 n0] w fun e w' => e = .returned (.int .i64 f) ∧ w' = w) := fun w => hff ▸ l1Fault_any n0 w
      have E : Hid (scan (writeF S.k) S.nw = f) := by
        have : writeF S.k k = f := by
          unfold writeF
          rw [NN.out.1, NN.out.2.1, NN.out.2.2.1, NN.out.2.2.2]
          rw [if_pos h0]; exact hff
        exact (scan_stop HS.out (by rw [this, ← hff]; exact h0) hlt).trans this
      have hfn : (f == 0) = false := beq_eq_false_iff_ne.2 (by rw [← hff]; exact h0)
      clear hff h0 HS NN
      go_wp2_with fail
      refine (L0.out _).mono ?_
      rintro e w1 ⟨rfl, rfl⟩
      go_wp2
      go_ret
      exact ⟨by rw [E.out]; rfl, by first | exact hbw.alloc hbw.size _ | exact below_dr (hbw.alloc hbw.size _) _ | exact below_dr (below_dr (hbw.alloc hbw.size _) _) _⟩
    have L0 : Hid (∀ w, Calls Tryz.prog 62 #[.int .i64 n0] w fun e w' => e = .returned (.int .i64 0) ∧ w' = w) := fun w => h0 ▸ l1Fault_any n0 w
    have G0 : Hid (faultOf n0 = 0) := h0
    clear h0
    by_cases h1 : 1 ≤ n1 ∧ n1 ≤ 100000
    case neg =>
      have L1 : Hid (decide (1 ≤ n1 ∧ n1 ≤ 100000) = false) := decide_eq_false h1
      have E : Hid (scan (writeF S.k) S.nw = 3) := by
        have : writeF S.k k = 3 := by
          unfold writeF
          rw [NN.out.1, NN.out.2.1, NN.out.2.2.1, NN.out.2.2.2]
          rw [if_neg (fun h => h G0.out)]
          rw [if_pos (by omega)]
        exact (scan_stop HS.out (by rw [this]; decide) hlt).trans this
      clear h1 HS NN G0
      go_wp2_with fail
      refine (L0.out _).mono ?_
      rintro e w1 ⟨rfl, rfl⟩
      go_wp2_with fail
      refine (l2Ts_is _ false L1.out _).mono ?_
      rintro e w1 ⟨rfl, rfl⟩
      go_wp2
      go_ret
      exact ⟨by rw [E.out]; rfl, by first | exact hbw.alloc hbw.size _ | exact below_dr (hbw.alloc hbw.size _) _ | exact below_dr (below_dr (hbw.alloc hbw.size _) _) _⟩
    have L1 : Hid (decide (1 ≤ n1 ∧ n1 ≤ 100000) = true) := decide_eq_true h1
    have G1 : Hid (1 ≤ n1 ∧ n1 ≤ 100000) := h1
    clear h1
    by_cases h2 : 1 ≤ n2 ∧ n2 ≤ 100000
    case neg =>
      have L2 : Hid (decide (1 ≤ n2 ∧ n2 ≤ 100000) = false) := decide_eq_false h2
      have E : Hid (scan (writeF S.k) S.nw = 3) := by
        have : writeF S.k k = 3 := by
          unfold writeF
          rw [NN.out.1, NN.out.2.1, NN.out.2.2.1, NN.out.2.2.2]
          rw [if_neg (fun h => h G0.out)]
          rw [if_pos (by omega)]
        exact (scan_stop HS.out (by rw [this]; decide) hlt).trans this
      clear h2 HS NN G0 G1
      go_wp2_with fail
      refine (L0.out _).mono ?_
      rintro e w1 ⟨rfl, rfl⟩
      go_wp2_with fail
      refine (l2Ts_is _ true L1.out _).mono ?_
      rintro e w1 ⟨rfl, rfl⟩
      go_wp2_with fail
      refine (l2Ts_is _ false L2.out _).mono ?_
      rintro e w1 ⟨rfl, rfl⟩
      go_wp2
      go_ret
      exact ⟨by rw [E.out]; rfl, by first | exact hbw.alloc hbw.size _ | exact below_dr (hbw.alloc hbw.size _) _ | exact below_dr (below_dr (hbw.alloc hbw.size _) _) _⟩
    have L2 : Hid (decide (1 ≤ n2 ∧ n2 ≤ 100000) = true) := decide_eq_true h2
    have G2 : Hid (1 ≤ n2 ∧ n2 ≤ 100000) := h2
    clear h2
    by_cases h3 : 1 ≤ n3 ∧ n3 ≤ 4
    case neg =>
      have L3 : Hid (decide (1 ≤ n3 ∧ n3 ≤ 4) = false) := decide_eq_false h3
      have E : Hid (scan (writeF S.k) S.nw = 3) := by
        have : writeF S.k k = 3 := by
          unfold writeF
          rw [NN.out.1, NN.out.2.1, NN.out.2.2.1, NN.out.2.2.2]
          rw [if_neg (fun h => h G0.out)]
          rw [if_pos (by omega)]
        exact (scan_stop HS.out (by rw [this]; decide) hlt).trans this
      clear h3 HS NN G0 G1 G2
      go_wp2_with fail
      refine (L0.out _).mono ?_
      rintro e w1 ⟨rfl, rfl⟩
      go_wp2_with fail
      refine (l2Ts_is _ true L1.out _).mono ?_
      rintro e w1 ⟨rfl, rfl⟩
      go_wp2_with fail
      refine (l2Ts_is _ true L2.out _).mono ?_
      rintro e w1 ⟨rfl, rfl⟩
      go_wp2_with fail
      refine (l1In_is _ _ _ false L3.out _).mono ?_
      rintro e w1 ⟨rfl, rfl⟩
      go_wp2
      go_ret
      exact ⟨by rw [E.out]; rfl, by first | exact hbw.alloc hbw.size _ | exact below_dr (hbw.alloc hbw.size _) _ | exact below_dr (below_dr (hbw.alloc hbw.size _) _) _⟩
    have L3 : Hid (decide (1 ≤ n3 ∧ n3 ≤ 4) = true) := decide_eq_true h3
    have G3 : Hid (1 ≤ n3 ∧ n3 ≤ 4) := h3
    clear h3
    rcases Nat.eq_zero_or_pos k with hk0 | hk0
    · by_cases q4 : n3 = 4
      · by_cases q5 : n1 = n2
        · have E : Hid (scan (writeF S.k) (k + 1) = 0) := by
            have : writeF S.k k = 0 := by
              unfold writeF
              rw [NN.out.1, NN.out.2.1, NN.out.2.2.1, NN.out.2.2.2]
              rw [if_neg (fun h => h G0.out)]
              have g1 := G1.out; have g2 := G2.out; have g3 := G3.out; rw [if_neg (by omega)]
              have hft : fits S.k k := by unfold fits; rw [NN.out.2.1, NN.out.2.2.1, NN.out.2.2.2]; omega
              rw [if_neg (by rintro (h | h); exact absurd h (by omega); exact h hft)]
            exact scan_go HS.out this
          have dk : decide (0 < k) = false := decide_eq_false (by omega)
          have w4 : (n3 == 4) = true := beq_iff_eq.2 q4
          have w6 : (n3 != 4) = false := by rw [q4]; rfl
          have w5 : (n1 != n2) = false := by rw [q5]; exact bne_self_eq_false _
          clear HS NN G0 G1 G2 G3 q4 q5 hk0
          go_wp2_with fail
          refine (L0.out _).mono ?_
          rintro e w1 ⟨rfl, rfl⟩
          go_wp2_with fail
          refine (l2Ts_is _ true L1.out _).mono ?_
          rintro e w1 ⟨rfl, rfl⟩
          go_wp2_with fail
          refine (l2Ts_is _ true L2.out _).mono ?_
          rintro e w1 ⟨rfl, rfl⟩
          go_wp2_with fail
          refine (l1In_is _ _ _ true L3.out _).mono ?_
          rintro e w1 ⟨rfl, rfl⟩
          go_wp2_with fail
          go_quiet (fail)
          go_wp2_with fail
          try go_quiet (fail)
          go_wp2
          go_roundw
          case rel => exact ⟨k + 1, by omega, by go_num, E, by first | exact hbw.alloc hbw.size _ | exact below_dr (hbw.alloc hbw.size _) _ | exact below_dr (below_dr (hbw.alloc hbw.size _) _) _⟩
          case measure => simp [intOf]; omega
        · have E : Hid (scan (writeF S.k) S.nw = 1) := by
            have : writeF S.k k = 1 := by
              unfold writeF
              rw [NN.out.1, NN.out.2.1, NN.out.2.2.1, NN.out.2.2.2]
              rw [if_neg (fun h => h G0.out)]
              have g1 := G1.out; have g2 := G2.out; have g3 := G3.out; rw [if_neg (by omega)]
              rw [if_pos (Or.inr (fun q => by unfold fits at q; rw [NN.out.2.1, NN.out.2.2.1, NN.out.2.2.2] at q; omega))]
            exact (scan_stop HS.out (by rw [this]; decide) hlt).trans this
          have dk : decide (0 < k) = false := decide_eq_false (by omega)
          have w4 : (n3 == 4) = true := beq_iff_eq.2 q4
          have w5 : (n1 != n2) = true := bne_iff_ne.2 q5
          clear HS NN G0 G1 G2 G3 q4 q5 hk0
          go_wp2_with fail
          refine (L0.out _).mono ?_
          rintro e w1 ⟨rfl, rfl⟩
          go_wp2_with fail
          refine (l2Ts_is _ true L1.out _).mono ?_
          rintro e w1 ⟨rfl, rfl⟩
          go_wp2_with fail
          refine (l2Ts_is _ true L2.out _).mono ?_
          rintro e w1 ⟨rfl, rfl⟩
          go_wp2_with fail
          refine (l1In_is _ _ _ true L3.out _).mono ?_
          rintro e w1 ⟨rfl, rfl⟩
          go_wp2_with fail
          go_quiet (fail)
          go_wp2_with fail
          try go_quiet (fail)
          go_wp2
          go_ret
          exact ⟨by rw [E.out]; rfl, by first | exact hbw.alloc hbw.size _ | exact below_dr (hbw.alloc hbw.size _) _ | exact below_dr (below_dr (hbw.alloc hbw.size _) _) _⟩
      · by_cases q5 : n1 ≤ n2
        · have E : Hid (scan (writeF S.k) S.nw = 1) := by
            have : writeF S.k k = 1 := by
              unfold writeF
              rw [NN.out.1, NN.out.2.1, NN.out.2.2.1, NN.out.2.2.2]
              rw [if_neg (fun h => h G0.out)]
              have g1 := G1.out; have g2 := G2.out; have g3 := G3.out; rw [if_neg (by omega)]
              rw [if_pos (Or.inr (fun q => by unfold fits at q; rw [NN.out.2.1, NN.out.2.2.1, NN.out.2.2.2] at q; omega))]
            exact (scan_stop HS.out (by rw [this]; decide) hlt).trans this
          have dk : decide (0 < k) = false := decide_eq_false (by omega)
          have w4 : (n3 == 4) = false := beq_eq_false_iff_ne.2 q4
          have w6 : (n3 != 4) = true := bne_iff_ne.2 q4
          have w5 : decide (n1 ≤ n2) = true := decide_eq_true q5
          clear HS NN G0 G1 G2 G3 q4 q5 hk0
          go_wp2_with fail
          refine (L0.out _).mono ?_
          rintro e w1 ⟨rfl, rfl⟩
          go_wp2_with fail
          refine (l2Ts_is _ true L1.out _).mono ?_
          rintro e w1 ⟨rfl, rfl⟩
          go_wp2_with fail
          refine (l2Ts_is _ true L2.out _).mono ?_
          rintro e w1 ⟨rfl, rfl⟩
          go_wp2_with fail
          refine (l1In_is _ _ _ true L3.out _).mono ?_
          rintro e w1 ⟨rfl, rfl⟩
          go_wp2_with fail
          go_quiet (fail)
          go_wp2_with fail
          try go_quiet (fail)
          go_wp2
          go_ret
          exact ⟨by rw [E.out]; rfl, by first | exact hbw.alloc hbw.size _ | exact below_dr (hbw.alloc hbw.size _) _ | exact below_dr (below_dr (hbw.alloc hbw.size _) _) _⟩
        · have E : Hid (scan (writeF S.k) (k + 1) = 0) := by
            have : writeF S.k k = 0 := by
              unfold writeF
              rw [NN.out.1, NN.out.2.1, NN.out.2.2.1, NN.out.2.2.2]
              rw [if_neg (fun h => h G0.out)]
              have g1 := G1.out; have g2 := G2.out; have g3 := G3.out; rw [if_neg (by omega)]
              have hft : fits S.k k := by unfold fits; rw [NN.out.2.1, NN.out.2.2.1, NN.out.2.2.2]; omega
              rw [if_neg (by rintro (h | h); exact absurd h (by omega); exact h hft)]
            exact scan_go HS.out this
          have dk : decide (0 < k) = false := decide_eq_false (by omega)
          have w4 : (n3 == 4) = false := beq_eq_false_iff_ne.2 q4
          have w6 : (n3 != 4) = true := bne_iff_ne.2 q4
          have w5 : decide (n1 ≤ n2) = false := decide_eq_false q5
          clear HS NN G0 G1 G2 G3 q4 q5 hk0
          go_wp2_with fail
          refine (L0.out _).mono ?_
          rintro e w1 ⟨rfl, rfl⟩
          go_wp2_with fail
          refine (l2Ts_is _ true L1.out _).mono ?_
          rintro e w1 ⟨rfl, rfl⟩
          go_wp2_with fail
          refine (l2Ts_is _ true L2.out _).mono ?_
          rintro e w1 ⟨rfl, rfl⟩
          go_wp2_with fail
          refine (l1In_is _ _ _ true L3.out _).mono ?_
          rintro e w1 ⟨rfl, rfl⟩
          go_wp2_with fail
          go_quiet (fail)
          go_wp2_with fail
          try go_quiet (fail)
          go_wp2
          go_roundw
          case rel => exact ⟨k + 1, by omega, by go_num, E, by first | exact hbw.alloc hbw.size _ | exact below_dr (hbw.alloc hbw.size _) _ | exact below_dr (below_dr (hbw.alloc hbw.size _) _) _⟩
          case measure => simp [intOf]; omega
    obtain ⟨g', o', he, _, _, y0, y1, _, _⟩ := (H.out.2.2.2.later hbw).at4 (k := k - 1) (by omega)
    simp only [Option.some.injEq, Addr.mk.injEq, and_true] at he
    obtain ⟨rfl, rfl⟩ := he
    obtain ⟨m0, M0⟩ : ∃ x, S.k ((k - 1) * 4) = x := ⟨_, rfl⟩
    rw [M0] at y0
    obtain ⟨m1, M1⟩ : ∃ x, S.k ((k - 1) * 4 + 1) = x := ⟨_, rfl⟩
    rw [M1] at y1
    have MM : Hid (S.k ((k - 1) * 4) = m0 ∧ S.k ((k - 1) * 4 + 1) = m1) := ⟨M0, M1⟩
    clear M0 M1
    have dk : decide (0 < k) = true := decide_eq_true hk0
    by_cases r1 : n0 < m0
    · have E : Hid (scan (writeF S.k) S.nw = 1) := by
        have : writeF S.k k = 1 := by
          unfold writeF
          rw [NN.out.1, NN.out.2.1, NN.out.2.2.1, NN.out.2.2.2]
          rw [if_neg (fun h => h G0.out)]
          have g1 := G1.out; have g2 := G2.out; have g3 := G3.out; rw [if_neg (by omega)]
          rw [MM.out.1, MM.out.2]
          rw [if_pos (Or.inl (by omega))]
        exact (scan_stop HS.out (by rw [this]; decide) hlt).trans this
      clear HS NN G0 G1 G2 G3 MM
      go_wp2_with fail
      refine (L0.out _).mono ?_
      rintro e w1 ⟨rfl, rfl⟩
      go_wp2_with fail
      refine (l2Ts_is _ true L1.out _).mono ?_
      rintro e w1 ⟨rfl, rfl⟩
      go_wp2_with fail
      refine (l2Ts_is _ true L2.out _).mono ?_
      rintro e w1 ⟨rfl, rfl⟩
      go_wp2_with fail
      refine (l1In_is _ _ _ true L3.out _).mono ?_
      rintro e w1 ⟨rfl, rfl⟩
      go_wp2_with fail
      go_quiet (fail)
      go_wp2
      go_ret
      exact ⟨by rw [E.out]; rfl, by first | exact hbw.alloc hbw.size _ | exact below_dr (hbw.alloc hbw.size _) _ | exact below_dr (below_dr (hbw.alloc hbw.size _) _) _⟩
    by_cases r2 : n0 = m0
    · by_cases r3 : n1 ≤ m1
      · have E : Hid (scan (writeF S.k) S.nw = 1) := by
          have : writeF S.k k = 1 := by
            unfold writeF
            rw [NN.out.1, NN.out.2.1, NN.out.2.2.1, NN.out.2.2.2]
            rw [if_neg (fun h => h G0.out)]
            have g1 := G1.out; have g2 := G2.out; have g3 := G3.out; rw [if_neg (by omega)]
            rw [MM.out.1, MM.out.2]
            rw [if_pos (Or.inl (by omega))]
          exact (scan_stop HS.out (by rw [this]; decide) hlt).trans this
        have s1 : decide (n0 < m0) = false := decide_eq_false r1
        have s2 : (n0 == m0) = true := beq_iff_eq.2 r2
        have s3 : decide (n1 ≤ m1) = true := decide_eq_true r3
        clear HS NN G0 G1 G2 G3 MM r1 r2
        go_wp2_with fail
        refine (L0.out _).mono ?_
        rintro e w1 ⟨rfl, rfl⟩
        go_wp2_with fail
        refine (l2Ts_is _ true L1.out _).mono ?_
        rintro e w1 ⟨rfl, rfl⟩
        go_wp2_with fail
        refine (l2Ts_is _ true L2.out _).mono ?_
        rintro e w1 ⟨rfl, rfl⟩
        go_wp2_with fail
        refine (l1In_is _ _ _ true L3.out _).mono ?_
        rintro e w1 ⟨rfl, rfl⟩
        go_wp2_with fail
        go_quiet (fail)
        go_wp2
        go_ret
        exact ⟨by rw [E.out]; rfl, by first | exact hbw.alloc hbw.size _ | exact below_dr (hbw.alloc hbw.size _) _ | exact below_dr (below_dr (hbw.alloc hbw.size _) _) _⟩
      · by_cases q4 : n3 = 4
        · by_cases q5 : n1 = n2
          · have E : Hid (scan (writeF S.k) (k + 1) = 0) := by
              have : writeF S.k k = 0 := by
                unfold writeF
                rw [NN.out.1, NN.out.2.1, NN.out.2.2.1, NN.out.2.2.2]
                rw [if_neg (fun h => h G0.out)]
                have g1 := G1.out; have g2 := G2.out; have g3 := G3.out; rw [if_neg (by omega)]
                rw [MM.out.1, MM.out.2]
                have hft : fits S.k k := by unfold fits; rw [NN.out.2.1, NN.out.2.2.1, NN.out.2.2.2]; omega
                rw [if_neg (by rintro (h | h); exact absurd h (by omega); exact h hft)]
              exact scan_go HS.out this
            have s1 : decide (n0 < m0) = false := decide_eq_false r1
            have s2 : (n0 == m0) = true := beq_iff_eq.2 r2
            have s3 : decide (n1 ≤ m1) = false := decide_eq_false r3
            have w4 : (n3 == 4) = true := beq_iff_eq.2 q4
            have w6 : (n3 != 4) = false := by rw [q4]; rfl
            have w5 : (n1 != n2) = false := by rw [q5]; exact bne_self_eq_false _
            clear HS NN G0 G1 G2 G3 q4 q5 MM r1 r2 r3
            go_wp2_with fail
            refine (L0.out _).mono ?_
            rintro e w1 ⟨rfl, rfl⟩
            go_wp2_with fail
            refine (l2Ts_is _ true L1.out _).mono ?_
            rintro e w1 ⟨rfl, rfl⟩
            go_wp2_with fail
            refine (l2Ts_is _ true L2.out _).mono ?_
            rintro e w1 ⟨rfl, rfl⟩
            go_wp2_with fail
            refine (l1In_is _ _ _ true L3.out _).mono ?_
            rintro e w1 ⟨rfl, rfl⟩
            go_wp2_with fail
            go_quiet (fail)
            go_wp2_with fail
            try go_quiet (fail)
            go_wp2
            go_roundw
            case rel => exact ⟨k + 1, by omega, by go_num, E, by first | exact hbw.alloc hbw.size _ | exact below_dr (hbw.alloc hbw.size _) _ | exact below_dr (below_dr (hbw.alloc hbw.size _) _) _⟩
            case measure => simp [intOf]; omega
          · have E : Hid (scan (writeF S.k) S.nw = 1) := by
              have : writeF S.k k = 1 := by
                unfold writeF
                rw [NN.out.1, NN.out.2.1, NN.out.2.2.1, NN.out.2.2.2]
                rw [if_neg (fun h => h G0.out)]
                have g1 := G1.out; have g2 := G2.out; have g3 := G3.out; rw [if_neg (by omega)]
                rw [MM.out.1, MM.out.2]
                rw [if_pos (Or.inr (fun q => by unfold fits at q; rw [NN.out.2.1, NN.out.2.2.1, NN.out.2.2.2] at q; omega))]
              exact (scan_stop HS.out (by rw [this]; decide) hlt).trans this
            have s1 : decide (n0 < m0) = false := decide_eq_false r1
            have s2 : (n0 == m0) = true := beq_iff_eq.2 r2
            have s3 : decide (n1 ≤ m1) = false := decide_eq_false r3
            have w4 : (n3 == 4) = true := beq_iff_eq.2 q4
            have w5 : (n1 != n2) = true := bne_iff_ne.2 q5
            clear HS NN G0 G1 G2 G3 q4 q5 MM r1 r2 r3
            go_wp2_with fail
            refine (L0.out _).mono ?_
            rintro e w1 ⟨rfl, rfl⟩
            go_wp2_with fail
            refine (l2Ts_is _ true L1.out _).mono ?_
            rintro e w1 ⟨rfl, rfl⟩
            go_wp2_with fail
            refine (l2Ts_is _ true L2.out _).mono ?_
            rintro e w1 ⟨rfl, rfl⟩
            go_wp2_with fail
            refine (l1In_is _ _ _ true L3.out _).mono ?_
            rintro e w1 ⟨rfl, rfl⟩
            go_wp2_with fail
            go_quiet (fail)
            go_wp2_with fail
            try go_quiet (fail)
            go_wp2
            go_ret
            exact ⟨by rw [E.out]; rfl, by first | exact hbw.alloc hbw.size _ | exact below_dr (hbw.alloc hbw.size _) _ | exact below_dr (below_dr (hbw.alloc hbw.size _) _) _⟩
        · by_cases q5 : n1 ≤ n2
          · have E : Hid (scan (writeF S.k) S.nw = 1) := by
              have : writeF S.k k = 1 := by
                unfold writeF
                rw [NN.out.1, NN.out.2.1, NN.out.2.2.1, NN.out.2.2.2]
                rw [if_neg (fun h => h G0.out)]
                have g1 := G1.out; have g2 := G2.out; have g3 := G3.out; rw [if_neg (by omega)]
                rw [MM.out.1, MM.out.2]
                rw [if_pos (Or.inr (fun q => by unfold fits at q; rw [NN.out.2.1, NN.out.2.2.1, NN.out.2.2.2] at q; omega))]
              exact (scan_stop HS.out (by rw [this]; decide) hlt).trans this
            have s1 : decide (n0 < m0) = false := decide_eq_false r1
            have s2 : (n0 == m0) = true := beq_iff_eq.2 r2
            have s3 : decide (n1 ≤ m1) = false := decide_eq_false r3
            have w4 : (n3 == 4) = false := beq_eq_false_iff_ne.2 q4
            have w6 : (n3 != 4) = true := bne_iff_ne.2 q4
            have w5 : decide (n1 ≤ n2) = true := decide_eq_true q5
            clear HS NN G0 G1 G2 G3 q4 q5 MM r1 r2 r3
            go_wp2_with fail
            refine (L0.out _).mono ?_
            rintro e w1 ⟨rfl, rfl⟩
            go_wp2_with fail
            refine (l2Ts_is _ true L1.out _).mono ?_
            rintro e w1 ⟨rfl, rfl⟩
            go_wp2_with fail
            refine (l2Ts_is _ true L2.out _).mono ?_
            rintro e w1 ⟨rfl, rfl⟩
            go_wp2_with fail
            refine (l1In_is _ _ _ true L3.out _).mono ?_
            rintro e w1 ⟨rfl, rfl⟩
            go_wp2_with fail
            go_quiet (fail)
            go_wp2_with fail
            try go_quiet (fail)
            go_wp2
            go_ret
            exact ⟨by rw [E.out]; rfl, by first | exact hbw.alloc hbw.size _ | exact below_dr (hbw.alloc hbw.size _) _ | exact below_dr (below_dr (hbw.alloc hbw.size _) _) _⟩
          · have E : Hid (scan (writeF S.k) (k + 1) = 0) := by
              have : writeF S.k k = 0 := by
                unfold writeF
                rw [NN.out.1, NN.out.2.1, NN.out.2.2.1, NN.out.2.2.2]
                rw [if_neg (fun h => h G0.out)]
                have g1 := G1.out; have g2 := G2.out; have g3 := G3.out; rw [if_neg (by omega)]
                rw [MM.out.1, MM.out.2]
                have hft : fits S.k k := by unfold fits; rw [NN.out.2.1, NN.out.2.2.1, NN.out.2.2.2]; omega
                rw [if_neg (by rintro (h | h); exact absurd h (by omega); exact h hft)]
              exact scan_go HS.out this
            have s1 : decide (n0 < m0) = false := decide_eq_false r1
            have s2 : (n0 == m0) = true := beq_iff_eq.2 r2
            have s3 : decide (n1 ≤ m1) = false := decide_eq_false r3
            have w4 : (n3 == 4) = false := beq_eq_false_iff_ne.2 q4
            have w6 : (n3 != 4) = true := bne_iff_ne.2 q4
            have w5 : decide (n1 ≤ n2) = false := decide_eq_false q5
            clear HS NN G0 G1 G2 G3 q4 q5 MM r1 r2 r3
            go_wp2_with fail
            refine (L0.out _).mono ?_
            rintro e w1 ⟨rfl, rfl⟩
            go_wp2_with fail
            refine (l2Ts_is _ true L1.out _).mono ?_
            rintro e w1 ⟨rfl, rfl⟩
            go_wp2_with fail
            refine (l2Ts_is _ true L2.out _).mono ?_
            rintro e w1 ⟨rfl, rfl⟩
            go_wp2_with fail
            refine (l1In_is _ _ _ true L3.out _).mono ?_
            rintro e w1 ⟨rfl, rfl⟩
            go_wp2_with fail
            go_quiet (fail)
            go_wp2_with fail
            try go_quiet (fail)
            go_wp2
            go_roundw
            case rel => exact ⟨k + 1, by omega, by go_num, E, by first | exact hbw.alloc hbw.size _ | exact below_dr (hbw.alloc hbw.size _) _ | exact below_dr (below_dr (hbw.alloc hbw.size _) _) _⟩
            case measure => simp [intOf]; omega
    · by_cases q4 : n3 = 4
      · by_cases q5 : n1 = n2
        · have E : Hid (scan (writeF S.k) (k + 1) = 0) := by
            have : writeF S.k k = 0 := by
              unfold writeF
              rw [NN.out.1, NN.out.2.1, NN.out.2.2.1, NN.out.2.2.2]
              rw [if_neg (fun h => h G0.out)]
              have g1 := G1.out; have g2 := G2.out; have g3 := G3.out; rw [if_neg (by omega)]
              rw [MM.out.1, MM.out.2]
              have hft : fits S.k k := by unfold fits; rw [NN.out.2.1, NN.out.2.2.1, NN.out.2.2.2]; omega
              rw [if_neg (by rintro (h | h); exact absurd h (by omega); exact h hft)]
            exact scan_go HS.out this
          have s1 : decide (n0 < m0) = false := decide_eq_false r1
          have s2 : (n0 == m0) = false := beq_eq_false_iff_ne.2 r2
          have w4 : (n3 == 4) = true := beq_iff_eq.2 q4
          have w6 : (n3 != 4) = false := by rw [q4]; rfl
          have w5 : (n1 != n2) = false := by rw [q5]; exact bne_self_eq_false _
          clear HS NN G0 G1 G2 G3 q4 q5 MM r1 r2
          go_wp2_with fail
          refine (L0.out _).mono ?_
          rintro e w1 ⟨rfl, rfl⟩
          go_wp2_with fail
          refine (l2Ts_is _ true L1.out _).mono ?_
          rintro e w1 ⟨rfl, rfl⟩
          go_wp2_with fail
          refine (l2Ts_is _ true L2.out _).mono ?_
          rintro e w1 ⟨rfl, rfl⟩
          go_wp2_with fail
          refine (l1In_is _ _ _ true L3.out _).mono ?_
          rintro e w1 ⟨rfl, rfl⟩
          go_wp2_with fail
          go_quiet (fail)
          go_wp2_with fail
          try go_quiet (fail)
          go_wp2
          go_roundw
          case rel => exact ⟨k + 1, by omega, by go_num, E, by first | exact hbw.alloc hbw.size _ | exact below_dr (hbw.alloc hbw.size _) _ | exact below_dr (below_dr (hbw.alloc hbw.size _) _) _⟩
          case measure => simp [intOf]; omega
        · have E : Hid (scan (writeF S.k) S.nw = 1) := by
            have : writeF S.k k = 1 := by
              unfold writeF
              rw [NN.out.1, NN.out.2.1, NN.out.2.2.1, NN.out.2.2.2]
              rw [if_neg (fun h => h G0.out)]
              have g1 := G1.out; have g2 := G2.out; have g3 := G3.out; rw [if_neg (by omega)]
              rw [MM.out.1, MM.out.2]
              rw [if_pos (Or.inr (fun q => by unfold fits at q; rw [NN.out.2.1, NN.out.2.2.1, NN.out.2.2.2] at q; omega))]
            exact (scan_stop HS.out (by rw [this]; decide) hlt).trans this
          have s1 : decide (n0 < m0) = false := decide_eq_false r1
          have s2 : (n0 == m0) = false := beq_eq_false_iff_ne.2 r2
          have w4 : (n3 == 4) = true := beq_iff_eq.2 q4
          have w5 : (n1 != n2) = true := bne_iff_ne.2 q5
          clear HS NN G0 G1 G2 G3 q4 q5 MM r1 r2
          go_wp2_with fail
          refine (L0.out _).mono ?_
          rintro e w1 ⟨rfl, rfl⟩
          go_wp2_with fail
          refine (l2Ts_is _ true L1.out _).mono ?_
          rintro e w1 ⟨rfl, rfl⟩
          go_wp2_with fail
          refine (l2Ts_is _ true L2.out _).mono ?_
          rintro e w1 ⟨rfl, rfl⟩
          go_wp2_with fail
          refine (l1In_is _ _ _ true L3.out _).mono ?_
          rintro e w1 ⟨rfl, rfl⟩
          go_wp2_with fail
          go_quiet (fail)
          go_wp2_with fail
          try go_quiet (fail)
          go_wp2
          go_ret
          exact ⟨by rw [E.out]; rfl, by first | exact hbw.alloc hbw.size _ | exact below_dr (hbw.alloc hbw.size _) _ | exact below_dr (below_dr (hbw.alloc hbw.size _) _) _⟩
      · by_cases q5 : n1 ≤ n2
        · have E : Hid (scan (writeF S.k) S.nw = 1) := by
            have : writeF S.k k = 1 := by
              unfold writeF
              rw [NN.out.1, NN.out.2.1, NN.out.2.2.1, NN.out.2.2.2]
              rw [if_neg (fun h => h G0.out)]
              have g1 := G1.out; have g2 := G2.out; have g3 := G3.out; rw [if_neg (by omega)]
              rw [MM.out.1, MM.out.2]
              rw [if_pos (Or.inr (fun q => by unfold fits at q; rw [NN.out.2.1, NN.out.2.2.1, NN.out.2.2.2] at q; omega))]
            exact (scan_stop HS.out (by rw [this]; decide) hlt).trans this
          have s1 : decide (n0 < m0) = false := decide_eq_false r1
          have s2 : (n0 == m0) = false := beq_eq_false_iff_ne.2 r2
          have w4 : (n3 == 4) = false := beq_eq_false_iff_ne.2 q4
          have w6 : (n3 != 4) = true := bne_iff_ne.2 q4
          have w5 : decide (n1 ≤ n2) = true := decide_eq_true q5
          clear HS NN G0 G1 G2 G3 q4 q5 MM r1 r2
          go_wp2_with fail
          refine (L0.out _).mono ?_
          rintro e w1 ⟨rfl, rfl⟩
          go_wp2_with fail
          refine (l2Ts_is _ true L1.out _).mono ?_
          rintro e w1 ⟨rfl, rfl⟩
          go_wp2_with fail
          refine (l2Ts_is _ true L2.out _).mono ?_
          rintro e w1 ⟨rfl, rfl⟩
          go_wp2_with fail
          refine (l1In_is _ _ _ true L3.out _).mono ?_
          rintro e w1 ⟨rfl, rfl⟩
          go_wp2_with fail
          go_quiet (fail)
          go_wp2_with fail
          try go_quiet (fail)
          go_wp2
          go_ret
          exact ⟨by rw [E.out]; rfl, by first | exact hbw.alloc hbw.size _ | exact below_dr (hbw.alloc hbw.size _) _ | exact below_dr (below_dr (hbw.alloc hbw.size _) _) _⟩
        · have E : Hid (scan (writeF S.k) (k + 1) = 0) := by
            have : writeF S.k k = 0 := by
              unfold writeF
              rw [NN.out.1, NN.out.2.1, NN.out.2.2.1, NN.out.2.2.2]
              rw [if_neg (fun h => h G0.out)]
              have g1 := G1.out; have g2 := G2.out; have g3 := G3.out; rw [if_neg (by omega)]
              rw [MM.out.1, MM.out.2]
              have hft : fits S.k k := by unfold fits; rw [NN.out.2.1, NN.out.2.2.1, NN.out.2.2.2]; omega
              rw [if_neg (by rintro (h | h); exact absurd h (by omega); exact h hft)]
            exact scan_go HS.out this
          have s1 : decide (n0 < m0) = false := decide_eq_false r1
          have s2 : (n0 == m0) = false := beq_eq_false_iff_ne.2 r2
          have w4 : (n3 == 4) = false := beq_eq_false_iff_ne.2 q4
          have w6 : (n3 != 4) = true := bne_iff_ne.2 q4
          have w5 : decide (n1 ≤ n2) = false := decide_eq_false q5
          clear HS NN G0 G1 G2 G3 q4 q5 MM r1 r2
          go_wp2_with fail
          refine (L0.out _).mono ?_
          rintro e w1 ⟨rfl, rfl⟩
          go_wp2_with fail
          refine (l2Ts_is _ true L1.out _).mono ?_
          rintro e w1 ⟨rfl, rfl⟩
          go_wp2_with fail
          refine (l2Ts_is _ true L2.out _).mono ?_
          rintro e w1 ⟨rfl, rfl⟩
          go_wp2_with fail
          refine (l1In_is _ _ _ true L3.out _).mono ?_
          rintro e w1 ⟨rfl, rfl⟩
          go_wp2_with fail
          go_quiet (fail)
          go_wp2_with fail
          try go_quiet (fail)
          go_wp2
          go_roundw
          case rel => exact ⟨k + 1, by omega, by go_num, E, by first | exact hbw.alloc hbw.size _ | exact below_dr (hbw.alloc hbw.size _) _ | exact below_dr (below_dr (hbw.alloc hbw.size _) _) _⟩
          case measure => simp [intOf]; omega
end Go.Proofs.YtknbeggnlhiamaaGreat

namespace Go.Proofs.YtknbeggnlhiamaaGreat
section
open Go.RowKit
/-- The first place below n at which p holds, or -1. -/
def FirstAt (p : Nat → Prop) (n : Nat) (r : Int) : Prop := (r = -1 ∧ ∀ i, i < n → ¬ p i) ∨ ∃ i : Nat, i < n ∧ r = i ∧ p i ∧ ∀ j, j < i → ¬ p j
theorem FirstAt.at {p : Nat → Prop} {n : Nat} {i : Nat} (h : FirstAt p n i) : i < n ∧ p i ∧ ∀ j, j < i → ¬ p j := by
  rcases h with ⟨e, _⟩ | ⟨j, hj, e, hp, hq⟩
  · omega
  · obtain rfl : i = j := by omega
    exact ⟨hj, hp, hq⟩

set_option maxRecDepth 10000 in
set_option maxHeartbeats 2000000 in
theorem l2Cell_anyO (S : Sto) (b oo : Nat) (v0 v1 v2 : Value) (a s : Int) (w : World) (h : LiesO w b oo S v0 v1 v2) (hn : S.nc ≤ 200) :
    Calls Tryz.prog 65 #[.pointer (some ⟨b, oo, none⟩), .int .i64 a, .int .i64 s] w fun e w' => ∃ r : Int, e = .returned (.int .i64 r) ∧ FirstAt (cellIs S.c a s) S.nc r ∧ w' = w := by
  obtain ⟨a0, c0, a1, c1, a2, c2, rfl, rfl, rfl⟩ := h.2.form
  have H : Hid (LiesO w b oo S (.slice a0 S.nc c0) (.slice a1 S.nl c1) (.slice a2 S.nw c2)) := h
  have p0 := h.1.1
  have hb := h.lt
  clear h
  go_enter Tryz.func65, Tryz.ntmps65
  go_wp2
  go_loop [7] (fun i => ∃ k : Nat, k ≤ S.nc ∧ i = .int .i64 k ∧ Hid (∀ j, j < k → ¬ cellIs S.c a s j)) (fun i => S.nc - (intOf i).toNat)
  case atStart => exact ⟨0, Nat.zero_le _, rfl, fun j hj => absurd hj (Nat.not_lt_zero j)⟩
  case round =>
    obtain ⟨k, hk, rfl, HS⟩ := hrel
    by_cases hlt : k < S.nc
    case neg =>
      obtain rfl : k = S.nc := by omega
      go_wp2
      go_ret
      exact ⟨_, rfl, Or.inl ⟨rfl, HS.out⟩, rfl⟩
    obtain ⟨g, o, rfl, _, hg, x0, x1, x2⟩ := H.out.2.1.at3 hlt
    obtain ⟨n0, N0⟩ : ∃ x, S.c (k * 3) = x := ⟨_, rfl⟩
    obtain ⟨n1, N1⟩ : ∃ x, S.c (k * 3 + 1) = x := ⟨_, rfl⟩
    rw [N0] at x0; rw [N1] at x1
    by_cases h0 : n0 = a
    · by_cases h1 : n1 = s
      · have E : Hid (cellIs S.c a s k) := ⟨N0.trans h0, N1.trans h1⟩
        clear N0 N1
        subst h0 h1
        go_wp2
        go_ret
        exact ⟨_, rfl, Or.inr ⟨k, hlt, rfl, E.out, HS.out⟩, rfl⟩
      · have E : Hid (∀ j, j < k + 1 → ¬ cellIs S.c a s j) := fun j hj => by
          rcases Nat.lt_or_ge j k with h | h
          · exact HS.out j h
          · obtain rfl : j = k := by omega
            exact fun q => h1 (N1.symm.trans q.2)
        have d1 : (n1 == s) = false := beq_eq_false_iff_ne.2 h1
        clear N0 N1 HS h1
        subst h0
        go_wp2
        go_round
        case rel => exact ⟨k + 1, by omega, by go_num, E⟩
        case measure => simp [intOf]; omega
    · have E : Hid (∀ j, j < k + 1 → ¬ cellIs S.c a s j) := fun j hj => by
        rcases Nat.lt_or_ge j k with h | h
        · exact HS.out j h
        · obtain rfl : j = k := by omega
          exact fun q => h0 (N0.symm.trans q.1)
      have d0 : (n0 == a) = false := beq_eq_false_iff_ne.2 h0
      clear N0 N1 HS h0
      go_wp2
      go_round
      case rel => exact ⟨k + 1, by omega, by go_num, E⟩
      case measure => simp [intOf]; omega
set_option maxRecDepth 10000 in
set_option maxHeartbeats 2000000 in
theorem l2Write_anyO (S : Sto) (b oo : Nat) (v0 v1 v2 : Value) (a s : Int) (w : World) (h : LiesO w b oo S v0 v1 v2) (hn : S.nw ≤ 200) :
    Calls Tryz.prog 66 #[.pointer (some ⟨b, oo, none⟩), .int .i64 a, .int .i64 s] w fun e w' => ∃ r : Int, e = .returned (.int .i64 r) ∧ FirstAt (writeIs S.k a s) S.nw r ∧ w' = w := by
  obtain ⟨a0, c0, a1, c1, a2, c2, rfl, rfl, rfl⟩ := h.2.form
  have H : Hid (LiesO w b oo S (.slice a0 S.nc c0) (.slice a1 S.nl c1) (.slice a2 S.nw c2)) := h
  have p0 := h.1.2.2
  have hb := h.lt
  clear h
  go_enter Tryz.func66, Tryz.ntmps66
  go_wp2
  go_loop [7] (fun i => ∃ k : Nat, k ≤ S.nw ∧ i = .int .i64 k ∧ Hid (∀ j, j < k → ¬ writeIs S.k a s j)) (fun i => S.nw - (intOf i).toNat)
  case atStart => exact ⟨0, Nat.zero_le _, rfl, fun j hj => absurd hj (Nat.not_lt_zero j)⟩
  case round =>
    obtain ⟨k, hk, rfl, HS⟩ := hrel
    by_cases hlt : k < S.nw
    case neg =>
      obtain rfl : k = S.nw := by omega
      go_wp2
      go_ret
      exact ⟨_, rfl, Or.inl ⟨rfl, HS.out⟩, rfl⟩
    obtain ⟨g, o, rfl, _, hg, x0, x1, x2, x3⟩ := H.out.2.2.2.at4 hlt
    obtain ⟨n0, N0⟩ : ∃ x, S.k (k * 4) = x := ⟨_, rfl⟩
    obtain ⟨n1, N1⟩ : ∃ x, S.k (k * 4 + 2) = x := ⟨_, rfl⟩
    rw [N0] at x0; rw [N1] at x2
    by_cases h0 : n0 = a
    · by_cases h1 : n1 = s
      · have E : Hid (writeIs S.k a s k) := ⟨N0.trans h0, N1.trans h1⟩
        clear N0 N1
        subst h0 h1
        go_wp2
        go_ret
        exact ⟨_, rfl, Or.inr ⟨k, hlt, rfl, E.out, HS.out⟩, rfl⟩
      · have E : Hid (∀ j, j < k + 1 → ¬ writeIs S.k a s j) := fun j hj => by
          rcases Nat.lt_or_ge j k with h | h
          · exact HS.out j h
          · obtain rfl : j = k := by omega
            exact fun q => h1 (N1.symm.trans q.2)
        have d1 : (n1 == s) = false := beq_eq_false_iff_ne.2 h1
        clear N0 N1 HS h1
        subst h0
        go_wp2
        go_round
        case rel => exact ⟨k + 1, by omega, by go_num, E⟩
        case measure => simp [intOf]; omega
    · have E : Hid (∀ j, j < k + 1 → ¬ writeIs S.k a s j) := fun j hj => by
        rcases Nat.lt_or_ge j k with h | h
        · exact HS.out j h
        · obtain rfl : j = k := by omega
          exact fun q => h0 (N0.symm.trans q.1)
      have d0 : (n0 == a) = false := beq_eq_false_iff_ne.2 h0
      clear N0 N1 HS h0
      go_wp2
      go_round
      case rel => exact ⟨k + 1, by omega, by go_num, E⟩
      case measure => simp [intOf]; omega
end

section
open Go.RowKit
theorem FirstAt.one {p : Nat → Prop} {n : Nat} {r r' : Int} (h : FirstAt p n r) (h' : FirstAt p n r') : r = r' := by
  rcases h with ⟨rfl, h⟩ | ⟨i, hi, rfl, hp, hq⟩ <;> rcases h' with ⟨rfl, h'⟩ | ⟨j, hj, rfl, hp', hq'⟩
  · rfl
  · exact absurd hp' (h j hj)
  · exact absurd hp (h' i hi)
  · rcases Nat.lt_trichotomy i j with e | e | e
    · exact absurd hp (hq' i e)
    · rw [e]
    · exact absurd hp' (hq j e)
theorem FirstAt.get (p : Nat → Prop) : ∀ n, ∃ r, FirstAt p n r
  | 0 => ⟨-1, Or.inl ⟨rfl, fun i hi => absurd hi (Nat.not_lt_zero i)⟩⟩
  | n + 1 => by
    obtain ⟨r, h⟩ := FirstAt.get p n
    rcases h with ⟨rfl, h⟩ | ⟨i, hi, rfl, hp, hq⟩
    · by_cases hn : p n
      · exact ⟨n, Or.inr ⟨n, by omega, rfl, hn, h⟩⟩
      · refine ⟨-1, Or.inl ⟨rfl, fun i hi => ?_⟩⟩
        rcases Nat.lt_or_ge i n with e | e
        · exact h i e
        · obtain rfl : i = n := by omega
          exact hn
    · exact ⟨i, Or.inr ⟨i, by omega, rfl, hp, hq⟩⟩
theorem LiesO.drewN {w : World} {b oo : Nat} {S : Sto} {v0 v1 v2 : Value} (h : LiesO w b oo S v0 v1 v2) (q : Nat) : LiesO (w.drewN q) b oo S v0 v1 v2 := h
theorem Lies.drewN {w : World} {b : Nat} {S : Sto} {v0 v1 v2 : Value} (h : Lies w b S v0 v1 v2) (q : Nat) : Lies (w.drewN q) b S v0 v1 v2 := h
theorem l2Cell_isO (S : Sto) (b oo : Nat) (v0 v1 v2 : Value) (a s r : Int) (w : World) (h : LiesO w b oo S v0 v1 v2) (hn : S.nc ≤ 200) (hr : FirstAt (cellIs S.c a s) S.nc r) :
    Calls Tryz.prog 65 #[.pointer (some ⟨b, oo, none⟩), .int .i64 a, .int .i64 s] w fun e w' => e = .returned (.int .i64 r) ∧ w' = w :=
  (l2Cell_anyO S b oo v0 v1 v2 a s w h hn).mono fun e w' ⟨r', he, hr', hw⟩ => ⟨by rw [he, hr.one hr'], hw⟩
theorem l2Write_isO (S : Sto) (b oo : Nat) (v0 v1 v2 : Value) (a s r : Int) (w : World) (h : LiesO w b oo S v0 v1 v2) (hn : S.nw ≤ 200) (hr : FirstAt (writeIs S.k a s) S.nw r) :
    Calls Tryz.prog 66 #[.pointer (some ⟨b, oo, none⟩), .int .i64 a, .int .i64 s] w fun e w' => e = .returned (.int .i64 r) ∧ w' = w :=
  (l2Write_anyO S b oo v0 v1 v2 a s w h hn).mono fun e w' ⟨r', he, hr', hw⟩ => ⟨by rw [he, hr.one hr'], hw⟩

set_option maxRecDepth 10000 in
set_option maxHeartbeats 4000000 in
theorem l2Needs_anyO (S : Sto) (b oo : Nat) (v0 v1 v2 : Value) (r : Bool) (w : World) (h : LiesO w b oo S v0 v1 v2) (hc : S.nc ≤ 200) (hl : S.nl ≤ 200) (hk : S.nw ≤ 200) (hr : r = true ↔ needs S) :
    Calls Tryz.prog 33 #[.pointer (some ⟨b, oo, none⟩)] w fun e w' => e = .returned (.bool r) ∧ Below w.heap.size w w' := by
  obtain ⟨a0, c0, a1, c1, a2, c2, rfl, rfl, rfl⟩ := h.2.form
  have H : Hid (LiesO w b oo S (.slice a0 S.nc c0) (.slice a1 S.nl c1) (.slice a2 S.nw c2)) := h
  have HR : Hid (r = true ↔ needs S) := hr
  clear h hr
  go_enter Tryz.func33, Tryz.ntmps33
  go_wp2
  go_loopw [3] (fun i wr => ∃ k : Nat, k ≤ S.nw ∧ i = .int .i64 k ∧ Hid (∀ j, j < k → putW S j) ∧ Hid (Below w.heap.size w wr)) (fun i _ => S.nw - (intOf i).toNat)
  case atStart => exact ⟨0, Nat.zero_le _, rfl, fun j hj => absurd hj (Nat.not_lt_zero j), Below.refl _ _⟩
  case round =>
    obtain ⟨k, hk', rfl, HS, HB⟩ := hrel
    have HL : Hid (LiesO wr b oo S (.slice a0 S.nc c0) (.slice a1 S.nl c1) (.slice a2 S.nw c2)) := H.out.later HB.out
    have e2 := HL.out.1.2.2
    by_cases hlt : k < S.nw
    case pos =>
      obtain ⟨g, o, rfl, _, hg, x0, x1, x2, x3⟩ := HL.out.2.2.2.at4 hlt
      obtain ⟨n0, N0⟩ : ∃ x, S.k (k * 4) = x := ⟨_, rfl⟩
      obtain ⟨n2, N2⟩ : ∃ x, S.k (k * 4 + 2) = x := ⟨_, rfl⟩
      obtain ⟨n3, N3⟩ : ∃ x, S.k (k * 4 + 3) = x := ⟨_, rfl⟩
      rw [N0] at x0; rw [N2] at x2; rw [N3] at x3
      have NN : Hid (S.k (k * 4) = n0 ∧ S.k (k * 4 + 2) = n2 ∧ S.k (k * 4 + 3) = n3) := ⟨N0, N2, N3⟩
      clear N0 N2 N3
      have NX : Hid (putW S k → ∀ j, j < k + 1 → putW S j) := fun q j hj => by
        rcases Nat.lt_or_ge j k with h | h
        · exact HS.out j h
        · obtain rfl : j = k := by omega
          exact q
      by_cases h3 : n3 = 1
      · obtain ⟨c, HF⟩ : ∃ c, Hid (FirstAt (cellIs S.c n0 n2) S.nc c) := FirstAt.get _ _
        have LC : Hid (∀ n, Calls Tryz.prog 65 #[.pointer (some ⟨b, oo, none⟩), .int .i64 n0, .int .i64 n2] (wr.drewN n) fun e w' => e = .returned (.int .i64 c) ∧ w' = wr.drewN n) := fun n => l2Cell_isO S b oo _ _ _ n0 n2 c _ (HL.out.drewN n) hc HF.out
        by_cases hcn : c < 0
        · have E : Hid (r = false) := by
            cases r with
            | false => rfl
            | true =>
              obtain ⟨i, hi, hp⟩ := (HR.out.1 rfl).1 k hlt (NN.out.2.2.trans h3)
              rw [NN.out.1, NN.out.2.1] at hp
              rcases HF.out with ⟨_, q⟩ | ⟨i', _, e, _⟩
              · exact absurd hp (q i hi)
              · omega
          have d : decide (c < 0) = true := decide_eq_true hcn
          clear NN NX HF HS hcn
          subst h3
          go_wp2_with fail
          go_quiet (first | (go_at_call 65; refine Calls.quiet_of_same (LC.out _)))
          go_wp2
          go_ret
          exact ⟨by rw [E.out]; rfl, below_dr HB.out _⟩
        · have E : Hid (∀ j, j < k + 1 → putW S j) := NX.out (fun _ => by
            rcases HF.out with ⟨e, _⟩ | ⟨i', hi, _, hp, _⟩
            · omega
            · exact ⟨i', hi, by rw [NN.out.1, NN.out.2.1]; exact hp⟩)
          have d : decide (c < 0) = false := decide_eq_false hcn
          clear NN NX HF HS hcn
          subst h3
          go_wp2_with fail
          go_quiet (first | (go_at_call 65; refine Calls.quiet_of_same (LC.out _)))
          go_wp2
          go_roundw
          case rel => exact ⟨k + 1, by omega, by go_num, E, below_dr HB.out _⟩
          case measure => simp [intOf]; omega
      · have E : Hid (∀ j, j < k + 1 → putW S j) := NX.out (fun q => absurd (NN.out.2.2.symm.trans q) h3)
        have d : (n3 == 1) = false := beq_eq_false_iff_ne.2 h3
        clear NN NX HS h3
        go_wp2_with fail
        go_quiet (fail)
        go_wp2
        go_roundw
        case rel => exact ⟨k + 1, by omega, by go_num, E, below_dr HB.out _⟩
        case measure => simp [intOf]; omega
    case neg =>
      have HW : Hid (∀ i, i < S.nw → putW S i) := fun i hi => HS.out i (by omega)
      clear HS HL
      go_wp2
      clear e2 hk' hlt
      go_loopw [4] (fun i wr => ∃ k : Nat, k ≤ S.nl ∧ i = .int .i64 k ∧ Hid (∀ j, j < k → putL S j) ∧ Hid (Below w.heap.size w wr)) (fun i _ => S.nl - (intOf i).toNat)
      case atStart => exact ⟨0, Nat.zero_le _, rfl, fun j hj => absurd hj (Nat.not_lt_zero j), HB⟩
      case round =>
        clear HB
        obtain ⟨k, hk', rfl, HS, HB⟩ := hrel
        have HL : Hid (LiesO wr b oo S (.slice a0 S.nc c0) (.slice a1 S.nl c1) (.slice a2 S.nw c2)) := H.out.later HB.out
        have e1 := HL.out.1.2.1
        by_cases hlt : k < S.nl
        case neg =>
          have E : Hid (r = true) := HR.out.2 ⟨HW.out, fun i hi => HS.out i (by omega)⟩
          clear HS HL
          go_wp2
          go_ret
          exact ⟨by rw [E.out]; rfl, HB.out⟩
        obtain ⟨g, o, rfl, _, hg, x0, x1, x2, x3, x4⟩ := HL.out.2.2.1.at5 hlt
        obtain ⟨n0, N0⟩ : ∃ x, S.l (k * 5) = x := ⟨_, rfl⟩
        obtain ⟨n1, N1⟩ : ∃ x, S.l (k * 5 + 1) = x := ⟨_, rfl⟩
        obtain ⟨n2, N2⟩ : ∃ x, S.l (k * 5 + 2) = x := ⟨_, rfl⟩
        rw [N0] at x0; rw [N1] at x1; rw [N2] at x2
        have NN : Hid (S.l (k * 5) = n0 ∧ S.l (k * 5 + 1) = n1 ∧ S.l (k * 5 + 2) = n2) := ⟨N0, N1, N2⟩
        clear N0 N1 N2
        have NX : Hid (putL S k → ∀ j, j < k + 1 → putL S j) := fun q j hj => by
          rcases Nat.lt_or_ge j k with h | h
          · exact HS.out j h
          · obtain rfl : j = k := by omega
            exact q
        by_cases h3 : n2 = 1
        · obtain ⟨c, HF⟩ : ∃ c, Hid (FirstAt (cellIs S.c n0 n1) S.nc c) := FirstAt.get _ _
          have LC : Hid (∀ n, Calls Tryz.prog 65 #[.pointer (some ⟨b, oo, none⟩), .int .i64 n0, .int .i64 n1] (wr.drewN n) fun e w' => e = .returned (.int .i64 c) ∧ w' = wr.drewN n) := fun n => l2Cell_isO S b oo _ _ _ n0 n1 c _ (HL.out.drewN n) hc HF.out
          by_cases hcn : c < 0
          · have E : Hid (r = false) := by
              cases r with
              | false => rfl
              | true =>
                obtain ⟨i, hi, hp⟩ := (HR.out.1 rfl).2 k hlt (NN.out.2.2.trans h3)
                rw [NN.out.1, NN.out.2.1] at hp
                rcases HF.out with ⟨_, q⟩ | ⟨i', _, e, _⟩
                · exact absurd hp (q i hi)
                · omega
            have d : decide (c < 0) = true := decide_eq_true hcn
            clear NN NX HF HS hcn
            subst h3
            go_wp2_with fail
            go_quiet (first | (go_at_call 65; refine Calls.quiet_of_same (LC.out _)))
            go_wp2
            go_ret
            exact ⟨by rw [E.out]; rfl, below_dr HB.out _⟩
          · have E : Hid (∀ j, j < k + 1 → putL S j) := NX.out (fun _ => by
              rcases HF.out with ⟨e, _⟩ | ⟨i', hi, _, hp, _⟩
              · omega
              · exact ⟨i', hi, by rw [NN.out.1, NN.out.2.1]; exact hp⟩)
            have d : decide (c < 0) = false := decide_eq_false hcn
            clear NN NX HF HS hcn
            subst h3
            go_wp2_with fail
            go_quiet (first | (go_at_call 65; refine Calls.quiet_of_same (LC.out _)))
            go_wp2
            go_roundw
            case rel => exact ⟨k + 1, by omega, by go_num, E, below_dr HB.out _⟩
            case measure => simp [intOf]; omega
        · have E : Hid (∀ j, j < k + 1 → putL S j) := NX.out (fun q => absurd (NN.out.2.2.symm.trans q) h3)
          have d : (n2 == 1) = false := beq_eq_false_iff_ne.2 h3
          clear NN NX HS h3
          go_wp2_with fail
          go_quiet (fail)
          go_wp2
          go_roundw
          case rel => exact ⟨k + 1, by omega, by go_num, E, below_dr HB.out _⟩
          case measure => simp [intOf]; omega
end

section
open Go.RowKit
set_option maxRecDepth 10000 in
set_option maxHeartbeats 4000000 in
theorem l2Once_anyO (S : Sto) (b oo : Nat) (v0 v1 v2 : Value) (r : Bool) (w : World) (h : LiesO w b oo S v0 v1 v2) (hl : S.nl ≤ 200) (hk : S.nw ≤ 200) (hr : r = true ↔ once S) :
    Calls Tryz.prog 34 #[.pointer (some ⟨b, oo, none⟩)] w fun e w' => e = .returned (.bool r) ∧ Below w.heap.size w w' := by
  obtain ⟨a0, c0, a1, c1, a2, c2, rfl, rfl, rfl⟩ := h.2.form
  have H : Hid (LiesO w b oo S (.slice a0 S.nc c0) (.slice a1 S.nl c1) (.slice a2 S.nw c2)) := h
  have HR : Hid (r = true ↔ once S) := hr
  clear h hr
  go_enter Tryz.func34, Tryz.ntmps34
  go_wp2
  go_loopw [3] (fun i wr => ∃ k : Nat, k ≤ S.nw ∧ i = .int .i64 k ∧ Hid (∀ j, j < k → onceW S j) ∧ Hid (Below w.heap.size w wr)) (fun i _ => S.nw - (intOf i).toNat)
  case atStart => exact ⟨0, Nat.zero_le _, rfl, fun j hj => absurd hj (Nat.not_lt_zero j), Below.refl _ _⟩
  case round =>
    obtain ⟨k, hk', rfl, HS, HB⟩ := hrel
    have HL : Hid (LiesO wr b oo S (.slice a0 S.nc c0) (.slice a1 S.nl c1) (.slice a2 S.nw c2)) := H.out.later HB.out
    have e2 := HL.out.1.2.2
    by_cases hlt : k < S.nw
    case pos =>
      obtain ⟨g, o, rfl, _, hg, x0, x1, x2, x3⟩ := HL.out.2.2.2.at4 hlt
      obtain ⟨n0, N0⟩ : ∃ x, S.k (k * 4) = x := ⟨_, rfl⟩
      obtain ⟨n2, N2⟩ : ∃ x, S.k (k * 4 + 2) = x := ⟨_, rfl⟩
      rw [N0] at x0; rw [N2] at x2
      have NN : Hid (S.k (k * 4) = n0 ∧ S.k (k * 4 + 2) = n2) := ⟨N0, N2⟩
      clear N0 N2
      obtain ⟨c, HF⟩ : ∃ c, Hid (FirstAt (writeIs S.k n0 n2) S.nw c) := FirstAt.get _ _
      have LC : Hid (∀ n, Calls Tryz.prog 66 #[.pointer (some ⟨b, oo, none⟩), .int .i64 n0, .int .i64 n2] (wr.drewN n) fun e w' => e = .returned (.int .i64 c) ∧ w' = wr.drewN n) := fun n => l2Write_isO S b oo _ _ _ n0 n2 c _ (HL.out.drewN n) hk HF.out
      have me : Hid (writeIs S.k n0 n2 k) := NN.out
      by_cases hcn : c = k
      · have E : Hid (∀ j, j < k + 1 → onceW S j) := fun j hj => by
          rcases Nat.lt_or_ge j k with h | h
          · exact HS.out j h
          · obtain rfl : j = k := by omega
            rintro ⟨i, hi, hp⟩
            rw [NN.out.1, NN.out.2] at hp
            rcases HF.out with ⟨e, _⟩ | ⟨i', _, e, _, q⟩
            · omega
            · exact q i (by omega) hp
        clear NN HF HS me
        subst hcn
        go_wp2_with fail
        go_quiet (first | (go_at_call 66; refine Calls.quiet_of_same (LC.out _)))
        go_wp2
        go_roundw
        case rel => exact ⟨k + 1, by omega, by go_num, E, below_dr HB.out _⟩
        case measure => simp [intOf]; omega
      · have E : Hid (r = false) := by
          cases r with
          | false => rfl
          | true =>
            have q := (HR.out.1 rfl).1 k hlt
            rcases HF.out with ⟨_, q'⟩ | ⟨i', hi', e, hp, q'⟩
            · exact absurd me.out (q' k hlt)
            · refine absurd ⟨i', ?_, by rw [NN.out.1, NN.out.2]; exact hp⟩ q
              rcases Nat.lt_or_ge k i' with h | h
              · exact absurd me.out (q' k h)
              · omega
        have d : (c != (k : Int)) = true := bne_iff_ne.2 hcn
        clear NN HF HS me hcn
        go_wp2_with fail
        go_quiet (first | (go_at_call 66; refine Calls.quiet_of_same (LC.out _)))
        go_wp2
        go_ret
        exact ⟨by rw [E.out]; rfl, below_dr HB.out _⟩
    case neg =>
      have HW : Hid (∀ i, i < S.nw → onceW S i) := fun i hi => HS.out i (by omega)
      clear HS HL
      go_wp2
      clear e2 hk' hlt
      go_loopw [4] (fun i wr => ∃ k : Nat, k ≤ S.nl ∧ i = .int .i64 k ∧ Hid (∀ j, j < k → onceL S j) ∧ Hid (Below w.heap.size w wr)) (fun i _ => S.nl - (intOf i).toNat)
      case atStart => exact ⟨0, Nat.zero_le _, rfl, fun j hj => absurd hj (Nat.not_lt_zero j), HB⟩
      case round =>
        clear HB
        obtain ⟨k, hk', rfl, HS, HB⟩ := hrel
        have HL : Hid (LiesO wr b oo S (.slice a0 S.nc c0) (.slice a1 S.nl c1) (.slice a2 S.nw c2)) := H.out.later HB.out
        have e1 := HL.out.1.2.1
        by_cases hlt : k < S.nl
        case neg =>
          have E : Hid (r = true) := HR.out.2 ⟨HW.out, fun i hi => HS.out i (by omega)⟩
          clear HS HL
          go_wp2
          go_ret
          exact ⟨by rw [E.out]; rfl, HB.out⟩
        obtain ⟨g, o, rfl, _, hg, x0, x1, x2, x3, x4⟩ := HL.out.2.2.1.at5 hlt
        obtain ⟨n0, N0⟩ : ∃ x, S.l (k * 5) = x := ⟨_, rfl⟩
        obtain ⟨n1, N1⟩ : ∃ x, S.l (k * 5 + 1) = x := ⟨_, rfl⟩
        rw [N0] at x0; rw [N1] at x1
        have NN : Hid (S.l (k * 5) = n0 ∧ S.l (k * 5 + 1) = n1) := ⟨N0, N1⟩
        clear N0 N1
        obtain ⟨c, HF⟩ : ∃ c, Hid (FirstAt (writeIs S.k n0 n1) S.nw c) := FirstAt.get _ _
        have LC : Hid (∀ n, Calls Tryz.prog 66 #[.pointer (some ⟨b, oo, none⟩), .int .i64 n0, .int .i64 n1] (wr.drewN n) fun e w' => e = .returned (.int .i64 c) ∧ w' = wr.drewN n) := fun n => l2Write_isO S b oo _ _ _ n0 n1 c _ (HL.out.drewN n) hk HF.out
        by_cases hcn : 0 ≤ c
        · have E : Hid (r = false) := by
            cases r with
            | false => rfl
            | true =>
              have q := (HR.out.1 rfl).2 k hlt
              rcases HF.out with ⟨e, _⟩ | ⟨i', hi', e, hp, q'⟩
              · omega
              · exact absurd ⟨i', hi', by rw [NN.out.1, NN.out.2]; exact hp⟩ q
          have d : decide (0 ≤ c) = true := decide_eq_true hcn
          clear NN HF HS hcn
          go_wp2_with fail
          go_quiet (first | (go_at_call 66; refine Calls.quiet_of_same (LC.out _)))
          go_wp2
          go_ret
          exact ⟨by rw [E.out]; rfl, below_dr HB.out _⟩
        · have E : Hid (∀ j, j < k + 1 → onceL S j) := fun j hj => by
            rcases Nat.lt_or_ge j k with h | h
            · exact HS.out j h
            · obtain rfl : j = k := by omega
              rintro ⟨i, hi, hp⟩
              rw [NN.out.1, NN.out.2] at hp
              rcases HF.out with ⟨_, q⟩ | ⟨i', _, e, _⟩
              · exact q i hi hp
              · omega
          have d : decide (0 ≤ c) = false := decide_eq_false hcn
          clear NN HF HS hcn
          go_wp2_with fail
          go_quiet (first | (go_at_call 66; refine Calls.quiet_of_same (LC.out _)))
          go_wp2
          go_roundw
          case rel => exact ⟨k + 1, by omega, by go_num, E, below_dr HB.out _⟩
          case measure => simp [intOf]; omega
end

section
open Go.RowKit
theorem l2Cells_isO (S : Sto) (b oo : Nat) (v0 v1 v2 : Value) (r : Int) (hr : scan (cellF S.c) S.nc = r) (w x : World) (h : LiesO w b oo S v0 v1 v2) (hb : Below w.heap.size w x) (hn : S.nc ≤ 200) :
    Calls Tryz.prog 30 #[.pointer (some ⟨b, oo, none⟩)] x fun e w' => e = .returned (.int .i64 r) ∧ Below w.heap.size w w' :=
  (l2Cells_anyO S b oo v0 v1 v2 x (h.later hb) hn).mono fun e w' ⟨he, hw⟩ => ⟨by rw [he, hr], hb.trans (hw.mono hb.size)⟩
theorem l2Locks_isO (S : Sto) (b oo : Nat) (v0 v1 v2 : Value) (r : Int) (hr : scan (lockF S.l) S.nl = r) (w x : World) (h : LiesO w b oo S v0 v1 v2) (hb : Below w.heap.size w x) (hn : S.nl ≤ 200) :
    Calls Tryz.prog 31 #[.pointer (some ⟨b, oo, none⟩)] x fun e w' => e = .returned (.int .i64 r) ∧ Below w.heap.size w w' :=
  (l2Locks_anyO S b oo v0 v1 v2 x (h.later hb) hn).mono fun e w' ⟨he, hw⟩ => ⟨by rw [he, hr], hb.trans (hw.mono hb.size)⟩
theorem l2Writes_isO (S : Sto) (b oo : Nat) (v0 v1 v2 : Value) (r : Int) (hr : scan (writeF S.k) S.nw = r) (w x : World) (h : LiesO w b oo S v0 v1 v2) (hb : Below w.heap.size w x) (hn : S.nw ≤ 200) :
    Calls Tryz.prog 32 #[.pointer (some ⟨b, oo, none⟩)] x fun e w' => e = .returned (.int .i64 r) ∧ Below w.heap.size w w' :=
  (l2Writes_anyO S b oo v0 v1 v2 x (h.later hb) hn).mono fun e w' ⟨he, hw⟩ => ⟨by rw [he, hr], hb.trans (hw.mono hb.size)⟩
set_option maxRecDepth 10000 in
set_option maxHeartbeats 4000000 in
theorem l2Fault_anyO (S : Sto) (b oo : Nat) (v0 v1 v2 : Value) (w : World) (h : LiesO w b oo S v0 v1 v2) :
    Calls Tryz.prog 16 #[.pointer (some ⟨b, oo, none⟩)] w fun e w' => e = .returned (.int .i64 (storeF S)) ∧ Below w.heap.size w w' := by
  obtain ⟨a0, c0, a1, c1, a2, c2, rfl, rfl, rfl⟩ := h.2.form
  have H : Hid (LiesO w b oo S (.slice a0 S.nc c0) (.slice a1 S.nl c1) (.slice a2 S.nw c2)) := h
  obtain ⟨⟨p0, p1, p2⟩, _⟩ := h
  by_cases m0 : 200 < S.nc
  · have E : Hid (storeF S = 2) := by unfold Hid storeF; rw [if_pos (Or.inl m0)]
    go_enter Tryz.func16, Tryz.ntmps16
    go_wp2_with fail
    go_wp2
    go_ret
    exact ⟨by rw [E.out]; rfl, Below.refl _ _⟩
  have m0' : decide ((200 : Int) < (S.nc : Int)) = false := decide_eq_false (by omega)
  by_cases m1 : 200 < S.nl
  · have E : Hid (storeF S = 2) := by unfold Hid storeF; rw [if_pos (Or.inr (Or.inl m1))]
    clear m0
    go_enter Tryz.func16, Tryz.ntmps16
    go_wp2_with fail
    go_wp2
    go_ret
    exact ⟨by rw [E.out]; rfl, Below.refl _ _⟩
  have m1' : decide ((200 : Int) < (S.nl : Int)) = false := decide_eq_false (by omega)
  by_cases m2 : 200 < S.nw
  · have E : Hid (storeF S = 2) := by unfold Hid storeF; rw [if_pos (Or.inr (Or.inr m2))]
    clear m0 m1
    go_enter Tryz.func16, Tryz.ntmps16
    go_wp2_with fail
    go_wp2
    go_ret
    exact ⟨by rw [E.out]; rfl, Below.refl _ _⟩
  have m2' : decide ((200 : Int) < (S.nw : Int)) = false := decide_eq_false (by omega)
  have HM : Hid (¬ (200 < S.nc ∨ 200 < S.nl ∨ 200 < S.nw)) := by unfold Hid; omega
  have hc : Hid (S.nc ≤ 200 ∧ S.nl ≤ 200 ∧ S.nw ≤ 200) := ⟨by omega, by omega, by omega⟩
  clear m0 m1 m2
  have HB : Hid (Below w.heap.size w w) := Below.refl _ _
  by_cases z0 : scan (cellF S.c) S.nc = 0
  case neg =>
    obtain ⟨f, hf⟩ : ∃ f, scan (cellF S.c) S.nc = f := ⟨_, rfl⟩
    have E : Hid (storeF S = f) := by unfold Hid storeF; rw [if_neg HM.out, if_pos z0]; exact hf
    have hfn : (f == 0) = false := beq_eq_false_iff_ne.2 (by rw [← hf]; exact z0)
    have F0 : Hid (scan (cellF S.c) S.nc = f) := hf
    clear hf z0
    go_enter Tryz.func16, Tryz.ntmps16
    go_wp2_with fail
    refine (l2Cells_isO S b oo _ _ _ f F0.out _ _ H.out HB.out hc.out.1).mono ?_
    rintro e w1 ⟨rfl, q1⟩
    have HB : Hid (Below w.heap.size w w1) := q1
    clear q1
    go_wp2_with fail
    go_wp2
    go_ret
    exact ⟨by rw [E.out]; rfl, HB.out⟩
  have F0 : Hid (scan (cellF S.c) S.nc = 0) := z0
  have G0 : Hid (¬ scan (cellF S.c) S.nc ≠ 0) := fun h => h z0
  clear z0
  by_cases z0 : scan (lockF S.l) S.nl = 0
  case neg =>
    obtain ⟨f, hf⟩ : ∃ f, scan (lockF S.l) S.nl = f := ⟨_, rfl⟩
    have E : Hid (storeF S = f) := by unfold Hid storeF; rw [if_neg HM.out, if_neg G0.out, if_pos z0]; exact hf
    have hfn : (f == 0) = false := beq_eq_false_iff_ne.2 (by rw [← hf]; exact z0)
    have F1 : Hid (scan (lockF S.l) S.nl = f) := hf
    clear hf z0
    go_enter Tryz.func16, Tryz.ntmps16
    go_wp2_with fail
    refine (l2Cells_isO S b oo _ _ _ 0 F0.out _ _ H.out HB.out hc.out.1).mono ?_
    rintro e w1 ⟨rfl, q1⟩
    have HB : Hid (Below w.heap.size w w1) := q1
    clear q1
    go_wp2_with fail
    refine (l2Locks_isO S b oo _ _ _ f F1.out _ _ H.out HB.out hc.out.2.1).mono ?_
    rintro e w1 ⟨rfl, q1⟩
    have HB : Hid (Below w.heap.size w w1) := q1
    clear q1
    go_wp2_with fail
    go_wp2
    go_ret
    exact ⟨by rw [E.out]; rfl, HB.out⟩
  have F1 : Hid (scan (lockF S.l) S.nl = 0) := z0
  have G1 : Hid (¬ scan (lockF S.l) S.nl ≠ 0) := fun h => h z0
  clear z0
  by_cases z0 : scan (writeF S.k) S.nw = 0
  case neg =>
    obtain ⟨f, hf⟩ : ∃ f, scan (writeF S.k) S.nw = f := ⟨_, rfl⟩
    have E : Hid (storeF S = f) := by unfold Hid storeF; rw [if_neg HM.out, if_neg G0.out, if_neg G1.out, if_pos z0]; exact hf
    have hfn : (f == 0) = false := beq_eq_false_iff_ne.2 (by rw [← hf]; exact z0)
    have F2 : Hid (scan (writeF S.k) S.nw = f) := hf
    clear hf z0
    go_enter Tryz.func16, Tryz.ntmps16
    go_wp2_with fail
    refine (l2Cells_isO S b oo _ _ _ 0 F0.out _ _ H.out HB.out hc.out.1).mono ?_
    rintro e w1 ⟨rfl, q1⟩
    have HB : Hid (Below w.heap.size w w1) := q1
    clear q1
    go_wp2_with fail
    refine (l2Locks_isO S b oo _ _ _ 0 F1.out _ _ H.out HB.out hc.out.2.1).mono ?_
    rintro e w1 ⟨rfl, q1⟩
    have HB : Hid (Below w.heap.size w w1) := q1
    clear q1
    go_wp2_with fail
    refine (l2Writes_isO S b oo _ _ _ f F2.out _ _ H.out HB.out hc.out.2.2).mono ?_
    rintro e w1 ⟨rfl, q1⟩
    have HB : Hid (Below w.heap.size w w1) := q1
    clear q1
    go_wp2_with fail
    go_wp2
    go_ret
    exact ⟨by rw [E.out]; rfl, HB.out⟩
  have F2 : Hid (scan (writeF S.k) S.nw = 0) := z0
  have G2 : Hid (¬ scan (writeF S.k) S.nw ≠ 0) := fun h => h z0
  clear z0
  by_cases y0 : needs S
  case neg =>
    have E : Hid (storeF S = 4) := by unfold Hid storeF; rw [if_neg HM.out, if_neg G0.out, if_neg G1.out, if_neg G2.out, if_pos y0]
    have Y : Hid (false = true ↔ needs S) := ⟨fun h => absurd h (by decide), fun h => absurd h y0⟩
    clear y0
    go_enter Tryz.func16, Tryz.ntmps16
    go_wp2_with fail
    refine (l2Cells_isO S b oo _ _ _ 0 F0.out _ _ H.out HB.out hc.out.1).mono ?_
    rintro e w1 ⟨rfl, q1⟩
    have HB : Hid (Below w.heap.size w w1) := q1
    clear q1
    go_wp2_with fail
    refine (l2Locks_isO S b oo _ _ _ 0 F1.out _ _ H.out HB.out hc.out.2.1).mono ?_
    rintro e w1 ⟨rfl, q1⟩
    have HB : Hid (Below w.heap.size w w1) := q1
    clear q1
    go_wp2_with fail
    refine (l2Writes_isO S b oo _ _ _ 0 F2.out _ _ H.out HB.out hc.out.2.2).mono ?_
    rintro e w1 ⟨rfl, q1⟩
    have HB : Hid (Below w.heap.size w w1) := q1
    clear q1
    go_wp2_with fail
    refine (l2Needs_anyO S b oo _ _ _ false _ (H.out.later HB.out) hc.out.1 hc.out.2.1 hc.out.2.2 Y.out).mono ?_
    rintro e w1 ⟨rfl, q1⟩
    have HB : Hid (Below w.heap.size w w1) := HB.out.trans (q1.mono HB.out.size)
    clear q1
    go_wp2
    go_ret
    exact ⟨by rw [E.out]; rfl, HB.out⟩
  have Y : Hid (needs S) := y0
  have G3 : Hid (¬ ¬ needs S) := fun h => h y0
  clear y0
  by_cases y0 : once S
  case neg =>
    have E : Hid (storeF S = 6) := by unfold Hid storeF; rw [if_neg HM.out, if_neg G0.out, if_neg G1.out, if_neg G2.out, if_neg G3.out, if_pos y0]
    have Z : Hid (false = true ↔ once S) := ⟨fun h => absurd h (by decide), fun h => absurd h y0⟩
    clear y0
    go_enter Tryz.func16, Tryz.ntmps16
    go_wp2_with fail
    refine (l2Cells_isO S b oo _ _ _ 0 F0.out _ _ H.out HB.out hc.out.1).mono ?_
    rintro e w1 ⟨rfl, q1⟩
    have HB : Hid (Below w.heap.size w w1) := q1
    clear q1
    go_wp2_with fail
    refine (l2Locks_isO S b oo _ _ _ 0 F1.out _ _ H.out HB.out hc.out.2.1).mono ?_
    rintro e w1 ⟨rfl, q1⟩
    have HB : Hid (Below w.heap.size w w1) := q1
    clear q1
    go_wp2_with fail
    refine (l2Writes_isO S b oo _ _ _ 0 F2.out _ _ H.out HB.out hc.out.2.2).mono ?_
    rintro e w1 ⟨rfl, q1⟩
    have HB : Hid (Below w.heap.size w w1) := q1
    clear q1
    go_wp2_with fail
    refine (l2Needs_anyO S b oo _ _ _ true _ (H.out.later HB.out) hc.out.1 hc.out.2.1 hc.out.2.2 ⟨fun _ => Y.out, fun _ => rfl⟩).mono ?_
    rintro e w1 ⟨rfl, q1⟩
    have HB : Hid (Below w.heap.size w w1) := HB.out.trans (q1.mono HB.out.size)
    clear q1
    go_wp2_with fail
    refine (l2Once_anyO S b oo _ _ _ false _ (H.out.later HB.out) hc.out.2.1 hc.out.2.2 Z.out).mono ?_
    rintro e w1 ⟨rfl, q1⟩
    have HB : Hid (Below w.heap.size w w1) := HB.out.trans (q1.mono HB.out.size)
    clear q1
    go_wp2
    go_ret
    exact ⟨by rw [E.out]; rfl, HB.out⟩
  have E : Hid (storeF S = 0) := by unfold Hid storeF; rw [if_neg HM.out, if_neg G0.out, if_neg G1.out, if_neg G2.out, if_neg G3.out, if_neg (fun h => h y0)]
  have Z : Hid (once S) := y0
  clear y0
  go_enter Tryz.func16, Tryz.ntmps16
  go_wp2_with fail
  refine (l2Cells_isO S b oo _ _ _ 0 F0.out _ _ H.out HB.out hc.out.1).mono ?_
  rintro e w1 ⟨rfl, q1⟩
  have HB : Hid (Below w.heap.size w w1) := q1
  clear q1
  go_wp2_with fail
  refine (l2Locks_isO S b oo _ _ _ 0 F1.out _ _ H.out HB.out hc.out.2.1).mono ?_
  rintro e w1 ⟨rfl, q1⟩
  have HB : Hid (Below w.heap.size w w1) := q1
  clear q1
  go_wp2_with fail
  refine (l2Writes_isO S b oo _ _ _ 0 F2.out _ _ H.out HB.out hc.out.2.2).mono ?_
  rintro e w1 ⟨rfl, q1⟩
  have HB : Hid (Below w.heap.size w w1) := q1
  clear q1
  go_wp2_with fail
  refine (l2Needs_anyO S b oo _ _ _ true _ (H.out.later HB.out) hc.out.1 hc.out.2.1 hc.out.2.2 ⟨fun _ => Y.out, fun _ => rfl⟩).mono ?_
  rintro e w1 ⟨rfl, q1⟩
  have HB : Hid (Below w.heap.size w w1) := HB.out.trans (q1.mono HB.out.size)
  clear q1
  go_wp2_with fail
  refine (l2Once_anyO S b oo _ _ _ true _ (H.out.later HB.out) hc.out.2.1 hc.out.2.2 ⟨fun _ => Z.out, fun _ => rfl⟩).mono ?_
  rintro e w1 ⟨rfl, q1⟩
  have HB : Hid (Below w.heap.size w w1) := HB.out.trans (q1.mono HB.out.size)
  clear q1
  go_wp2
  go_ret
  exact ⟨by rw [E.out]; rfl, HB.out⟩

theorem l2Fault_any (S : Sto) (b : Nat) (v0 v1 v2 : Value) (w : World) (h : Lies w b S v0 v1 v2) :
    Calls Tryz.prog 16 #[.pointer (some ⟨b, 0, none⟩)] w fun e w' => e = .returned (.int .i64 (storeF S)) ∧ Below w.heap.size w w' := l2Fault_anyO S b 0 v0 v1 v2 w h.o
end
end Go.Proofs.YtknbeggnlhiamaaGreat

namespace Go.Proofs.YtknbeggnlhiamaaGreat
open Go.RowKit

/-- A call over two stores whose answer is a code and a store. -/
def CallJ (w : World) (B : Nat) (A T : Sto) (v0 v1 v2 y0 y1 y2 : Value) (x : World) : Prop := Blk3 x w.heap.size v0 v1 v2 ∧ Blk3 x (w.heap.size + 1) y0 y1 y2 ∧ Blk4 x (w.heap.size + 2) (.int .i64 0) (.slice none 0 0) (.slice none 0 0) (.slice none 0 0) ∧ St x B A v0 v1 v2 ∧ St x B T y0 y1 y2 ∧ Below w.heap.size w x
theorem CallJ.later {w x x' : World} {B : Nat} {A T : Sto} {v0 v1 v2 y0 y1 y2 : Value} (h : CallJ w B A T v0 v1 v2 y0 y1 y2 x) (hb : Below x.heap.size x x') : CallJ w B A T v0 v1 v2 y0 y1 y2 x' := ⟨h.1.later hb, h.2.1.later hb, h.2.2.1.later hb, h.2.2.2.1.later hb, h.2.2.2.2.1.later hb, h.2.2.2.2.2.trans (hb.mono h.2.2.2.2.2.size)⟩
theorem CallJ.new {w : World} {B : Nat} {A T : Sto} {v0 v1 v2 y0 y1 y2 : Value} (h : St w B A v0 v1 v2) (h' : St w B T y0 y1 y2) (t t' : TypeId) : CallJ w B A T v0 v1 v2 y0 y1 y2 (((w.alloc (.cells #[v0, v1, v2] t)).alloc (.cells #[y0, y1, y2] t)).alloc (.cells #[.int .i64 0, .slice none 0 0, .slice none 0 0, .slice none 0 0] t')) := by
  refine ⟨((Blk3.new w v0 v1 v2 t).alloc _).alloc _, ?_, ?_, ((h.alloc _).alloc _).alloc _, ((h'.alloc _).alloc _).alloc _, ((below_alloc _ _).alloc (by simp) _).alloc (by simp; omega) _⟩
  · have := Blk3.new (w.alloc (.cells #[v0, v1, v2] t)) y0 y1 y2 t
    rw [World.size_alloc] at this
    exact this.alloc _
  · have := Blk4.new ((w.alloc (.cells #[v0, v1, v2] t)).alloc (.cells #[y0, y1, y2] t)) (.int .i64 0) (.slice none 0 0) (.slice none 0 0) (.slice none 0 0) t'
    rwa [World.size_alloc, World.size_alloc] at this
set_option maxRecDepth 100000 in
set_option maxHeartbeats 8000000 in
theorem specJoin_is (A T : Sto) (v0 v1 v2 y0 y1 y2 : Value) (c : Int) (R : Sto) (B : Nat) (w : World) (h : St w B A v0 v1 v2) (h' : St w B T y0 y1 y2) (hA : JoinAns A T c R) :
    Calls Tryz.prog 5 #[.agg #[v0, v1, v2], .agg #[y0, y1, y2]] w (ResSto w c R) := by
  obtain ⟨a0, c0, a1, c1, a2, c2, rfl, rfl, rfl⟩ := h.form
  obtain ⟨p0, q0, p1, q1, p2, q2, rfl, rfl, rfl⟩ := h'.form
  have HE : Hid (CallJ w B A T (.slice a0 A.nc c0) (.slice a1 A.nl c1) (.slice a2 A.nw c2) (.slice p0 T.nc q0) (.slice p1 T.nl q1) (.slice p2 T.nw q2) (((w.alloc (.cells #[.slice a0 A.nc c0, .slice a1 A.nl c1, .slice a2 A.nw c2] 32)).alloc (.cells #[.slice p0 T.nc q0, .slice p1 T.nl q1, .slice p2 T.nw q2] 32)).alloc (.cells #[.int .i64 0, .slice none 0 0, .slice none 0 0, .slice none 0 0] 34))) := CallJ.new h h' _ _
  clear h h'
  unfold ResSto
  rcases hA with ⟨hz, rfl, rfl⟩ | ⟨hz, hz2, rfl, rfl⟩ | ⟨hz, hz2, hz3, rfl, rfl⟩ | ⟨hz, hz2, hz3, rfl, rfl⟩
  · obtain ⟨f, hf⟩ : ∃ f, storeF A = f := ⟨_, rfl⟩
    have HF : Hid (storeF A = f) := hf
    have hfn : (f == 0) = false := beq_eq_false_iff_ne.2 (by rw [← hf]; exact hz)
    rw [hf]
    clear hz hf
    go_enter Tryz.func5, Tryz.ntmps5
    go_upto_region 1 with fail
    rw [show w.heap.size + 1 + 1 = w.heap.size + 2 from rfl]
    go_wp2_with fail
    refine (l2Fault_any A w.heap.size _ _ _ _ ⟨HE.out.1.1, HE.out.2.2.2.1.mono (Nat.zero_le _)⟩).mono ?_
    rw [HF.out]
    rintro e w1 ⟨rfl, qx⟩
    have HE : Hid (CallJ w B A T (.slice a0 A.nc c0) (.slice a1 A.nl c1) (.slice a2 A.nw c2) (.slice p0 T.nc q0) (.slice p1 T.nl q1) (.slice p2 T.nw q2) w1) := HE.out.later qx
    obtain ⟨⟨⟨s0, s1, s2⟩, _⟩, ⟨⟨t0, t1, t2⟩, _⟩, ⟨⟨r0, r1, r2, r3⟩, f0, f1, f2, f3⟩, _⟩ := HE.out
    clear qx
    go_wp2
    exact bodyPost_ret (v := .agg #[.int .i64 f, .slice none 0 0, .slice none 0 0, .slice none 0 0]) (by simp [results, Tryz.results5, go_sem, r0, r1, r2, r3]) rfl ⟨none, 0, none, 0, none, 0, rfl, empty_sto _ _, (((HE.out.2.2.2.2.2.setCell (by simp) _).setCell (by simp) _).setCell (by simp) _).setCell (by simp) _⟩
  · obtain ⟨f, hf⟩ : ∃ f, storeF T = f := ⟨_, rfl⟩
    have H0 : Hid (storeF A = 0) := hz
    have HF : Hid (storeF T = f) := hf
    have hfn : (f == 0) = false := beq_eq_false_iff_ne.2 (by rw [← hf]; exact hz2)
    rw [hf]
    clear hz hz2 hf
    go_enter Tryz.func5, Tryz.ntmps5
    go_upto_region 1 with fail
    rw [show w.heap.size + 1 + 1 = w.heap.size + 2 from rfl]
    go_wp2_with fail
    refine (l2Fault_any A w.heap.size _ _ _ _ ⟨HE.out.1.1, HE.out.2.2.2.1.mono (Nat.zero_le _)⟩).mono ?_
    rw [H0.out]
    rintro e w1 ⟨rfl, qx⟩
    have HE : Hid (CallJ w B A T (.slice a0 A.nc c0) (.slice a1 A.nl c1) (.slice a2 A.nw c2) (.slice p0 T.nc q0) (.slice p1 T.nl q1) (.slice p2 T.nw q2) w1) := HE.out.later qx
    obtain ⟨⟨⟨s0, s1, s2⟩, _⟩, ⟨⟨t0, t1, t2⟩, _⟩, ⟨⟨r0, r1, r2, r3⟩, f0, f1, f2, f3⟩, _⟩ := HE.out
    clear qx
    go_wp2_with fail
    refine (l2Fault_any T (w.heap.size + 1) _ _ _ _ ⟨HE.out.2.1.1, HE.out.2.2.2.2.1.mono (Nat.zero_le _)⟩).mono ?_
    rw [HF.out]
    rintro e w2 ⟨rfl, qx⟩
    clear s0 s1 s2 t0 t1 t2 r0 r1 r2 r3 f0 f1 f2 f3
    have HE : Hid (CallJ w B A T (.slice a0 A.nc c0) (.slice a1 A.nl c1) (.slice a2 A.nw c2) (.slice p0 T.nc q0) (.slice p1 T.nl q1) (.slice p2 T.nw q2) w2) := HE.out.later qx
    obtain ⟨⟨⟨s0, s1, s2⟩, _⟩, ⟨⟨t0, t1, t2⟩, _⟩, ⟨⟨r0, r1, r2, r3⟩, f0, f1, f2, f3⟩, _⟩ := HE.out
    clear qx
    go_wp2
    exact bodyPost_ret (v := .agg #[.int .i64 f, .slice none 0 0, .slice none 0 0, .slice none 0 0]) (by simp [results, Tryz.results5, go_sem, r0, r1, r2, r3]) rfl ⟨none, 0, none, 0, none, 0, rfl, empty_sto _ _, (((HE.out.2.2.2.2.2.setCell (by simp) _).setCell (by simp) _).setCell (by simp) _).setCell (by simp) _⟩
  · have H0 : Hid (storeF A = 0) := hz
    have H1 : Hid (storeF T = 0) := hz2
    have N0 : Hid (A.nc ≤ 200 ∧ A.nl ≤ 200 ∧ A.nw ≤ 200) := (storeF_zero hz).1
    have N1 : Hid (T.nc ≤ 200 ∧ T.nl ≤ 200 ∧ T.nw ≤ 200) := (storeF_zero hz2).1
    obtain ⟨f, hf⟩ : ∃ f, storeF (joinS A T) = f := ⟨_, rfl⟩
    have H2 : Hid (storeF (joinS A T) = f) := hf
    have hfn : (f == 0) = false := beq_eq_false_iff_ne.2 (by rw [← hf]; exact hz3)
    rw [hf]
    clear hz hz2 hz3 hf
    go_enter Tryz.func5, Tryz.ntmps5
    go_upto_region 1 with fail
    rw [show w.heap.size + 1 + 1 = w.heap.size + 2 from rfl]
    go_wp2_with fail
    refine (l2Fault_any A w.heap.size _ _ _ _ ⟨HE.out.1.1, HE.out.2.2.2.1.mono (Nat.zero_le _)⟩).mono ?_
    rw [H0.out]
    rintro e w1 ⟨rfl, qx⟩
    have HE : Hid (CallJ w B A T (.slice a0 A.nc c0) (.slice a1 A.nl c1) (.slice a2 A.nw c2) (.slice p0 T.nc q0) (.slice p1 T.nl q1) (.slice p2 T.nw q2) w1) := HE.out.later qx
    obtain ⟨⟨⟨s0, s1, s2⟩, _⟩, ⟨⟨t0, t1, t2⟩, _⟩, ⟨⟨r0, r1, r2, r3⟩, f0, f1, f2, f3⟩, _⟩ := HE.out
    clear qx
    go_wp2_with fail
    refine (l2Fault_any T (w.heap.size + 1) _ _ _ _ ⟨HE.out.2.1.1, HE.out.2.2.2.2.1.mono (Nat.zero_le _)⟩).mono ?_
    rw [H1.out]
    rintro e w2 ⟨rfl, qx⟩
    clear s0 s1 s2 t0 t1 t2 r0 r1 r2 r3 f0 f1 f2 f3
    have HE : Hid (CallJ w B A T (.slice a0 A.nc c0) (.slice a1 A.nl c1) (.slice a2 A.nw c2) (.slice p0 T.nc q0) (.slice p1 T.nl q1) (.slice p2 T.nw q2) w2) := HE.out.later qx
    obtain ⟨⟨⟨s0, s1, s2⟩, _⟩, ⟨⟨t0, t1, t2⟩, _⟩, ⟨⟨r0, r1, r2, r3⟩, f0, f1, f2, f3⟩, _⟩ := HE.out
    clear qx
    go_wp2_with fail
    refine (l2Join_any A T _ _ _ _ _ _ B B _ HE.out.2.2.2.1 HE.out.2.2.2.2.1 N0.out N1.out).mono ?_
    rintro e w3 ⟨d0, e0, d1, e1, d2, e2, rfl, ⟨s3, f3', a3⟩, qx⟩
    have hsame := H2.out
    generalize joinS A T = J at hsame s3 f3' a3 ⊢
    clear H2
    have HX : Hid ((St (w3.alloc (.cells #[.slice d0 J.nc e0, .slice d1 J.nl e1, .slice d2 J.nw e2] 32)) (w.heap.size + 3) J (.slice d0 J.nc e0) (.slice d1 J.nl e1) (.slice d2 J.nw e2) ∧ FreeS (w3.alloc (.cells #[.slice d0 J.nc e0, .slice d1 J.nl e1, .slice d2 J.nw e2] 32)) J (.slice d0 J.nc e0) (.slice d1 J.nl e1) (.slice d2 J.nw e2) ∧ ApartD J (.slice d0 J.nc e0) (.slice d1 J.nl e1) (.slice d2 J.nw e2)) ∧ Blk3 (w3.alloc (.cells #[.slice d0 J.nc e0, .slice d1 J.nl e1, .slice d2 J.nw e2] 32)) w3.heap.size (.slice d0 J.nc e0) (.slice d1 J.nl e1) (.slice d2 J.nw e2)) := by
      have hge : w.heap.size + 3 ≤ w2.heap.size := HE.out.2.2.1.lt
      exact ⟨⟨(s3.mono hge).alloc _, f3'.later s3 (below_alloc _ _), a3⟩, Blk3.new _ _ _ _ _⟩
    clear s0 s1 s2 t0 t1 t2 r0 r1 r2 r3 f0 f1 f2 f3
    have HE : Hid (CallJ w B A T (.slice a0 A.nc c0) (.slice a1 A.nl c1) (.slice a2 A.nw c2) (.slice p0 T.nc q0) (.slice p1 T.nl q1) (.slice p2 T.nw q2) (w3.alloc (.cells #[.slice d0 J.nc e0, .slice d1 J.nl e1, .slice d2 J.nw e2] 32))) := (HE.out.later qx).later (below_alloc _ _)
    clear s3 f3' a3 qx
    have HF : Hid (storeF J = f) := hsame
    clear hsame
    go_upto_region 8 with fail
    generalize w3.alloc (.cells #[.slice d0 J.nc e0, .slice d1 J.nl e1, .slice d2 J.nw e2] 32) = x4 at HX HE ⊢
    generalize w3.heap.size = b at HX ⊢
    obtain ⟨⟨⟨s0, s1, s2⟩, _⟩, ⟨⟨t0, t1, t2⟩, _⟩, ⟨⟨r0, r1, r2, r3⟩, f0, f1, f2, f3⟩, _⟩ := HE.out
    obtain ⟨⟨u0, u1, u2⟩, _⟩ := HX.out.2
    go_wp2_with fail
    refine (l2Fault_any J b _ _ _ _ ⟨HX.out.2.1, HX.out.1.1.mono (Nat.zero_le _)⟩).mono ?_
    rw [HF.out]
    rintro e w5 ⟨rfl, qx⟩
    clear s0 s1 s2 t0 t1 t2 r0 r1 r2 r3 f0 f1 f2 f3 u0 u1 u2
    have HX5 : Hid ((St w5 (w.heap.size + 3) J (.slice d0 J.nc e0) (.slice d1 J.nl e1) (.slice d2 J.nw e2) ∧ FreeS w5 J (.slice d0 J.nc e0) (.slice d1 J.nl e1) (.slice d2 J.nw e2) ∧ ApartD J (.slice d0 J.nc e0) (.slice d1 J.nl e1) (.slice d2 J.nw e2)) ∧ Blk3 w5 b (.slice d0 J.nc e0) (.slice d1 J.nl e1) (.slice d2 J.nw e2)) := ⟨⟨HX.out.1.1.later qx, HX.out.1.2.1.later HX.out.1.1 qx, HX.out.1.2.2⟩, HX.out.2.later qx⟩
    clear HX
    have HE : Hid (CallJ w B A T (.slice a0 A.nc c0) (.slice a1 A.nl c1) (.slice a2 A.nw c2) (.slice p0 T.nc q0) (.slice p1 T.nl q1) (.slice p2 T.nw q2) w5) := HE.out.later qx
    obtain ⟨⟨⟨s0, s1, s2⟩, _⟩, ⟨⟨t0, t1, t2⟩, _⟩, ⟨⟨r0, r1, r2, r3⟩, f0, f1, f2, f3⟩, _⟩ := HE.out
    clear qx
    obtain ⟨⟨u0, u1, u2⟩, _⟩ := HX5.out.2
    go_wp2
    exact bodyPost_ret (v := .agg #[.int .i64 f, .slice none 0 0, .slice none 0 0, .slice none 0 0]) (by simp [results, Tryz.results5, go_sem, r0, r1, r2, r3]) rfl ⟨none, 0, none, 0, none, 0, rfl, empty_sto _ _, (((HE.out.2.2.2.2.2.setCell (by simp) _).setCell (by simp) _).setCell (by simp) _).setCell (by simp) _⟩
  · have H0 : Hid (storeF A = 0) := hz
    have H1 : Hid (storeF T = 0) := hz2
    have N0 : Hid (A.nc ≤ 200 ∧ A.nl ≤ 200 ∧ A.nw ≤ 200) := (storeF_zero hz).1
    have N1 : Hid (T.nc ≤ 200 ∧ T.nl ≤ 200 ∧ T.nw ≤ 200) := (storeF_zero hz2).1
    have H2 : Hid (storeF (joinS A T) = 0) := hz3
    obtain ⟨J, hJ⟩ : ∃ J, joinS A T = J := ⟨_, rfl⟩
    have HJ : Hid (joinS A T = J) := hJ
    rw [hJ]
    clear hz hz2 hz3 hJ
    go_enter Tryz.func5, Tryz.ntmps5
    go_upto_region 1 with fail
    rw [show w.heap.size + 1 + 1 = w.heap.size + 2 from rfl]
    go_wp2_with fail
    refine (l2Fault_any A w.heap.size _ _ _ _ ⟨HE.out.1.1, HE.out.2.2.2.1.mono (Nat.zero_le _)⟩).mono ?_
    rw [H0.out]
    rintro e w1 ⟨rfl, qx⟩
    have HE : Hid (CallJ w B A T (.slice a0 A.nc c0) (.slice a1 A.nl c1) (.slice a2 A.nw c2) (.slice p0 T.nc q0) (.slice p1 T.nl q1) (.slice p2 T.nw q2) w1) := HE.out.later qx
    obtain ⟨⟨⟨s0, s1, s2⟩, _⟩, ⟨⟨t0, t1, t2⟩, _⟩, ⟨⟨r0, r1, r2, r3⟩, f0, f1, f2, f3⟩, _⟩ := HE.out
    clear qx
    go_wp2_with fail
    refine (l2Fault_any T (w.heap.size + 1) _ _ _ _ ⟨HE.out.2.1.1, HE.out.2.2.2.2.1.mono (Nat.zero_le _)⟩).mono ?_
    rw [H1.out]
    rintro e w2 ⟨rfl, qx⟩
    clear s0 s1 s2 t0 t1 t2 r0 r1 r2 r3 f0 f1 f2 f3
    have HE : Hid (CallJ w B A T (.slice a0 A.nc c0) (.slice a1 A.nl c1) (.slice a2 A.nw c2) (.slice p0 T.nc q0) (.slice p1 T.nl q1) (.slice p2 T.nw q2) w2) := HE.out.later qx
    obtain ⟨⟨⟨s0, s1, s2⟩, _⟩, ⟨⟨t0, t1, t2⟩, _⟩, ⟨⟨r0, r1, r2, r3⟩, f0, f1, f2, f3⟩, _⟩ := HE.out
    clear qx
    go_wp2_with fail
    refine (l2Join_any A T _ _ _ _ _ _ B B _ HE.out.2.2.2.1 HE.out.2.2.2.2.1 N0.out N1.out).mono ?_
    rintro e w3 ⟨d0, e0, d1, e1, d2, e2, rfl, ⟨s3, f3', a3⟩, qx⟩
    have hsame := H2.out
    rw [HJ.out] at hsame s3 f3' a3 ⊢
    clear H2
    have HX : Hid ((St (w3.alloc (.cells #[.slice d0 J.nc e0, .slice d1 J.nl e1, .slice d2 J.nw e2] 32)) (w.heap.size + 3) J (.slice d0 J.nc e0) (.slice d1 J.nl e1) (.slice d2 J.nw e2) ∧ FreeS (w3.alloc (.cells #[.slice d0 J.nc e0, .slice d1 J.nl e1, .slice d2 J.nw e2] 32)) J (.slice d0 J.nc e0) (.slice d1 J.nl e1) (.slice d2 J.nw e2) ∧ ApartD J (.slice d0 J.nc e0) (.slice d1 J.nl e1) (.slice d2 J.nw e2)) ∧ Blk3 (w3.alloc (.cells #[.slice d0 J.nc e0, .slice d1 J.nl e1, .slice d2 J.nw e2] 32)) w3.heap.size (.slice d0 J.nc e0) (.slice d1 J.nl e1) (.slice d2 J.nw e2)) := by
      have hge : w.heap.size + 3 ≤ w2.heap.size := HE.out.2.2.1.lt
      exact ⟨⟨(s3.mono hge).alloc _, f3'.later s3 (below_alloc _ _), a3⟩, Blk3.new _ _ _ _ _⟩
    clear s0 s1 s2 t0 t1 t2 r0 r1 r2 r3 f0 f1 f2 f3
    have HE : Hid (CallJ w B A T (.slice a0 A.nc c0) (.slice a1 A.nl c1) (.slice a2 A.nw c2) (.slice p0 T.nc q0) (.slice p1 T.nl q1) (.slice p2 T.nw q2) (w3.alloc (.cells #[.slice d0 J.nc e0, .slice d1 J.nl e1, .slice d2 J.nw e2] 32))) := (HE.out.later qx).later (below_alloc _ _)
    clear s3 f3' a3 qx
    have HF : Hid (storeF J = 0) := hsame
    clear hsame
    go_upto_region 8 with fail
    generalize w3.alloc (.cells #[.slice d0 J.nc e0, .slice d1 J.nl e1, .slice d2 J.nw e2] 32) = x4 at HX HE ⊢
    generalize w3.heap.size = b at HX ⊢
    obtain ⟨⟨⟨s0, s1, s2⟩, _⟩, ⟨⟨t0, t1, t2⟩, _⟩, ⟨⟨r0, r1, r2, r3⟩, f0, f1, f2, f3⟩, _⟩ := HE.out
    obtain ⟨⟨u0, u1, u2⟩, _⟩ := HX.out.2
    go_wp2_with fail
    refine (l2Fault_any J b _ _ _ _ ⟨HX.out.2.1, HX.out.1.1.mono (Nat.zero_le _)⟩).mono ?_
    rw [HF.out]
    rintro e w5 ⟨rfl, qx⟩
    clear s0 s1 s2 t0 t1 t2 r0 r1 r2 r3 f0 f1 f2 f3 u0 u1 u2
    have HX5 : Hid ((St w5 (w.heap.size + 3) J (.slice d0 J.nc e0) (.slice d1 J.nl e1) (.slice d2 J.nw e2) ∧ FreeS w5 J (.slice d0 J.nc e0) (.slice d1 J.nl e1) (.slice d2 J.nw e2) ∧ ApartD J (.slice d0 J.nc e0) (.slice d1 J.nl e1) (.slice d2 J.nw e2)) ∧ Blk3 w5 b (.slice d0 J.nc e0) (.slice d1 J.nl e1) (.slice d2 J.nw e2)) := ⟨⟨HX.out.1.1.later qx, HX.out.1.2.1.later HX.out.1.1 qx, HX.out.1.2.2⟩, HX.out.2.later qx⟩
    clear HX
    have HE : Hid (CallJ w B A T (.slice a0 A.nc c0) (.slice a1 A.nl c1) (.slice a2 A.nw c2) (.slice p0 T.nc q0) (.slice p1 T.nl q1) (.slice p2 T.nw q2) w5) := HE.out.later qx
    obtain ⟨⟨⟨s0, s1, s2⟩, _⟩, ⟨⟨t0, t1, t2⟩, _⟩, ⟨⟨r0, r1, r2, r3⟩, f0, f1, f2, f3⟩, _⟩ := HE.out
    clear qx
    obtain ⟨⟨u0, u1, u2⟩, _⟩ := HX5.out.2
    go_wp2
    have hlo : (w.heap.size + 2 : Nat) < w.heap.size + 3 := Nat.lt_succ_self _
    exact bodyPost_ret (v := .agg #[.int .i64 0, .slice d0 J.nc e0, .slice d1 J.nl e1, .slice d2 J.nw e2]) (by simp [results, Tryz.results5, go_sem, r0, r1, r2, r3]) rfl ⟨d0, e0, d1, e1, d2, e2, rfl, ⟨((((HX5.out.1.1.far hlo _).far hlo _).far hlo _).far hlo _).mono (by omega), (((HX5.out.1.2.1.far _ _).far _ _).far _ _).far _ _, HX5.out.1.2.2⟩, (((HE.out.2.2.2.2.2.setCell (by simp) _).setCell (by simp) _).setCell (by simp) _).setCell (by simp) _⟩
set_option maxRecDepth 100000 in
set_option maxHeartbeats 8000000 in
theorem implJoin_is (A T : Sto) (v0 v1 v2 y0 y1 y2 : Value) (c : Int) (R : Sto) (B : Nat) (w : World) (h : St w B A v0 v1 v2) (h' : St w B T y0 y1 y2) (hA : JoinAns A T c R) :
    Calls Tryz.prog 7 #[.agg #[v0, v1, v2], .agg #[y0, y1, y2]] w (ResSto w c R) := by
  obtain ⟨a0, c0, a1, c1, a2, c2, rfl, rfl, rfl⟩ := h.form
  obtain ⟨p0, q0, p1, q1, p2, q2, rfl, rfl, rfl⟩ := h'.form
  have HE : Hid (CallJ w B A T (.slice a0 A.nc c0) (.slice a1 A.nl c1) (.slice a2 A.nw c2) (.slice p0 T.nc q0) (.slice p1 T.nl q1) (.slice p2 T.nw q2) (((w.alloc (.cells #[.slice a0 A.nc c0, .slice a1 A.nl c1, .slice a2 A.nw c2] 32)).alloc (.cells #[.slice p0 T.nc q0, .slice p1 T.nl q1, .slice p2 T.nw q2] 32)).alloc (.cells #[.int .i64 0, .slice none 0 0, .slice none 0 0, .slice none 0 0] 34))) := CallJ.new h h' _ _
  clear h h'
  unfold ResSto
  rcases hA with ⟨hz, rfl, rfl⟩ | ⟨hz, hz2, rfl, rfl⟩ | ⟨hz, hz2, hz3, rfl, rfl⟩ | ⟨hz, hz2, hz3, rfl, rfl⟩
  · obtain ⟨f, hf⟩ : ∃ f, storeF A = f := ⟨_, rfl⟩
    have HF : Hid (storeF A = f) := hf
    have hfn : (f == 0) = false := beq_eq_false_iff_ne.2 (by rw [← hf]; exact hz)
    rw [hf]
    clear hz hf
    go_enter Tryz.func7, Tryz.ntmps7
    go_upto_region 1 with fail
    rw [show w.heap.size + 1 + 1 = w.heap.size + 2 from rfl]
    go_wp2_with fail
    refine (implFault_any A _ _ _ B _ HE.out.2.2.2.1).mono ?_
    rw [HF.out]
    rintro e w1 ⟨rfl, qx⟩
    have HE : Hid (CallJ w B A T (.slice a0 A.nc c0) (.slice a1 A.nl c1) (.slice a2 A.nw c2) (.slice p0 T.nc q0) (.slice p1 T.nl q1) (.slice p2 T.nw q2) w1) := HE.out.later qx
    obtain ⟨⟨⟨s0, s1, s2⟩, _⟩, ⟨⟨t0, t1, t2⟩, _⟩, ⟨⟨r0, r1, r2, r3⟩, f0, f1, f2, f3⟩, _⟩ := HE.out
    clear qx
    go_wp2
    exact bodyPost_ret (v := .agg #[.int .i64 f, .slice none 0 0, .slice none 0 0, .slice none 0 0]) (by simp [results, Tryz.results7, go_sem, r0, r1, r2, r3]) rfl ⟨none, 0, none, 0, none, 0, rfl, empty_sto _ _, (((HE.out.2.2.2.2.2.setCell (by simp) _).setCell (by simp) _).setCell (by simp) _).setCell (by simp) _⟩
  · obtain ⟨f, hf⟩ : ∃ f, storeF T = f := ⟨_, rfl⟩
    have H0 : Hid (storeF A = 0) := hz
    have HF : Hid (storeF T = f) := hf
    have hfn : (f == 0) = false := beq_eq_false_iff_ne.2 (by rw [← hf]; exact hz2)
    rw [hf]
    clear hz hz2 hf
    go_enter Tryz.func7, Tryz.ntmps7
    go_upto_region 1 with fail
    rw [show w.heap.size + 1 + 1 = w.heap.size + 2 from rfl]
    go_wp2_with fail
    refine (implFault_any A _ _ _ B _ HE.out.2.2.2.1).mono ?_
    rw [H0.out]
    rintro e w1 ⟨rfl, qx⟩
    have HE : Hid (CallJ w B A T (.slice a0 A.nc c0) (.slice a1 A.nl c1) (.slice a2 A.nw c2) (.slice p0 T.nc q0) (.slice p1 T.nl q1) (.slice p2 T.nw q2) w1) := HE.out.later qx
    obtain ⟨⟨⟨s0, s1, s2⟩, _⟩, ⟨⟨t0, t1, t2⟩, _⟩, ⟨⟨r0, r1, r2, r3⟩, f0, f1, f2, f3⟩, _⟩ := HE.out
    clear qx
    go_wp2_with fail
    refine (implFault_any T _ _ _ B _ HE.out.2.2.2.2.1).mono ?_
    rw [HF.out]
    rintro e w2 ⟨rfl, qx⟩
    clear s0 s1 s2 t0 t1 t2 r0 r1 r2 r3 f0 f1 f2 f3
    have HE : Hid (CallJ w B A T (.slice a0 A.nc c0) (.slice a1 A.nl c1) (.slice a2 A.nw c2) (.slice p0 T.nc q0) (.slice p1 T.nl q1) (.slice p2 T.nw q2) w2) := HE.out.later qx
    obtain ⟨⟨⟨s0, s1, s2⟩, _⟩, ⟨⟨t0, t1, t2⟩, _⟩, ⟨⟨r0, r1, r2, r3⟩, f0, f1, f2, f3⟩, _⟩ := HE.out
    clear qx
    go_wp2
    exact bodyPost_ret (v := .agg #[.int .i64 f, .slice none 0 0, .slice none 0 0, .slice none 0 0]) (by simp [results, Tryz.results7, go_sem, r0, r1, r2, r3]) rfl ⟨none, 0, none, 0, none, 0, rfl, empty_sto _ _, (((HE.out.2.2.2.2.2.setCell (by simp) _).setCell (by simp) _).setCell (by simp) _).setCell (by simp) _⟩
  · have H0 : Hid (storeF A = 0) := hz
    have H1 : Hid (storeF T = 0) := hz2
    have N0 : Hid (A.nc ≤ 200 ∧ A.nl ≤ 200 ∧ A.nw ≤ 200) := (storeF_zero hz).1
    have N1 : Hid (T.nc ≤ 200 ∧ T.nl ≤ 200 ∧ T.nw ≤ 200) := (storeF_zero hz2).1
    obtain ⟨f, hf⟩ : ∃ f, storeF (joinS A T) = f := ⟨_, rfl⟩
    have H2 : Hid (storeF (joinS A T) = f) := hf
    have hfn : (f == 0) = false := beq_eq_false_iff_ne.2 (by rw [← hf]; exact hz3)
    rw [hf]
    clear hz hz2 hz3 hf
    go_enter Tryz.func7, Tryz.ntmps7
    go_upto_region 1 with fail
    rw [show w.heap.size + 1 + 1 = w.heap.size + 2 from rfl]
    go_wp2_with fail
    refine (implFault_any A _ _ _ B _ HE.out.2.2.2.1).mono ?_
    rw [H0.out]
    rintro e w1 ⟨rfl, qx⟩
    have HE : Hid (CallJ w B A T (.slice a0 A.nc c0) (.slice a1 A.nl c1) (.slice a2 A.nw c2) (.slice p0 T.nc q0) (.slice p1 T.nl q1) (.slice p2 T.nw q2) w1) := HE.out.later qx
    obtain ⟨⟨⟨s0, s1, s2⟩, _⟩, ⟨⟨t0, t1, t2⟩, _⟩, ⟨⟨r0, r1, r2, r3⟩, f0, f1, f2, f3⟩, _⟩ := HE.out
    clear qx
    go_wp2_with fail
    refine (implFault_any T _ _ _ B _ HE.out.2.2.2.2.1).mono ?_
    rw [H1.out]
    rintro e w2 ⟨rfl, qx⟩
    clear s0 s1 s2 t0 t1 t2 r0 r1 r2 r3 f0 f1 f2 f3
    have HE : Hid (CallJ w B A T (.slice a0 A.nc c0) (.slice a1 A.nl c1) (.slice a2 A.nw c2) (.slice p0 T.nc q0) (.slice p1 T.nl q1) (.slice p2 T.nw q2) w2) := HE.out.later qx
    obtain ⟨⟨⟨s0, s1, s2⟩, _⟩, ⟨⟨t0, t1, t2⟩, _⟩, ⟨⟨r0, r1, r2, r3⟩, f0, f1, f2, f3⟩, _⟩ := HE.out
    clear qx
    go_wp2_with fail
    refine (joined_any A T _ _ _ _ _ _ B B _ HE.out.2.2.2.1 HE.out.2.2.2.2.1 N0.out N1.out).mono ?_
    rintro e w3 ⟨P, Q, R, hP, hQ, hR, d0, e0, d1, e1, d2, e2, rfl, ⟨s3, f3', a3⟩, qx⟩
    have hsame := (join_same H0.out H1.out hP hQ hR).1
    rw [H2.out] at hsame
    have hsz : stoOf P Q R = stoOf P Q R := rfl
    generalize stoOf P Q R = J at hsame s3 f3' a3 ⊢
    clear hsz hP hQ hR P Q R
    clear H2
    have HX : Hid ((St (w3.alloc (.cells #[.slice d0 J.nc e0, .slice d1 J.nl e1, .slice d2 J.nw e2] 32)) (w.heap.size + 3) J (.slice d0 J.nc e0) (.slice d1 J.nl e1) (.slice d2 J.nw e2) ∧ FreeS (w3.alloc (.cells #[.slice d0 J.nc e0, .slice d1 J.nl e1, .slice d2 J.nw e2] 32)) J (.slice d0 J.nc e0) (.slice d1 J.nl e1) (.slice d2 J.nw e2) ∧ ApartD J (.slice d0 J.nc e0) (.slice d1 J.nl e1) (.slice d2 J.nw e2)) ∧ Blk3 (w3.alloc (.cells #[.slice d0 J.nc e0, .slice d1 J.nl e1, .slice d2 J.nw e2] 32)) w3.heap.size (.slice d0 J.nc e0) (.slice d1 J.nl e1) (.slice d2 J.nw e2)) := by
      have hge : w.heap.size + 3 ≤ w2.heap.size := HE.out.2.2.1.lt
      exact ⟨⟨(s3.mono hge).alloc _, f3'.later s3 (below_alloc _ _), a3⟩, Blk3.new _ _ _ _ _⟩
    clear s0 s1 s2 t0 t1 t2 r0 r1 r2 r3 f0 f1 f2 f3
    have HE : Hid (CallJ w B A T (.slice a0 A.nc c0) (.slice a1 A.nl c1) (.slice a2 A.nw c2) (.slice p0 T.nc q0) (.slice p1 T.nl q1) (.slice p2 T.nw q2) (w3.alloc (.cells #[.slice d0 J.nc e0, .slice d1 J.nl e1, .slice d2 J.nw e2] 32))) := (HE.out.later qx).later (below_alloc _ _)
    clear s3 f3' a3 qx
    have HF : Hid (storeF J = f) := hsame
    clear hsame
    go_upto_region 8 with fail
    generalize w3.alloc (.cells #[.slice d0 J.nc e0, .slice d1 J.nl e1, .slice d2 J.nw e2] 32) = x4 at HX HE ⊢
    generalize w3.heap.size = b at HX ⊢
    obtain ⟨⟨⟨s0, s1, s2⟩, _⟩, ⟨⟨t0, t1, t2⟩, _⟩, ⟨⟨r0, r1, r2, r3⟩, f0, f1, f2, f3⟩, _⟩ := HE.out
    obtain ⟨⟨u0, u1, u2⟩, _⟩ := HX.out.2
    go_wp2_with fail
    refine (implFault_any J _ _ _ (w.heap.size + 3) _ HX.out.1.1).mono ?_
    rw [HF.out]
    rintro e w5 ⟨rfl, qx⟩
    clear s0 s1 s2 t0 t1 t2 r0 r1 r2 r3 f0 f1 f2 f3 u0 u1 u2
    have HX5 : Hid ((St w5 (w.heap.size + 3) J (.slice d0 J.nc e0) (.slice d1 J.nl e1) (.slice d2 J.nw e2) ∧ FreeS w5 J (.slice d0 J.nc e0) (.slice d1 J.nl e1) (.slice d2 J.nw e2) ∧ ApartD J (.slice d0 J.nc e0) (.slice d1 J.nl e1) (.slice d2 J.nw e2)) ∧ Blk3 w5 b (.slice d0 J.nc e0) (.slice d1 J.nl e1) (.slice d2 J.nw e2)) := ⟨⟨HX.out.1.1.later qx, HX.out.1.2.1.later HX.out.1.1 qx, HX.out.1.2.2⟩, HX.out.2.later qx⟩
    clear HX
    have HE : Hid (CallJ w B A T (.slice a0 A.nc c0) (.slice a1 A.nl c1) (.slice a2 A.nw c2) (.slice p0 T.nc q0) (.slice p1 T.nl q1) (.slice p2 T.nw q2) w5) := HE.out.later qx
    obtain ⟨⟨⟨s0, s1, s2⟩, _⟩, ⟨⟨t0, t1, t2⟩, _⟩, ⟨⟨r0, r1, r2, r3⟩, f0, f1, f2, f3⟩, _⟩ := HE.out
    clear qx
    obtain ⟨⟨u0, u1, u2⟩, _⟩ := HX5.out.2
    go_wp2
    exact bodyPost_ret (v := .agg #[.int .i64 f, .slice none 0 0, .slice none 0 0, .slice none 0 0]) (by simp [results, Tryz.results7, go_sem, r0, r1, r2, r3]) rfl ⟨none, 0, none, 0, none, 0, rfl, empty_sto _ _, (((HE.out.2.2.2.2.2.setCell (by simp) _).setCell (by simp) _).setCell (by simp) _).setCell (by simp) _⟩
  · have H0 : Hid (storeF A = 0) := hz
    have H1 : Hid (storeF T = 0) := hz2
    have N0 : Hid (A.nc ≤ 200 ∧ A.nl ≤ 200 ∧ A.nw ≤ 200) := (storeF_zero hz).1
    have N1 : Hid (T.nc ≤ 200 ∧ T.nl ≤ 200 ∧ T.nw ≤ 200) := (storeF_zero hz2).1
    have H2 : Hid (storeF (joinS A T) = 0) := hz3
    obtain ⟨J, hJ⟩ : ∃ J, joinS A T = J := ⟨_, rfl⟩
    have HJ : Hid (joinS A T = J) := hJ
    rw [hJ]
    clear hz hz2 hz3 hJ
    go_enter Tryz.func7, Tryz.ntmps7
    go_upto_region 1 with fail
    rw [show w.heap.size + 1 + 1 = w.heap.size + 2 from rfl]
    go_wp2_with fail
    refine (implFault_any A _ _ _ B _ HE.out.2.2.2.1).mono ?_
    rw [H0.out]
    rintro e w1 ⟨rfl, qx⟩
    have HE : Hid (CallJ w B A T (.slice a0 A.nc c0) (.slice a1 A.nl c1) (.slice a2 A.nw c2) (.slice p0 T.nc q0) (.slice p1 T.nl q1) (.slice p2 T.nw q2) w1) := HE.out.later qx
    obtain ⟨⟨⟨s0, s1, s2⟩, _⟩, ⟨⟨t0, t1, t2⟩, _⟩, ⟨⟨r0, r1, r2, r3⟩, f0, f1, f2, f3⟩, _⟩ := HE.out
    clear qx
    go_wp2_with fail
    refine (implFault_any T _ _ _ B _ HE.out.2.2.2.2.1).mono ?_
    rw [H1.out]
    rintro e w2 ⟨rfl, qx⟩
    clear s0 s1 s2 t0 t1 t2 r0 r1 r2 r3 f0 f1 f2 f3
    have HE : Hid (CallJ w B A T (.slice a0 A.nc c0) (.slice a1 A.nl c1) (.slice a2 A.nw c2) (.slice p0 T.nc q0) (.slice p1 T.nl q1) (.slice p2 T.nw q2) w2) := HE.out.later qx
    obtain ⟨⟨⟨s0, s1, s2⟩, _⟩, ⟨⟨t0, t1, t2⟩, _⟩, ⟨⟨r0, r1, r2, r3⟩, f0, f1, f2, f3⟩, _⟩ := HE.out
    clear qx
    go_wp2_with fail
    refine (joined_any A T _ _ _ _ _ _ B B _ HE.out.2.2.2.1 HE.out.2.2.2.2.1 N0.out N1.out).mono ?_
    rintro e w3 ⟨P, Q, R, hP, hQ, hR, d0, e0, d1, e1, d2, e2, rfl, ⟨s3, f3', a3⟩, qx⟩
    have hsame := join_same H0.out H1.out hP hQ hR
    rw [hsame.2 H2.out] at s3 f3' a3 ⊢
    have hsame := H2.out
    rw [HJ.out] at hsame s3 f3' a3 ⊢
    clear H2
    have HX : Hid ((St (w3.alloc (.cells #[.slice d0 J.nc e0, .slice d1 J.nl e1, .slice d2 J.nw e2] 32)) (w.heap.size + 3) J (.slice d0 J.nc e0) (.slice d1 J.nl e1) (.slice d2 J.nw e2) ∧ FreeS (w3.alloc (.cells #[.slice d0 J.nc e0, .slice d1 J.nl e1, .slice d2 J.nw e2] 32)) J (.slice d0 J.nc e0) (.slice d1 J.nl e1) (.slice d2 J.nw e2) ∧ ApartD J (.slice d0 J.nc e0) (.slice d1 J.nl e1) (.slice d2 J.nw e2)) ∧ Blk3 (w3.alloc (.cells #[.slice d0 J.nc e0, .slice d1 J.nl e1, .slice d2 J.nw e2] 32)) w3.heap.size (.slice d0 J.nc e0) (.slice d1 J.nl e1) (.slice d2 J.nw e2)) := by
      have hge : w.heap.size + 3 ≤ w2.heap.size := HE.out.2.2.1.lt
      exact ⟨⟨(s3.mono hge).alloc _, f3'.later s3 (below_alloc _ _), a3⟩, Blk3.new _ _ _ _ _⟩
    clear s0 s1 s2 t0 t1 t2 r0 r1 r2 r3 f0 f1 f2 f3
    have HE : Hid (CallJ w B A T (.slice a0 A.nc c0) (.slice a1 A.nl c1) (.slice a2 A.nw c2) (.slice p0 T.nc q0) (.slice p1 T.nl q1) (.slice p2 T.nw q2) (w3.alloc (.cells #[.slice d0 J.nc e0, .slice d1 J.nl e1, .slice d2 J.nw e2] 32))) := (HE.out.later qx).later (below_alloc _ _)
    clear s3 f3' a3 qx
    have HF : Hid (storeF J = 0) := hsame
    clear hsame
    go_upto_region 8 with fail
    generalize w3.alloc (.cells #[.slice d0 J.nc e0, .slice d1 J.nl e1, .slice d2 J.nw e2] 32) = x4 at HX HE ⊢
    generalize w3.heap.size = b at HX ⊢
    obtain ⟨⟨⟨s0, s1, s2⟩, _⟩, ⟨⟨t0, t1, t2⟩, _⟩, ⟨⟨r0, r1, r2, r3⟩, f0, f1, f2, f3⟩, _⟩ := HE.out
    obtain ⟨⟨u0, u1, u2⟩, _⟩ := HX.out.2
    go_wp2_with fail
    refine (implFault_any J _ _ _ (w.heap.size + 3) _ HX.out.1.1).mono ?_
    rw [HF.out]
    rintro e w5 ⟨rfl, qx⟩
    clear s0 s1 s2 t0 t1 t2 r0 r1 r2 r3 f0 f1 f2 f3 u0 u1 u2
    have HX5 : Hid ((St w5 (w.heap.size + 3) J (.slice d0 J.nc e0) (.slice d1 J.nl e1) (.slice d2 J.nw e2) ∧ FreeS w5 J (.slice d0 J.nc e0) (.slice d1 J.nl e1) (.slice d2 J.nw e2) ∧ ApartD J (.slice d0 J.nc e0) (.slice d1 J.nl e1) (.slice d2 J.nw e2)) ∧ Blk3 w5 b (.slice d0 J.nc e0) (.slice d1 J.nl e1) (.slice d2 J.nw e2)) := ⟨⟨HX.out.1.1.later qx, HX.out.1.2.1.later HX.out.1.1 qx, HX.out.1.2.2⟩, HX.out.2.later qx⟩
    clear HX
    have HE : Hid (CallJ w B A T (.slice a0 A.nc c0) (.slice a1 A.nl c1) (.slice a2 A.nw c2) (.slice p0 T.nc q0) (.slice p1 T.nl q1) (.slice p2 T.nw q2) w5) := HE.out.later qx
    obtain ⟨⟨⟨s0, s1, s2⟩, _⟩, ⟨⟨t0, t1, t2⟩, _⟩, ⟨⟨r0, r1, r2, r3⟩, f0, f1, f2, f3⟩, _⟩ := HE.out
    clear qx
    obtain ⟨⟨u0, u1, u2⟩, _⟩ := HX5.out.2
    go_wp2
    have hlo : (w.heap.size + 2 : Nat) < w.heap.size + 3 := Nat.lt_succ_self _
    exact bodyPost_ret (v := .agg #[.int .i64 0, .slice d0 J.nc e0, .slice d1 J.nl e1, .slice d2 J.nw e2]) (by simp [results, Tryz.results7, go_sem, r0, r1, r2, r3]) rfl ⟨d0, e0, d1, e1, d2, e2, rfl, ⟨((((HX5.out.1.1.far hlo _).far hlo _).far hlo _).far hlo _).mono (by omega), (((HX5.out.1.2.1.far _ _).far _ _).far _ _).far _ _, HX5.out.1.2.2⟩, (((HE.out.2.2.2.2.2.setCell (by simp) _).setCell (by simp) _).setCell (by simp) _).setCell (by simp) _⟩
theorem JoinAns.get (A T : Sto) : ∃ c R, (R.nc ≤ 1048576 ∧ R.nl ≤ 1048576 ∧ R.nw ≤ 1048576) ∧ JoinAns A T c R := by
  by_cases h1 : storeF A = 0
  · by_cases h2 : storeF T = 0
    · by_cases h3 : storeF (joinS A T) = 0
      · have n := (storeF_zero h3).1
        exact ⟨0, joinS A T, ⟨by omega, by omega, by omega⟩, Or.inr (Or.inr (Or.inr ⟨h1, h2, h3, rfl, rfl⟩))⟩
      · exact ⟨_, emptyS, ⟨Nat.zero_le _, Nat.zero_le _, Nat.zero_le _⟩, Or.inr (Or.inr (Or.inl ⟨h1, h2, h3, rfl, rfl⟩))⟩
    · exact ⟨_, emptyS, ⟨Nat.zero_le _, Nat.zero_le _, Nat.zero_le _⟩, Or.inr (Or.inl ⟨h1, h2, rfl, rfl⟩)⟩
  · exact ⟨_, emptyS, ⟨Nat.zero_le _, Nat.zero_le _, Nat.zero_le _⟩, Or.inl ⟨h1, rfl, rfl⟩⟩
theorem join_ans (A T : Sto) : ∃ c R, (R.nc ≤ 1048576 ∧ R.nl ≤ 1048576 ∧ R.nw ≤ 1048576) ∧
      (∀ v0 v1 v2 y0 y1 y2 x, St x 0 A v0 v1 v2 → St x 0 T y0 y1 y2 → Calls Tryz.prog 5 #[.agg #[v0, v1, v2], .agg #[y0, y1, y2]] x (ResSto x c R)) ∧
      (∀ v0 v1 v2 y0 y1 y2 x, St x 0 A v0 v1 v2 → St x 0 T y0 y1 y2 → Calls Tryz.prog 7 #[.agg #[v0, v1, v2], .agg #[y0, y1, y2]] x (ResSto x c R)) := by
  obtain ⟨c, R, hb, hA⟩ := JoinAns.get A T
  exact ⟨c, R, hb, fun v0 v1 v2 y0 y1 y2 x h h' => specJoin_is A T v0 v1 v2 y0 y1 y2 c R 0 x h h' hA, fun v0 v1 v2 y0 y1 y2 x h h' => implJoin_is A T v0 v1 v2 y0 y1 y2 c R 0 x h h' hA⟩
end Go.Proofs.YtknbeggnlhiamaaGreat

