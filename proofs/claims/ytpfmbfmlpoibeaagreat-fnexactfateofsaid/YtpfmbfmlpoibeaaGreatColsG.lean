/-
  Own text. What the model's function l2Writes answers: the first fault of the writes, one by one.
-/
import Derived.Test.YtpfmbfmlpoibeaaGreatColsF
namespace Go.Proofs.YtpfmbfmlpoibeaaGreat
open Go.RowKit

set_option maxRecDepth 10000 in
set_option maxHeartbeats 4000000 in
theorem l2Writes_anyO (S : Sto) (b oo : Nat) (v0 v1 v2 : Value) (w : World) (h : LiesO w b oo S v0 v1 v2) (hn : S.nw ≤ 200) :
    Calls Tryz.prog 121 #[.pointer (some ⟨b, oo, none⟩)] w fun e w' => e = .returned (.int .i64 (scan (writeF S.k) S.nw)) ∧ Below w.heap.size w w' := by
  obtain ⟨a0, c0, a1, c1, a2, c2, rfl, rfl, rfl⟩ := h.2.form
  have H : Hid (LiesO w b oo S (.slice a0 S.nc c0) (.slice a1 S.nl c1) (.slice a2 S.nw c2)) := h
  have p0 := h.1.2.2
  have hb := h.lt
  clear h
  go_enter Tryz.func121, Tryz.ntmps121
  go_wp2
  go_loopw [3] (fun i wr => ∃ k : Nat, k ≤ S.nw ∧ i = .int .i64 k ∧ Hid (scan (writeF S.k) k = 0) ∧ Below w.heap.size w wr) (fun i _ => S.nw - (intOf i).toNat)
  case atStart => exact ⟨0, Nat.zero_le _, rfl, rfl, Below.refl _ _⟩
  case round =>
    obtain ⟨k, hk, rfl, HS, hbw⟩ := hrel
    have e0 := (hbw.cell (p := ⟨b, oo + 2, none⟩) hb).trans p0
    have hbr : b < wr.heap.size := Nat.lt_of_lt_of_le hb hbw.size
    by_cases hlt : k < S.nw
    case neg =>
      have en : k = S.nw := by omega
      have E : Hid (scan (writeF S.k) S.nw = 0) := en ▸ HS.out
      clear HS
      go_wp2
      go_ret
      exact ⟨by rw [E.out]; rfl, hbw⟩
    obtain ⟨g, o, rfl, _, hg, x0, x1, x2, x3⟩ := (H.out.2.2.2.later hbw).at4 hlt
    obtain ⟨n0, N0⟩ : ∃ x, S.k (k * 4) = x := ⟨_, rfl⟩
    rw [N0] at x0
    obtain ⟨n1, N1⟩ : ∃ x, S.k (k * 4 + 1) = x := ⟨_, rfl⟩
    rw [N1] at x1
    obtain ⟨n2, N2⟩ : ∃ x, S.k (k * 4 + 2) = x := ⟨_, rfl⟩
    rw [N2] at x2
    obtain ⟨n3, N3⟩ : ∃ x, S.k (k * 4 + 3) = x := ⟨_, rfl⟩
    rw [N3] at x3
    have NN : Hid (S.k (k * 4) = n0 ∧ S.k (k * 4 + 1) = n1 ∧ S.k (k * 4 + 2) = n2 ∧ S.k (k * 4 + 3) = n3) := ⟨N0, N1, N2, N3⟩
    clear N0 N1 N2 N3
    by_cases h0 : faultOf n0 = 0
    case neg =>
      obtain ⟨f, hff⟩ : ∃ f, faultOf n0 = f := ⟨_, rfl⟩
      have L0 : Hid (∀ w, Calls Tryz.prog 27 #[.int .i64 n0] w fun e w' => e = .returned (.int .i64 f) ∧ w' = w) := fun w => hff ▸ l1Fault_any n0 w
      have E : Hid (scan (writeF S.k) S.nw = f) := by
        have : writeF S.k k = f := by
          unfold writeF
          rw [NN.out.1, NN.out.2.1, NN.out.2.2.1, NN.out.2.2.2]
          rw [if_pos h0]; exact hff
        exact (scan_stop HS.out (by rw [this, ← hff]; exact h0) hlt).trans this
      have hfn : (f == 0) = false := beq_eq_false_iff_ne.2 (by rw [← hff]; exact h0)
      clear hff h0 HS NN
      go_wp2_with fail
      refine (L0.out _).mono ?_
      rintro e w1 ⟨rfl, rfl⟩
      go_wp2
      go_ret
      exact ⟨by rw [E.out]; rfl, by first | exact hbw.alloc hbw.size _ | exact below_dr (hbw.alloc hbw.size _) _ | exact below_dr (below_dr (hbw.alloc hbw.size _) _) _⟩
    have L0 : Hid (∀ w, Calls Tryz.prog 27 #[.int .i64 n0] w fun e w' => e = .returned (.int .i64 0) ∧ w' = w) := fun w => h0 ▸ l1Fault_any n0 w
    have G0 : Hid (faultOf n0 = 0) := h0
    clear h0
    by_cases h1 : 1 ≤ n1 ∧ n1 ≤ 100000
    case neg =>
      have L1 : Hid (decide (1 ≤ n1 ∧ n1 ≤ 100000) = false) := decide_eq_false h1
      have E : Hid (scan (writeF S.k) S.nw = 3) := by
        have : writeF S.k k = 3 := by
          unfold writeF
          rw [NN.out.1, NN.out.2.1, NN.out.2.2.1, NN.out.2.2.2]
          rw [if_neg (fun h => h G0.out)]
          rw [if_pos (by omega)]
        exact (scan_stop HS.out (by rw [this]; decide) hlt).trans this
      clear h1 HS NN G0
      go_wp2_with fail
      refine (L0.out _).mono ?_
      rintro e w1 ⟨rfl, rfl⟩
      go_wp2_with fail
      refine (l2Ts_is _ false L1.out _).mono ?_
      rintro e w1 ⟨rfl, rfl⟩
      go_wp2
      go_ret
      exact ⟨by rw [E.out]; rfl, by first | exact hbw.alloc hbw.size _ | exact below_dr (hbw.alloc hbw.size _) _ | exact below_dr (below_dr (hbw.alloc hbw.size _) _) _⟩
    have L1 : Hid (decide (1 ≤ n1 ∧ n1 ≤ 100000) = true) := decide_eq_true h1
    have G1 : Hid (1 ≤ n1 ∧ n1 ≤ 100000) := h1
    clear h1
    by_cases h2 : 1 ≤ n2 ∧ n2 ≤ 100000
    case neg =>
      have L2 : Hid (decide (1 ≤ n2 ∧ n2 ≤ 100000) = false) := decide_eq_false h2
      have E : Hid (scan (writeF S.k) S.nw = 3) := by
        have : writeF S.k k = 3 := by
          unfold writeF
          rw [NN.out.1, NN.out.2.1, NN.out.2.2.1, NN.out.2.2.2]
          rw [if_neg (fun h => h G0.out)]
          rw [if_pos (by omega)]
        exact (scan_stop HS.out (by rw [this]; decide) hlt).trans this
      clear h2 HS NN G0 G1
      go_wp2_with fail
      refine (L0.out _).mono ?_
      rintro e w1 ⟨rfl, rfl⟩
      go_wp2_with fail
      refine (l2Ts_is _ true L1.out _).mono ?_
      rintro e w1 ⟨rfl, rfl⟩
      go_wp2_with fail
      refine (l2Ts_is _ false L2.out _).mono ?_
      rintro e w1 ⟨rfl, rfl⟩
      go_wp2
      go_ret
      exact ⟨by rw [E.out]; rfl, by first | exact hbw.alloc hbw.size _ | exact below_dr (hbw.alloc hbw.size _) _ | exact below_dr (below_dr (hbw.alloc hbw.size _) _) _⟩
    have L2 : Hid (decide (1 ≤ n2 ∧ n2 ≤ 100000) = true) := decide_eq_true h2
    have G2 : Hid (1 ≤ n2 ∧ n2 ≤ 100000) := h2
    clear h2
    by_cases h3 : 1 ≤ n3 ∧ n3 ≤ 4
    case neg =>
      have L3 : Hid (decide (1 ≤ n3 ∧ n3 ≤ 4) = false) := decide_eq_false h3
      have E : Hid (scan (writeF S.k) S.nw = 3) := by
        have : writeF S.k k = 3 := by
          unfold writeF
          rw [NN.out.1, NN.out.2.1, NN.out.2.2.1, NN.out.2.2.2]
          rw [if_neg (fun h => h G0.out)]
          rw [if_pos (by omega)]
        exact (scan_stop HS.out (by rw [this]; decide) hlt).trans this
      clear h3 HS NN G0 G1 G2
      go_wp2_with fail
      refine (L0.out _).mono ?_
      rintro e w1 ⟨rfl, rfl⟩
      go_wp2_with fail
      refine (l2Ts_is _ true L1.out _).mono ?_
      rintro e w1 ⟨rfl, rfl⟩
      go_wp2_with fail
      refine (l2Ts_is _ true L2.out _).mono ?_
      rintro e w1 ⟨rfl, rfl⟩
      go_wp2_with fail
      refine (l1In_is _ _ _ false L3.out _).mono ?_
      rintro e w1 ⟨rfl, rfl⟩
      go_wp2
      go_ret
      exact ⟨by rw [E.out]; rfl, by first | exact hbw.alloc hbw.size _ | exact below_dr (hbw.alloc hbw.size _) _ | exact below_dr (below_dr (hbw.alloc hbw.size _) _) _⟩
    have L3 : Hid (decide (1 ≤ n3 ∧ n3 ≤ 4) = true) := decide_eq_true h3
    have G3 : Hid (1 ≤ n3 ∧ n3 ≤ 4) := h3
    clear h3
    rcases Nat.eq_zero_or_pos k with hk0 | hk0
    · by_cases q4 : n3 = 4
      · by_cases q5 : n1 = n2
        · have E : Hid (scan (writeF S.k) (k + 1) = 0) := by
            have : writeF S.k k = 0 := by
              unfold writeF
              rw [NN.out.1, NN.out.2.1, NN.out.2.2.1, NN.out.2.2.2]
              rw [if_neg (fun h => h G0.out)]
              have g1 := G1.out; have g2 := G2.out; have g3 := G3.out; rw [if_neg (by omega)]
              have hft : fits S.k k := by unfold fits; rw [NN.out.2.1, NN.out.2.2.1, NN.out.2.2.2]; omega
              rw [if_neg (by rintro (h | h); exact absurd h (by omega); exact h hft)]
            exact scan_go HS.out this
          have dk : decide (0 < k) = false := decide_eq_false (by omega)
          have w4 : (n3 == 4) = true := beq_iff_eq.2 q4
          have w6 : (n3 != 4) = false := by rw [q4]; rfl
          have w5 : (n1 != n2) = false := by rw [q5]; exact bne_self_eq_false _
          clear HS NN G0 G1 G2 G3 q4 q5 hk0
          go_wp2_with fail
          refine (L0.out _).mono ?_
          rintro e w1 ⟨rfl, rfl⟩
          go_wp2_with fail
          refine (l2Ts_is _ true L1.out _).mono ?_
          rintro e w1 ⟨rfl, rfl⟩
          go_wp2_with fail
          refine (l2Ts_is _ true L2.out _).mono ?_
          rintro e w1 ⟨rfl, rfl⟩
          go_wp2_with fail
          refine (l1In_is _ _ _ true L3.out _).mono ?_
          rintro e w1 ⟨rfl, rfl⟩
          go_wp2_with fail
          go_quiet (fail)
          go_wp2_with fail
          try go_quiet (fail)
          go_wp2
          go_roundw
          case rel => exact ⟨k + 1, by omega, by go_num, E, by first | exact hbw.alloc hbw.size _ | exact below_dr (hbw.alloc hbw.size _) _ | exact below_dr (below_dr (hbw.alloc hbw.size _) _) _⟩
          case measure => simp [intOf]; omega
        · have E : Hid (scan (writeF S.k) S.nw = 1) := by
            have : writeF S.k k = 1 := by
              unfold writeF
              rw [NN.out.1, NN.out.2.1, NN.out.2.2.1, NN.out.2.2.2]
              rw [if_neg (fun h => h G0.out)]
              have g1 := G1.out; have g2 := G2.out; have g3 := G3.out; rw [if_neg (by omega)]
              rw [if_pos (Or.inr (fun q => by unfold fits at q; rw [NN.out.2.1, NN.out.2.2.1, NN.out.2.2.2] at q; omega))]
            exact (scan_stop HS.out (by rw [this]; decide) hlt).trans this
          have dk : decide (0 < k) = false := decide_eq_false (by omega)
          have w4 : (n3 == 4) = true := beq_iff_eq.2 q4
          have w5 : (n1 != n2) = true := bne_iff_ne.2 q5
          clear HS NN G0 G1 G2 G3 q4 q5 hk0
          go_wp2_with fail
          refine (L0.out _).mono ?_
          rintro e w1 ⟨rfl, rfl⟩
          go_wp2_with fail
          refine (l2Ts_is _ true L1.out _).mono ?_
          rintro e w1 ⟨rfl, rfl⟩
          go_wp2_with fail
          refine (l2Ts_is _ true L2.out _).mono ?_
          rintro e w1 ⟨rfl, rfl⟩
          go_wp2_with fail
          refine (l1In_is _ _ _ true L3.out _).mono ?_
          rintro e w1 ⟨rfl, rfl⟩
          go_wp2_with fail
          go_quiet (fail)
          go_wp2_with fail
          try go_quiet (fail)
          go_wp2
          go_ret
          exact ⟨by rw [E.out]; rfl, by first | exact hbw.alloc hbw.size _ | exact below_dr (hbw.alloc hbw.size _) _ | exact below_dr (below_dr (hbw.alloc hbw.size _) _) _⟩
      · by_cases q5 : n1 ≤ n2
        · have E : Hid (scan (writeF S.k) S.nw = 1) := by
            have : writeF S.k k = 1 := by
              unfold writeF
              rw [NN.out.1, NN.out.2.1, NN.out.2.2.1, NN.out.2.2.2]
              rw [if_neg (fun h => h G0.out)]
              have g1 := G1.out; have g2 := G2.out; have g3 := G3.out; rw [if_neg (by omega)]
              rw [if_pos (Or.inr (fun q => by unfold fits at q; rw [NN.out.2.1, NN.out.2.2.1, NN.out.2.2.2] at q; omega))]
            exact (scan_stop HS.out (by rw [this]; decide) hlt).trans this
          have dk : decide (0 < k) = false := decide_eq_false (by omega)
          have w4 : (n3 == 4) = false := beq_eq_false_iff_ne.2 q4
          have w6 : (n3 != 4) = true := bne_iff_ne.2 q4
          have w5 : decide (n1 ≤ n2) = true := decide_eq_true q5
          clear HS NN G0 G1 G2 G3 q4 q5 hk0
          go_wp2_with fail
          refine (L0.out _).mono ?_
          rintro e w1 ⟨rfl, rfl⟩
          go_wp2_with fail
          refine (l2Ts_is _ true L1.out _).mono ?_
          rintro e w1 ⟨rfl, rfl⟩
          go_wp2_with fail
          refine (l2Ts_is _ true L2.out _).mono ?_
          rintro e w1 ⟨rfl, rfl⟩
          go_wp2_with fail
          refine (l1In_is _ _ _ true L3.out _).mono ?_
          rintro e w1 ⟨rfl, rfl⟩
          go_wp2_with fail
          go_quiet (fail)
          go_wp2_with fail
          try go_quiet (fail)
          go_wp2
          go_ret
          exact ⟨by rw [E.out]; rfl, by first | exact hbw.alloc hbw.size _ | exact below_dr (hbw.alloc hbw.size _) _ | exact below_dr (below_dr (hbw.alloc hbw.size _) _) _⟩
        · have E : Hid (scan (writeF S.k) (k + 1) = 0) := by
            have : writeF S.k k = 0 := by
              unfold writeF
              rw [NN.out.1, NN.out.2.1, NN.out.2.2.1, NN.out.2.2.2]
              rw [if_neg (fun h => h G0.out)]
              have g1 := G1.out; have g2 := G2.out; have g3 := G3.out; rw [if_neg (by omega)]
              have hft : fits S.k k := by unfold fits; rw [NN.out.2.1, NN.out.2.2.1, NN.out.2.2.2]; omega
              rw [if_neg (by rintro (h | h); exact absurd h (by omega); exact h hft)]
            exact scan_go HS.out this
          have dk : decide (0 < k) = false := decide_eq_false (by omega)
          have w4 : (n3 == 4) = false := beq_eq_false_iff_ne.2 q4
          have w6 : (n3 != 4) = true := bne_iff_ne.2 q4
          have w5 : decide (n1 ≤ n2) = false := decide_eq_false q5
          clear HS NN G0 G1 G2 G3 q4 q5 hk0
          go_wp2_with fail
          refine (L0.out _).mono ?_
          rintro e w1 ⟨rfl, rfl⟩
          go_wp2_with fail
          refine (l2Ts_is _ true L1.out _).mono ?_
          rintro e w1 ⟨rfl, rfl⟩
          go_wp2_with fail
          refine (l2Ts_is _ true L2.out _).mono ?_
          rintro e w1 ⟨rfl, rfl⟩
          go_wp2_with fail
          refine (l1In_is _ _ _ true L3.out _).mono ?_
          rintro e w1 ⟨rfl, rfl⟩
          go_wp2_with fail
          go_quiet (fail)
          go_wp2_with fail
          try go_quiet (fail)
          go_wp2
          go_roundw
          case rel => exact ⟨k + 1, by omega, by go_num, E, by first | exact hbw.alloc hbw.size _ | exact below_dr (hbw.alloc hbw.size _) _ | exact below_dr (below_dr (hbw.alloc hbw.size _) _) _⟩
          case measure => simp [intOf]; omega
    obtain ⟨g', o', he, _, _, y0, y1, _, _⟩ := (H.out.2.2.2.later hbw).at4 (k := k - 1) (by omega)
    simp only [Option.some.injEq, Addr.mk.injEq, and_true] at he
    obtain ⟨rfl, rfl⟩ := he
    obtain ⟨m0, M0⟩ : ∃ x, S.k ((k - 1) * 4) = x := ⟨_, rfl⟩
    rw [M0] at y0
    obtain ⟨m1, M1⟩ : ∃ x, S.k ((k - 1) * 4 + 1) = x := ⟨_, rfl⟩
    rw [M1] at y1
    have MM : Hid (S.k ((k - 1) * 4) = m0 ∧ S.k ((k - 1) * 4 + 1) = m1) := ⟨M0, M1⟩
    clear M0 M1
    have dk : decide (0 < k) = true := decide_eq_true hk0
    by_cases r1 : n0 < m0
    · have E : Hid (scan (writeF S.k) S.nw = 1) := by
        have : writeF S.k k = 1 := by
          unfold writeF
          rw [NN.out.1, NN.out.2.1, NN.out.2.2.1, NN.out.2.2.2]
          rw [if_neg (fun h => h G0.out)]
          have g1 := G1.out; have g2 := G2.out; have g3 := G3.out; rw [if_neg (by omega)]
          rw [MM.out.1, MM.out.2]
          rw [if_pos (Or.inl (by omega))]
        exact (scan_stop HS.out (by rw [this]; decide) hlt).trans this
      clear HS NN G0 G1 G2 G3 MM
      go_wp2_with fail
      refine (L0.out _).mono ?_
      rintro e w1 ⟨rfl, rfl⟩
      go_wp2_with fail
      refine (l2Ts_is _ true L1.out _).mono ?_
      rintro e w1 ⟨rfl, rfl⟩
      go_wp2_with fail
      refine (l2Ts_is _ true L2.out _).mono ?_
      rintro e w1 ⟨rfl, rfl⟩
      go_wp2_with fail
      refine (l1In_is _ _ _ true L3.out _).mono ?_
      rintro e w1 ⟨rfl, rfl⟩
      go_wp2_with fail
      go_quiet (fail)
      go_wp2
      go_ret
      exact ⟨by rw [E.out]; rfl, by first | exact hbw.alloc hbw.size _ | exact below_dr (hbw.alloc hbw.size _) _ | exact below_dr (below_dr (hbw.alloc hbw.size _) _) _⟩
    by_cases r2 : n0 = m0
    · by_cases r3 : n1 ≤ m1
      · have E : Hid (scan (writeF S.k) S.nw = 1) := by
          have : writeF S.k k = 1 := by
            unfold writeF
            rw [NN.out.1, NN.out.2.1, NN.out.2.2.1, NN.out.2.2.2]
            rw [if_neg (fun h => h G0.out)]
            have g1 := G1.out; have g2 := G2.out; have g3 := G3.out; rw [if_neg (by omega)]
            rw [MM.out.1, MM.out.2]
            rw [if_pos (Or.inl (by omega))]
          exact (scan_stop HS.out (by rw [this]; decide) hlt).trans this
        have s1 : decide (n0 < m0) = false := decide_eq_false r1
        have s2 : (n0 == m0) = true := beq_iff_eq.2 r2
        have s3 : decide (n1 ≤ m1) = true := decide_eq_true r3
        clear HS NN G0 G1 G2 G3 MM r1 r2
        go_wp2_with fail
        refine (L0.out _).mono ?_
        rintro e w1 ⟨rfl, rfl⟩
        go_wp2_with fail
        refine (l2Ts_is _ true L1.out _).mono ?_
        rintro e w1 ⟨rfl, rfl⟩
        go_wp2_with fail
        refine (l2Ts_is _ true L2.out _).mono ?_
        rintro e w1 ⟨rfl, rfl⟩
        go_wp2_with fail
        refine (l1In_is _ _ _ true L3.out _).mono ?_
        rintro e w1 ⟨rfl, rfl⟩
        go_wp2_with fail
        go_quiet (fail)
        go_wp2
        go_ret
        exact ⟨by rw [E.out]; rfl, by first | exact hbw.alloc hbw.size _ | exact below_dr (hbw.alloc hbw.size _) _ | exact below_dr (below_dr (hbw.alloc hbw.size _) _) _⟩
      · by_cases q4 : n3 = 4
        · by_cases q5 : n1 = n2
          · have E : Hid (scan (writeF S.k) (k + 1) = 0) := by
              have : writeF S.k k = 0 := by
                unfold writeF
                rw [NN.out.1, NN.out.2.1, NN.out.2.2.1, NN.out.2.2.2]
                rw [if_neg (fun h => h G0.out)]
                have g1 := G1.out; have g2 := G2.out; have g3 := G3.out; rw [if_neg (by omega)]
                rw [MM.out.1, MM.out.2]
                have hft : fits S.k k := by unfold fits; rw [NN.out.2.1, NN.out.2.2.1, NN.out.2.2.2]; omega
                rw [if_neg (by rintro (h | h); exact absurd h (by omega); exact h hft)]
              exact scan_go HS.out this
            have s1 : decide (n0 < m0) = false := decide_eq_false r1
            have s2 : (n0 == m0) = true := beq_iff_eq.2 r2
            have s3 : decide (n1 ≤ m1) = false := decide_eq_false r3
            have w4 : (n3 == 4) = true := beq_iff_eq.2 q4
            have w6 : (n3 != 4) = false := by rw [q4]; rfl
            have w5 : (n1 != n2) = false := by rw [q5]; exact bne_self_eq_false _
            clear HS NN G0 G1 G2 G3 q4 q5 MM r1 r2 r3
            go_wp2_with fail
            refine (L0.out _).mono ?_
            rintro e w1 ⟨rfl, rfl⟩
            go_wp2_with fail
            refine (l2Ts_is _ true L1.out _).mono ?_
            rintro e w1 ⟨rfl, rfl⟩
            go_wp2_with fail
            refine (l2Ts_is _ true L2.out _).mono ?_
            rintro e w1 ⟨rfl, rfl⟩
            go_wp2_with fail
            refine (l1In_is _ _ _ true L3.out _).mono ?_
            rintro e w1 ⟨rfl, rfl⟩
            go_wp2_with fail
            go_quiet (fail)
            go_wp2_with fail
            try go_quiet (fail)
            go_wp2
            go_roundw
            case rel => exact ⟨k + 1, by omega, by go_num, E, by first | exact hbw.alloc hbw.size _ | exact below_dr (hbw.alloc hbw.size _) _ | exact below_dr (below_dr (hbw.alloc hbw.size _) _) _⟩
            case measure => simp [intOf]; omega
          · have E : Hid (scan (writeF S.k) S.nw = 1) := by
              have : writeF S.k k = 1 := by
                unfold writeF
                rw [NN.out.1, NN.out.2.1, NN.out.2.2.1, NN.out.2.2.2]
                rw [if_neg (fun h => h G0.out)]
                have g1 := G1.out; have g2 := G2.out; have g3 := G3.out; rw [if_neg (by omega)]
                rw [MM.out.1, MM.out.2]
                rw [if_pos (Or.inr (fun q => by unfold fits at q; rw [NN.out.2.1, NN.out.2.2.1, NN.out.2.2.2] at q; omega))]
              exact (scan_stop HS.out (by rw [this]; decide) hlt).trans this
            have s1 : decide (n0 < m0) = false := decide_eq_false r1
            have s2 : (n0 == m0) = true := beq_iff_eq.2 r2
            have s3 : decide (n1 ≤ m1) = false := decide_eq_false r3
            have w4 : (n3 == 4) = true := beq_iff_eq.2 q4
            have w5 : (n1 != n2) = true := bne_iff_ne.2 q5
            clear HS NN G0 G1 G2 G3 q4 q5 MM r1 r2 r3
            go_wp2_with fail
            refine (L0.out _).mono ?_
            rintro e w1 ⟨rfl, rfl⟩
            go_wp2_with fail
            refine (l2Ts_is _ true L1.out _).mono ?_
            rintro e w1 ⟨rfl, rfl⟩
            go_wp2_with fail
            refine (l2Ts_is _ true L2.out _).mono ?_
            rintro e w1 ⟨rfl, rfl⟩
            go_wp2_with fail
            refine (l1In_is _ _ _ true L3.out _).mono ?_
            rintro e w1 ⟨rfl, rfl⟩
            go_wp2_with fail
            go_quiet (fail)
            go_wp2_with fail
            try go_quiet (fail)
            go_wp2
            go_ret
            exact ⟨by rw [E.out]; rfl, by first | exact hbw.alloc hbw.size _ | exact below_dr (hbw.alloc hbw.size _) _ | exact below_dr (below_dr (hbw.alloc hbw.size _) _) _⟩
        · by_cases q5 : n1 ≤ n2
          · have E : Hid (scan (writeF S.k) S.nw = 1) := by
              have : writeF S.k k = 1 := by
                unfold writeF
                rw [NN.out.1, NN.out.2.1, NN.out.2.2.1, NN.out.2.2.2]
                rw [if_neg (fun h => h G0.out)]
                have g1 := G1.out; have g2 := G2.out; have g3 := G3.out; rw [if_neg (by omega)]
                rw [MM.out.1, MM.out.2]
                rw [if_pos (Or.inr (fun q => by unfold fits at q; rw [NN.out.2.1, NN.out.2.2.1, NN.out.2.2.2] at q; omega))]
              exact (scan_stop HS.out (by rw [this]; decide) hlt).trans this
            have s1 : decide (n0 < m0) = false := decide_eq_false r1
            have s2 : (n0 == m0) = true := beq_iff_eq.2 r2
            have s3 : decide (n1 ≤ m1) = false := decide_eq_false r3
            have w4 : (n3 == 4) = false := beq_eq_false_iff_ne.2 q4
            have w6 : (n3 != 4) = true := bne_iff_ne.2 q4
            have w5 : decide (n1 ≤ n2) = true := decide_eq_true q5
            clear HS NN G0 G1 G2 G3 q4 q5 MM r1 r2 r3
            go_wp2_with fail
            refine (L0.out _).mono ?_
            rintro e w1 ⟨rfl, rfl⟩
            go_wp2_with fail
            refine (l2Ts_is _ true L1.out _).mono ?_
            rintro e w1 ⟨rfl, rfl⟩
            go_wp2_with fail
            refine (l2Ts_is _ true L2.out _).mono ?_
            rintro e w1 ⟨rfl, rfl⟩
            go_wp2_with fail
            refine (l1In_is _ _ _ true L3.out _).mono ?_
            rintro e w1 ⟨rfl, rfl⟩
            go_wp2_with fail
            go_quiet (fail)
            go_wp2_with fail
            try go_quiet (fail)
            go_wp2
            go_ret
            exact ⟨by rw [E.out]; rfl, by first | exact hbw.alloc hbw.size _ | exact below_dr (hbw.alloc hbw.size _) _ | exact below_dr (below_dr (hbw.alloc hbw.size _) _) _⟩
          · have E : Hid (scan (writeF S.k) (k + 1) = 0) := by
              have : writeF S.k k = 0 := by
                unfold writeF
                rw [NN.out.1, NN.out.2.1, NN.out.2.2.1, NN.out.2.2.2]
                rw [if_neg (fun h => h G0.out)]
                have g1 := G1.out; have g2 := G2.out; have g3 := G3.out; rw [if_neg (by omega)]
                rw [MM.out.1, MM.out.2]
                have hft : fits S.k k := by unfold fits; rw [NN.out.2.1, NN.out.2.2.1, NN.out.2.2.2]; omega
                rw [if_neg (by rintro (h | h); exact absurd h (by omega); exact h hft)]
              exact scan_go HS.out this
            have s1 : decide (n0 < m0) = false := decide_eq_false r1
            have s2 : (n0 == m0) = true := beq_iff_eq.2 r2
            have s3 : decide (n1 ≤ m1) = false := decide_eq_false r3
            have w4 : (n3 == 4) = false := beq_eq_false_iff_ne.2 q4
            have w6 : (n3 != 4) = true := bne_iff_ne.2 q4
            have w5 : decide (n1 ≤ n2) = false := decide_eq_false q5
            clear HS NN G0 G1 G2 G3 q4 q5 MM r1 r2 r3
            go_wp2_with fail
            refine (L0.out _).mono ?_
            rintro e w1 ⟨rfl, rfl⟩
            go_wp2_with fail
            refine (l2Ts_is _ true L1.out _).mono ?_
            rintro e w1 ⟨rfl, rfl⟩
            go_wp2_with fail
            refine (l2Ts_is _ true L2.out _).mono ?_
            rintro e w1 ⟨rfl, rfl⟩
            go_wp2_with fail
            refine (l1In_is _ _ _ true L3.out _).mono ?_
            rintro e w1 ⟨rfl, rfl⟩
            go_wp2_with fail
            go_quiet (fail)
            go_wp2_with fail
            try go_quiet (fail)
            go_wp2
            go_roundw
            case rel => exact ⟨k + 1, by omega, by go_num, E, by first | exact hbw.alloc hbw.size _ | exact below_dr (hbw.alloc hbw.size _) _ | exact below_dr (below_dr (hbw.alloc hbw.size _) _) _⟩
            case measure => simp [intOf]; omega
    · by_cases q4 : n3 = 4
      · by_cases q5 : n1 = n2
        · have E : Hid (scan (writeF S.k) (k + 1) = 0) := by
            have : writeF S.k k = 0 := by
              unfold writeF
              rw [NN.out.1, NN.out.2.1, NN.out.2.2.1, NN.out.2.2.2]
              rw [if_neg (fun h => h G0.out)]
              have g1 := G1.out; have g2 := G2.out; have g3 := G3.out; rw [if_neg (by omega)]
              rw [MM.out.1, MM.out.2]
              have hft : fits S.k k := by unfold fits; rw [NN.out.2.1, NN.out.2.2.1, NN.out.2.2.2]; omega
              rw [if_neg (by rintro (h | h); exact absurd h (by omega); exact h hft)]
            exact scan_go HS.out this
          have s1 : decide (n0 < m0) = false := decide_eq_false r1
          have s2 : (n0 == m0) = false := beq_eq_false_iff_ne.2 r2
          have w4 : (n3 == 4) = true := beq_iff_eq.2 q4
          have w6 : (n3 != 4) = false := by rw [q4]; rfl
          have w5 : (n1 != n2) = false := by rw [q5]; exact bne_self_eq_false _
          clear HS NN G0 G1 G2 G3 q4 q5 MM r1 r2
          go_wp2_with fail
          refine (L0.out _).mono ?_
          rintro e w1 ⟨rfl, rfl⟩
          go_wp2_with fail
          refine (l2Ts_is _ true L1.out _).mono ?_
          rintro e w1 ⟨rfl, rfl⟩
          go_wp2_with fail
          refine (l2Ts_is _ true L2.out _).mono ?_
          rintro e w1 ⟨rfl, rfl⟩
          go_wp2_with fail
          refine (l1In_is _ _ _ true L3.out _).mono ?_
          rintro e w1 ⟨rfl, rfl⟩
          go_wp2_with fail
          go_quiet (fail)
          go_wp2_with fail
          try go_quiet (fail)
          go_wp2
          go_roundw
          case rel => exact ⟨k + 1, by omega, by go_num, E, by first | exact hbw.alloc hbw.size _ | exact below_dr (hbw.alloc hbw.size _) _ | exact below_dr (below_dr (hbw.alloc hbw.size _) _) _⟩
          case measure => simp [intOf]; omega
        · have E : Hid (scan (writeF S.k) S.nw = 1) := by
            have : writeF S.k k = 1 := by
              unfold writeF
              rw [NN.out.1, NN.out.2.1, NN.out.2.2.1, NN.out.2.2.2]
              rw [if_neg (fun h => h G0.out)]
              have g1 := G1.out; have g2 := G2.out; have g3 := G3.out; rw [if_neg (by omega)]
              rw [MM.out.1, MM.out.2]
              rw [if_pos (Or.inr (fun q => by unfold fits at q; rw [NN.out.2.1, NN.out.2.2.1, NN.out.2.2.2] at q; omega))]
            exact (scan_stop HS.out (by rw [this]; decide) hlt).trans this
          have s1 : decide (n0 < m0) = false := decide_eq_false r1
          have s2 : (n0 == m0) = false := beq_eq_false_iff_ne.2 r2
          have w4 : (n3 == 4) = true := beq_iff_eq.2 q4
          have w5 : (n1 != n2) = true := bne_iff_ne.2 q5
          clear HS NN G0 G1 G2 G3 q4 q5 MM r1 r2
          go_wp2_with fail
          refine (L0.out _).mono ?_
          rintro e w1 ⟨rfl, rfl⟩
          go_wp2_with fail
          refine (l2Ts_is _ true L1.out _).mono ?_
          rintro e w1 ⟨rfl, rfl⟩
          go_wp2_with fail
          refine (l2Ts_is _ true L2.out _).mono ?_
          rintro e w1 ⟨rfl, rfl⟩
          go_wp2_with fail
          refine (l1In_is _ _ _ true L3.out _).mono ?_
          rintro e w1 ⟨rfl, rfl⟩
          go_wp2_with fail
          go_quiet (fail)
          go_wp2_with fail
          try go_quiet (fail)
          go_wp2
          go_ret
          exact ⟨by rw [E.out]; rfl, by first | exact hbw.alloc hbw.size _ | exact below_dr (hbw.alloc hbw.size _) _ | exact below_dr (below_dr (hbw.alloc hbw.size _) _) _⟩
      · by_cases q5 : n1 ≤ n2
        · have E : Hid (scan (writeF S.k) S.nw = 1) := by
            have : writeF S.k k = 1 := by
              unfold writeF
              rw [NN.out.1, NN.out.2.1, NN.out.2.2.1, NN.out.2.2.2]
              rw [if_neg (fun h => h G0.out)]
              have g1 := G1.out; have g2 := G2.out; have g3 := G3.out; rw [if_neg (by omega)]
              rw [MM.out.1, MM.out.2]
              rw [if_pos (Or.inr (fun q => by unfold fits at q; rw [NN.out.2.1, NN.out.2.2.1, NN.out.2.2.2] at q; omega))]
            exact (scan_stop HS.out (by rw [this]; decide) hlt).trans this
          have s1 : decide (n0 < m0) = false := decide_eq_false r1
          have s2 : (n0 == m0) = false := beq_eq_false_iff_ne.2 r2
          have w4 : (n3 == 4) = false := beq_eq_false_iff_ne.2 q4
          have w6 : (n3 != 4) = true := bne_iff_ne.2 q4
          have w5 : decide (n1 ≤ n2) = true := decide_eq_true q5
          clear HS NN G0 G1 G2 G3 q4 q5 MM r1 r2
          go_wp2_with fail
          refine (L0.out _).mono ?_
          rintro e w1 ⟨rfl, rfl⟩
          go_wp2_with fail
          refine (l2Ts_is _ true L1.out _).mono ?_
          rintro e w1 ⟨rfl, rfl⟩
          go_wp2_with fail
          refine (l2Ts_is _ true L2.out _).mono ?_
          rintro e w1 ⟨rfl, rfl⟩
          go_wp2_with fail
          refine (l1In_is _ _ _ true L3.out _).mono ?_
          rintro e w1 ⟨rfl, rfl⟩
          go_wp2_with fail
          go_quiet (fail)
          go_wp2_with fail
          try go_quiet (fail)
          go_wp2
          go_ret
          exact ⟨by rw [E.out]; rfl, by first | exact hbw.alloc hbw.size _ | exact below_dr (hbw.alloc hbw.size _) _ | exact below_dr (below_dr (hbw.alloc hbw.size _) _) _⟩
        · have E : Hid (scan (writeF S.k) (k + 1) = 0) := by
            have : writeF S.k k = 0 := by
              unfold writeF
              rw [NN.out.1, NN.out.2.1, NN.out.2.2.1, NN.out.2.2.2]
              rw [if_neg (fun h => h G0.out)]
              have g1 := G1.out; have g2 := G2.out; have g3 := G3.out; rw [if_neg (by omega)]
              rw [MM.out.1, MM.out.2]
              have hft : fits S.k k := by unfold fits; rw [NN.out.2.1, NN.out.2.2.1, NN.out.2.2.2]; omega
              rw [if_neg (by rintro (h | h); exact absurd h (by omega); exact h hft)]
            exact scan_go HS.out this
          have s1 : decide (n0 < m0) = false := decide_eq_false r1
          have s2 : (n0 == m0) = false := beq_eq_false_iff_ne.2 r2
          have w4 : (n3 == 4) = false := beq_eq_false_iff_ne.2 q4
          have w6 : (n3 != 4) = true := bne_iff_ne.2 q4
          have w5 : decide (n1 ≤ n2) = false := decide_eq_false q5
          clear HS NN G0 G1 G2 G3 q4 q5 MM r1 r2
          go_wp2_with fail
          refine (L0.out _).mono ?_
          rintro e w1 ⟨rfl, rfl⟩
          go_wp2_with fail
          refine (l2Ts_is _ true L1.out _).mono ?_
          rintro e w1 ⟨rfl, rfl⟩
          go_wp2_with fail
          refine (l2Ts_is _ true L2.out _).mono ?_
          rintro e w1 ⟨rfl, rfl⟩
          go_wp2_with fail
          refine (l1In_is _ _ _ true L3.out _).mono ?_
          rintro e w1 ⟨rfl, rfl⟩
          go_wp2_with fail
          go_quiet (fail)
          go_wp2_with fail
          try go_quiet (fail)
          go_wp2
          go_roundw
          case rel => exact ⟨k + 1, by omega, by go_num, E, by first | exact hbw.alloc hbw.size _ | exact below_dr (hbw.alloc hbw.size _) _ | exact below_dr (below_dr (hbw.alloc hbw.size _) _) _⟩
          case measure => simp [intOf]; omega
theorem l2Writes_any (S : Sto) (b : Nat) (v0 v1 v2 : Value) (w : World) (h : Lies w b S v0 v1 v2) (hn : S.nw ≤ 200) :
    Calls Tryz.prog 121 #[.pointer (some ⟨b, 0, none⟩)] w fun e w' => e = .returned (.int .i64 (scan (writeF S.k) S.nw)) ∧ Below w.heap.size w w' := l2Writes_anyO S b 0 v0 v1 v2 w h.o hn
end Go.Proofs.YtpfmbfmlpoibeaaGreat
