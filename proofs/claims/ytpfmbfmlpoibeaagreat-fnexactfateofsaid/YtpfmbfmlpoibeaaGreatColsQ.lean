/-
  Own text. What the program's writesFault answers: the first fault of the writes, one by one, as the model's.
-/
import Derived.Test.YtpfmbfmlpoibeaaGreatColsN
namespace Go.Proofs.YtpfmbfmlpoibeaaGreat
open Go.RowKit

/-- The element ahead and the one that is asked, and that nothing old has turned. -/
def PrevWrite (w : World) (g o k N : Nat) (m0 m1 m2 m3 n0 n1 n2 n3 : Int) (x : World) : Prop := (x.cell? ⟨g, o + (k - 1) * 4, none⟩ = some (.int .i64 m0) ∧ x.cell? ⟨g, o + (k - 1) * 4 + 1, none⟩ = some (.int .i64 m1) ∧ x.cell? ⟨g, o + (k - 1) * 4 + 2, none⟩ = some (.int .i64 m2) ∧ x.cell? ⟨g, o + (k - 1) * 4 + 3, none⟩ = some (.int .i64 m3) ∧ x.cell? ⟨N, 0, none⟩ = some (.int .i64 n0) ∧ x.cell? ⟨N, 1, none⟩ = some (.int .i64 n1) ∧ x.cell? ⟨N, 2, none⟩ = some (.int .i64 n2) ∧ x.cell? ⟨N, 3, none⟩ = some (.int .i64 n3)) ∧ Below w.heap.size w x
theorem PrevWrite.later {w x x' : World} {g o k N : Nat} {m0 m1 m2 m3 n0 n1 n2 n3 : Int} (h : PrevWrite w g o k N m0 m1 m2 m3 n0 n1 n2 n3 x) (hb : Below x.heap.size x x') : PrevWrite w g o k N m0 m1 m2 m3 n0 n1 n2 n3 x' := by
  obtain ⟨⟨hx0, hx1, hx2, hx3, hx4, hx5, hx6, hx7⟩, hy⟩ := h
  exact ⟨⟨(hb.cell (World.block_lt_of_cell? x _ hx0)).trans hx0, (hb.cell (World.block_lt_of_cell? x _ hx1)).trans hx1, (hb.cell (World.block_lt_of_cell? x _ hx2)).trans hx2, (hb.cell (World.block_lt_of_cell? x _ hx3)).trans hx3, (hb.cell (World.block_lt_of_cell? x _ hx4)).trans hx4, (hb.cell (World.block_lt_of_cell? x _ hx5)).trans hx5, (hb.cell (World.block_lt_of_cell? x _ hx6)).trans hx6, (hb.cell (World.block_lt_of_cell? x _ hx7)).trans hx7⟩, hy.trans (hb.mono hy.size)⟩
/-- The element that is asked, and that nothing old has turned. -/
def FirstWrite (w : World) (N : Nat) (n0 n1 n2 n3 : Int) (x : World) : Prop := (x.cell? ⟨N, 0, none⟩ = some (.int .i64 n0) ∧ x.cell? ⟨N, 1, none⟩ = some (.int .i64 n1) ∧ x.cell? ⟨N, 2, none⟩ = some (.int .i64 n2) ∧ x.cell? ⟨N, 3, none⟩ = some (.int .i64 n3)) ∧ Below w.heap.size w x
theorem FirstWrite.later {w x x' : World} {N : Nat} {n0 n1 n2 n3 : Int} (h : FirstWrite w N n0 n1 n2 n3 x) (hb : Below x.heap.size x x') : FirstWrite w N n0 n1 n2 n3 x' := by
  obtain ⟨⟨hx0, hx1, hx2, hx3⟩, hy⟩ := h
  exact ⟨⟨(hb.cell (World.block_lt_of_cell? x _ hx0)).trans hx0, (hb.cell (World.block_lt_of_cell? x _ hx1)).trans hx1, (hb.cell (World.block_lt_of_cell? x _ hx2)).trans hx2, (hb.cell (World.block_lt_of_cell? x _ hx3)).trans hx3⟩, hy.trans (hb.mono hy.size)⟩
set_option maxRecDepth 100000 in
set_option maxHeartbeats 8000000 in
theorem writesFault_any (S : Sto) (v : Value) (B : Nat) (w : World) (h : Row w B 4 S.nw S.k v) (hn : S.nw ≤ 200) :
    Calls Tryz.prog 83 #[v] w fun e w' => e = .returned (.int .i64 (scan (writeF S.k) S.nw)) ∧ Below w.heap.size w w' := by
  obtain ⟨ao, cp, rfl⟩ := h.form
  have H : Hid (Row w B 4 S.nw S.k (.slice ao S.nw cp)) := h
  clear h
  go_enter Tryz.func83, Tryz.ntmps83
  go_wp2
  go_loopw [8] (fun i wr => ∃ k : Nat, k ≤ S.nw ∧ i = .int .i64 k ∧ Hid (scan (writeF S.k) k = 0) ∧ Below w.heap.size w wr) (fun i _ => S.nw - (intOf i).toNat)
  case atStart => exact ⟨0, Nat.zero_le _, rfl, rfl, Below.refl _ _⟩
  case round =>
    obtain ⟨k, hk, rfl, HS, hbw⟩ := hrel
    by_cases hlt : k < S.nw
    case neg =>
      have en : k = S.nw := by omega
      have E : Hid (scan (writeF S.k) S.nw = 0) := en ▸ HS.out
      clear HS
      go_wp2
      go_ret
      exact ⟨by rw [E.out]; rfl, hbw⟩
    obtain ⟨g, o, rfl, _, hg, x0, x1, x2, x3⟩ := (H.out.later hbw).at4 hlt
    obtain ⟨n0, N0⟩ : ∃ x, S.k (k * 4) = x := ⟨_, rfl⟩
    rw [N0] at x0
    obtain ⟨n1, N1⟩ : ∃ x, S.k (k * 4 + 1) = x := ⟨_, rfl⟩
    rw [N1] at x1
    obtain ⟨n2, N2⟩ : ∃ x, S.k (k * 4 + 2) = x := ⟨_, rfl⟩
    rw [N2] at x2
    obtain ⟨n3, N3⟩ : ∃ x, S.k (k * 4 + 3) = x := ⟨_, rfl⟩
    rw [N3] at x3
    have NN : Hid (S.k (k * 4) = n0 ∧ S.k (k * 4 + 1) = n1 ∧ S.k (k * 4 + 2) = n2 ∧ S.k (k * 4 + 3) = n3) := ⟨N0, N1, N2, N3⟩
    clear N0 N1 N2 N3
    have FT : Hid (fits S.k k ↔ (n3 = 4 → n1 = n2) ∧ (n3 ≠ 4 → n2 < n1)) := by
      unfold Hid fits
      rw [NN.out.2.1, NN.out.2.2.1, NN.out.2.2.2]
    by_cases h0 : faultOf n0 = 0
    case neg =>
      obtain ⟨f, hff⟩ : ∃ f, faultOf n0 = f := ⟨_, rfl⟩
      have L0 : Hid (∀ w, Calls Tryz.prog 72 #[.int .i64 n0] w fun e w' => e = .returned (.int .i64 f) ∧ w' = w) := fun w => hff ▸ keyFault_any n0 w
      have E : Hid (scan (writeF S.k) S.nw = f) := by
        have : writeF S.k k = f := by
          unfold writeF
          rw [NN.out.1, NN.out.2.1, NN.out.2.2.1, NN.out.2.2.2]
          rw [if_pos h0]; exact hff
        exact (scan_stop HS.out (by rw [this, ← hff]; exact h0) hlt).trans this
      have hfn : (f == 0) = false := beq_eq_false_iff_ne.2 (by rw [← hff]; exact h0)
      clear hff h0 HS NN FT
      go_wp2_with fail
      refine (L0.out _).mono ?_
      rintro e w1 ⟨rfl, rfl⟩
      go_wp2
      go_ret
      exact ⟨by rw [E.out]; rfl, by first | exact hbw.alloc hbw.size _ | exact below_dn (hbw.alloc hbw.size _) _ | exact below_dn (below_dn (hbw.alloc hbw.size _) _) _⟩
    have L0 : Hid (∀ w, Calls Tryz.prog 72 #[.int .i64 n0] w fun e w' => e = .returned (.int .i64 0) ∧ w' = w) := fun w => h0 ▸ keyFault_any n0 w
    have G0 : Hid (faultOf n0 = 0) := h0
    clear h0
    by_cases h1 : 1 ≤ n1 ∧ n1 ≤ 100000
    case neg =>
      have L1 : Hid (decide (1 ≤ n1 ∧ n1 ≤ 100000) = false) := decide_eq_false h1
      have E : Hid (scan (writeF S.k) S.nw = 3) := by
        have : writeF S.k k = 3 := by
          unfold writeF
          rw [NN.out.1, NN.out.2.1, NN.out.2.2.1, NN.out.2.2.2]
          rw [if_neg (fun h => h G0.out)]
          rw [if_pos (by omega)]
        exact (scan_stop HS.out (by rw [this]; decide) hlt).trans this
      clear h1 HS NN FT G0
      go_wp2_with fail
      refine (L0.out _).mono ?_
      rintro e w1 ⟨rfl, rfl⟩
      go_wp2_with fail
      refine (isTime_is _ false L1.out _).mono ?_
      rintro e w1 ⟨rfl, rfl⟩
      go_wp2
      go_ret
      exact ⟨by rw [E.out]; rfl, by first | exact hbw.alloc hbw.size _ | exact below_dn (hbw.alloc hbw.size _) _ | exact below_dn (below_dn (hbw.alloc hbw.size _) _) _⟩
    have L1 : Hid (decide (1 ≤ n1 ∧ n1 ≤ 100000) = true) := decide_eq_true h1
    have G1 : Hid (1 ≤ n1 ∧ n1 ≤ 100000) := h1
    clear h1
    by_cases h2 : 1 ≤ n2 ∧ n2 ≤ 100000
    case neg =>
      have L2 : Hid (decide (1 ≤ n2 ∧ n2 ≤ 100000) = false) := decide_eq_false h2
      have E : Hid (scan (writeF S.k) S.nw = 3) := by
        have : writeF S.k k = 3 := by
          unfold writeF
          rw [NN.out.1, NN.out.2.1, NN.out.2.2.1, NN.out.2.2.2]
          rw [if_neg (fun h => h G0.out)]
          rw [if_pos (by omega)]
        exact (scan_stop HS.out (by rw [this]; decide) hlt).trans this
      clear h2 HS NN FT G0 G1
      go_wp2_with fail
      refine (L0.out _).mono ?_
      rintro e w1 ⟨rfl, rfl⟩
      go_wp2_with fail
      refine (isTime_is _ true L1.out _).mono ?_
      rintro e w1 ⟨rfl, rfl⟩
      go_wp2_with fail
      refine (isTime_is _ false L2.out _).mono ?_
      rintro e w1 ⟨rfl, rfl⟩
      go_wp2
      go_ret
      exact ⟨by rw [E.out]; rfl, by first | exact hbw.alloc hbw.size _ | exact below_dn (hbw.alloc hbw.size _) _ | exact below_dn (below_dn (hbw.alloc hbw.size _) _) _⟩
    have L2 : Hid (decide (1 ≤ n2 ∧ n2 ≤ 100000) = true) := decide_eq_true h2
    have G2 : Hid (1 ≤ n2 ∧ n2 ≤ 100000) := h2
    clear h2
    by_cases h3 : 1 ≤ n3 ∧ n3 ≤ 3
    · have L3 : Hid (decide (1 ≤ n3 ∧ n3 ≤ 3) = true) := decide_eq_true h3
      have G3 : Hid (1 ≤ n3 ∧ n3 ≤ 3) := h3
      clear h3
      by_cases hf : (n3 = 4 → n1 = n2) ∧ (n3 ≠ 4 → n2 < n1)
      · have D : Hid (∀ w, Calls Tryz.prog 130 #[.agg #[.int .i64 n0, .int .i64 n1, .int .i64 n2, .int .i64 n3]] w fun e w' => e = .returned (.bool true) ∧ Below w.heap.size w w') := fun w => commitFits_is n0 n1 n2 n3 true (decide_eq_true hf) w
        have hft : Hid (fits S.k k) := FT.out.2 hf
        clear hf
        rcases Nat.eq_zero_or_pos k with hk0 | hk0
        · have E : Hid (scan (writeF S.k) (k + 1) = 0) := by
            have : writeF S.k k = 0 := by
              unfold writeF
              rw [NN.out.1, NN.out.2.1, NN.out.2.2.1, NN.out.2.2.2]
              rw [if_neg (fun h => h G0.out)]
              have g1 := G1.out; have g2 := G2.out; have g3 := G3.out; rw [if_neg (by omega)]
              rw [if_neg (fun h => h.elim (fun q => by omega) (fun q => q hft.out))]
            exact scan_go HS.out this
          have dk : decide (0 < k) = false := decide_eq_false (by omega)
          have h0 : FirstWrite w wr.heap.size n0 n1 n2 n3 (wr.alloc (.cells #[.int .i64 n0, .int .i64 n1, .int .i64 n2, .int .i64 n3] 45)).drew := ⟨⟨World.cell?_alloc_mark wr _ _ _ 0, World.cell?_alloc_mark wr _ _ _ 1, World.cell?_alloc_mark wr _ _ _ 2, World.cell?_alloc_mark wr _ _ _ 3⟩, (hbw.alloc hbw.size _).drew⟩
          clear HS NN FT G0 G1 G2 G3 hk0 hft
          go_wp2_with fail
          refine (L0.out _).mono ?_
          rintro e w1 ⟨rfl, rfl⟩
          go_wp2_with fail
          refine (isTime_is _ true L1.out _).mono ?_
          rintro e w1 ⟨rfl, rfl⟩
          go_wp2_with fail
          refine (isTime_is _ true L2.out _).mono ?_
          rintro e w1 ⟨rfl, rfl⟩
          go_wp2_with fail
          refine (isLockKind_is _ true L3.out _).mono ?_
          rintro e w1 ⟨rfl, rfl⟩
          go_wp2_with fail
          refine wp_region_held_drew (S := FirstWrite w wr.heap.size n0 n1 n2 n3) (by kernel_rfl) h0 (fun hS => ?_)
          clear h0
          refine wpAnyH_take (i := 0) (v := ?_) rfl (by kernel_rfl) (by kernel_rfl) (by kernel_rfl) (fun _ _ _ h => h) (Or.inl ⟨by kernel_rfl, ?_⟩) hS ?_
          rotate_left
          · intro wx hx
            obtain ⟨⟨hx0, hx1, hx2, hx3⟩, _⟩ := hx
            go_simp
            try with_reducible rfl
          refine wpAnyH_take (i := 1) (v := ?_) rfl (by kernel_rfl) (by kernel_rfl) (by kernel_rfl) (fun _ _ _ h => h) (Or.inl ⟨by kernel_rfl, ?_⟩) hS ?_
          rotate_left
          · intro wx hx
            obtain ⟨⟨hx0, hx1, hx2, hx3⟩, _⟩ := hx
            go_simp
            try with_reducible rfl
          refine wpAnyH_take (i := 2) (v := ?_) rfl (by kernel_rfl) (by kernel_rfl) (by kernel_rfl) (fun _ _ _ h => h) (Or.inl ⟨by kernel_rfl, ?_⟩) hS ?_
          rotate_left
          · intro wx hx
            obtain ⟨⟨hx0, hx1, hx2, hx3⟩, _⟩ := hx
            go_simp
            try with_reducible rfl
          refine wpAnyH_take (i := 3) (v := undef) rfl (by kernel_rfl) (by kernel_rfl) (by kernel_rfl) (fun _ _ _ h => h) (Or.inr ⟨by kernel_rfl, rfl⟩) hS ?_
          refine wpAnyH_take (i := 4) (v := undef) rfl (by kernel_rfl) (by kernel_rfl) (by kernel_rfl) (fun _ _ _ h => h) (Or.inr ⟨by kernel_rfl, rfl⟩) hS ?_
          refine wpAnyH_take (i := 5) (v := undef) rfl (by kernel_rfl) (by kernel_rfl) (by kernel_rfl) (fun _ _ _ h => h) (Or.inr ⟨by kernel_rfl, rfl⟩) hS ?_
          refine wpAnyH_take (i := 6) (v := undef) rfl (by kernel_rfl) (by kernel_rfl) (by kernel_rfl) (fun _ _ _ h => h) (Or.inr ⟨by kernel_rfl, rfl⟩) hS ?_
          refine wpAnyH_take (i := 7) (v := undef) rfl (by kernel_rfl) (by kernel_rfl) (by kernel_rfl) (fun _ _ _ h => h) (Or.inr ⟨by kernel_rfl, rfl⟩) hS ?_
          refine wpAnyH_take (i := 8) (v := undef) rfl (by kernel_rfl) (by kernel_rfl) (by kernel_rfl) (fun _ _ _ h => h) (Or.inr ⟨by kernel_rfl, rfl⟩) hS ?_
          refine wpAnyH_take (i := 9) (v := undef) rfl (by kernel_rfl) (by kernel_rfl) (by kernel_rfl) (fun _ _ _ h => h) (Or.inr ⟨by kernel_rfl, rfl⟩) hS ?_
          refine wpAnyH_take (i := 10) (v := undef) rfl (by kernel_rfl) (by kernel_rfl) (by kernel_rfl) (fun _ _ _ h => h) (Or.inr ⟨by kernel_rfl, rfl⟩) hS ?_
          refine wpAnyH_take (i := 11) (v := ?_) rfl (by kernel_rfl) (by kernel_rfl) (by kernel_rfl) (fun _ _ _ h => h) (Or.inl ⟨by kernel_rfl, ?_⟩) hS ?_
          rotate_left
          · intro wx hx
            obtain ⟨⟨hx0, hx1, hx2, hx3⟩, _⟩ := hx
            go_simp
            try with_reducible rfl
          refine wpAnyH_take (i := 12) (v := ?_) rfl (by kernel_rfl) (by kernel_rfl) (by kernel_rfl) (fun _ _ _ h => h) (Or.inl ⟨by kernel_rfl, ?_⟩) hS ?_
          rotate_left
          · intro wx hx
            obtain ⟨⟨hx0, hx1, hx2, hx3⟩, _⟩ := hx
            go_simp
            try with_reducible rfl
          refine wpAnyH_take (i := 13) (v := ?_) rfl (by kernel_rfl) (by kernel_rfl) (by kernel_rfl) (fun _ _ _ h => h) (Or.inl ⟨by kernel_rfl, ?_⟩) hS ?_
          rotate_left
          · intro wx hx
            obtain ⟨⟨hx0, hx1, hx2, hx3⟩, _⟩ := hx
            go_simp
            try with_reducible rfl
          refine wpAnyH_ready (rs := [14]) (by kernel_rfl) (by simp) ?_
          refine AllReadyH.cons rfl (fun K hK => ?_) AllReadyH.nil
          go_simp
          go_wp2_with fail
          refine (D.out _).mono ?_
          rintro e w1 ⟨rfl, q1⟩
          have hS' := hS.later q1
          clear q1
          go_wp2_with fail
          refine hK.out _ _ hS' (fun hS => ?_)
          clear hK K hS'
          refine wpAnyH_take (i := 15) (v := ?_) rfl (by kernel_rfl) (by kernel_rfl) (by kernel_rfl) (fun _ _ _ h => h) (Or.inl ⟨by kernel_rfl, ?_⟩) hS ?_
          rotate_left
          · intro wx hx
            obtain ⟨⟨hx0, hx1, hx2, hx3⟩, _⟩ := hx
            go_simp
            try with_reducible rfl
          refine wpAnyH_take (i := 16) (v := ?_) rfl (by kernel_rfl) (by kernel_rfl) (by kernel_rfl) (fun _ _ _ h => h) (Or.inl ⟨by kernel_rfl, ?_⟩) hS ?_
          rotate_left
          · intro wx hx
            obtain ⟨⟨hx0, hx1, hx2, hx3⟩, _⟩ := hx
            go_simp
            try with_reducible rfl
          refine wpAnyH_done (by kernel_rfl) ?_ _
          go_simp
          go_wp2
          go_roundw
          case rel => exact ⟨k + 1, by omega, by go_num, E, hS.2⟩
          case measure => simp [intOf]; omega
        obtain ⟨g', o', he, _, _, y0, y1, y2, y3⟩ := (H.out.later hbw).at4 (k := k - 1) (by omega)
        simp only [Option.some.injEq, Addr.mk.injEq, and_true] at he
        obtain ⟨rfl, rfl⟩ := he
        obtain ⟨m0, M0⟩ : ∃ x, S.k ((k - 1) * 4) = x := ⟨_, rfl⟩
        rw [M0] at y0
        obtain ⟨m1, M1⟩ : ∃ x, S.k ((k - 1) * 4 + 1) = x := ⟨_, rfl⟩
        rw [M1] at y1
        obtain ⟨m2, M2⟩ : ∃ x, S.k ((k - 1) * 4 + 2) = x := ⟨_, rfl⟩
        rw [M2] at y2
        obtain ⟨m3, M3⟩ : ∃ x, S.k ((k - 1) * 4 + 3) = x := ⟨_, rfl⟩
        rw [M3] at y3
        have MM : Hid (S.k ((k - 1) * 4) = m0 ∧ S.k ((k - 1) * 4 + 1) = m1) := ⟨M0, M1⟩
        clear M0 M1 M2 M3
        have dk : decide (0 < k) = true := decide_eq_true hk0
        have hwr := wrap_pred k hk0 (by omega)
        have hkn : ((k - 1 : Nat) : Int) < (S.nw : Int) := by omega
        obtain ⟨r, HR⟩ : ∃ r, Hid (orOf (cmpOf m0 n0) (cmpOf m1 n1) = r) := ⟨_, rfl⟩
        have HO : Hid (r < 0 ↔ m0 < n0 ∨ m0 = n0 ∧ m1 < n1) := by unfold Hid; rw [← HR.out]; exact orOf_neg _ _ _ _
        have h0 : PrevWrite w g o k wr.heap.size m0 m1 m2 m3 n0 n1 n2 n3 (wr.alloc (.cells #[.int .i64 n0, .int .i64 n1, .int .i64 n2, .int .i64 n3] 45)).drew := ⟨⟨(World.cell?_alloc_lt _ _ _ hg).trans y0, (World.cell?_alloc_lt _ _ _ hg).trans y1, (World.cell?_alloc_lt _ _ _ hg).trans y2, (World.cell?_alloc_lt _ _ _ hg).trans y3, World.cell?_alloc_mark wr _ _ _ 0, World.cell?_alloc_mark wr _ _ _ 1, World.cell?_alloc_mark wr _ _ _ 2, World.cell?_alloc_mark wr _ _ _ 3⟩, (hbw.alloc hbw.size _).drew⟩
        by_cases hr : 0 ≤ r
        · have E : Hid (scan (writeF S.k) S.nw = 1) := by
            have : writeF S.k k = 1 := by
              unfold writeF
              rw [NN.out.1, NN.out.2.1, NN.out.2.2.1, NN.out.2.2.2]
              rw [if_neg (fun h => h G0.out)]
              have g1 := G1.out; have g2 := G2.out; have g3 := G3.out; rw [if_neg (by omega)]
              rw [MM.out.1, MM.out.2]
              have ho := HO.out
              rw [if_pos (Or.inl ⟨hk0, by omega⟩)]
            exact (scan_stop HS.out (by rw [this]; decide) hlt).trans this
          have dr : decide (0 ≤ r) = true := decide_eq_true hr
          clear HS NN FT G0 G1 G2 G3 MM HO hr hft
          go_wp2_with fail
          refine (L0.out _).mono ?_
          rintro e w1 ⟨rfl, rfl⟩
          go_wp2_with fail
          refine (isTime_is _ true L1.out _).mono ?_
          rintro e w1 ⟨rfl, rfl⟩
          go_wp2_with fail
          refine (isTime_is _ true L2.out _).mono ?_
          rintro e w1 ⟨rfl, rfl⟩
          go_wp2_with fail
          refine (isLockKind_is _ true L3.out _).mono ?_
          rintro e w1 ⟨rfl, rfl⟩
          go_wp2_with fail
          refine wp_region_held_drew (S := PrevWrite w g o k wr.heap.size m0 m1 m2 m3 n0 n1 n2 n3) (by kernel_rfl) h0 (fun hS => ?_)
          clear h0
          refine wpAnyH_take (i := 0) (v := ?_) rfl (by kernel_rfl) (by kernel_rfl) (by kernel_rfl) (fun _ _ _ h => h) (Or.inl ⟨by kernel_rfl, ?_⟩) hS ?_
          rotate_left
          · intro wx hx
            obtain ⟨⟨hx0, hx1, hx2, hx3, hx4, hx5, hx6, hx7⟩, _⟩ := hx
            go_simp
            try with_reducible rfl
          refine wpAnyH_take (i := 1) (v := ?_) rfl (by kernel_rfl) (by kernel_rfl) (by kernel_rfl) (fun _ _ _ h => h) (Or.inl ⟨by kernel_rfl, ?_⟩) hS ?_
          rotate_left
          · intro wx hx
            obtain ⟨⟨hx0, hx1, hx2, hx3, hx4, hx5, hx6, hx7⟩, _⟩ := hx
            go_simp
            try with_reducible rfl
          refine wpAnyH_take (i := 2) (v := ?_) rfl (by kernel_rfl) (by kernel_rfl) (by kernel_rfl) (fun _ _ _ h => h) (Or.inl ⟨by kernel_rfl, ?_⟩) hS ?_
          rotate_left
          · intro wx hx
            obtain ⟨⟨hx0, hx1, hx2, hx3, hx4, hx5, hx6, hx7⟩, _⟩ := hx
            go_simp
            try with_reducible rfl
          refine wpAnyH_take (i := 3) (v := ?_) rfl (by kernel_rfl) (by kernel_rfl) (by kernel_rfl) (fun _ _ _ h => h) (Or.inl ⟨by kernel_rfl, ?_⟩) hS ?_
          rotate_left
          · intro wx hx
            obtain ⟨⟨hx0, hx1, hx2, hx3, hx4, hx5, hx6, hx7⟩, _⟩ := hx
            go_simp
            try with_reducible rfl
          refine wpAnyH_take (i := 4) (v := ?_) rfl (by kernel_rfl) (by kernel_rfl) (by kernel_rfl) (fun _ _ _ h => h) (Or.inl ⟨by kernel_rfl, ?_⟩) hS ?_
          rotate_left
          · intro wx hx
            obtain ⟨⟨hx0, hx1, hx2, hx3, hx4, hx5, hx6, hx7⟩, _⟩ := hx
            go_simp
            try with_reducible rfl
          refine wpAnyH_take (i := 5) (v := ?_) rfl (by kernel_rfl) (by kernel_rfl) (by kernel_rfl) (fun _ _ _ h => h) (Or.inl ⟨by kernel_rfl, ?_⟩) hS ?_
          rotate_left
          · intro wx hx
            obtain ⟨⟨hx0, hx1, hx2, hx3, hx4, hx5, hx6, hx7⟩, _⟩ := hx
            go_simp
            try with_reducible rfl
          refine wpAnyH_take (i := 6) (v := ?_) rfl (by kernel_rfl) (by kernel_rfl) (by kernel_rfl) (fun _ _ _ h => h) (Or.inl ⟨by kernel_rfl, ?_⟩) hS ?_
          rotate_left
          · intro wx hx
            obtain ⟨⟨hx0, hx1, hx2, hx3, hx4, hx5, hx6, hx7⟩, _⟩ := hx
            go_simp
            try with_reducible rfl
          refine wpAnyH_take (i := 7) (v := ?_) rfl (by kernel_rfl) (by kernel_rfl) (by kernel_rfl) (fun _ _ _ h => h) (Or.inl ⟨by kernel_rfl, ?_⟩) hS ?_
          rotate_left
          · intro wx hx
            obtain ⟨⟨hx0, hx1, hx2, hx3, hx4, hx5, hx6, hx7⟩, _⟩ := hx
            go_simp
            try with_reducible rfl
          refine wpAnyH_take (i := 8) (v := ?_) rfl (by kernel_rfl) (by kernel_rfl) (by kernel_rfl) (fun _ _ _ h => h) (Or.inl ⟨by kernel_rfl, ?_⟩) hS ?_
          rotate_left
          · intro wx hx
            obtain ⟨⟨hx0, hx1, hx2, hx3, hx4, hx5, hx6, hx7⟩, _⟩ := hx
            go_simp
            try with_reducible rfl
          refine wpAnyH_ready (rs := [9]) (by kernel_rfl) (by simp) ?_
          refine AllReadyH.cons rfl (fun K hK => ?_) AllReadyH.nil
          go_simp
          go_wp2_with fail
          refine (compareWrites_is _ _ _ _ _ _ _ _ r HR.out _).mono ?_
          rintro e w1 ⟨rfl, q1⟩
          have hS' := hS.later q1
          clear q1
          go_wp2_with fail
          refine hK.out _ _ hS' (fun hS => ?_)
          clear hK K hS'
          refine wpAnyH_take (i := 10) (v := ?_) rfl (by kernel_rfl) (by kernel_rfl) (by kernel_rfl) (fun _ _ _ h => h) (Or.inl ⟨by kernel_rfl, ?_⟩) hS ?_
          rotate_left
          · intro wx hx
            obtain ⟨⟨hx0, hx1, hx2, hx3, hx4, hx5, hx6, hx7⟩, _⟩ := hx
            go_simp
            try with_reducible rfl
          refine wpAnyH_take (i := 11) (v := ?_) rfl (by kernel_rfl) (by kernel_rfl) (by kernel_rfl) (fun _ _ _ h => h) (Or.inl ⟨by kernel_rfl, ?_⟩) hS ?_
          rotate_left
          · intro wx hx
            obtain ⟨⟨hx0, hx1, hx2, hx3, hx4, hx5, hx6, hx7⟩, _⟩ := hx
            go_simp
            try with_reducible rfl
          refine wpAnyH_take (i := 12) (v := ?_) rfl (by kernel_rfl) (by kernel_rfl) (by kernel_rfl) (fun _ _ _ h => h) (Or.inl ⟨by kernel_rfl, ?_⟩) hS ?_
          rotate_left
          · intro wx hx
            obtain ⟨⟨hx0, hx1, hx2, hx3, hx4, hx5, hx6, hx7⟩, _⟩ := hx
            go_simp
            try with_reducible rfl
          refine wpAnyH_take (i := 13) (v := undef) rfl (by kernel_rfl) (by kernel_rfl) (by kernel_rfl) (fun _ _ _ h => h) (Or.inr ⟨by kernel_rfl, rfl⟩) hS ?_
          refine wpAnyH_take (i := 14) (v := undef) rfl (by kernel_rfl) (by kernel_rfl) (by kernel_rfl) (fun _ _ _ h => h) (Or.inr ⟨by kernel_rfl, rfl⟩) hS ?_
          refine wpAnyH_take (i := 15) (v := undef) rfl (by kernel_rfl) (by kernel_rfl) (by kernel_rfl) (fun _ _ _ h => h) (Or.inr ⟨by kernel_rfl, rfl⟩) hS ?_
          refine wpAnyH_take (i := 16) (v := ?_) rfl (by kernel_rfl) (by kernel_rfl) (by kernel_rfl) (fun _ _ _ h => h) (Or.inl ⟨by kernel_rfl, ?_⟩) hS ?_
          rotate_left
          · intro wx hx
            obtain ⟨⟨hx0, hx1, hx2, hx3, hx4, hx5, hx6, hx7⟩, _⟩ := hx
            go_simp
            try with_reducible rfl
          refine wpAnyH_done (by kernel_rfl) ?_ _
          go_simp
          go_wp2
          go_ret
          exact ⟨by rw [E.out]; rfl, hS.2⟩
        · have E : Hid (scan (writeF S.k) (k + 1) = 0) := by
            have : writeF S.k k = 0 := by
              unfold writeF
              rw [NN.out.1, NN.out.2.1, NN.out.2.2.1, NN.out.2.2.2]
              rw [if_neg (fun h => h G0.out)]
              have g1 := G1.out; have g2 := G2.out; have g3 := G3.out; rw [if_neg (by omega)]
              rw [MM.out.1, MM.out.2]
              have ho := HO.out
              rw [if_neg (fun h => h.elim (fun q => q.2 (by omega)) (fun q => q hft.out))]
            exact scan_go HS.out this
          have dr : decide (0 ≤ r) = false := decide_eq_false hr
          clear HS NN FT G0 G1 G2 G3 MM HO hr hft
          go_wp2_with fail
          refine (L0.out _).mono ?_
          rintro e w1 ⟨rfl, rfl⟩
          go_wp2_with fail
          refine (isTime_is _ true L1.out _).mono ?_
          rintro e w1 ⟨rfl, rfl⟩
          go_wp2_with fail
          refine (isTime_is _ true L2.out _).mono ?_
          rintro e w1 ⟨rfl, rfl⟩
          go_wp2_with fail
          refine (isLockKind_is _ true L3.out _).mono ?_
          rintro e w1 ⟨rfl, rfl⟩
          go_wp2_with fail
          refine wp_region_held_drew (S := PrevWrite w g o k wr.heap.size m0 m1 m2 m3 n0 n1 n2 n3) (by kernel_rfl) h0 (fun hS => ?_)
          clear h0
          refine wpAnyH_take (i := 0) (v := ?_) rfl (by kernel_rfl) (by kernel_rfl) (by kernel_rfl) (fun _ _ _ h => h) (Or.inl ⟨by kernel_rfl, ?_⟩) hS ?_
          rotate_left
          · intro wx hx
            obtain ⟨⟨hx0, hx1, hx2, hx3, hx4, hx5, hx6, hx7⟩, _⟩ := hx
            go_simp
            try with_reducible rfl
          refine wpAnyH_take (i := 1) (v := ?_) rfl (by kernel_rfl) (by kernel_rfl) (by kernel_rfl) (fun _ _ _ h => h) (Or.inl ⟨by kernel_rfl, ?_⟩) hS ?_
          rotate_left
          · intro wx hx
            obtain ⟨⟨hx0, hx1, hx2, hx3, hx4, hx5, hx6, hx7⟩, _⟩ := hx
            go_simp
            try with_reducible rfl
          refine wpAnyH_take (i := 2) (v := ?_) rfl (by kernel_rfl) (by kernel_rfl) (by kernel_rfl) (fun _ _ _ h => h) (Or.inl ⟨by kernel_rfl, ?_⟩) hS ?_
          rotate_left
          · intro wx hx
            obtain ⟨⟨hx0, hx1, hx2, hx3, hx4, hx5, hx6, hx7⟩, _⟩ := hx
            go_simp
            try with_reducible rfl
          refine wpAnyH_take (i := 3) (v := ?_) rfl (by kernel_rfl) (by kernel_rfl) (by kernel_rfl) (fun _ _ _ h => h) (Or.inl ⟨by kernel_rfl, ?_⟩) hS ?_
          rotate_left
          · intro wx hx
            obtain ⟨⟨hx0, hx1, hx2, hx3, hx4, hx5, hx6, hx7⟩, _⟩ := hx
            go_simp
            try with_reducible rfl
          refine wpAnyH_take (i := 4) (v := ?_) rfl (by kernel_rfl) (by kernel_rfl) (by kernel_rfl) (fun _ _ _ h => h) (Or.inl ⟨by kernel_rfl, ?_⟩) hS ?_
          rotate_left
          · intro wx hx
            obtain ⟨⟨hx0, hx1, hx2, hx3, hx4, hx5, hx6, hx7⟩, _⟩ := hx
            go_simp
            try with_reducible rfl
          refine wpAnyH_take (i := 5) (v := ?_) rfl (by kernel_rfl) (by kernel_rfl) (by kernel_rfl) (fun _ _ _ h => h) (Or.inl ⟨by kernel_rfl, ?_⟩) hS ?_
          rotate_left
          · intro wx hx
            obtain ⟨⟨hx0, hx1, hx2, hx3, hx4, hx5, hx6, hx7⟩, _⟩ := hx
            go_simp
            try with_reducible rfl
          refine wpAnyH_take (i := 6) (v := ?_) rfl (by kernel_rfl) (by kernel_rfl) (by kernel_rfl) (fun _ _ _ h => h) (Or.inl ⟨by kernel_rfl, ?_⟩) hS ?_
          rotate_left
          · intro wx hx
            obtain ⟨⟨hx0, hx1, hx2, hx3, hx4, hx5, hx6, hx7⟩, _⟩ := hx
            go_simp
            try with_reducible rfl
          refine wpAnyH_take (i := 7) (v := ?_) rfl (by kernel_rfl) (by kernel_rfl) (by kernel_rfl) (fun _ _ _ h => h) (Or.inl ⟨by kernel_rfl, ?_⟩) hS ?_
          rotate_left
          · intro wx hx
            obtain ⟨⟨hx0, hx1, hx2, hx3, hx4, hx5, hx6, hx7⟩, _⟩ := hx
            go_simp
            try with_reducible rfl
          refine wpAnyH_take (i := 8) (v := ?_) rfl (by kernel_rfl) (by kernel_rfl) (by kernel_rfl) (fun _ _ _ h => h) (Or.inl ⟨by kernel_rfl, ?_⟩) hS ?_
          rotate_left
          · intro wx hx
            obtain ⟨⟨hx0, hx1, hx2, hx3, hx4, hx5, hx6, hx7⟩, _⟩ := hx
            go_simp
            try with_reducible rfl
          refine wpAnyH_ready (rs := [9]) (by kernel_rfl) (by simp) ?_
          refine AllReadyH.cons rfl (fun K hK => ?_) AllReadyH.nil
          go_simp
          go_wp2_with fail
          refine (compareWrites_is _ _ _ _ _ _ _ _ r HR.out _).mono ?_
          rintro e w1 ⟨rfl, q1⟩
          have hS' := hS.later q1
          clear q1
          go_wp2_with fail
          refine hK.out _ _ hS' (fun hS => ?_)
          clear hK K hS'
          refine wpAnyH_take (i := 10) (v := ?_) rfl (by kernel_rfl) (by kernel_rfl) (by kernel_rfl) (fun _ _ _ h => h) (Or.inl ⟨by kernel_rfl, ?_⟩) hS ?_
          rotate_left
          · intro wx hx
            obtain ⟨⟨hx0, hx1, hx2, hx3, hx4, hx5, hx6, hx7⟩, _⟩ := hx
            go_simp
            try with_reducible rfl
          refine wpAnyH_take (i := 11) (v := ?_) rfl (by kernel_rfl) (by kernel_rfl) (by kernel_rfl) (fun _ _ _ h => h) (Or.inl ⟨by kernel_rfl, ?_⟩) hS ?_
          rotate_left
          · intro wx hx
            obtain ⟨⟨hx0, hx1, hx2, hx3, hx4, hx5, hx6, hx7⟩, _⟩ := hx
            go_simp
            try with_reducible rfl
          refine wpAnyH_take (i := 12) (v := ?_) rfl (by kernel_rfl) (by kernel_rfl) (by kernel_rfl) (fun _ _ _ h => h) (Or.inl ⟨by kernel_rfl, ?_⟩) hS ?_
          rotate_left
          · intro wx hx
            obtain ⟨⟨hx0, hx1, hx2, hx3, hx4, hx5, hx6, hx7⟩, _⟩ := hx
            go_simp
            try with_reducible rfl
          refine wpAnyH_take (i := 13) (v := ?_) rfl (by kernel_rfl) (by kernel_rfl) (by kernel_rfl) (fun _ _ _ h => h) (Or.inl ⟨by kernel_rfl, ?_⟩) hS ?_
          rotate_left
          · intro wx hx
            obtain ⟨⟨hx0, hx1, hx2, hx3, hx4, hx5, hx6, hx7⟩, _⟩ := hx
            go_simp
            try with_reducible rfl
          refine wpAnyH_ready (rs := [14]) (by kernel_rfl) (by simp) ?_
          refine AllReadyH.cons rfl (fun K hK => ?_) AllReadyH.nil
          go_simp
          go_wp2_with fail
          refine (D.out _).mono ?_
          rintro e w1 ⟨rfl, q1⟩
          have hS' := hS.later q1
          clear q1
          go_wp2_with fail
          refine hK.out _ _ hS' (fun hS => ?_)
          clear hK K hS'
          refine wpAnyH_take (i := 15) (v := ?_) rfl (by kernel_rfl) (by kernel_rfl) (by kernel_rfl) (fun _ _ _ h => h) (Or.inl ⟨by kernel_rfl, ?_⟩) hS ?_
          rotate_left
          · intro wx hx
            obtain ⟨⟨hx0, hx1, hx2, hx3, hx4, hx5, hx6, hx7⟩, _⟩ := hx
            go_simp
            try with_reducible rfl
          refine wpAnyH_take (i := 16) (v := ?_) rfl (by kernel_rfl) (by kernel_rfl) (by kernel_rfl) (fun _ _ _ h => h) (Or.inl ⟨by kernel_rfl, ?_⟩) hS ?_
          rotate_left
          · intro wx hx
            obtain ⟨⟨hx0, hx1, hx2, hx3, hx4, hx5, hx6, hx7⟩, _⟩ := hx
            go_simp
            try with_reducible rfl
          refine wpAnyH_done (by kernel_rfl) ?_ _
          go_simp
          go_wp2
          go_roundw
          case rel => exact ⟨k + 1, by omega, by go_num, E, hS.2⟩
          case measure => simp [intOf]; omega
      · have D : Hid (∀ w, Calls Tryz.prog 130 #[.agg #[.int .i64 n0, .int .i64 n1, .int .i64 n2, .int .i64 n3]] w fun e w' => e = .returned (.bool false) ∧ Below w.heap.size w w') := fun w => commitFits_is n0 n1 n2 n3 false (decide_eq_false hf) w
        have hft : Hid (¬ fits S.k k) := fun h => hf (FT.out.1 h)
        clear hf
        rcases Nat.eq_zero_or_pos k with hk0 | hk0
        · have E : Hid (scan (writeF S.k) S.nw = 1) := by
            have : writeF S.k k = 1 := by
              unfold writeF
              rw [NN.out.1, NN.out.2.1, NN.out.2.2.1, NN.out.2.2.2]
              rw [if_neg (fun h => h G0.out)]
              have g1 := G1.out; have g2 := G2.out; have g3 := G3.out; rw [if_neg (by omega)]
              rw [if_pos (Or.inr hft.out)]
            exact (scan_stop HS.out (by rw [this]; decide) hlt).trans this
          have dk : decide (0 < k) = false := decide_eq_false (by omega)
          have h0 : FirstWrite w wr.heap.size n0 n1 n2 n3 (wr.alloc (.cells #[.int .i64 n0, .int .i64 n1, .int .i64 n2, .int .i64 n3] 45)).drew := ⟨⟨World.cell?_alloc_mark wr _ _ _ 0, World.cell?_alloc_mark wr _ _ _ 1, World.cell?_alloc_mark wr _ _ _ 2, World.cell?_alloc_mark wr _ _ _ 3⟩, (hbw.alloc hbw.size _).drew⟩
          clear HS NN FT G0 G1 G2 G3 hk0 hft
          go_wp2_with fail
          refine (L0.out _).mono ?_
          rintro e w1 ⟨rfl, rfl⟩
          go_wp2_with fail
          refine (isTime_is _ true L1.out _).mono ?_
          rintro e w1 ⟨rfl, rfl⟩
          go_wp2_with fail
          refine (isTime_is _ true L2.out _).mono ?_
          rintro e w1 ⟨rfl, rfl⟩
          go_wp2_with fail
          refine (isLockKind_is _ true L3.out _).mono ?_
          rintro e w1 ⟨rfl, rfl⟩
          go_wp2_with fail
          refine wp_region_held_drew (S := FirstWrite w wr.heap.size n0 n1 n2 n3) (by kernel_rfl) h0 (fun hS => ?_)
          clear h0
          refine wpAnyH_take (i := 0) (v := ?_) rfl (by kernel_rfl) (by kernel_rfl) (by kernel_rfl) (fun _ _ _ h => h) (Or.inl ⟨by kernel_rfl, ?_⟩) hS ?_
          rotate_left
          · intro wx hx
            obtain ⟨⟨hx0, hx1, hx2, hx3⟩, _⟩ := hx
            go_simp
            try with_reducible rfl
          refine wpAnyH_take (i := 1) (v := ?_) rfl (by kernel_rfl) (by kernel_rfl) (by kernel_rfl) (fun _ _ _ h => h) (Or.inl ⟨by kernel_rfl, ?_⟩) hS ?_
          rotate_left
          · intro wx hx
            obtain ⟨⟨hx0, hx1, hx2, hx3⟩, _⟩ := hx
            go_simp
            try with_reducible rfl
          refine wpAnyH_take (i := 2) (v := ?_) rfl (by kernel_rfl) (by kernel_rfl) (by kernel_rfl) (fun _ _ _ h => h) (Or.inl ⟨by kernel_rfl, ?_⟩) hS ?_
          rotate_left
          · intro wx hx
            obtain ⟨⟨hx0, hx1, hx2, hx3⟩, _⟩ := hx
            go_simp
            try with_reducible rfl
          refine wpAnyH_take (i := 3) (v := undef) rfl (by kernel_rfl) (by kernel_rfl) (by kernel_rfl) (fun _ _ _ h => h) (Or.inr ⟨by kernel_rfl, rfl⟩) hS ?_
          refine wpAnyH_take (i := 4) (v := undef) rfl (by kernel_rfl) (by kernel_rfl) (by kernel_rfl) (fun _ _ _ h => h) (Or.inr ⟨by kernel_rfl, rfl⟩) hS ?_
          refine wpAnyH_take (i := 5) (v := undef) rfl (by kernel_rfl) (by kernel_rfl) (by kernel_rfl) (fun _ _ _ h => h) (Or.inr ⟨by kernel_rfl, rfl⟩) hS ?_
          refine wpAnyH_take (i := 6) (v := undef) rfl (by kernel_rfl) (by kernel_rfl) (by kernel_rfl) (fun _ _ _ h => h) (Or.inr ⟨by kernel_rfl, rfl⟩) hS ?_
          refine wpAnyH_take (i := 7) (v := undef) rfl (by kernel_rfl) (by kernel_rfl) (by kernel_rfl) (fun _ _ _ h => h) (Or.inr ⟨by kernel_rfl, rfl⟩) hS ?_
          refine wpAnyH_take (i := 8) (v := undef) rfl (by kernel_rfl) (by kernel_rfl) (by kernel_rfl) (fun _ _ _ h => h) (Or.inr ⟨by kernel_rfl, rfl⟩) hS ?_
          refine wpAnyH_take (i := 9) (v := undef) rfl (by kernel_rfl) (by kernel_rfl) (by kernel_rfl) (fun _ _ _ h => h) (Or.inr ⟨by kernel_rfl, rfl⟩) hS ?_
          refine wpAnyH_take (i := 10) (v := undef) rfl (by kernel_rfl) (by kernel_rfl) (by kernel_rfl) (fun _ _ _ h => h) (Or.inr ⟨by kernel_rfl, rfl⟩) hS ?_
          refine wpAnyH_take (i := 11) (v := ?_) rfl (by kernel_rfl) (by kernel_rfl) (by kernel_rfl) (fun _ _ _ h => h) (Or.inl ⟨by kernel_rfl, ?_⟩) hS ?_
          rotate_left
          · intro wx hx
            obtain ⟨⟨hx0, hx1, hx2, hx3⟩, _⟩ := hx
            go_simp
            try with_reducible rfl
          refine wpAnyH_take (i := 12) (v := ?_) rfl (by kernel_rfl) (by kernel_rfl) (by kernel_rfl) (fun _ _ _ h => h) (Or.inl ⟨by kernel_rfl, ?_⟩) hS ?_
          rotate_left
          · intro wx hx
            obtain ⟨⟨hx0, hx1, hx2, hx3⟩, _⟩ := hx
            go_simp
            try with_reducible rfl
          refine wpAnyH_take (i := 13) (v := ?_) rfl (by kernel_rfl) (by kernel_rfl) (by kernel_rfl) (fun _ _ _ h => h) (Or.inl ⟨by kernel_rfl, ?_⟩) hS ?_
          rotate_left
          · intro wx hx
            obtain ⟨⟨hx0, hx1, hx2, hx3⟩, _⟩ := hx
            go_simp
            try with_reducible rfl
          refine wpAnyH_ready (rs := [14]) (by kernel_rfl) (by simp) ?_
          refine AllReadyH.cons rfl (fun K hK => ?_) AllReadyH.nil
          go_simp
          go_wp2_with fail
          refine (D.out _).mono ?_
          rintro e w1 ⟨rfl, q1⟩
          have hS' := hS.later q1
          clear q1
          go_wp2_with fail
          refine hK.out _ _ hS' (fun hS => ?_)
          clear hK K hS'
          refine wpAnyH_take (i := 15) (v := ?_) rfl (by kernel_rfl) (by kernel_rfl) (by kernel_rfl) (fun _ _ _ h => h) (Or.inl ⟨by kernel_rfl, ?_⟩) hS ?_
          rotate_left
          · intro wx hx
            obtain ⟨⟨hx0, hx1, hx2, hx3⟩, _⟩ := hx
            go_simp
            try with_reducible rfl
          refine wpAnyH_take (i := 16) (v := ?_) rfl (by kernel_rfl) (by kernel_rfl) (by kernel_rfl) (fun _ _ _ h => h) (Or.inl ⟨by kernel_rfl, ?_⟩) hS ?_
          rotate_left
          · intro wx hx
            obtain ⟨⟨hx0, hx1, hx2, hx3⟩, _⟩ := hx
            go_simp
            try with_reducible rfl
          refine wpAnyH_done (by kernel_rfl) ?_ _
          go_simp
          go_wp2
          go_ret
          exact ⟨by rw [E.out]; rfl, hS.2⟩
        obtain ⟨g', o', he, _, _, y0, y1, y2, y3⟩ := (H.out.later hbw).at4 (k := k - 1) (by omega)
        simp only [Option.some.injEq, Addr.mk.injEq, and_true] at he
        obtain ⟨rfl, rfl⟩ := he
        obtain ⟨m0, M0⟩ : ∃ x, S.k ((k - 1) * 4) = x := ⟨_, rfl⟩
        rw [M0] at y0
        obtain ⟨m1, M1⟩ : ∃ x, S.k ((k - 1) * 4 + 1) = x := ⟨_, rfl⟩
        rw [M1] at y1
        obtain ⟨m2, M2⟩ : ∃ x, S.k ((k - 1) * 4 + 2) = x := ⟨_, rfl⟩
        rw [M2] at y2
        obtain ⟨m3, M3⟩ : ∃ x, S.k ((k - 1) * 4 + 3) = x := ⟨_, rfl⟩
        rw [M3] at y3
        have MM : Hid (S.k ((k - 1) * 4) = m0 ∧ S.k ((k - 1) * 4 + 1) = m1) := ⟨M0, M1⟩
        clear M0 M1 M2 M3
        have dk : decide (0 < k) = true := decide_eq_true hk0
        have hwr := wrap_pred k hk0 (by omega)
        have hkn : ((k - 1 : Nat) : Int) < (S.nw : Int) := by omega
        obtain ⟨r, HR⟩ : ∃ r, Hid (orOf (cmpOf m0 n0) (cmpOf m1 n1) = r) := ⟨_, rfl⟩
        have HO : Hid (r < 0 ↔ m0 < n0 ∨ m0 = n0 ∧ m1 < n1) := by unfold Hid; rw [← HR.out]; exact orOf_neg _ _ _ _
        have h0 : PrevWrite w g o k wr.heap.size m0 m1 m2 m3 n0 n1 n2 n3 (wr.alloc (.cells #[.int .i64 n0, .int .i64 n1, .int .i64 n2, .int .i64 n3] 45)).drew := ⟨⟨(World.cell?_alloc_lt _ _ _ hg).trans y0, (World.cell?_alloc_lt _ _ _ hg).trans y1, (World.cell?_alloc_lt _ _ _ hg).trans y2, (World.cell?_alloc_lt _ _ _ hg).trans y3, World.cell?_alloc_mark wr _ _ _ 0, World.cell?_alloc_mark wr _ _ _ 1, World.cell?_alloc_mark wr _ _ _ 2, World.cell?_alloc_mark wr _ _ _ 3⟩, (hbw.alloc hbw.size _).drew⟩
        by_cases hr : 0 ≤ r
        · have E : Hid (scan (writeF S.k) S.nw = 1) := by
            have : writeF S.k k = 1 := by
              unfold writeF
              rw [NN.out.1, NN.out.2.1, NN.out.2.2.1, NN.out.2.2.2]
              rw [if_neg (fun h => h G0.out)]
              have g1 := G1.out; have g2 := G2.out; have g3 := G3.out; rw [if_neg (by omega)]
              rw [MM.out.1, MM.out.2]
              have ho := HO.out
              rw [if_pos (Or.inl ⟨hk0, by omega⟩)]
            exact (scan_stop HS.out (by rw [this]; decide) hlt).trans this
          have dr : decide (0 ≤ r) = true := decide_eq_true hr
          clear HS NN FT G0 G1 G2 G3 MM HO hr hft
          go_wp2_with fail
          refine (L0.out _).mono ?_
          rintro e w1 ⟨rfl, rfl⟩
          go_wp2_with fail
          refine (isTime_is _ true L1.out _).mono ?_
          rintro e w1 ⟨rfl, rfl⟩
          go_wp2_with fail
          refine (isTime_is _ true L2.out _).mono ?_
          rintro e w1 ⟨rfl, rfl⟩
          go_wp2_with fail
          refine (isLockKind_is _ true L3.out _).mono ?_
          rintro e w1 ⟨rfl, rfl⟩
          go_wp2_with fail
          refine wp_region_held_drew (S := PrevWrite w g o k wr.heap.size m0 m1 m2 m3 n0 n1 n2 n3) (by kernel_rfl) h0 (fun hS => ?_)
          clear h0
          refine wpAnyH_take (i := 0) (v := ?_) rfl (by kernel_rfl) (by kernel_rfl) (by kernel_rfl) (fun _ _ _ h => h) (Or.inl ⟨by kernel_rfl, ?_⟩) hS ?_
          rotate_left
          · intro wx hx
            obtain ⟨⟨hx0, hx1, hx2, hx3, hx4, hx5, hx6, hx7⟩, _⟩ := hx
            go_simp
            try with_reducible rfl
          refine wpAnyH_take (i := 1) (v := ?_) rfl (by kernel_rfl) (by kernel_rfl) (by kernel_rfl) (fun _ _ _ h => h) (Or.inl ⟨by kernel_rfl, ?_⟩) hS ?_
          rotate_left
          · intro wx hx
            obtain ⟨⟨hx0, hx1, hx2, hx3, hx4, hx5, hx6, hx7⟩, _⟩ := hx
            go_simp
            try with_reducible rfl
          refine wpAnyH_take (i := 2) (v := ?_) rfl (by kernel_rfl) (by kernel_rfl) (by kernel_rfl) (fun _ _ _ h => h) (Or.inl ⟨by kernel_rfl, ?_⟩) hS ?_
          rotate_left
          · intro wx hx
            obtain ⟨⟨hx0, hx1, hx2, hx3, hx4, hx5, hx6, hx7⟩, _⟩ := hx
            go_simp
            try with_reducible rfl
          refine wpAnyH_take (i := 3) (v := ?_) rfl (by kernel_rfl) (by kernel_rfl) (by kernel_rfl) (fun _ _ _ h => h) (Or.inl ⟨by kernel_rfl, ?_⟩) hS ?_
          rotate_left
          · intro wx hx
            obtain ⟨⟨hx0, hx1, hx2, hx3, hx4, hx5, hx6, hx7⟩, _⟩ := hx
            go_simp
            try with_reducible rfl
          refine wpAnyH_take (i := 4) (v := ?_) rfl (by kernel_rfl) (by kernel_rfl) (by kernel_rfl) (fun _ _ _ h => h) (Or.inl ⟨by kernel_rfl, ?_⟩) hS ?_
          rotate_left
          · intro wx hx
            obtain ⟨⟨hx0, hx1, hx2, hx3, hx4, hx5, hx6, hx7⟩, _⟩ := hx
            go_simp
            try with_reducible rfl
          refine wpAnyH_take (i := 5) (v := ?_) rfl (by kernel_rfl) (by kernel_rfl) (by kernel_rfl) (fun _ _ _ h => h) (Or.inl ⟨by kernel_rfl, ?_⟩) hS ?_
          rotate_left
          · intro wx hx
            obtain ⟨⟨hx0, hx1, hx2, hx3, hx4, hx5, hx6, hx7⟩, _⟩ := hx
            go_simp
            try with_reducible rfl
          refine wpAnyH_take (i := 6) (v := ?_) rfl (by kernel_rfl) (by kernel_rfl) (by kernel_rfl) (fun _ _ _ h => h) (Or.inl ⟨by kernel_rfl, ?_⟩) hS ?_
          rotate_left
          · intro wx hx
            obtain ⟨⟨hx0, hx1, hx2, hx3, hx4, hx5, hx6, hx7⟩, _⟩ := hx
            go_simp
            try with_reducible rfl
          refine wpAnyH_take (i := 7) (v := ?_) rfl (by kernel_rfl) (by kernel_rfl) (by kernel_rfl) (fun _ _ _ h => h) (Or.inl ⟨by kernel_rfl, ?_⟩) hS ?_
          rotate_left
          · intro wx hx
            obtain ⟨⟨hx0, hx1, hx2, hx3, hx4, hx5, hx6, hx7⟩, _⟩ := hx
            go_simp
            try with_reducible rfl
          refine wpAnyH_take (i := 8) (v := ?_) rfl (by kernel_rfl) (by kernel_rfl) (by kernel_rfl) (fun _ _ _ h => h) (Or.inl ⟨by kernel_rfl, ?_⟩) hS ?_
          rotate_left
          · intro wx hx
            obtain ⟨⟨hx0, hx1, hx2, hx3, hx4, hx5, hx6, hx7⟩, _⟩ := hx
            go_simp
            try with_reducible rfl
          refine wpAnyH_ready (rs := [9]) (by kernel_rfl) (by simp) ?_
          refine AllReadyH.cons rfl (fun K hK => ?_) AllReadyH.nil
          go_simp
          go_wp2_with fail
          refine (compareWrites_is _ _ _ _ _ _ _ _ r HR.out _).mono ?_
          rintro e w1 ⟨rfl, q1⟩
          have hS' := hS.later q1
          clear q1
          go_wp2_with fail
          refine hK.out _ _ hS' (fun hS => ?_)
          clear hK K hS'
          refine wpAnyH_take (i := 10) (v := ?_) rfl (by kernel_rfl) (by kernel_rfl) (by kernel_rfl) (fun _ _ _ h => h) (Or.inl ⟨by kernel_rfl, ?_⟩) hS ?_
          rotate_left
          · intro wx hx
            obtain ⟨⟨hx0, hx1, hx2, hx3, hx4, hx5, hx6, hx7⟩, _⟩ := hx
            go_simp
            try with_reducible rfl
          refine wpAnyH_take (i := 11) (v := ?_) rfl (by kernel_rfl) (by kernel_rfl) (by kernel_rfl) (fun _ _ _ h => h) (Or.inl ⟨by kernel_rfl, ?_⟩) hS ?_
          rotate_left
          · intro wx hx
            obtain ⟨⟨hx0, hx1, hx2, hx3, hx4, hx5, hx6, hx7⟩, _⟩ := hx
            go_simp
            try with_reducible rfl
          refine wpAnyH_take (i := 12) (v := ?_) rfl (by kernel_rfl) (by kernel_rfl) (by kernel_rfl) (fun _ _ _ h => h) (Or.inl ⟨by kernel_rfl, ?_⟩) hS ?_
          rotate_left
          · intro wx hx
            obtain ⟨⟨hx0, hx1, hx2, hx3, hx4, hx5, hx6, hx7⟩, _⟩ := hx
            go_simp
            try with_reducible rfl
          refine wpAnyH_take (i := 13) (v := undef) rfl (by kernel_rfl) (by kernel_rfl) (by kernel_rfl) (fun _ _ _ h => h) (Or.inr ⟨by kernel_rfl, rfl⟩) hS ?_
          refine wpAnyH_take (i := 14) (v := undef) rfl (by kernel_rfl) (by kernel_rfl) (by kernel_rfl) (fun _ _ _ h => h) (Or.inr ⟨by kernel_rfl, rfl⟩) hS ?_
          refine wpAnyH_take (i := 15) (v := undef) rfl (by kernel_rfl) (by kernel_rfl) (by kernel_rfl) (fun _ _ _ h => h) (Or.inr ⟨by kernel_rfl, rfl⟩) hS ?_
          refine wpAnyH_take (i := 16) (v := ?_) rfl (by kernel_rfl) (by kernel_rfl) (by kernel_rfl) (fun _ _ _ h => h) (Or.inl ⟨by kernel_rfl, ?_⟩) hS ?_
          rotate_left
          · intro wx hx
            obtain ⟨⟨hx0, hx1, hx2, hx3, hx4, hx5, hx6, hx7⟩, _⟩ := hx
            go_simp
            try with_reducible rfl
          refine wpAnyH_done (by kernel_rfl) ?_ _
          go_simp
          go_wp2
          go_ret
          exact ⟨by rw [E.out]; rfl, hS.2⟩
        · have E : Hid (scan (writeF S.k) S.nw = 1) := by
            have : writeF S.k k = 1 := by
              unfold writeF
              rw [NN.out.1, NN.out.2.1, NN.out.2.2.1, NN.out.2.2.2]
              rw [if_neg (fun h => h G0.out)]
              have g1 := G1.out; have g2 := G2.out; have g3 := G3.out; rw [if_neg (by omega)]
              rw [MM.out.1, MM.out.2]
              have ho := HO.out
              rw [if_pos (Or.inr hft.out)]
            exact (scan_stop HS.out (by rw [this]; decide) hlt).trans this
          have dr : decide (0 ≤ r) = false := decide_eq_false hr
          clear HS NN FT G0 G1 G2 G3 MM HO hr hft
          go_wp2_with fail
          refine (L0.out _).mono ?_
          rintro e w1 ⟨rfl, rfl⟩
          go_wp2_with fail
          refine (isTime_is _ true L1.out _).mono ?_
          rintro e w1 ⟨rfl, rfl⟩
          go_wp2_with fail
          refine (isTime_is _ true L2.out _).mono ?_
          rintro e w1 ⟨rfl, rfl⟩
          go_wp2_with fail
          refine (isLockKind_is _ true L3.out _).mono ?_
          rintro e w1 ⟨rfl, rfl⟩
          go_wp2_with fail
          refine wp_region_held_drew (S := PrevWrite w g o k wr.heap.size m0 m1 m2 m3 n0 n1 n2 n3) (by kernel_rfl) h0 (fun hS => ?_)
          clear h0
          refine wpAnyH_take (i := 0) (v := ?_) rfl (by kernel_rfl) (by kernel_rfl) (by kernel_rfl) (fun _ _ _ h => h) (Or.inl ⟨by kernel_rfl, ?_⟩) hS ?_
          rotate_left
          · intro wx hx
            obtain ⟨⟨hx0, hx1, hx2, hx3, hx4, hx5, hx6, hx7⟩, _⟩ := hx
            go_simp
            try with_reducible rfl
          refine wpAnyH_take (i := 1) (v := ?_) rfl (by kernel_rfl) (by kernel_rfl) (by kernel_rfl) (fun _ _ _ h => h) (Or.inl ⟨by kernel_rfl, ?_⟩) hS ?_
          rotate_left
          · intro wx hx
            obtain ⟨⟨hx0, hx1, hx2, hx3, hx4, hx5, hx6, hx7⟩, _⟩ := hx
            go_simp
            try with_reducible rfl
          refine wpAnyH_take (i := 2) (v := ?_) rfl (by kernel_rfl) (by kernel_rfl) (by kernel_rfl) (fun _ _ _ h => h) (Or.inl ⟨by kernel_rfl, ?_⟩) hS ?_
          rotate_left
          · intro wx hx
            obtain ⟨⟨hx0, hx1, hx2, hx3, hx4, hx5, hx6, hx7⟩, _⟩ := hx
            go_simp
            try with_reducible rfl
          refine wpAnyH_take (i := 3) (v := ?_) rfl (by kernel_rfl) (by kernel_rfl) (by kernel_rfl) (fun _ _ _ h => h) (Or.inl ⟨by kernel_rfl, ?_⟩) hS ?_
          rotate_left
          · intro wx hx
            obtain ⟨⟨hx0, hx1, hx2, hx3, hx4, hx5, hx6, hx7⟩, _⟩ := hx
            go_simp
            try with_reducible rfl
          refine wpAnyH_take (i := 4) (v := ?_) rfl (by kernel_rfl) (by kernel_rfl) (by kernel_rfl) (fun _ _ _ h => h) (Or.inl ⟨by kernel_rfl, ?_⟩) hS ?_
          rotate_left
          · intro wx hx
            obtain ⟨⟨hx0, hx1, hx2, hx3, hx4, hx5, hx6, hx7⟩, _⟩ := hx
            go_simp
            try with_reducible rfl
          refine wpAnyH_take (i := 5) (v := ?_) rfl (by kernel_rfl) (by kernel_rfl) (by kernel_rfl) (fun _ _ _ h => h) (Or.inl ⟨by kernel_rfl, ?_⟩) hS ?_
          rotate_left
          · intro wx hx
            obtain ⟨⟨hx0, hx1, hx2, hx3, hx4, hx5, hx6, hx7⟩, _⟩ := hx
            go_simp
            try with_reducible rfl
          refine wpAnyH_take (i := 6) (v := ?_) rfl (by kernel_rfl) (by kernel_rfl) (by kernel_rfl) (fun _ _ _ h => h) (Or.inl ⟨by kernel_rfl, ?_⟩) hS ?_
          rotate_left
          · intro wx hx
            obtain ⟨⟨hx0, hx1, hx2, hx3, hx4, hx5, hx6, hx7⟩, _⟩ := hx
            go_simp
            try with_reducible rfl
          refine wpAnyH_take (i := 7) (v := ?_) rfl (by kernel_rfl) (by kernel_rfl) (by kernel_rfl) (fun _ _ _ h => h) (Or.inl ⟨by kernel_rfl, ?_⟩) hS ?_
          rotate_left
          · intro wx hx
            obtain ⟨⟨hx0, hx1, hx2, hx3, hx4, hx5, hx6, hx7⟩, _⟩ := hx
            go_simp
            try with_reducible rfl
          refine wpAnyH_take (i := 8) (v := ?_) rfl (by kernel_rfl) (by kernel_rfl) (by kernel_rfl) (fun _ _ _ h => h) (Or.inl ⟨by kernel_rfl, ?_⟩) hS ?_
          rotate_left
          · intro wx hx
            obtain ⟨⟨hx0, hx1, hx2, hx3, hx4, hx5, hx6, hx7⟩, _⟩ := hx
            go_simp
            try with_reducible rfl
          refine wpAnyH_ready (rs := [9]) (by kernel_rfl) (by simp) ?_
          refine AllReadyH.cons rfl (fun K hK => ?_) AllReadyH.nil
          go_simp
          go_wp2_with fail
          refine (compareWrites_is _ _ _ _ _ _ _ _ r HR.out _).mono ?_
          rintro e w1 ⟨rfl, q1⟩
          have hS' := hS.later q1
          clear q1
          go_wp2_with fail
          refine hK.out _ _ hS' (fun hS => ?_)
          clear hK K hS'
          refine wpAnyH_take (i := 10) (v := ?_) rfl (by kernel_rfl) (by kernel_rfl) (by kernel_rfl) (fun _ _ _ h => h) (Or.inl ⟨by kernel_rfl, ?_⟩) hS ?_
          rotate_left
          · intro wx hx
            obtain ⟨⟨hx0, hx1, hx2, hx3, hx4, hx5, hx6, hx7⟩, _⟩ := hx
            go_simp
            try with_reducible rfl
          refine wpAnyH_take (i := 11) (v := ?_) rfl (by kernel_rfl) (by kernel_rfl) (by kernel_rfl) (fun _ _ _ h => h) (Or.inl ⟨by kernel_rfl, ?_⟩) hS ?_
          rotate_left
          · intro wx hx
            obtain ⟨⟨hx0, hx1, hx2, hx3, hx4, hx5, hx6, hx7⟩, _⟩ := hx
            go_simp
            try with_reducible rfl
          refine wpAnyH_take (i := 12) (v := ?_) rfl (by kernel_rfl) (by kernel_rfl) (by kernel_rfl) (fun _ _ _ h => h) (Or.inl ⟨by kernel_rfl, ?_⟩) hS ?_
          rotate_left
          · intro wx hx
            obtain ⟨⟨hx0, hx1, hx2, hx3, hx4, hx5, hx6, hx7⟩, _⟩ := hx
            go_simp
            try with_reducible rfl
          refine wpAnyH_take (i := 13) (v := ?_) rfl (by kernel_rfl) (by kernel_rfl) (by kernel_rfl) (fun _ _ _ h => h) (Or.inl ⟨by kernel_rfl, ?_⟩) hS ?_
          rotate_left
          · intro wx hx
            obtain ⟨⟨hx0, hx1, hx2, hx3, hx4, hx5, hx6, hx7⟩, _⟩ := hx
            go_simp
            try with_reducible rfl
          refine wpAnyH_ready (rs := [14]) (by kernel_rfl) (by simp) ?_
          refine AllReadyH.cons rfl (fun K hK => ?_) AllReadyH.nil
          go_simp
          go_wp2_with fail
          refine (D.out _).mono ?_
          rintro e w1 ⟨rfl, q1⟩
          have hS' := hS.later q1
          clear q1
          go_wp2_with fail
          refine hK.out _ _ hS' (fun hS => ?_)
          clear hK K hS'
          refine wpAnyH_take (i := 15) (v := ?_) rfl (by kernel_rfl) (by kernel_rfl) (by kernel_rfl) (fun _ _ _ h => h) (Or.inl ⟨by kernel_rfl, ?_⟩) hS ?_
          rotate_left
          · intro wx hx
            obtain ⟨⟨hx0, hx1, hx2, hx3, hx4, hx5, hx6, hx7⟩, _⟩ := hx
            go_simp
            try with_reducible rfl
          refine wpAnyH_take (i := 16) (v := ?_) rfl (by kernel_rfl) (by kernel_rfl) (by kernel_rfl) (fun _ _ _ h => h) (Or.inl ⟨by kernel_rfl, ?_⟩) hS ?_
          rotate_left
          · intro wx hx
            obtain ⟨⟨hx0, hx1, hx2, hx3, hx4, hx5, hx6, hx7⟩, _⟩ := hx
            go_simp
            try with_reducible rfl
          refine wpAnyH_done (by kernel_rfl) ?_ _
          go_simp
          go_wp2
          go_ret
          exact ⟨by rw [E.out]; rfl, hS.2⟩
    · have L3 : Hid (decide (1 ≤ n3 ∧ n3 ≤ 3) = false) := decide_eq_false h3
      by_cases h4 : n3 = 4
      case neg =>
        have E : Hid (scan (writeF S.k) S.nw = 3) := by
          have : writeF S.k k = 3 := by
            unfold writeF
            rw [NN.out.1, NN.out.2.1, NN.out.2.2.1, NN.out.2.2.2]
            rw [if_neg (fun h => h G0.out)]
            rw [if_pos (by omega)]
          exact (scan_stop HS.out (by rw [this]; decide) hlt).trans this
        have hn4 : (n3 == 4) = false := beq_eq_false_iff_ne.2 h4
        clear h3 h4 HS NN FT G0 G1 G2
        go_wp2_with fail
        refine (L0.out _).mono ?_
        rintro e w1 ⟨rfl, rfl⟩
        go_wp2_with fail
        refine (isTime_is _ true L1.out _).mono ?_
        rintro e w1 ⟨rfl, rfl⟩
        go_wp2_with fail
        refine (isTime_is _ true L2.out _).mono ?_
        rintro e w1 ⟨rfl, rfl⟩
        go_wp2_with fail
        refine (isLockKind_is _ false L3.out _).mono ?_
        rintro e w1 ⟨rfl, rfl⟩
        go_wp2
        go_ret
        exact ⟨by rw [E.out]; rfl, by first | exact hbw.alloc hbw.size _ | exact below_dn (hbw.alloc hbw.size _) _ | exact below_dn (below_dn (hbw.alloc hbw.size _) _) _⟩
      subst h4
      have G3 : Hid ((4 : Int) = 4) := rfl
      clear h3
      by_cases hf : ((4 : Int) = 4 → n1 = n2) ∧ ((4 : Int) ≠ 4 → n2 < n1)
      · have D : Hid (∀ w, Calls Tryz.prog 130 #[.agg #[.int .i64 n0, .int .i64 n1, .int .i64 n2, .int .i64 4]] w fun e w' => e = .returned (.bool true) ∧ Below w.heap.size w w') := fun w => commitFits_is n0 n1 n2 4 true (decide_eq_true hf) w
        have hft : Hid (fits S.k k) := FT.out.2 hf
        clear hf
        rcases Nat.eq_zero_or_pos k with hk0 | hk0
        · have E : Hid (scan (writeF S.k) (k + 1) = 0) := by
            have : writeF S.k k = 0 := by
              unfold writeF
              rw [NN.out.1, NN.out.2.1, NN.out.2.2.1, NN.out.2.2.2]
              rw [if_neg (fun h => h G0.out)]
              have g1 := G1.out; have g2 := G2.out; have g3 := G3.out; rw [if_neg (by omega)]
              rw [if_neg (fun h => h.elim (fun q => by omega) (fun q => q hft.out))]
            exact scan_go HS.out this
          have dk : decide (0 < k) = false := decide_eq_false (by omega)
          have h0 : FirstWrite w wr.heap.size n0 n1 n2 4 (wr.alloc (.cells #[.int .i64 n0, .int .i64 n1, .int .i64 n2, .int .i64 4] 45)).drew := ⟨⟨World.cell?_alloc_mark wr _ _ _ 0, World.cell?_alloc_mark wr _ _ _ 1, World.cell?_alloc_mark wr _ _ _ 2, World.cell?_alloc_mark wr _ _ _ 3⟩, (hbw.alloc hbw.size _).drew⟩
          clear HS NN FT G0 G1 G2 G3 hk0 hft
          go_wp2_with fail
          refine (L0.out _).mono ?_
          rintro e w1 ⟨rfl, rfl⟩
          go_wp2_with fail
          refine (isTime_is _ true L1.out _).mono ?_
          rintro e w1 ⟨rfl, rfl⟩
          go_wp2_with fail
          refine (isTime_is _ true L2.out _).mono ?_
          rintro e w1 ⟨rfl, rfl⟩
          go_wp2_with fail
          refine (isLockKind_is _ false L3.out _).mono ?_
          rintro e w1 ⟨rfl, rfl⟩
          go_wp2_with fail
          refine wp_region_held_drew (S := FirstWrite w wr.heap.size n0 n1 n2 4) (by kernel_rfl) h0 (fun hS => ?_)
          clear h0
          refine wpAnyH_take (i := 0) (v := ?_) rfl (by kernel_rfl) (by kernel_rfl) (by kernel_rfl) (fun _ _ _ h => h) (Or.inl ⟨by kernel_rfl, ?_⟩) hS ?_
          rotate_left
          · intro wx hx
            obtain ⟨⟨hx0, hx1, hx2, hx3⟩, _⟩ := hx
            go_simp
            try with_reducible rfl
          refine wpAnyH_take (i := 1) (v := ?_) rfl (by kernel_rfl) (by kernel_rfl) (by kernel_rfl) (fun _ _ _ h => h) (Or.inl ⟨by kernel_rfl, ?_⟩) hS ?_
          rotate_left
          · intro wx hx
            obtain ⟨⟨hx0, hx1, hx2, hx3⟩, _⟩ := hx
            go_simp
            try with_reducible rfl
          refine wpAnyH_take (i := 2) (v := ?_) rfl (by kernel_rfl) (by kernel_rfl) (by kernel_rfl) (fun _ _ _ h => h) (Or.inl ⟨by kernel_rfl, ?_⟩) hS ?_
          rotate_left
          · intro wx hx
            obtain ⟨⟨hx0, hx1, hx2, hx3⟩, _⟩ := hx
            go_simp
            try with_reducible rfl
          refine wpAnyH_take (i := 3) (v := undef) rfl (by kernel_rfl) (by kernel_rfl) (by kernel_rfl) (fun _ _ _ h => h) (Or.inr ⟨by kernel_rfl, rfl⟩) hS ?_
          refine wpAnyH_take (i := 4) (v := undef) rfl (by kernel_rfl) (by kernel_rfl) (by kernel_rfl) (fun _ _ _ h => h) (Or.inr ⟨by kernel_rfl, rfl⟩) hS ?_
          refine wpAnyH_take (i := 5) (v := undef) rfl (by kernel_rfl) (by kernel_rfl) (by kernel_rfl) (fun _ _ _ h => h) (Or.inr ⟨by kernel_rfl, rfl⟩) hS ?_
          refine wpAnyH_take (i := 6) (v := undef) rfl (by kernel_rfl) (by kernel_rfl) (by kernel_rfl) (fun _ _ _ h => h) (Or.inr ⟨by kernel_rfl, rfl⟩) hS ?_
          refine wpAnyH_take (i := 7) (v := undef) rfl (by kernel_rfl) (by kernel_rfl) (by kernel_rfl) (fun _ _ _ h => h) (Or.inr ⟨by kernel_rfl, rfl⟩) hS ?_
          refine wpAnyH_take (i := 8) (v := undef) rfl (by kernel_rfl) (by kernel_rfl) (by kernel_rfl) (fun _ _ _ h => h) (Or.inr ⟨by kernel_rfl, rfl⟩) hS ?_
          refine wpAnyH_take (i := 9) (v := undef) rfl (by kernel_rfl) (by kernel_rfl) (by kernel_rfl) (fun _ _ _ h => h) (Or.inr ⟨by kernel_rfl, rfl⟩) hS ?_
          refine wpAnyH_take (i := 10) (v := undef) rfl (by kernel_rfl) (by kernel_rfl) (by kernel_rfl) (fun _ _ _ h => h) (Or.inr ⟨by kernel_rfl, rfl⟩) hS ?_
          refine wpAnyH_take (i := 11) (v := ?_) rfl (by kernel_rfl) (by kernel_rfl) (by kernel_rfl) (fun _ _ _ h => h) (Or.inl ⟨by kernel_rfl, ?_⟩) hS ?_
          rotate_left
          · intro wx hx
            obtain ⟨⟨hx0, hx1, hx2, hx3⟩, _⟩ := hx
            go_simp
            try with_reducible rfl
          refine wpAnyH_take (i := 12) (v := ?_) rfl (by kernel_rfl) (by kernel_rfl) (by kernel_rfl) (fun _ _ _ h => h) (Or.inl ⟨by kernel_rfl, ?_⟩) hS ?_
          rotate_left
          · intro wx hx
            obtain ⟨⟨hx0, hx1, hx2, hx3⟩, _⟩ := hx
            go_simp
            try with_reducible rfl
          refine wpAnyH_take (i := 13) (v := ?_) rfl (by kernel_rfl) (by kernel_rfl) (by kernel_rfl) (fun _ _ _ h => h) (Or.inl ⟨by kernel_rfl, ?_⟩) hS ?_
          rotate_left
          · intro wx hx
            obtain ⟨⟨hx0, hx1, hx2, hx3⟩, _⟩ := hx
            go_simp
            try with_reducible rfl
          refine wpAnyH_ready (rs := [14]) (by kernel_rfl) (by simp) ?_
          refine AllReadyH.cons rfl (fun K hK => ?_) AllReadyH.nil
          go_simp
          go_wp2_with fail
          refine (D.out _).mono ?_
          rintro e w1 ⟨rfl, q1⟩
          have hS' := hS.later q1
          clear q1
          go_wp2_with fail
          refine hK.out _ _ hS' (fun hS => ?_)
          clear hK K hS'
          refine wpAnyH_take (i := 15) (v := ?_) rfl (by kernel_rfl) (by kernel_rfl) (by kernel_rfl) (fun _ _ _ h => h) (Or.inl ⟨by kernel_rfl, ?_⟩) hS ?_
          rotate_left
          · intro wx hx
            obtain ⟨⟨hx0, hx1, hx2, hx3⟩, _⟩ := hx
            go_simp
            try with_reducible rfl
          refine wpAnyH_take (i := 16) (v := ?_) rfl (by kernel_rfl) (by kernel_rfl) (by kernel_rfl) (fun _ _ _ h => h) (Or.inl ⟨by kernel_rfl, ?_⟩) hS ?_
          rotate_left
          · intro wx hx
            obtain ⟨⟨hx0, hx1, hx2, hx3⟩, _⟩ := hx
            go_simp
            try with_reducible rfl
          refine wpAnyH_done (by kernel_rfl) ?_ _
          go_simp
          go_wp2
          go_roundw
          case rel => exact ⟨k + 1, by omega, by go_num, E, hS.2⟩
          case measure => simp [intOf]; omega
        obtain ⟨g', o', he, _, _, y0, y1, y2, y3⟩ := (H.out.later hbw).at4 (k := k - 1) (by omega)
        simp only [Option.some.injEq, Addr.mk.injEq, and_true] at he
        obtain ⟨rfl, rfl⟩ := he
        obtain ⟨m0, M0⟩ : ∃ x, S.k ((k - 1) * 4) = x := ⟨_, rfl⟩
        rw [M0] at y0
        obtain ⟨m1, M1⟩ : ∃ x, S.k ((k - 1) * 4 + 1) = x := ⟨_, rfl⟩
        rw [M1] at y1
        obtain ⟨m2, M2⟩ : ∃ x, S.k ((k - 1) * 4 + 2) = x := ⟨_, rfl⟩
        rw [M2] at y2
        obtain ⟨m3, M3⟩ : ∃ x, S.k ((k - 1) * 4 + 3) = x := ⟨_, rfl⟩
        rw [M3] at y3
        have MM : Hid (S.k ((k - 1) * 4) = m0 ∧ S.k ((k - 1) * 4 + 1) = m1) := ⟨M0, M1⟩
        clear M0 M1 M2 M3
        have dk : decide (0 < k) = true := decide_eq_true hk0
        have hwr := wrap_pred k hk0 (by omega)
        have hkn : ((k - 1 : Nat) : Int) < (S.nw : Int) := by omega
        obtain ⟨r, HR⟩ : ∃ r, Hid (orOf (cmpOf m0 n0) (cmpOf m1 n1) = r) := ⟨_, rfl⟩
        have HO : Hid (r < 0 ↔ m0 < n0 ∨ m0 = n0 ∧ m1 < n1) := by unfold Hid; rw [← HR.out]; exact orOf_neg _ _ _ _
        have h0 : PrevWrite w g o k wr.heap.size m0 m1 m2 m3 n0 n1 n2 4 (wr.alloc (.cells #[.int .i64 n0, .int .i64 n1, .int .i64 n2, .int .i64 4] 45)).drew := ⟨⟨(World.cell?_alloc_lt _ _ _ hg).trans y0, (World.cell?_alloc_lt _ _ _ hg).trans y1, (World.cell?_alloc_lt _ _ _ hg).trans y2, (World.cell?_alloc_lt _ _ _ hg).trans y3, World.cell?_alloc_mark wr _ _ _ 0, World.cell?_alloc_mark wr _ _ _ 1, World.cell?_alloc_mark wr _ _ _ 2, World.cell?_alloc_mark wr _ _ _ 3⟩, (hbw.alloc hbw.size _).drew⟩
        by_cases hr : 0 ≤ r
        · have E : Hid (scan (writeF S.k) S.nw = 1) := by
            have : writeF S.k k = 1 := by
              unfold writeF
              rw [NN.out.1, NN.out.2.1, NN.out.2.2.1, NN.out.2.2.2]
              rw [if_neg (fun h => h G0.out)]
              have g1 := G1.out; have g2 := G2.out; have g3 := G3.out; rw [if_neg (by omega)]
              rw [MM.out.1, MM.out.2]
              have ho := HO.out
              rw [if_pos (Or.inl ⟨hk0, by omega⟩)]
            exact (scan_stop HS.out (by rw [this]; decide) hlt).trans this
          have dr : decide (0 ≤ r) = true := decide_eq_true hr
          clear HS NN FT G0 G1 G2 G3 MM HO hr hft
          go_wp2_with fail
          refine (L0.out _).mono ?_
          rintro e w1 ⟨rfl, rfl⟩
          go_wp2_with fail
          refine (isTime_is _ true L1.out _).mono ?_
          rintro e w1 ⟨rfl, rfl⟩
          go_wp2_with fail
          refine (isTime_is _ true L2.out _).mono ?_
          rintro e w1 ⟨rfl, rfl⟩
          go_wp2_with fail
          refine (isLockKind_is _ false L3.out _).mono ?_
          rintro e w1 ⟨rfl, rfl⟩
          go_wp2_with fail
          refine wp_region_held_drew (S := PrevWrite w g o k wr.heap.size m0 m1 m2 m3 n0 n1 n2 4) (by kernel_rfl) h0 (fun hS => ?_)
          clear h0
          refine wpAnyH_take (i := 0) (v := ?_) rfl (by kernel_rfl) (by kernel_rfl) (by kernel_rfl) (fun _ _ _ h => h) (Or.inl ⟨by kernel_rfl, ?_⟩) hS ?_
          rotate_left
          · intro wx hx
            obtain ⟨⟨hx0, hx1, hx2, hx3, hx4, hx5, hx6, hx7⟩, _⟩ := hx
            go_simp
            try with_reducible rfl
          refine wpAnyH_take (i := 1) (v := ?_) rfl (by kernel_rfl) (by kernel_rfl) (by kernel_rfl) (fun _ _ _ h => h) (Or.inl ⟨by kernel_rfl, ?_⟩) hS ?_
          rotate_left
          · intro wx hx
            obtain ⟨⟨hx0, hx1, hx2, hx3, hx4, hx5, hx6, hx7⟩, _⟩ := hx
            go_simp
            try with_reducible rfl
          refine wpAnyH_take (i := 2) (v := ?_) rfl (by kernel_rfl) (by kernel_rfl) (by kernel_rfl) (fun _ _ _ h => h) (Or.inl ⟨by kernel_rfl, ?_⟩) hS ?_
          rotate_left
          · intro wx hx
            obtain ⟨⟨hx0, hx1, hx2, hx3, hx4, hx5, hx6, hx7⟩, _⟩ := hx
            go_simp
            try with_reducible rfl
          refine wpAnyH_take (i := 3) (v := ?_) rfl (by kernel_rfl) (by kernel_rfl) (by kernel_rfl) (fun _ _ _ h => h) (Or.inl ⟨by kernel_rfl, ?_⟩) hS ?_
          rotate_left
          · intro wx hx
            obtain ⟨⟨hx0, hx1, hx2, hx3, hx4, hx5, hx6, hx7⟩, _⟩ := hx
            go_simp
            try with_reducible rfl
          refine wpAnyH_take (i := 4) (v := ?_) rfl (by kernel_rfl) (by kernel_rfl) (by kernel_rfl) (fun _ _ _ h => h) (Or.inl ⟨by kernel_rfl, ?_⟩) hS ?_
          rotate_left
          · intro wx hx
            obtain ⟨⟨hx0, hx1, hx2, hx3, hx4, hx5, hx6, hx7⟩, _⟩ := hx
            go_simp
            try with_reducible rfl
          refine wpAnyH_take (i := 5) (v := ?_) rfl (by kernel_rfl) (by kernel_rfl) (by kernel_rfl) (fun _ _ _ h => h) (Or.inl ⟨by kernel_rfl, ?_⟩) hS ?_
          rotate_left
          · intro wx hx
            obtain ⟨⟨hx0, hx1, hx2, hx3, hx4, hx5, hx6, hx7⟩, _⟩ := hx
            go_simp
            try with_reducible rfl
          refine wpAnyH_take (i := 6) (v := ?_) rfl (by kernel_rfl) (by kernel_rfl) (by kernel_rfl) (fun _ _ _ h => h) (Or.inl ⟨by kernel_rfl, ?_⟩) hS ?_
          rotate_left
          · intro wx hx
            obtain ⟨⟨hx0, hx1, hx2, hx3, hx4, hx5, hx6, hx7⟩, _⟩ := hx
            go_simp
            try with_reducible rfl
          refine wpAnyH_take (i := 7) (v := ?_) rfl (by kernel_rfl) (by kernel_rfl) (by kernel_rfl) (fun _ _ _ h => h) (Or.inl ⟨by kernel_rfl, ?_⟩) hS ?_
          rotate_left
          · intro wx hx
            obtain ⟨⟨hx0, hx1, hx2, hx3, hx4, hx5, hx6, hx7⟩, _⟩ := hx
            go_simp
            try with_reducible rfl
          refine wpAnyH_take (i := 8) (v := ?_) rfl (by kernel_rfl) (by kernel_rfl) (by kernel_rfl) (fun _ _ _ h => h) (Or.inl ⟨by kernel_rfl, ?_⟩) hS ?_
          rotate_left
          · intro wx hx
            obtain ⟨⟨hx0, hx1, hx2, hx3, hx4, hx5, hx6, hx7⟩, _⟩ := hx
            go_simp
            try with_reducible rfl
          refine wpAnyH_ready (rs := [9]) (by kernel_rfl) (by simp) ?_
          refine AllReadyH.cons rfl (fun K hK => ?_) AllReadyH.nil
          go_simp
          go_wp2_with fail
          refine (compareWrites_is _ _ _ _ _ _ _ _ r HR.out _).mono ?_
          rintro e w1 ⟨rfl, q1⟩
          have hS' := hS.later q1
          clear q1
          go_wp2_with fail
          refine hK.out _ _ hS' (fun hS => ?_)
          clear hK K hS'
          refine wpAnyH_take (i := 10) (v := ?_) rfl (by kernel_rfl) (by kernel_rfl) (by kernel_rfl) (fun _ _ _ h => h) (Or.inl ⟨by kernel_rfl, ?_⟩) hS ?_
          rotate_left
          · intro wx hx
            obtain ⟨⟨hx0, hx1, hx2, hx3, hx4, hx5, hx6, hx7⟩, _⟩ := hx
            go_simp
            try with_reducible rfl
          refine wpAnyH_take (i := 11) (v := ?_) rfl (by kernel_rfl) (by kernel_rfl) (by kernel_rfl) (fun _ _ _ h => h) (Or.inl ⟨by kernel_rfl, ?_⟩) hS ?_
          rotate_left
          · intro wx hx
            obtain ⟨⟨hx0, hx1, hx2, hx3, hx4, hx5, hx6, hx7⟩, _⟩ := hx
            go_simp
            try with_reducible rfl
          refine wpAnyH_take (i := 12) (v := ?_) rfl (by kernel_rfl) (by kernel_rfl) (by kernel_rfl) (fun _ _ _ h => h) (Or.inl ⟨by kernel_rfl, ?_⟩) hS ?_
          rotate_left
          · intro wx hx
            obtain ⟨⟨hx0, hx1, hx2, hx3, hx4, hx5, hx6, hx7⟩, _⟩ := hx
            go_simp
            try with_reducible rfl
          refine wpAnyH_take (i := 13) (v := undef) rfl (by kernel_rfl) (by kernel_rfl) (by kernel_rfl) (fun _ _ _ h => h) (Or.inr ⟨by kernel_rfl, rfl⟩) hS ?_
          refine wpAnyH_take (i := 14) (v := undef) rfl (by kernel_rfl) (by kernel_rfl) (by kernel_rfl) (fun _ _ _ h => h) (Or.inr ⟨by kernel_rfl, rfl⟩) hS ?_
          refine wpAnyH_take (i := 15) (v := undef) rfl (by kernel_rfl) (by kernel_rfl) (by kernel_rfl) (fun _ _ _ h => h) (Or.inr ⟨by kernel_rfl, rfl⟩) hS ?_
          refine wpAnyH_take (i := 16) (v := ?_) rfl (by kernel_rfl) (by kernel_rfl) (by kernel_rfl) (fun _ _ _ h => h) (Or.inl ⟨by kernel_rfl, ?_⟩) hS ?_
          rotate_left
          · intro wx hx
            obtain ⟨⟨hx0, hx1, hx2, hx3, hx4, hx5, hx6, hx7⟩, _⟩ := hx
            go_simp
            try with_reducible rfl
          refine wpAnyH_done (by kernel_rfl) ?_ _
          go_simp
          go_wp2
          go_ret
          exact ⟨by rw [E.out]; rfl, hS.2⟩
        · have E : Hid (scan (writeF S.k) (k + 1) = 0) := by
            have : writeF S.k k = 0 := by
              unfold writeF
              rw [NN.out.1, NN.out.2.1, NN.out.2.2.1, NN.out.2.2.2]
              rw [if_neg (fun h => h G0.out)]
              have g1 := G1.out; have g2 := G2.out; have g3 := G3.out; rw [if_neg (by omega)]
              rw [MM.out.1, MM.out.2]
              have ho := HO.out
              rw [if_neg (fun h => h.elim (fun q => q.2 (by omega)) (fun q => q hft.out))]
            exact scan_go HS.out this
          have dr : decide (0 ≤ r) = false := decide_eq_false hr
          clear HS NN FT G0 G1 G2 G3 MM HO hr hft
          go_wp2_with fail
          refine (L0.out _).mono ?_
          rintro e w1 ⟨rfl, rfl⟩
          go_wp2_with fail
          refine (isTime_is _ true L1.out _).mono ?_
          rintro e w1 ⟨rfl, rfl⟩
          go_wp2_with fail
          refine (isTime_is _ true L2.out _).mono ?_
          rintro e w1 ⟨rfl, rfl⟩
          go_wp2_with fail
          refine (isLockKind_is _ false L3.out _).mono ?_
          rintro e w1 ⟨rfl, rfl⟩
          go_wp2_with fail
          refine wp_region_held_drew (S := PrevWrite w g o k wr.heap.size m0 m1 m2 m3 n0 n1 n2 4) (by kernel_rfl) h0 (fun hS => ?_)
          clear h0
          refine wpAnyH_take (i := 0) (v := ?_) rfl (by kernel_rfl) (by kernel_rfl) (by kernel_rfl) (fun _ _ _ h => h) (Or.inl ⟨by kernel_rfl, ?_⟩) hS ?_
          rotate_left
          · intro wx hx
            obtain ⟨⟨hx0, hx1, hx2, hx3, hx4, hx5, hx6, hx7⟩, _⟩ := hx
            go_simp
            try with_reducible rfl
          refine wpAnyH_take (i := 1) (v := ?_) rfl (by kernel_rfl) (by kernel_rfl) (by kernel_rfl) (fun _ _ _ h => h) (Or.inl ⟨by kernel_rfl, ?_⟩) hS ?_
          rotate_left
          · intro wx hx
            obtain ⟨⟨hx0, hx1, hx2, hx3, hx4, hx5, hx6, hx7⟩, _⟩ := hx
            go_simp
            try with_reducible rfl
          refine wpAnyH_take (i := 2) (v := ?_) rfl (by kernel_rfl) (by kernel_rfl) (by kernel_rfl) (fun _ _ _ h => h) (Or.inl ⟨by kernel_rfl, ?_⟩) hS ?_
          rotate_left
          · intro wx hx
            obtain ⟨⟨hx0, hx1, hx2, hx3, hx4, hx5, hx6, hx7⟩, _⟩ := hx
            go_simp
            try with_reducible rfl
          refine wpAnyH_take (i := 3) (v := ?_) rfl (by kernel_rfl) (by kernel_rfl) (by kernel_rfl) (fun _ _ _ h => h) (Or.inl ⟨by kernel_rfl, ?_⟩) hS ?_
          rotate_left
          · intro wx hx
            obtain ⟨⟨hx0, hx1, hx2, hx3, hx4, hx5, hx6, hx7⟩, _⟩ := hx
            go_simp
            try with_reducible rfl
          refine wpAnyH_take (i := 4) (v := ?_) rfl (by kernel_rfl) (by kernel_rfl) (by kernel_rfl) (fun _ _ _ h => h) (Or.inl ⟨by kernel_rfl, ?_⟩) hS ?_
          rotate_left
          · intro wx hx
            obtain ⟨⟨hx0, hx1, hx2, hx3, hx4, hx5, hx6, hx7⟩, _⟩ := hx
            go_simp
            try with_reducible rfl
          refine wpAnyH_take (i := 5) (v := ?_) rfl (by kernel_rfl) (by kernel_rfl) (by kernel_rfl) (fun _ _ _ h => h) (Or.inl ⟨by kernel_rfl, ?_⟩) hS ?_
          rotate_left
          · intro wx hx
            obtain ⟨⟨hx0, hx1, hx2, hx3, hx4, hx5, hx6, hx7⟩, _⟩ := hx
            go_simp
            try with_reducible rfl
          refine wpAnyH_take (i := 6) (v := ?_) rfl (by kernel_rfl) (by kernel_rfl) (by kernel_rfl) (fun _ _ _ h => h) (Or.inl ⟨by kernel_rfl, ?_⟩) hS ?_
          rotate_left
          · intro wx hx
            obtain ⟨⟨hx0, hx1, hx2, hx3, hx4, hx5, hx6, hx7⟩, _⟩ := hx
            go_simp
            try with_reducible rfl
          refine wpAnyH_take (i := 7) (v := ?_) rfl (by kernel_rfl) (by kernel_rfl) (by kernel_rfl) (fun _ _ _ h => h) (Or.inl ⟨by kernel_rfl, ?_⟩) hS ?_
          rotate_left
          · intro wx hx
            obtain ⟨⟨hx0, hx1, hx2, hx3, hx4, hx5, hx6, hx7⟩, _⟩ := hx
            go_simp
            try with_reducible rfl
          refine wpAnyH_take (i := 8) (v := ?_) rfl (by kernel_rfl) (by kernel_rfl) (by kernel_rfl) (fun _ _ _ h => h) (Or.inl ⟨by kernel_rfl, ?_⟩) hS ?_
          rotate_left
          · intro wx hx
            obtain ⟨⟨hx0, hx1, hx2, hx3, hx4, hx5, hx6, hx7⟩, _⟩ := hx
            go_simp
            try with_reducible rfl
          refine wpAnyH_ready (rs := [9]) (by kernel_rfl) (by simp) ?_
          refine AllReadyH.cons rfl (fun K hK => ?_) AllReadyH.nil
          go_simp
          go_wp2_with fail
          refine (compareWrites_is _ _ _ _ _ _ _ _ r HR.out _).mono ?_
          rintro e w1 ⟨rfl, q1⟩
          have hS' := hS.later q1
          clear q1
          go_wp2_with fail
          refine hK.out _ _ hS' (fun hS => ?_)
          clear hK K hS'
          refine wpAnyH_take (i := 10) (v := ?_) rfl (by kernel_rfl) (by kernel_rfl) (by kernel_rfl) (fun _ _ _ h => h) (Or.inl ⟨by kernel_rfl, ?_⟩) hS ?_
          rotate_left
          · intro wx hx
            obtain ⟨⟨hx0, hx1, hx2, hx3, hx4, hx5, hx6, hx7⟩, _⟩ := hx
            go_simp
            try with_reducible rfl
          refine wpAnyH_take (i := 11) (v := ?_) rfl (by kernel_rfl) (by kernel_rfl) (by kernel_rfl) (fun _ _ _ h => h) (Or.inl ⟨by kernel_rfl, ?_⟩) hS ?_
          rotate_left
          · intro wx hx
            obtain ⟨⟨hx0, hx1, hx2, hx3, hx4, hx5, hx6, hx7⟩, _⟩ := hx
            go_simp
            try with_reducible rfl
          refine wpAnyH_take (i := 12) (v := ?_) rfl (by kernel_rfl) (by kernel_rfl) (by kernel_rfl) (fun _ _ _ h => h) (Or.inl ⟨by kernel_rfl, ?_⟩) hS ?_
          rotate_left
          · intro wx hx
            obtain ⟨⟨hx0, hx1, hx2, hx3, hx4, hx5, hx6, hx7⟩, _⟩ := hx
            go_simp
            try with_reducible rfl
          refine wpAnyH_take (i := 13) (v := ?_) rfl (by kernel_rfl) (by kernel_rfl) (by kernel_rfl) (fun _ _ _ h => h) (Or.inl ⟨by kernel_rfl, ?_⟩) hS ?_
          rotate_left
          · intro wx hx
            obtain ⟨⟨hx0, hx1, hx2, hx3, hx4, hx5, hx6, hx7⟩, _⟩ := hx
            go_simp
            try with_reducible rfl
          refine wpAnyH_ready (rs := [14]) (by kernel_rfl) (by simp) ?_
          refine AllReadyH.cons rfl (fun K hK => ?_) AllReadyH.nil
          go_simp
          go_wp2_with fail
          refine (D.out _).mono ?_
          rintro e w1 ⟨rfl, q1⟩
          have hS' := hS.later q1
          clear q1
          go_wp2_with fail
          refine hK.out _ _ hS' (fun hS => ?_)
          clear hK K hS'
          refine wpAnyH_take (i := 15) (v := ?_) rfl (by kernel_rfl) (by kernel_rfl) (by kernel_rfl) (fun _ _ _ h => h) (Or.inl ⟨by kernel_rfl, ?_⟩) hS ?_
          rotate_left
          · intro wx hx
            obtain ⟨⟨hx0, hx1, hx2, hx3, hx4, hx5, hx6, hx7⟩, _⟩ := hx
            go_simp
            try with_reducible rfl
          refine wpAnyH_take (i := 16) (v := ?_) rfl (by kernel_rfl) (by kernel_rfl) (by kernel_rfl) (fun _ _ _ h => h) (Or.inl ⟨by kernel_rfl, ?_⟩) hS ?_
          rotate_left
          · intro wx hx
            obtain ⟨⟨hx0, hx1, hx2, hx3, hx4, hx5, hx6, hx7⟩, _⟩ := hx
            go_simp
            try with_reducible rfl
          refine wpAnyH_done (by kernel_rfl) ?_ _
          go_simp
          go_wp2
          go_roundw
          case rel => exact ⟨k + 1, by omega, by go_num, E, hS.2⟩
          case measure => simp [intOf]; omega
      · have D : Hid (∀ w, Calls Tryz.prog 130 #[.agg #[.int .i64 n0, .int .i64 n1, .int .i64 n2, .int .i64 4]] w fun e w' => e = .returned (.bool false) ∧ Below w.heap.size w w') := fun w => commitFits_is n0 n1 n2 4 false (decide_eq_false hf) w
        have hft : Hid (¬ fits S.k k) := fun h => hf (FT.out.1 h)
        clear hf
        rcases Nat.eq_zero_or_pos k with hk0 | hk0
        · have E : Hid (scan (writeF S.k) S.nw = 1) := by
            have : writeF S.k k = 1 := by
              unfold writeF
              rw [NN.out.1, NN.out.2.1, NN.out.2.2.1, NN.out.2.2.2]
              rw [if_neg (fun h => h G0.out)]
              have g1 := G1.out; have g2 := G2.out; have g3 := G3.out; rw [if_neg (by omega)]
              rw [if_pos (Or.inr hft.out)]
            exact (scan_stop HS.out (by rw [this]; decide) hlt).trans this
          have dk : decide (0 < k) = false := decide_eq_false (by omega)
          have h0 : FirstWrite w wr.heap.size n0 n1 n2 4 (wr.alloc (.cells #[.int .i64 n0, .int .i64 n1, .int .i64 n2, .int .i64 4] 45)).drew := ⟨⟨World.cell?_alloc_mark wr _ _ _ 0, World.cell?_alloc_mark wr _ _ _ 1, World.cell?_alloc_mark wr _ _ _ 2, World.cell?_alloc_mark wr _ _ _ 3⟩, (hbw.alloc hbw.size _).drew⟩
          clear HS NN FT G0 G1 G2 G3 hk0 hft
          go_wp2_with fail
          refine (L0.out _).mono ?_
          rintro e w1 ⟨rfl, rfl⟩
          go_wp2_with fail
          refine (isTime_is _ true L1.out _).mono ?_
          rintro e w1 ⟨rfl, rfl⟩
          go_wp2_with fail
          refine (isTime_is _ true L2.out _).mono ?_
          rintro e w1 ⟨rfl, rfl⟩
          go_wp2_with fail
          refine (isLockKind_is _ false L3.out _).mono ?_
          rintro e w1 ⟨rfl, rfl⟩
          go_wp2_with fail
          refine wp_region_held_drew (S := FirstWrite w wr.heap.size n0 n1 n2 4) (by kernel_rfl) h0 (fun hS => ?_)
          clear h0
          refine wpAnyH_take (i := 0) (v := ?_) rfl (by kernel_rfl) (by kernel_rfl) (by kernel_rfl) (fun _ _ _ h => h) (Or.inl ⟨by kernel_rfl, ?_⟩) hS ?_
          rotate_left
          · intro wx hx
            obtain ⟨⟨hx0, hx1, hx2, hx3⟩, _⟩ := hx
            go_simp
            try with_reducible rfl
          refine wpAnyH_take (i := 1) (v := ?_) rfl (by kernel_rfl) (by kernel_rfl) (by kernel_rfl) (fun _ _ _ h => h) (Or.inl ⟨by kernel_rfl, ?_⟩) hS ?_
          rotate_left
          · intro wx hx
            obtain ⟨⟨hx0, hx1, hx2, hx3⟩, _⟩ := hx
            go_simp
            try with_reducible rfl
          refine wpAnyH_take (i := 2) (v := ?_) rfl (by kernel_rfl) (by kernel_rfl) (by kernel_rfl) (fun _ _ _ h => h) (Or.inl ⟨by kernel_rfl, ?_⟩) hS ?_
          rotate_left
          · intro wx hx
            obtain ⟨⟨hx0, hx1, hx2, hx3⟩, _⟩ := hx
            go_simp
            try with_reducible rfl
          refine wpAnyH_take (i := 3) (v := undef) rfl (by kernel_rfl) (by kernel_rfl) (by kernel_rfl) (fun _ _ _ h => h) (Or.inr ⟨by kernel_rfl, rfl⟩) hS ?_
          refine wpAnyH_take (i := 4) (v := undef) rfl (by kernel_rfl) (by kernel_rfl) (by kernel_rfl) (fun _ _ _ h => h) (Or.inr ⟨by kernel_rfl, rfl⟩) hS ?_
          refine wpAnyH_take (i := 5) (v := undef) rfl (by kernel_rfl) (by kernel_rfl) (by kernel_rfl) (fun _ _ _ h => h) (Or.inr ⟨by kernel_rfl, rfl⟩) hS ?_
          refine wpAnyH_take (i := 6) (v := undef) rfl (by kernel_rfl) (by kernel_rfl) (by kernel_rfl) (fun _ _ _ h => h) (Or.inr ⟨by kernel_rfl, rfl⟩) hS ?_
          refine wpAnyH_take (i := 7) (v := undef) rfl (by kernel_rfl) (by kernel_rfl) (by kernel_rfl) (fun _ _ _ h => h) (Or.inr ⟨by kernel_rfl, rfl⟩) hS ?_
          refine wpAnyH_take (i := 8) (v := undef) rfl (by kernel_rfl) (by kernel_rfl) (by kernel_rfl) (fun _ _ _ h => h) (Or.inr ⟨by kernel_rfl, rfl⟩) hS ?_
          refine wpAnyH_take (i := 9) (v := undef) rfl (by kernel_rfl) (by kernel_rfl) (by kernel_rfl) (fun _ _ _ h => h) (Or.inr ⟨by kernel_rfl, rfl⟩) hS ?_
          refine wpAnyH_take (i := 10) (v := undef) rfl (by kernel_rfl) (by kernel_rfl) (by kernel_rfl) (fun _ _ _ h => h) (Or.inr ⟨by kernel_rfl, rfl⟩) hS ?_
          refine wpAnyH_take (i := 11) (v := ?_) rfl (by kernel_rfl) (by kernel_rfl) (by kernel_rfl) (fun _ _ _ h => h) (Or.inl ⟨by kernel_rfl, ?_⟩) hS ?_
          rotate_left
          · intro wx hx
            obtain ⟨⟨hx0, hx1, hx2, hx3⟩, _⟩ := hx
            go_simp
            try with_reducible rfl
          refine wpAnyH_take (i := 12) (v := ?_) rfl (by kernel_rfl) (by kernel_rfl) (by kernel_rfl) (fun _ _ _ h => h) (Or.inl ⟨by kernel_rfl, ?_⟩) hS ?_
          rotate_left
          · intro wx hx
            obtain ⟨⟨hx0, hx1, hx2, hx3⟩, _⟩ := hx
            go_simp
            try with_reducible rfl
          refine wpAnyH_take (i := 13) (v := ?_) rfl (by kernel_rfl) (by kernel_rfl) (by kernel_rfl) (fun _ _ _ h => h) (Or.inl ⟨by kernel_rfl, ?_⟩) hS ?_
          rotate_left
          · intro wx hx
            obtain ⟨⟨hx0, hx1, hx2, hx3⟩, _⟩ := hx
            go_simp
            try with_reducible rfl
          refine wpAnyH_ready (rs := [14]) (by kernel_rfl) (by simp) ?_
          refine AllReadyH.cons rfl (fun K hK => ?_) AllReadyH.nil
          go_simp
          go_wp2_with fail
          refine (D.out _).mono ?_
          rintro e w1 ⟨rfl, q1⟩
          have hS' := hS.later q1
          clear q1
          go_wp2_with fail
          refine hK.out _ _ hS' (fun hS => ?_)
          clear hK K hS'
          refine wpAnyH_take (i := 15) (v := ?_) rfl (by kernel_rfl) (by kernel_rfl) (by kernel_rfl) (fun _ _ _ h => h) (Or.inl ⟨by kernel_rfl, ?_⟩) hS ?_
          rotate_left
          · intro wx hx
            obtain ⟨⟨hx0, hx1, hx2, hx3⟩, _⟩ := hx
            go_simp
            try with_reducible rfl
          refine wpAnyH_take (i := 16) (v := ?_) rfl (by kernel_rfl) (by kernel_rfl) (by kernel_rfl) (fun _ _ _ h => h) (Or.inl ⟨by kernel_rfl, ?_⟩) hS ?_
          rotate_left
          · intro wx hx
            obtain ⟨⟨hx0, hx1, hx2, hx3⟩, _⟩ := hx
            go_simp
            try with_reducible rfl
          refine wpAnyH_done (by kernel_rfl) ?_ _
          go_simp
          go_wp2
          go_ret
          exact ⟨by rw [E.out]; rfl, hS.2⟩
        obtain ⟨g', o', he, _, _, y0, y1, y2, y3⟩ := (H.out.later hbw).at4 (k := k - 1) (by omega)
        simp only [Option.some.injEq, Addr.mk.injEq, and_true] at he
        obtain ⟨rfl, rfl⟩ := he
        obtain ⟨m0, M0⟩ : ∃ x, S.k ((k - 1) * 4) = x := ⟨_, rfl⟩
        rw [M0] at y0
        obtain ⟨m1, M1⟩ : ∃ x, S.k ((k - 1) * 4 + 1) = x := ⟨_, rfl⟩
        rw [M1] at y1
        obtain ⟨m2, M2⟩ : ∃ x, S.k ((k - 1) * 4 + 2) = x := ⟨_, rfl⟩
        rw [M2] at y2
        obtain ⟨m3, M3⟩ : ∃ x, S.k ((k - 1) * 4 + 3) = x := ⟨_, rfl⟩
        rw [M3] at y3
        have MM : Hid (S.k ((k - 1) * 4) = m0 ∧ S.k ((k - 1) * 4 + 1) = m1) := ⟨M0, M1⟩
        clear M0 M1 M2 M3
        have dk : decide (0 < k) = true := decide_eq_true hk0
        have hwr := wrap_pred k hk0 (by omega)
        have hkn : ((k - 1 : Nat) : Int) < (S.nw : Int) := by omega
        obtain ⟨r, HR⟩ : ∃ r, Hid (orOf (cmpOf m0 n0) (cmpOf m1 n1) = r) := ⟨_, rfl⟩
        have HO : Hid (r < 0 ↔ m0 < n0 ∨ m0 = n0 ∧ m1 < n1) := by unfold Hid; rw [← HR.out]; exact orOf_neg _ _ _ _
        have h0 : PrevWrite w g o k wr.heap.size m0 m1 m2 m3 n0 n1 n2 4 (wr.alloc (.cells #[.int .i64 n0, .int .i64 n1, .int .i64 n2, .int .i64 4] 45)).drew := ⟨⟨(World.cell?_alloc_lt _ _ _ hg).trans y0, (World.cell?_alloc_lt _ _ _ hg).trans y1, (World.cell?_alloc_lt _ _ _ hg).trans y2, (World.cell?_alloc_lt _ _ _ hg).trans y3, World.cell?_alloc_mark wr _ _ _ 0, World.cell?_alloc_mark wr _ _ _ 1, World.cell?_alloc_mark wr _ _ _ 2, World.cell?_alloc_mark wr _ _ _ 3⟩, (hbw.alloc hbw.size _).drew⟩
        by_cases hr : 0 ≤ r
        · have E : Hid (scan (writeF S.k) S.nw = 1) := by
            have : writeF S.k k = 1 := by
              unfold writeF
              rw [NN.out.1, NN.out.2.1, NN.out.2.2.1, NN.out.2.2.2]
              rw [if_neg (fun h => h G0.out)]
              have g1 := G1.out; have g2 := G2.out; have g3 := G3.out; rw [if_neg (by omega)]
              rw [MM.out.1, MM.out.2]
              have ho := HO.out
              rw [if_pos (Or.inl ⟨hk0, by omega⟩)]
            exact (scan_stop HS.out (by rw [this]; decide) hlt).trans this
          have dr : decide (0 ≤ r) = true := decide_eq_true hr
          clear HS NN FT G0 G1 G2 G3 MM HO hr hft
          go_wp2_with fail
          refine (L0.out _).mono ?_
          rintro e w1 ⟨rfl, rfl⟩
          go_wp2_with fail
          refine (isTime_is _ true L1.out _).mono ?_
          rintro e w1 ⟨rfl, rfl⟩
          go_wp2_with fail
          refine (isTime_is _ true L2.out _).mono ?_
          rintro e w1 ⟨rfl, rfl⟩
          go_wp2_with fail
          refine (isLockKind_is _ false L3.out _).mono ?_
          rintro e w1 ⟨rfl, rfl⟩
          go_wp2_with fail
          refine wp_region_held_drew (S := PrevWrite w g o k wr.heap.size m0 m1 m2 m3 n0 n1 n2 4) (by kernel_rfl) h0 (fun hS => ?_)
          clear h0
          refine wpAnyH_take (i := 0) (v := ?_) rfl (by kernel_rfl) (by kernel_rfl) (by kernel_rfl) (fun _ _ _ h => h) (Or.inl ⟨by kernel_rfl, ?_⟩) hS ?_
          rotate_left
          · intro wx hx
            obtain ⟨⟨hx0, hx1, hx2, hx3, hx4, hx5, hx6, hx7⟩, _⟩ := hx
            go_simp
            try with_reducible rfl
          refine wpAnyH_take (i := 1) (v := ?_) rfl (by kernel_rfl) (by kernel_rfl) (by kernel_rfl) (fun _ _ _ h => h) (Or.inl ⟨by kernel_rfl, ?_⟩) hS ?_
          rotate_left
          · intro wx hx
            obtain ⟨⟨hx0, hx1, hx2, hx3, hx4, hx5, hx6, hx7⟩, _⟩ := hx
            go_simp
            try with_reducible rfl
          refine wpAnyH_take (i := 2) (v := ?_) rfl (by kernel_rfl) (by kernel_rfl) (by kernel_rfl) (fun _ _ _ h => h) (Or.inl ⟨by kernel_rfl, ?_⟩) hS ?_
          rotate_left
          · intro wx hx
            obtain ⟨⟨hx0, hx1, hx2, hx3, hx4, hx5, hx6, hx7⟩, _⟩ := hx
            go_simp
            try with_reducible rfl
          refine wpAnyH_take (i := 3) (v := ?_) rfl (by kernel_rfl) (by kernel_rfl) (by kernel_rfl) (fun _ _ _ h => h) (Or.inl ⟨by kernel_rfl, ?_⟩) hS ?_
          rotate_left
          · intro wx hx
            obtain ⟨⟨hx0, hx1, hx2, hx3, hx4, hx5, hx6, hx7⟩, _⟩ := hx
            go_simp
            try with_reducible rfl
          refine wpAnyH_take (i := 4) (v := ?_) rfl (by kernel_rfl) (by kernel_rfl) (by kernel_rfl) (fun _ _ _ h => h) (Or.inl ⟨by kernel_rfl, ?_⟩) hS ?_
          rotate_left
          · intro wx hx
            obtain ⟨⟨hx0, hx1, hx2, hx3, hx4, hx5, hx6, hx7⟩, _⟩ := hx
            go_simp
            try with_reducible rfl
          refine wpAnyH_take (i := 5) (v := ?_) rfl (by kernel_rfl) (by kernel_rfl) (by kernel_rfl) (fun _ _ _ h => h) (Or.inl ⟨by kernel_rfl, ?_⟩) hS ?_
          rotate_left
          · intro wx hx
            obtain ⟨⟨hx0, hx1, hx2, hx3, hx4, hx5, hx6, hx7⟩, _⟩ := hx
            go_simp
            try with_reducible rfl
          refine wpAnyH_take (i := 6) (v := ?_) rfl (by kernel_rfl) (by kernel_rfl) (by kernel_rfl) (fun _ _ _ h => h) (Or.inl ⟨by kernel_rfl, ?_⟩) hS ?_
          rotate_left
          · intro wx hx
            obtain ⟨⟨hx0, hx1, hx2, hx3, hx4, hx5, hx6, hx7⟩, _⟩ := hx
            go_simp
            try with_reducible rfl
          refine wpAnyH_take (i := 7) (v := ?_) rfl (by kernel_rfl) (by kernel_rfl) (by kernel_rfl) (fun _ _ _ h => h) (Or.inl ⟨by kernel_rfl, ?_⟩) hS ?_
          rotate_left
          · intro wx hx
            obtain ⟨⟨hx0, hx1, hx2, hx3, hx4, hx5, hx6, hx7⟩, _⟩ := hx
            go_simp
            try with_reducible rfl
          refine wpAnyH_take (i := 8) (v := ?_) rfl (by kernel_rfl) (by kernel_rfl) (by kernel_rfl) (fun _ _ _ h => h) (Or.inl ⟨by kernel_rfl, ?_⟩) hS ?_
          rotate_left
          · intro wx hx
            obtain ⟨⟨hx0, hx1, hx2, hx3, hx4, hx5, hx6, hx7⟩, _⟩ := hx
            go_simp
            try with_reducible rfl
          refine wpAnyH_ready (rs := [9]) (by kernel_rfl) (by simp) ?_
          refine AllReadyH.cons rfl (fun K hK => ?_) AllReadyH.nil
          go_simp
          go_wp2_with fail
          refine (compareWrites_is _ _ _ _ _ _ _ _ r HR.out _).mono ?_
          rintro e w1 ⟨rfl, q1⟩
          have hS' := hS.later q1
          clear q1
          go_wp2_with fail
          refine hK.out _ _ hS' (fun hS => ?_)
          clear hK K hS'
          refine wpAnyH_take (i := 10) (v := ?_) rfl (by kernel_rfl) (by kernel_rfl) (by kernel_rfl) (fun _ _ _ h => h) (Or.inl ⟨by kernel_rfl, ?_⟩) hS ?_
          rotate_left
          · intro wx hx
            obtain ⟨⟨hx0, hx1, hx2, hx3, hx4, hx5, hx6, hx7⟩, _⟩ := hx
            go_simp
            try with_reducible rfl
          refine wpAnyH_take (i := 11) (v := ?_) rfl (by kernel_rfl) (by kernel_rfl) (by kernel_rfl) (fun _ _ _ h => h) (Or.inl ⟨by kernel_rfl, ?_⟩) hS ?_
          rotate_left
          · intro wx hx
            obtain ⟨⟨hx0, hx1, hx2, hx3, hx4, hx5, hx6, hx7⟩, _⟩ := hx
            go_simp
            try with_reducible rfl
          refine wpAnyH_take (i := 12) (v := ?_) rfl (by kernel_rfl) (by kernel_rfl) (by kernel_rfl) (fun _ _ _ h => h) (Or.inl ⟨by kernel_rfl, ?_⟩) hS ?_
          rotate_left
          · intro wx hx
            obtain ⟨⟨hx0, hx1, hx2, hx3, hx4, hx5, hx6, hx7⟩, _⟩ := hx
            go_simp
            try with_reducible rfl
          refine wpAnyH_take (i := 13) (v := undef) rfl (by kernel_rfl) (by kernel_rfl) (by kernel_rfl) (fun _ _ _ h => h) (Or.inr ⟨by kernel_rfl, rfl⟩) hS ?_
          refine wpAnyH_take (i := 14) (v := undef) rfl (by kernel_rfl) (by kernel_rfl) (by kernel_rfl) (fun _ _ _ h => h) (Or.inr ⟨by kernel_rfl, rfl⟩) hS ?_
          refine wpAnyH_take (i := 15) (v := undef) rfl (by kernel_rfl) (by kernel_rfl) (by kernel_rfl) (fun _ _ _ h => h) (Or.inr ⟨by kernel_rfl, rfl⟩) hS ?_
          refine wpAnyH_take (i := 16) (v := ?_) rfl (by kernel_rfl) (by kernel_rfl) (by kernel_rfl) (fun _ _ _ h => h) (Or.inl ⟨by kernel_rfl, ?_⟩) hS ?_
          rotate_left
          · intro wx hx
            obtain ⟨⟨hx0, hx1, hx2, hx3, hx4, hx5, hx6, hx7⟩, _⟩ := hx
            go_simp
            try with_reducible rfl
          refine wpAnyH_done (by kernel_rfl) ?_ _
          go_simp
          go_wp2
          go_ret
          exact ⟨by rw [E.out]; rfl, hS.2⟩
        · have E : Hid (scan (writeF S.k) S.nw = 1) := by
            have : writeF S.k k = 1 := by
              unfold writeF
              rw [NN.out.1, NN.out.2.1, NN.out.2.2.1, NN.out.2.2.2]
              rw [if_neg (fun h => h G0.out)]
              have g1 := G1.out; have g2 := G2.out; have g3 := G3.out; rw [if_neg (by omega)]
              rw [MM.out.1, MM.out.2]
              have ho := HO.out
              rw [if_pos (Or.inr hft.out)]
            exact (scan_stop HS.out (by rw [this]; decide) hlt).trans this
          have dr : decide (0 ≤ r) = false := decide_eq_false hr
          clear HS NN FT G0 G1 G2 G3 MM HO hr hft
          go_wp2_with fail
          refine (L0.out _).mono ?_
          rintro e w1 ⟨rfl, rfl⟩
          go_wp2_with fail
          refine (isTime_is _ true L1.out _).mono ?_
          rintro e w1 ⟨rfl, rfl⟩
          go_wp2_with fail
          refine (isTime_is _ true L2.out _).mono ?_
          rintro e w1 ⟨rfl, rfl⟩
          go_wp2_with fail
          refine (isLockKind_is _ false L3.out _).mono ?_
          rintro e w1 ⟨rfl, rfl⟩
          go_wp2_with fail
          refine wp_region_held_drew (S := PrevWrite w g o k wr.heap.size m0 m1 m2 m3 n0 n1 n2 4) (by kernel_rfl) h0 (fun hS => ?_)
          clear h0
          refine wpAnyH_take (i := 0) (v := ?_) rfl (by kernel_rfl) (by kernel_rfl) (by kernel_rfl) (fun _ _ _ h => h) (Or.inl ⟨by kernel_rfl, ?_⟩) hS ?_
          rotate_left
          · intro wx hx
            obtain ⟨⟨hx0, hx1, hx2, hx3, hx4, hx5, hx6, hx7⟩, _⟩ := hx
            go_simp
            try with_reducible rfl
          refine wpAnyH_take (i := 1) (v := ?_) rfl (by kernel_rfl) (by kernel_rfl) (by kernel_rfl) (fun _ _ _ h => h) (Or.inl ⟨by kernel_rfl, ?_⟩) hS ?_
          rotate_left
          · intro wx hx
            obtain ⟨⟨hx0, hx1, hx2, hx3, hx4, hx5, hx6, hx7⟩, _⟩ := hx
            go_simp
            try with_reducible rfl
          refine wpAnyH_take (i := 2) (v := ?_) rfl (by kernel_rfl) (by kernel_rfl) (by kernel_rfl) (fun _ _ _ h => h) (Or.inl ⟨by kernel_rfl, ?_⟩) hS ?_
          rotate_left
          · intro wx hx
            obtain ⟨⟨hx0, hx1, hx2, hx3, hx4, hx5, hx6, hx7⟩, _⟩ := hx
            go_simp
            try with_reducible rfl
          refine wpAnyH_take (i := 3) (v := ?_) rfl (by kernel_rfl) (by kernel_rfl) (by kernel_rfl) (fun _ _ _ h => h) (Or.inl ⟨by kernel_rfl, ?_⟩) hS ?_
          rotate_left
          · intro wx hx
            obtain ⟨⟨hx0, hx1, hx2, hx3, hx4, hx5, hx6, hx7⟩, _⟩ := hx
            go_simp
            try with_reducible rfl
          refine wpAnyH_take (i := 4) (v := ?_) rfl (by kernel_rfl) (by kernel_rfl) (by kernel_rfl) (fun _ _ _ h => h) (Or.inl ⟨by kernel_rfl, ?_⟩) hS ?_
          rotate_left
          · intro wx hx
            obtain ⟨⟨hx0, hx1, hx2, hx3, hx4, hx5, hx6, hx7⟩, _⟩ := hx
            go_simp
            try with_reducible rfl
          refine wpAnyH_take (i := 5) (v := ?_) rfl (by kernel_rfl) (by kernel_rfl) (by kernel_rfl) (fun _ _ _ h => h) (Or.inl ⟨by kernel_rfl, ?_⟩) hS ?_
          rotate_left
          · intro wx hx
            obtain ⟨⟨hx0, hx1, hx2, hx3, hx4, hx5, hx6, hx7⟩, _⟩ := hx
            go_simp
            try with_reducible rfl
          refine wpAnyH_take (i := 6) (v := ?_) rfl (by kernel_rfl) (by kernel_rfl) (by kernel_rfl) (fun _ _ _ h => h) (Or.inl ⟨by kernel_rfl, ?_⟩) hS ?_
          rotate_left
          · intro wx hx
            obtain ⟨⟨hx0, hx1, hx2, hx3, hx4, hx5, hx6, hx7⟩, _⟩ := hx
            go_simp
            try with_reducible rfl
          refine wpAnyH_take (i := 7) (v := ?_) rfl (by kernel_rfl) (by kernel_rfl) (by kernel_rfl) (fun _ _ _ h => h) (Or.inl ⟨by kernel_rfl, ?_⟩) hS ?_
          rotate_left
          · intro wx hx
            obtain ⟨⟨hx0, hx1, hx2, hx3, hx4, hx5, hx6, hx7⟩, _⟩ := hx
            go_simp
            try with_reducible rfl
          refine wpAnyH_take (i := 8) (v := ?_) rfl (by kernel_rfl) (by kernel_rfl) (by kernel_rfl) (fun _ _ _ h => h) (Or.inl ⟨by kernel_rfl, ?_⟩) hS ?_
          rotate_left
          · intro wx hx
            obtain ⟨⟨hx0, hx1, hx2, hx3, hx4, hx5, hx6, hx7⟩, _⟩ := hx
            go_simp
            try with_reducible rfl
          refine wpAnyH_ready (rs := [9]) (by kernel_rfl) (by simp) ?_
          refine AllReadyH.cons rfl (fun K hK => ?_) AllReadyH.nil
          go_simp
          go_wp2_with fail
          refine (compareWrites_is _ _ _ _ _ _ _ _ r HR.out _).mono ?_
          rintro e w1 ⟨rfl, q1⟩
          have hS' := hS.later q1
          clear q1
          go_wp2_with fail
          refine hK.out _ _ hS' (fun hS => ?_)
          clear hK K hS'
          refine wpAnyH_take (i := 10) (v := ?_) rfl (by kernel_rfl) (by kernel_rfl) (by kernel_rfl) (fun _ _ _ h => h) (Or.inl ⟨by kernel_rfl, ?_⟩) hS ?_
          rotate_left
          · intro wx hx
            obtain ⟨⟨hx0, hx1, hx2, hx3, hx4, hx5, hx6, hx7⟩, _⟩ := hx
            go_simp
            try with_reducible rfl
          refine wpAnyH_take (i := 11) (v := ?_) rfl (by kernel_rfl) (by kernel_rfl) (by kernel_rfl) (fun _ _ _ h => h) (Or.inl ⟨by kernel_rfl, ?_⟩) hS ?_
          rotate_left
          · intro wx hx
            obtain ⟨⟨hx0, hx1, hx2, hx3, hx4, hx5, hx6, hx7⟩, _⟩ := hx
            go_simp
            try with_reducible rfl
          refine wpAnyH_take (i := 12) (v := ?_) rfl (by kernel_rfl) (by kernel_rfl) (by kernel_rfl) (fun _ _ _ h => h) (Or.inl ⟨by kernel_rfl, ?_⟩) hS ?_
          rotate_left
          · intro wx hx
            obtain ⟨⟨hx0, hx1, hx2, hx3, hx4, hx5, hx6, hx7⟩, _⟩ := hx
            go_simp
            try with_reducible rfl
          refine wpAnyH_take (i := 13) (v := ?_) rfl (by kernel_rfl) (by kernel_rfl) (by kernel_rfl) (fun _ _ _ h => h) (Or.inl ⟨by kernel_rfl, ?_⟩) hS ?_
          rotate_left
          · intro wx hx
            obtain ⟨⟨hx0, hx1, hx2, hx3, hx4, hx5, hx6, hx7⟩, _⟩ := hx
            go_simp
            try with_reducible rfl
          refine wpAnyH_ready (rs := [14]) (by kernel_rfl) (by simp) ?_
          refine AllReadyH.cons rfl (fun K hK => ?_) AllReadyH.nil
          go_simp
          go_wp2_with fail
          refine (D.out _).mono ?_
          rintro e w1 ⟨rfl, q1⟩
          have hS' := hS.later q1
          clear q1
          go_wp2_with fail
          refine hK.out _ _ hS' (fun hS => ?_)
          clear hK K hS'
          refine wpAnyH_take (i := 15) (v := ?_) rfl (by kernel_rfl) (by kernel_rfl) (by kernel_rfl) (fun _ _ _ h => h) (Or.inl ⟨by kernel_rfl, ?_⟩) hS ?_
          rotate_left
          · intro wx hx
            obtain ⟨⟨hx0, hx1, hx2, hx3, hx4, hx5, hx6, hx7⟩, _⟩ := hx
            go_simp
            try with_reducible rfl
          refine wpAnyH_take (i := 16) (v := ?_) rfl (by kernel_rfl) (by kernel_rfl) (by kernel_rfl) (fun _ _ _ h => h) (Or.inl ⟨by kernel_rfl, ?_⟩) hS ?_
          rotate_left
          · intro wx hx
            obtain ⟨⟨hx0, hx1, hx2, hx3, hx4, hx5, hx6, hx7⟩, _⟩ := hx
            go_simp
            try with_reducible rfl
          refine wpAnyH_done (by kernel_rfl) ?_ _
          go_simp
          go_wp2
          go_ret
          exact ⟨by rw [E.out]; rfl, hS.2⟩
end Go.Proofs.YtpfmbfmlpoibeaaGreat
