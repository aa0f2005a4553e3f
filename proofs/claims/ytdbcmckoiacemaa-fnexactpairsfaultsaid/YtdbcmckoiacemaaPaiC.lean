/-
  Own text. Chapter 11: what the program tells of a list of pairs.
-/
import Derived.Test.YtdbcmckoiacemaaPaiB
namespace Go.Proofs.Ytdbcmckoiacemaa
open Go.RowKit

theorem comparePairs_is (a b c d r : Int) (hr : cmpOf a c = r) (w : World) :
    Calls Try.prog 37 #[.agg #[.int .i64 a, .int .i64 b], .agg #[.int .i64 c, .int .i64 d]] w fun e w' => e = .returned (.int .i64 r) ∧ Below w.heap.size w w' := by
  have HR : Hid (cmpOf a c = r) := hr
  clear hr
  go_enter Try.func37, Try.ntmps37
  go_wp2_with fail
  refine (compare_is _ _ r HR.out _).mono ?_
  rintro e w9 ⟨rfl, hw9⟩
  obtain rfl := hw9.symm
  go_wp2
  go_ret
  exact ⟨rfl, (below_alloc _ _).alloc (by simp) _⟩
theorem cmpOf_geq {p n0 : Int} (h : n0 ≤ p) : decide (cmpOf p n0 ≥ 0) = true := by
  unfold cmpOf
  rw [if_neg (by omega)]
  split <;> exact decide_eq_true (by omega)
theorem cmpOf_lt {p n0 : Int} (h : ¬ n0 ≤ p) : decide (cmpOf p n0 ≥ 0) = false := by
  unfold cmpOf
  rw [if_pos (by omega)]
  exact decide_eq_false (by omega)
/-- The pair ahead in its row, the pair in its box, and that nothing old has turned. -/
def TwoP (w : World) (g o b : Nat) (p0 p1 n0 n1 : Int) (x : World) : Prop := (x.cell? ⟨g, o, none⟩ = some (.int .i64 p0) ∧ x.cell? ⟨g, o + 1, none⟩ = some (.int .i64 p1) ∧ x.cell? ⟨b, 0, none⟩ = some (.int .i64 n0) ∧ x.cell? ⟨b, 1, none⟩ = some (.int .i64 n1)) ∧ Below w.heap.size w x
theorem TwoP.later {w x x' : World} {g o b : Nat} {p0 p1 n0 n1 : Int} (h : TwoP w g o b p0 p1 n0 n1 x) (hb : Below x.heap.size x x') : TwoP w g o b p0 p1 n0 n1 x' := by
  obtain ⟨⟨h0, h1, h2, h3⟩, hy⟩ := h
  exact ⟨⟨(hb.cell (World.block_lt_of_cell? x _ h0)).trans h0, (hb.cell (World.block_lt_of_cell? x _ h1)).trans h1, (hb.cell (World.block_lt_of_cell? x _ h2)).trans h2, (hb.cell (World.block_lt_of_cell? x _ h3)).trans h3⟩, hy.trans (hb.mono hy.size)⟩
set_option maxRecDepth 100000 in
set_option maxHeartbeats 4000000 in
theorem implPairs_any (v : Value) (B n : Nat) (F : Nat → Int) (w : World) (h : Row w B 2 n F v) (hn : n ≤ 1048576) :
    Calls Try.prog 13 #[v] w fun e w' => e = .returned (.int .i64 (pairsF F n 0)) ∧ Below w.heap.size w w' := by
  obtain ⟨ao, cp, rfl⟩ := h.form
  have H : Hid (Row w B 2 n F (.slice ao n cp)) := h
  clear h
  obtain ⟨f, hf⟩ : ∃ f, pairsF F n 0 = f := ⟨_, rfl⟩
  have HF : Hid (pairsF F n 0 = f) := hf
  rw [hf]
  clear hf
  go_enter Try.func13, Try.ntmps13
  go_wp2
  go_loopw [8] (fun i wr => ∃ k : Nat, k ≤ n ∧ i = .int .i64 k ∧ Hid (pairsF F (n - k) k = f) ∧ Hid (Below w.heap.size w wr)) (fun i _ => n - (intOf i).toNat)
  case atStart => exact ⟨0, Nat.zero_le _, rfl, HF, Below.refl _ _⟩
  case round =>
    obtain ⟨k, hk, rfl, HS, HB⟩ := hrel
    by_cases hlt : k < n
    case neg =>
      have en : n - k = 0 := by omega
      have E : Hid (f = 0) := by
        have := HS.out
        rw [en, pairsF] at this
        exact this.symm
      clear HS HF
      go_wp2
      go_ret
      exact ⟨by rw [E.out]; rfl, HB.out⟩
    have hrow := H.out.later HB.out
    obtain ⟨g, o, rfl, _, hg, x0, x1⟩ := hrow.at2 hlt
    have hm : Hid (0 < n - k ∧ n - k - 1 = n - (k + 1)) := ⟨by omega, by omega⟩
    obtain ⟨n0, N0⟩ : ∃ x, F (k * 2) = x := ⟨_, rfl⟩
    rw [N0] at x0
    obtain ⟨n1, N1⟩ : ∃ x, F (k * 2 + 1) = x := ⟨_, rfl⟩
    rw [N1] at x1
    have NN : Hid (F (k * 2) = n0 ∧ F (k * 2 + 1) = n1) := ⟨N0, N1⟩
    clear N0 N1
    by_cases h5 : faultOf n0 = 0
    case neg =>
      obtain ⟨q, hq⟩ : ∃ q, faultOf n0 = q := ⟨_, rfl⟩
      have HQ : Hid (faultOf n0 = q) := hq
      have E : Hid (f = q) := by
        have E0 := HS.out
        rw [pairsF_bad (f := q) hm.out.1 (by rw [pairF_key NN.out.1 h5]; exact hq) (by rw [← hq]; exact h5)] at E0
        exact E0.symm
      have d : (q != 0) = true := bne_iff_ne.2 (by rw [← hq]; exact h5)
      clear h5 hq HS HF
      go_wp2_with fail
      refine (keyFault_any _ _).mono ?_
      rintro e w9 ⟨rfl, hw9⟩
      obtain rfl := hw9.symm
      rw [HQ.out]
      go_wp2
      go_ret
      refine ⟨by rw [E.out]; rfl, ?_⟩
      repeat (first | exact Below.refl _ _ | exact HB.out | refine below_dn ?_ _ | refine Below.setCell ?_ (by first | omega | (simp <;> omega) | (have := HB.out.size; simp <;> omega)) _ | refine Below.alloc ?_ (by first | omega | (simp <;> omega) | (have := HB.out.size; simp <;> omega)) _)
    have HK : Hid (faultOf n0 = 0) := h5
    clear h5
    by_cases h6 : 0 ≤ n1 ∧ n1 ≤ 9999
    case neg =>
      have E : Hid (f = 3) := by
        have E0 := HS.out
        rw [pairsF_bad (f := 3) hm.out.1 (pairF_val NN.out.1 NN.out.2 HK.out h6) (by omega)] at E0
        exact E0.symm
      have HV : Hid (decide ((0 : Int) ≤ n1 ∧ n1 ≤ 9999) = false) := decide_eq_false h6
      clear h6 HS HF
      go_wp2_with fail
      refine (keyFault_any _ _).mono ?_
      rintro e w9 ⟨rfl, hw9⟩
      obtain rfl := hw9.symm
      rw [HK.out]
      go_wp2_with fail
      refine (isValueT_is _ false HV.out _).mono ?_
      rintro e w9 ⟨rfl, hw9⟩
      obtain rfl := hw9.symm
      go_wp2
      go_ret
      refine ⟨by rw [E.out]; rfl, ?_⟩
      repeat (first | exact Below.refl _ _ | exact HB.out | refine below_dn ?_ _ | refine Below.setCell ?_ (by first | omega | (simp <;> omega) | (have := HB.out.size; simp <;> omega)) _ | refine Below.alloc ?_ (by first | omega | (simp <;> omega) | (have := HB.out.size; simp <;> omega)) _)
    have HV : Hid (decide ((0 : Int) ≤ n1 ∧ n1 ≤ 9999) = true) := decide_eq_true h6
    rcases Nat.eq_zero_or_pos k with hk0 | hk0
    · have E : Hid (pairsF F (n - (k + 1)) (k + 1) = f) := by
        have E0 := HS.out
        rw [pairsF_on hm.out.1 (pairF_ok NN.out.1 NN.out.2 rfl HK.out h6 (fun q => absurd q.1 (by omega))), hm.out.2] at E0
        exact E0
      clear h6 HS HF
      subst hk0
      simp only [Nat.zero_mul, Nat.add_zero] at x0 x1
      go_wp2_with fail
      refine (keyFault_any _ _).mono ?_
      rintro e w9 ⟨rfl, hw9⟩
      obtain rfl := hw9.symm
      rw [HK.out]
      go_wp2_with fail
      refine (isValueT_is _ true HV.out _).mono ?_
      rintro e w9 ⟨rfl, hw9⟩
      obtain rfl := hw9.symm
      go_wp2_with fail
      go_quiet (fail)
      go_wp2
      go_roundw
      case rel =>
        refine ⟨0 + 1, by omega, by go_num, E, ?_⟩
        show Below _ _ _
        repeat (first | exact Below.refl _ _ | exact HB.out | refine below_dn ?_ _ | refine Below.setCell ?_ (by first | omega | (simp <;> omega) | (have := HB.out.size; simp <;> omega)) _ | refine Below.alloc ?_ (by first | omega | (simp <;> omega) | (have := HB.out.size; simp <;> omega)) _)
      case measure => simp [intOf]; omega
    obtain ⟨g', o', hgo, _, _, p0, p1⟩ := hrow.at2 (k := k - 1) (by omega)
    obtain ⟨rfl, rfl⟩ : g = g' ∧ o = o' := by simpa using hgo
    obtain ⟨p, P⟩ : ∃ x, F ((k - 1) * 2) = x := ⟨_, rfl⟩
    rw [P] at p0
    obtain ⟨p', P'⟩ : ∃ x, F ((k - 1) * 2 + 1) = x := ⟨_, rfl⟩
    rw [P'] at p1
    have hsub : ((k : Int) - 1) = ((k - 1 : Nat) : Int) := by omega
    have hwr : IntKind.i64.wrap ((k - 1 : Nat) : Int) = ((k - 1 : Nat) : Int) := by simp [IntKind.wrap, IntKind.bits, IntKind.signed]; omega
    have hlt' : k - 1 < n := by omega
    have d : decide ((k : Int) > 0) = true := decide_eq_true (by omega)
    clear hgo hrow P'
    by_cases h7 : n0 ≤ p
    · have E : Hid (f = 1) := by
        have E0 := HS.out
        rw [pairsF_bad (f := 1) hm.out.1 (pairF_form NN.out.1 NN.out.2 P HK.out h6 hk0 h7) (by omega)] at E0
        exact E0.symm
      have HC : Hid (decide (cmpOf p n0 ≥ 0) = true) := cmpOf_geq h7
      clear h6 HS HF
      go_wp2_with fail
      refine (keyFault_any _ _).mono ?_
      rintro e w9 ⟨rfl, hw9⟩
      obtain rfl := hw9.symm
      rw [HK.out]
      go_wp2_with fail
      refine (isValueT_is _ true HV.out _).mono ?_
      rintro e w9 ⟨rfl, hw9⟩
      obtain rfl := hw9.symm
      go_wp2_with fail
      refine wp_region_held_drew (S := TwoP w g (o + (k - 1) * 2) wr.heap.size p p' n0 n1) (by kernel_rfl) ?_ (fun hS => ?_)
      · refine ⟨⟨?_, ?_, ?_, ?_⟩, ?_⟩
        · go_simp
        · go_simp
        · go_simp
        · go_simp
        · refine Below.drew ?_
          repeat (first | exact Below.refl _ _ | exact HB.out | refine below_dn ?_ _ | refine Below.setCell ?_ (by first | omega | (simp <;> omega) | (have := HB.out.size; simp <;> omega)) _ | refine Below.alloc ?_ (by first | omega | (simp <;> omega) | (have := HB.out.size; simp <;> omega)) _)
      refine wpAnyH_take (i := 0) (v := ?_) rfl (by kernel_rfl) (by kernel_rfl) (by kernel_rfl) (fun _ _ _ h => h) (Or.inl ⟨by kernel_rfl, ?_⟩) hS ?_
      rotate_left
      · intro wx hx
        obtain ⟨⟨hx0, hx1, hx2, hx3⟩, _⟩ := hx
        go_simp
        try with_reducible rfl
      refine wpAnyH_take (i := 1) (v := ?_) rfl (by kernel_rfl) (by kernel_rfl) (by kernel_rfl) (fun _ _ _ h => h) (Or.inl ⟨by kernel_rfl, ?_⟩) hS ?_
      rotate_left
      · intro wx hx
        obtain ⟨⟨hx0, hx1, hx2, hx3⟩, _⟩ := hx
        go_simp
        try with_reducible rfl
      refine wpAnyH_take (i := 2) (v := ?_) rfl (by kernel_rfl) (by kernel_rfl) (by kernel_rfl) (fun _ _ _ h => h) (Or.inl ⟨by kernel_rfl, ?_⟩) hS ?_
      rotate_left
      · intro wx hx
        obtain ⟨⟨hx0, hx1, hx2, hx3⟩, _⟩ := hx
        go_simp
        try with_reducible rfl
      refine wpAnyH_take (i := 3) (v := ?_) rfl (by kernel_rfl) (by kernel_rfl) (by kernel_rfl) (fun _ _ _ h => h) (Or.inl ⟨by kernel_rfl, ?_⟩) hS ?_
      rotate_left
      · intro wx hx
        obtain ⟨⟨hx0, hx1, hx2, hx3⟩, _⟩ := hx
        go_simp
        try with_reducible rfl
      refine wpAnyH_take (i := 4) (v := ?_) rfl (by kernel_rfl) (by kernel_rfl) (by kernel_rfl) (fun _ _ _ h => h) (Or.inl ⟨by kernel_rfl, ?_⟩) hS ?_
      rotate_left
      · intro wx hx
        obtain ⟨⟨hx0, hx1, hx2, hx3⟩, _⟩ := hx
        go_simp
        try with_reducible rfl
      refine wpAnyH_take (i := 5) (v := ?_) rfl (by kernel_rfl) (by kernel_rfl) (by kernel_rfl) (fun _ _ _ h => h) (Or.inl ⟨by kernel_rfl, ?_⟩) hS ?_
      rotate_left
      · intro wx hx
        obtain ⟨⟨hx0, hx1, hx2, hx3⟩, _⟩ := hx
        go_simp
        try with_reducible rfl
      refine wpAnyH_take (i := 6) (v := ?_) rfl (by kernel_rfl) (by kernel_rfl) (by kernel_rfl) (fun _ _ _ h => h) (Or.inl ⟨by kernel_rfl, ?_⟩) hS ?_
      rotate_left
      · intro wx hx
        obtain ⟨⟨hx0, hx1, hx2, hx3⟩, _⟩ := hx
        go_simp
        try with_reducible rfl
      refine wpAnyH_take (i := 7) (v := ?_) rfl (by kernel_rfl) (by kernel_rfl) (by kernel_rfl) (fun _ _ _ h => h) (Or.inl ⟨by kernel_rfl, ?_⟩) hS ?_
      rotate_left
      · intro wx hx
        obtain ⟨⟨hx0, hx1, hx2, hx3⟩, _⟩ := hx
        go_simp
        try with_reducible rfl
      refine wpAnyH_take (i := 8) (v := ?_) rfl (by kernel_rfl) (by kernel_rfl) (by kernel_rfl) (fun _ _ _ h => h) (Or.inl ⟨by kernel_rfl, ?_⟩) hS ?_
      rotate_left
      · intro wx hx
        obtain ⟨⟨hx0, hx1, hx2, hx3⟩, _⟩ := hx
        go_simp
        try with_reducible rfl
      refine wpAnyH_ready (rs := [9]) (by kernel_rfl) (by simp) ?_
      refine AllReadyH.cons rfl (fun K hK => ?_) AllReadyH.nil
      go_simp
      go_wp2_with fail
      refine (comparePairs_is _ _ _ _ (cmpOf p n0) rfl _).mono ?_
      rintro e w2 ⟨rfl, q2⟩
      go_wp2_with fail
      refine hK.out _ _ (hS.later q2) (fun hS => ?_)
      clear hK K q2
      refine wpAnyH_take (i := 10) (v := ?_) rfl (by kernel_rfl) (by kernel_rfl) (by kernel_rfl) (fun _ _ _ h => h) (Or.inl ⟨by kernel_rfl, ?_⟩) hS ?_
      rotate_left
      · intro wx hx
        obtain ⟨⟨hx0, hx1, hx2, hx3⟩, _⟩ := hx
        go_simp
        try with_reducible rfl
      rw [HC.out]
      refine wpAnyH_take (i := 11) (v := ?_) rfl (by kernel_rfl) (by kernel_rfl) (by kernel_rfl) (fun _ _ _ h => h) (Or.inl ⟨by kernel_rfl, ?_⟩) hS ?_
      rotate_left
      · intro wx hx
        obtain ⟨⟨hx0, hx1, hx2, hx3⟩, _⟩ := hx
        go_simp
        try with_reducible rfl
      refine wpAnyH_done (by kernel_rfl) ?_ _
      go_simp
      go_wp2
      go_ret
      exact ⟨by rw [E.out]; rfl, hS.2⟩
    · have E : Hid (pairsF F (n - (k + 1)) (k + 1) = f) := by
        have E0 := HS.out
        rw [pairsF_on hm.out.1 (pairF_ok NN.out.1 NN.out.2 P HK.out h6 (fun q => h7 q.2)), hm.out.2] at E0
        exact E0
      have HC : Hid (decide (cmpOf p n0 ≥ 0) = false) := cmpOf_lt h7
      clear h6 HS HF
      go_wp2_with fail
      refine (keyFault_any _ _).mono ?_
      rintro e w9 ⟨rfl, hw9⟩
      obtain rfl := hw9.symm
      rw [HK.out]
      go_wp2_with fail
      refine (isValueT_is _ true HV.out _).mono ?_
      rintro e w9 ⟨rfl, hw9⟩
      obtain rfl := hw9.symm
      go_wp2_with fail
      refine wp_region_held_drew (S := TwoP w g (o + (k - 1) * 2) wr.heap.size p p' n0 n1) (by kernel_rfl) ?_ (fun hS => ?_)
      · refine ⟨⟨?_, ?_, ?_, ?_⟩, ?_⟩
        · go_simp
        · go_simp
        · go_simp
        · go_simp
        · refine Below.drew ?_
          repeat (first | exact Below.refl _ _ | exact HB.out | refine below_dn ?_ _ | refine Below.setCell ?_ (by first | omega | (simp <;> omega) | (have := HB.out.size; simp <;> omega)) _ | refine Below.alloc ?_ (by first | omega | (simp <;> omega) | (have := HB.out.size; simp <;> omega)) _)
      refine wpAnyH_take (i := 0) (v := ?_) rfl (by kernel_rfl) (by kernel_rfl) (by kernel_rfl) (fun _ _ _ h => h) (Or.inl ⟨by kernel_rfl, ?_⟩) hS ?_
      rotate_left
      · intro wx hx
        obtain ⟨⟨hx0, hx1, hx2, hx3⟩, _⟩ := hx
        go_simp
        try with_reducible rfl
      refine wpAnyH_take (i := 1) (v := ?_) rfl (by kernel_rfl) (by kernel_rfl) (by kernel_rfl) (fun _ _ _ h => h) (Or.inl ⟨by kernel_rfl, ?_⟩) hS ?_
      rotate_left
      · intro wx hx
        obtain ⟨⟨hx0, hx1, hx2, hx3⟩, _⟩ := hx
        go_simp
        try with_reducible rfl
      refine wpAnyH_take (i := 2) (v := ?_) rfl (by kernel_rfl) (by kernel_rfl) (by kernel_rfl) (fun _ _ _ h => h) (Or.inl ⟨by kernel_rfl, ?_⟩) hS ?_
      rotate_left
      · intro wx hx
        obtain ⟨⟨hx0, hx1, hx2, hx3⟩, _⟩ := hx
        go_simp
        try with_reducible rfl
      refine wpAnyH_take (i := 3) (v := ?_) rfl (by kernel_rfl) (by kernel_rfl) (by kernel_rfl) (fun _ _ _ h => h) (Or.inl ⟨by kernel_rfl, ?_⟩) hS ?_
      rotate_left
      · intro wx hx
        obtain ⟨⟨hx0, hx1, hx2, hx3⟩, _⟩ := hx
        go_simp
        try with_reducible rfl
      refine wpAnyH_take (i := 4) (v := ?_) rfl (by kernel_rfl) (by kernel_rfl) (by kernel_rfl) (fun _ _ _ h => h) (Or.inl ⟨by kernel_rfl, ?_⟩) hS ?_
      rotate_left
      · intro wx hx
        obtain ⟨⟨hx0, hx1, hx2, hx3⟩, _⟩ := hx
        go_simp
        try with_reducible rfl
      refine wpAnyH_take (i := 5) (v := ?_) rfl (by kernel_rfl) (by kernel_rfl) (by kernel_rfl) (fun _ _ _ h => h) (Or.inl ⟨by kernel_rfl, ?_⟩) hS ?_
      rotate_left
      · intro wx hx
        obtain ⟨⟨hx0, hx1, hx2, hx3⟩, _⟩ := hx
        go_simp
        try with_reducible rfl
      refine wpAnyH_take (i := 6) (v := ?_) rfl (by kernel_rfl) (by kernel_rfl) (by kernel_rfl) (fun _ _ _ h => h) (Or.inl ⟨by kernel_rfl, ?_⟩) hS ?_
      rotate_left
      · intro wx hx
        obtain ⟨⟨hx0, hx1, hx2, hx3⟩, _⟩ := hx
        go_simp
        try with_reducible rfl
      refine wpAnyH_take (i := 7) (v := ?_) rfl (by kernel_rfl) (by kernel_rfl) (by kernel_rfl) (fun _ _ _ h => h) (Or.inl ⟨by kernel_rfl, ?_⟩) hS ?_
      rotate_left
      · intro wx hx
        obtain ⟨⟨hx0, hx1, hx2, hx3⟩, _⟩ := hx
        go_simp
        try with_reducible rfl
      refine wpAnyH_take (i := 8) (v := ?_) rfl (by kernel_rfl) (by kernel_rfl) (by kernel_rfl) (fun _ _ _ h => h) (Or.inl ⟨by kernel_rfl, ?_⟩) hS ?_
      rotate_left
      · intro wx hx
        obtain ⟨⟨hx0, hx1, hx2, hx3⟩, _⟩ := hx
        go_simp
        try with_reducible rfl
      refine wpAnyH_ready (rs := [9]) (by kernel_rfl) (by simp) ?_
      refine AllReadyH.cons rfl (fun K hK => ?_) AllReadyH.nil
      go_simp
      go_wp2_with fail
      refine (comparePairs_is _ _ _ _ (cmpOf p n0) rfl _).mono ?_
      rintro e w2 ⟨rfl, q2⟩
      go_wp2_with fail
      refine hK.out _ _ (hS.later q2) (fun hS => ?_)
      clear hK K q2
      refine wpAnyH_take (i := 10) (v := ?_) rfl (by kernel_rfl) (by kernel_rfl) (by kernel_rfl) (fun _ _ _ h => h) (Or.inl ⟨by kernel_rfl, ?_⟩) hS ?_
      rotate_left
      · intro wx hx
        obtain ⟨⟨hx0, hx1, hx2, hx3⟩, _⟩ := hx
        go_simp
        try with_reducible rfl
      rw [HC.out]
      refine wpAnyH_take (i := 11) (v := ?_) rfl (by kernel_rfl) (by kernel_rfl) (by kernel_rfl) (fun _ _ _ h => h) (Or.inl ⟨by kernel_rfl, ?_⟩) hS ?_
      rotate_left
      · intro wx hx
        obtain ⟨⟨hx0, hx1, hx2, hx3⟩, _⟩ := hx
        go_simp
        try with_reducible rfl
      refine wpAnyH_done (by kernel_rfl) ?_ _
      go_simp
      go_wp2
      go_roundw
      case rel => exact ⟨k + 1, by omega, by go_num, E, hS.2⟩
      case measure => simp [intOf]; omega
end Go.Proofs.Ytdbcmckoiacemaa
