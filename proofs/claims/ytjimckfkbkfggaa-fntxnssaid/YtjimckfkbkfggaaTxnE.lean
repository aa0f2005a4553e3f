/-
  Own text. Chapter 8, the program: itemsFault, the states, and TxnFault.
-/
import Derived.Test.YtjimckfkbkfggaaTxnD
namespace Go.Proofs.Ytjimckfkbkfggaa
open Go.RowKit

theorem row_ahead {w : World} {g o n cp k B : Nat} {F : Nat → Int} (hrow : Row w B 3 n F (.slice (some ⟨g, o, none⟩) n cp)) (hk : k ≤ n) : Row w B 3 k F (.slice (some ⟨g, o, none⟩) k cp) := by
  obtain ⟨ao, cp', hv, hrw⟩ := hrow
  simp only [Value.slice.injEq] at hv
  obtain ⟨hv, _, rfl⟩ := hv
  refine ⟨_, _, rfl, fun hk0 => ?_⟩
  obtain ⟨g', o', hv', hb', hg', hc'⟩ := hrw (by omega)
  rw [← hv] at hv'
  exact ⟨g', o', hv', hb', hg', fun p hp => hc' p (by omega)⟩
set_option maxRecDepth 100000 in
set_option maxHeartbeats 4000000 in
theorem itemsFault_is (y : Value) (B n : Nat) (F : Nat → Int) (w : World) (h : Row w B 3 n F y) (hcap : CapOk y) (hn : n ≤ 12) :
    Calls Try.prog 50 #[y] w fun e w' => e = .returned (.int .i64 (itemsF F n 0)) ∧ Below w.heap.size w w' := by
  obtain ⟨ao, cp, rfl⟩ := h.form
  have hcp : n ≤ cp := hcap _ _ _ rfl
  have H : Hid (Row w B 3 n F (.slice ao n cp)) := h
  clear h hcap
  obtain ⟨f, hf⟩ : ∃ f, itemsF F n 0 = f := ⟨_, rfl⟩
  have HF : Hid (itemsF F n 0 = f) := hf
  rw [hf]
  clear hf
  go_enter Try.func50, Try.ntmps50
  go_wp2
  go_loopw [9] (fun i wr => ∃ k : Nat, k ≤ n ∧ i = .int .i64 k ∧ Hid (itemsF F (n - k) k = f) ∧ Hid (Below w.heap.size w wr)) (fun i _ => n - (intOf i).toNat)
  case atStart => exact ⟨0, Nat.zero_le _, rfl, HF, Below.refl _ _⟩
  case round =>
    obtain ⟨k, hk, rfl, HS, HB⟩ := hrel
    by_cases hlt : k < n
    case neg =>
      have en : n - k = 0 := by omega
      have E : Hid (f = 0) := by
        have := HS.out
        rw [en, itemsF] at this
        exact this.symm
      clear HS HF
      go_wp2
      go_ret
      exact ⟨by rw [E.out]; rfl, HB.out⟩
    have hrow := H.out.later HB.out
    obtain ⟨g, o, rfl, _, hg, x0, x1, x2⟩ := hrow.at3 hlt
    have hm : Hid (0 < n - k ∧ n - k - 1 = n - (k + 1)) := ⟨by omega, by omega⟩
    obtain ⟨n0, N0⟩ : ∃ x, F (k * 3) = x := ⟨_, rfl⟩
    rw [N0] at x0
    obtain ⟨n1, N1⟩ : ∃ x, F (k * 3 + 1) = x := ⟨_, rfl⟩
    rw [N1] at x1
    obtain ⟨n2, N2⟩ : ∃ x, F (k * 3 + 2) = x := ⟨_, rfl⟩
    rw [N2] at x2
    have NN : Hid (F (k * 3) = n0 ∧ F (k * 3 + 1) = n1 ∧ F (k * 3 + 2) = n2) := ⟨N0, N1, N2⟩
    clear N0 N1 N2
    by_cases h5 : faultOf n0 = 0
    case neg =>
      obtain ⟨q, hq⟩ : ∃ q, faultOf n0 = q := ⟨_, rfl⟩
      have HQ : Hid (faultOf n0 = q) := hq
      have E : Hid (f = q) := by
        have E0 := HS.out
        rw [itemsF_bad (f := q) hm.out.1 (by rw [NN.out.1]; unfold itemF; rw [if_pos h5]; exact hq) (by rw [← hq]; exact h5)] at E0
        exact E0.symm
      have d : (q != 0) = true := bne_iff_ne.2 (by rw [← hq]; exact h5)
      clear h5 hq HS HF
      go_wp2_with fail
      refine (keyFault_any _ _).mono ?_
      rintro e w9 ⟨rfl, hw9⟩
      obtain rfl := hw9.symm
      rw [HQ.out]
      go_wp2
      go_ret
      refine ⟨by rw [E.out]; rfl, ?_⟩
      repeat (first | exact Below.refl _ _ | exact HB.out | refine Below.setCell ?_ (by first | omega | (simp <;> omega) | (have := HB.out.size; simp <;> omega)) _ | refine Below.alloc ?_ (by first | omega | (simp <;> omega) | (have := HB.out.size; simp <;> omega)) _)
    have HK : Hid (faultOf n0 = 0) := h5
    clear h5
    obtain ⟨q, hq⟩ : ∃ q, valF n1 n2 = q := ⟨_, rfl⟩
    have HQ : Hid (valF n1 n2 = q) := hq
    have HQ' : Hid (itemF (F (k * 3)) (F (k * 3 + 1)) (F (k * 3 + 2)) = q) := by
      unfold Hid
      rw [NN.out.1, NN.out.2.1, NN.out.2.2, itemF_val HK.out]; exact hq
    clear hq
    have hkc : k ≤ cp := by omega
    have HZ : Hid (w.heap.size ≤ wr.heap.size) := HB.out.size
    have RK : Hid (Row wr B 3 k F (.slice (some ⟨g, o, none⟩) k cp)) := row_ahead hrow hk
    clear hrow
    by_cases h5 : q = 0
    case neg =>
      have E : Hid (f = q) := by
        have E0 := HS.out
        rw [itemsF_bad hm.out.1 HQ'.out h5] at E0
        exact E0.symm
      have d : (q != 0) = true := bne_iff_ne.2 h5
      clear h5 HS HF HQ'
      go_wp2_with fail
      refine (keyFault_any _ _).mono ?_
      rintro e w9 ⟨rfl, hw9⟩
      obtain rfl := hw9.symm
      rw [HK.out]
      go_wp2_with fail
      refine (itemValue_is _ _ _ _).mono ?_
      rintro e w1 ⟨rfl, q1⟩
      rw [HQ.out]
      have HB1 : Hid (Below w.heap.size w w1) := by
        refine Below.trans ?_ (q1.mono ?_)
        · repeat (first | exact Below.refl _ _ | exact HB.out | refine Below.setCell ?_ (by first | omega | (simp <;> omega) | (have := HB.out.size; simp <;> omega)) _ | refine Below.alloc ?_ (by first | omega | (simp <;> omega) | (have := HB.out.size; simp <;> omega)) _)
        · have := HZ.out; simp; omega
      clear q1
      go_wp2
      go_ret
      exact ⟨by rw [E.out]; rfl, HB1.out⟩
    subst h5
    obtain ⟨r, hr⟩ : ∃ r, hasI F n0 k = r := ⟨_, rfl⟩
    have HR : Hid (hasI F n0 k = r) := hr
    have HR' : Hid (hasI F (F (k * 3)) k = r) := by unfold Hid; rw [NN.out.1]; exact hr
    clear hr
    have K0 : Hid (Blk3 (wr.alloc (.cells #[.int .i64 n0, .int .i64 n1, .int .i64 n2] 35)) wr.heap.size (.int .i64 n0) (.int .i64 n1) (.int .i64 n2)) := Blk3.new wr _ _ _ _
    cases r with
    | true =>
      have E : Hid (f = 6) := by
        have E0 := HS.out
        rw [itemsF_two hm.out.1 HQ'.out HR'.out] at E0
        exact E0.symm
      clear HS HF HQ' HR'
      go_wp2_with fail
      refine (keyFault_any _ _).mono ?_
      rintro e w9 ⟨rfl, hw9⟩
      obtain rfl := hw9.symm
      rw [HK.out]
      go_wp2_with fail
      refine (itemValue_is _ _ _ _).mono ?_
      rintro e w1 ⟨rfl, q1⟩
      rw [HQ.out]
      have HB1 : Hid (Below w.heap.size w w1) := by
        refine Below.trans ?_ (q1.mono ?_)
        · repeat (first | exact Below.refl _ _ | exact HB.out | refine Below.setCell ?_ (by first | omega | (simp <;> omega) | (have := HB.out.size; simp <;> omega)) _ | refine Below.alloc ?_ (by first | omega | (simp <;> omega) | (have := HB.out.size; simp <;> omega)) _)
        · have := HZ.out; simp; omega
      have HB2 : Hid (Below wr.heap.size wr w1) := by
        refine Below.trans ?_ (q1.mono ?_)
        · repeat (first | exact Below.refl _ _ | exact HB.out | refine Below.setCell ?_ (by first | omega | (simp <;> omega) | (have := HB.out.size; simp <;> omega)) _ | refine Below.alloc ?_ (by first | omega | (simp <;> omega) | (have := HB.out.size; simp <;> omega)) _)
        · simp
      have R1 : Hid (Row w1 B 3 k F (.slice (some ⟨g, o, none⟩) k cp)) := RK.out.later HB2.out
      obtain ⟨⟨k0, k1, k2⟩, _⟩ := K0.out.later q1
      have hlt1 := World.block_lt_of_cell? w1 _ k0
      clear q1 K0 HB
      have h0S : (fun x : World => x.cell? ⟨wr.heap.size, 0, none⟩ = some (.int .i64 n0) ∧ Below w1.heap.size w1 x) w1.drew := ⟨k0, Below.drew (Below.refl _ _)⟩
      go_wp2_with fail
      refine wp_region_held_drew (S := fun x : World => x.cell? ⟨wr.heap.size, 0, none⟩ = some (.int .i64 n0) ∧ Below w1.heap.size w1 x) (by kernel_rfl) h0S (fun hS => ?_)
      clear h0S
      refine wpAnyH_take (i := 0) (v := ?_) rfl (by kernel_rfl) (by kernel_rfl) (by kernel_rfl) (fun _ _ _ h => h) (Or.inl ⟨by kernel_rfl, ?_⟩) hS ?_
      rotate_left
      · intro wx hx
        obtain ⟨hx0, _⟩ := hx
        go_simp
        try with_reducible rfl
      refine wpAnyH_take (i := 1) (v := ?_) rfl (by kernel_rfl) (by kernel_rfl) (by kernel_rfl) (fun _ _ _ h => h) (Or.inl ⟨by kernel_rfl, ?_⟩) hS ?_
      rotate_left
      · intro wx hx
        obtain ⟨hx0, _⟩ := hx
        go_simp
        try with_reducible rfl
      refine wpAnyH_take (i := 2) (v := ?_) rfl (by kernel_rfl) (by kernel_rfl) (by kernel_rfl) (fun _ _ _ h => h) (Or.inl ⟨by kernel_rfl, ?_⟩) hS ?_
      rotate_left
      · intro wx hx
        obtain ⟨hx0, _⟩ := hx
        go_simp
        try with_reducible rfl
      refine wpAnyH_take (i := 3) (v := ?_) rfl (by kernel_rfl) (by kernel_rfl) (by kernel_rfl) (fun _ _ _ h => h) (Or.inl ⟨by kernel_rfl, ?_⟩) hS ?_
      rotate_left
      · intro wx hx
        obtain ⟨hx0, _⟩ := hx
        go_simp
        try with_reducible rfl
      refine wpAnyH_take (i := 4) (v := ?_) rfl (by kernel_rfl) (by kernel_rfl) (by kernel_rfl) (fun _ _ _ h => h) (Or.inl ⟨by kernel_rfl, ?_⟩) hS ?_
      rotate_left
      · intro wx hx
        obtain ⟨hx0, _⟩ := hx
        go_simp
        try with_reducible rfl
      refine wpAnyH_ready (rs := [5]) (by kernel_rfl) (by simp) ?_
      refine AllReadyH.cons rfl (fun K hK => ?_) AllReadyH.nil
      go_simp
      go_wp2_with fail
      refine (keyAmong_is _ B k F n0 true HR.out _ (R1.out.later hS.2) (by omega)).mono ?_
      rintro e w2 ⟨rfl, q2⟩
      go_wp2_with fail
      refine hK.out _ _ ⟨(q2.cell (p := ⟨wr.heap.size, 0, none⟩) (Nat.lt_of_lt_of_le hlt1 hS.2.size)).trans hS.1, hS.2.trans (q2.mono hS.2.size)⟩ (fun hS => ?_)
      clear hK K q2
      refine wpAnyH_done (by kernel_rfl) ?_ _
      have HB3 : Hid (Below w.heap.size w w2) := HB1.out.trans (hS.2.mono HB1.out.size)
      go_simp
      go_wp2
      go_ret
      exact ⟨by rw [E.out]; rfl, HB3.out⟩
    | false =>
      have E : Hid (itemsF F (n - (k + 1)) (k + 1) = f) := by
        have E0 := HS.out
        rw [itemsF_on hm.out.1 HQ'.out HR'.out, hm.out.2] at E0
        exact E0
      clear HS HF HQ' HR'
      go_wp2_with fail
      refine (keyFault_any _ _).mono ?_
      rintro e w9 ⟨rfl, hw9⟩
      obtain rfl := hw9.symm
      rw [HK.out]
      go_wp2_with fail
      refine (itemValue_is _ _ _ _).mono ?_
      rintro e w1 ⟨rfl, q1⟩
      rw [HQ.out]
      have HB1 : Hid (Below w.heap.size w w1) := by
        refine Below.trans ?_ (q1.mono ?_)
        · repeat (first | exact Below.refl _ _ | exact HB.out | refine Below.setCell ?_ (by first | omega | (simp <;> omega) | (have := HB.out.size; simp <;> omega)) _ | refine Below.alloc ?_ (by first | omega | (simp <;> omega) | (have := HB.out.size; simp <;> omega)) _)
        · have := HZ.out; simp; omega
      have HB2 : Hid (Below wr.heap.size wr w1) := by
        refine Below.trans ?_ (q1.mono ?_)
        · repeat (first | exact Below.refl _ _ | exact HB.out | refine Below.setCell ?_ (by first | omega | (simp <;> omega) | (have := HB.out.size; simp <;> omega)) _ | refine Below.alloc ?_ (by first | omega | (simp <;> omega) | (have := HB.out.size; simp <;> omega)) _)
        · simp
      have R1 : Hid (Row w1 B 3 k F (.slice (some ⟨g, o, none⟩) k cp)) := RK.out.later HB2.out
      obtain ⟨⟨k0, k1, k2⟩, _⟩ := K0.out.later q1
      have hlt1 := World.block_lt_of_cell? w1 _ k0
      clear q1 K0 HB
      have h0S : (fun x : World => x.cell? ⟨wr.heap.size, 0, none⟩ = some (.int .i64 n0) ∧ Below w1.heap.size w1 x) w1.drew := ⟨k0, Below.drew (Below.refl _ _)⟩
      go_wp2_with fail
      refine wp_region_held_drew (S := fun x : World => x.cell? ⟨wr.heap.size, 0, none⟩ = some (.int .i64 n0) ∧ Below w1.heap.size w1 x) (by kernel_rfl) h0S (fun hS => ?_)
      clear h0S
      refine wpAnyH_take (i := 0) (v := ?_) rfl (by kernel_rfl) (by kernel_rfl) (by kernel_rfl) (fun _ _ _ h => h) (Or.inl ⟨by kernel_rfl, ?_⟩) hS ?_
      rotate_left
      · intro wx hx
        obtain ⟨hx0, _⟩ := hx
        go_simp
        try with_reducible rfl
      refine wpAnyH_take (i := 1) (v := ?_) rfl (by kernel_rfl) (by kernel_rfl) (by kernel_rfl) (fun _ _ _ h => h) (Or.inl ⟨by kernel_rfl, ?_⟩) hS ?_
      rotate_left
      · intro wx hx
        obtain ⟨hx0, _⟩ := hx
        go_simp
        try with_reducible rfl
      refine wpAnyH_take (i := 2) (v := ?_) rfl (by kernel_rfl) (by kernel_rfl) (by kernel_rfl) (fun _ _ _ h => h) (Or.inl ⟨by kernel_rfl, ?_⟩) hS ?_
      rotate_left
      · intro wx hx
        obtain ⟨hx0, _⟩ := hx
        go_simp
        try with_reducible rfl
      refine wpAnyH_take (i := 3) (v := ?_) rfl (by kernel_rfl) (by kernel_rfl) (by kernel_rfl) (fun _ _ _ h => h) (Or.inl ⟨by kernel_rfl, ?_⟩) hS ?_
      rotate_left
      · intro wx hx
        obtain ⟨hx0, _⟩ := hx
        go_simp
        try with_reducible rfl
      refine wpAnyH_take (i := 4) (v := ?_) rfl (by kernel_rfl) (by kernel_rfl) (by kernel_rfl) (fun _ _ _ h => h) (Or.inl ⟨by kernel_rfl, ?_⟩) hS ?_
      rotate_left
      · intro wx hx
        obtain ⟨hx0, _⟩ := hx
        go_simp
        try with_reducible rfl
      refine wpAnyH_ready (rs := [5]) (by kernel_rfl) (by simp) ?_
      refine AllReadyH.cons rfl (fun K hK => ?_) AllReadyH.nil
      go_simp
      go_wp2_with fail
      refine (keyAmong_is _ B k F n0 false HR.out _ (R1.out.later hS.2) (by omega)).mono ?_
      rintro e w2 ⟨rfl, q2⟩
      go_wp2_with fail
      refine hK.out _ _ ⟨(q2.cell (p := ⟨wr.heap.size, 0, none⟩) (Nat.lt_of_lt_of_le hlt1 hS.2.size)).trans hS.1, hS.2.trans (q2.mono hS.2.size)⟩ (fun hS => ?_)
      clear hK K q2
      refine wpAnyH_done (by kernel_rfl) ?_ _
      have HB3 : Hid (Below w.heap.size w w2) := HB1.out.trans (hS.2.mono HB1.out.size)
      go_simp
      go_wp2
      go_roundw
      case rel => exact ⟨k + 1, by omega, by go_num, E, HB3⟩
      case measure => simp [intOf]; omega
end Go.Proofs.Ytjimckfkbkfggaa
