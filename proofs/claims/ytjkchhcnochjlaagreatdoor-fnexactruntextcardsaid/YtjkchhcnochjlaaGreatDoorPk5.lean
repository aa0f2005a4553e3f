/-
  Own text, merged of TxnE, RunA, OpenX, TxsB, OrcA, OrcB, WldE, WldF, TxsC, RunB.
-/
import Derived.Test.YtjkchhcnochjlaaGreatDoorPk4
namespace Go.Proofs.YtjkchhcnochjlaaGreatDoor
open Go.RowKit

theorem row_ahead {w : World} {g o n cp k B : Nat} {F : Nat → Int} (hrow : Row w B 3 n F (.slice (some ⟨g, o, none⟩) n cp)) (hk : k ≤ n) : Row w B 3 k F (.slice (some ⟨g, o, none⟩) k cp) := by
  obtain ⟨ao, cp', hv, hrw⟩ := hrow
  simp only [Value.slice.injEq] at hv
  obtain ⟨hv, _, rfl⟩ := hv
  refine ⟨_, _, rfl, fun hk0 => ?_⟩
  obtain ⟨g', o', hv', hb', hg', hc'⟩ := hrw (by omega)
  rw [← hv] at hv'
  exact ⟨g', o', hv', hb', hg', fun p hp => hc' p (by omega)⟩
set_option maxRecDepth 100000 in
set_option maxHeartbeats 4000000 in
theorem itemsFault_is (y : Value) (B n : Nat) (F : Nat → Int) (w : World) (h : Row w B 3 n F y) (hcap : CapOk y) (hn : n ≤ 12) :
    Calls Tryz.prog 136 #[y] w fun e w' => e = .returned (.int .i64 (itemsF F n 0)) ∧ Below w.heap.size w w' := by
  obtain ⟨ao, cp, rfl⟩ := h.form
  have hcp : n ≤ cp := hcap _ _ _ rfl
  have H : Hid (Row w B 3 n F (.slice ao n cp)) := h
  clear h hcap
  obtain ⟨f, hf⟩ : ∃ f, itemsF F n 0 = f := ⟨_, rfl⟩
  have HF : Hid (itemsF F n 0 = f) := hf
  rw [hf]
  clear hf
  go_enter Tryz.func136, Tryz.ntmps136
  go_wp2
  go_loopw [9] (fun i wr => ∃ k : Nat, k ≤ n ∧ i = .int .i64 k ∧ Hid (itemsF F (n - k) k = f) ∧ Hid (Below w.heap.size w wr)) (fun i _ => n - (intOf i).toNat)
  case atStart => exact ⟨0, Nat.zero_le _, rfl, HF, Below.refl _ _⟩
  case round =>
    obtain ⟨k, hk, rfl, HS, HB⟩ := hrel
    by_cases hlt : k < n
    case neg =>
      have en : n - k = 0 := by omega
      have E : Hid (f = 0) := by
        have := HS.out
        rw [en, itemsF] at this
        exact this.symm
      clear HS HF
      go_wp2
      go_ret
      exact ⟨by rw [E.out]; rfl, HB.out⟩
    have hrow := H.out.later HB.out
    obtain ⟨g, o, rfl, _, hg, x0, x1, x2⟩ := hrow.at3 hlt
    have hm : Hid (0 < n - k ∧ n - k - 1 = n - (k + 1)) := ⟨by omega, by omega⟩
    obtain ⟨n0, N0⟩ : ∃ x, F (k * 3) = x := ⟨_, rfl⟩
    rw [N0] at x0
    obtain ⟨n1, N1⟩ : ∃ x, F (k * 3 + 1) = x := ⟨_, rfl⟩
    rw [N1] at x1
    obtain ⟨n2, N2⟩ : ∃ x, F (k * 3 + 2) = x := ⟨_, rfl⟩
    rw [N2] at x2
    have NN : Hid (F (k * 3) = n0 ∧ F (k * 3 + 1) = n1 ∧ F (k * 3 + 2) = n2) := ⟨N0, N1, N2⟩
    clear N0 N1 N2
    by_cases h5 : faultOf n0 = 0
    case neg =>
      obtain ⟨q, hq⟩ : ∃ q, faultOf n0 = q := ⟨_, rfl⟩
      have HQ : Hid (faultOf n0 = q) := hq
      have E : Hid (f = q) := by
        have E0 := HS.out
        rw [itemsF_bad (f := q) hm.out.1 (by rw [NN.out.1]; unfold itemF; rw [if_pos h5]; exact hq) (by rw [← hq]; exact h5)] at E0
        exact E0.symm
      have d : (q != 0) = true := bne_iff_ne.2 (by rw [← hq]; exact h5)
      clear h5 hq HS HF
      go_wp2_with fail
      refine (keyFault_any _ _).mono ?_
      rintro e w9 ⟨rfl, hw9⟩
      obtain rfl := hw9.symm
      rw [HQ.out]
      go_wp2
      go_ret
      refine ⟨by rw [E.out]; rfl, ?_⟩
      repeat (first | exact Below.refl _ _ | exact HB.out | refine Below.setCell ?_ (by first | omega | (simp <;> omega) | (have := HB.out.size; simp <;> omega)) _ | refine Below.alloc ?_ (by first | omega | (simp <;> omega) | (have := HB.out.size; simp <;> omega)) _)
    have HK : Hid (faultOf n0 = 0) := h5
    clear h5
    obtain ⟨q, hq⟩ : ∃ q, valF n1 n2 = q := ⟨_, rfl⟩
    have HQ : Hid (valF n1 n2 = q) := hq
    have HQ' : Hid (itemF (F (k * 3)) (F (k * 3 + 1)) (F (k * 3 + 2)) = q) := by
      unfold Hid
      rw [NN.out.1, NN.out.2.1, NN.out.2.2, itemF_val HK.out]; exact hq
    clear hq
    have hkc : k ≤ cp := by omega
    have HZ : Hid (w.heap.size ≤ wr.heap.size) := HB.out.size
    have RK : Hid (Row wr B 3 k F (.slice (some ⟨g, o, none⟩) k cp)) := row_ahead hrow hk
    clear hrow
    by_cases h5 : q = 0
    case neg =>
      have E : Hid (f = q) := by
        have E0 := HS.out
        rw [itemsF_bad hm.out.1 HQ'.out h5] at E0
        exact E0.symm
      have d : (q != 0) = true := bne_iff_ne.2 h5
      clear h5 HS HF HQ'
      go_wp2_with fail
      refine (keyFault_any _ _).mono ?_
      rintro e w9 ⟨rfl, hw9⟩
      obtain rfl := hw9.symm
      rw [HK.out]
      go_wp2_with fail
      refine (itemValue_is _ _ _ _).mono ?_
      rintro e w1 ⟨rfl, q1⟩
      rw [HQ.out]
      have HB1 : Hid (Below w.heap.size w w1) := by
        refine Below.trans ?_ (q1.mono ?_)
        · repeat (first | exact Below.refl _ _ | exact HB.out | refine Below.setCell ?_ (by first | omega | (simp <;> omega) | (have := HB.out.size; simp <;> omega)) _ | refine Below.alloc ?_ (by first | omega | (simp <;> omega) | (have := HB.out.size; simp <;> omega)) _)
        · have := HZ.out; simp; omega
      clear q1
      go_wp2
      go_ret
      exact ⟨by rw [E.out]; rfl, HB1.out⟩
    subst h5
    obtain ⟨r, hr⟩ : ∃ r, hasI F n0 k = r := ⟨_, rfl⟩
    have HR : Hid (hasI F n0 k = r) := hr
    have HR' : Hid (hasI F (F (k * 3)) k = r) := by unfold Hid; rw [NN.out.1]; exact hr
    clear hr
    have K0 : Hid (Blk3 (wr.alloc (.cells #[.int .i64 n0, .int .i64 n1, .int .i64 n2] 116)) wr.heap.size (.int .i64 n0) (.int .i64 n1) (.int .i64 n2)) := Blk3.new wr _ _ _ _
    cases r with
    | true =>
      have E : Hid (f = 6) := by
        have E0 := HS.out
        rw [itemsF_two hm.out.1 HQ'.out HR'.out] at E0
        exact E0.symm
      clear HS HF HQ' HR'
      go_wp2_with fail
      refine (keyFault_any _ _).mono ?_
      rintro e w9 ⟨rfl, hw9⟩
      obtain rfl := hw9.symm
      rw [HK.out]
      go_wp2_with fail
      refine (itemValue_is _ _ _ _).mono ?_
      rintro e w1 ⟨rfl, q1⟩
      rw [HQ.out]
      have HB1 : Hid (Below w.heap.size w w1) := by
        refine Below.trans ?_ (q1.mono ?_)
        · repeat (first | exact Below.refl _ _ | exact HB.out | refine Below.setCell ?_ (by first | omega | (simp <;> omega) | (have := HB.out.size; simp <;> omega)) _ | refine Below.alloc ?_ (by first | omega | (simp <;> omega) | (have := HB.out.size; simp <;> omega)) _)
        · have := HZ.out; simp; omega
      have HB2 : Hid (Below wr.heap.size wr w1) := by
        refine Below.trans ?_ (q1.mono ?_)
        · repeat (first | exact Below.refl _ _ | exact HB.out | refine Below.setCell ?_ (by first | omega | (simp <;> omega) | (have := HB.out.size; simp <;> omega)) _ | refine Below.alloc ?_ (by first | omega | (simp <;> omega) | (have := HB.out.size; simp <;> omega)) _)
        · simp
      have R1 : Hid (Row w1 B 3 k F (.slice (some ⟨g, o, none⟩) k cp)) := RK.out.later HB2.out
      obtain ⟨⟨k0, k1, k2⟩, _⟩ := K0.out.later q1
      have hlt1 := World.block_lt_of_cell? w1 _ k0
      clear q1 K0 HB
      have h0S : (fun x : World => x.cell? ⟨wr.heap.size, 0, none⟩ = some (.int .i64 n0) ∧ Below w1.heap.size w1 x) w1.drew := ⟨k0, Below.drew (Below.refl _ _)⟩
      go_wp2_with fail
      refine wp_region_held_drew (S := fun x : World => x.cell? ⟨wr.heap.size, 0, none⟩ = some (.int .i64 n0) ∧ Below w1.heap.size w1 x) (by kernel_rfl) h0S (fun hS => ?_)
      clear h0S
      refine tkH 0 ?_ hS (fun wx hx => ?_) ?_; rotate_left
      · obtain ⟨hx0, _⟩ := hx; go_simp; try with_reducible rfl
      refine tkH 1 ?_ hS (fun wx hx => ?_) ?_; rotate_left
      · obtain ⟨hx0, _⟩ := hx; go_simp; try with_reducible rfl
      refine tkH 2 ?_ hS (fun wx hx => ?_) ?_; rotate_left
      · obtain ⟨hx0, _⟩ := hx; go_simp; try with_reducible rfl
      refine tkH 3 ?_ hS (fun wx hx => ?_) ?_; rotate_left
      · obtain ⟨hx0, _⟩ := hx; go_simp; try with_reducible rfl
      refine tkH 4 ?_ hS (fun wx hx => ?_) ?_; rotate_left
      · obtain ⟨hx0, _⟩ := hx; go_simp; try with_reducible rfl
      refine rdH 5 (fun K hK => ?_)
      go_simp
      go_wp2_with fail
      refine (keyAmong_is _ B k F n0 true HR.out _ (R1.out.later hS.2) (by omega)).mono ?_
      rintro e w2 ⟨rfl, q2⟩
      go_wp2_with fail
      refine hK.out _ _ ⟨(q2.cell (p := ⟨wr.heap.size, 0, none⟩) (Nat.lt_of_lt_of_le hlt1 hS.2.size)).trans hS.1, hS.2.trans (q2.mono hS.2.size)⟩ (fun hS => ?_)
      clear hK K q2
      refine wpAnyH_done (by kernel_rfl) ?_ _
      have HB3 : Hid (Below w.heap.size w w2) := HB1.out.trans (hS.2.mono HB1.out.size)
      go_simp
      go_wp2
      go_ret
      exact ⟨by rw [E.out]; rfl, HB3.out⟩
    | false =>
      have E : Hid (itemsF F (n - (k + 1)) (k + 1) = f) := by
        have E0 := HS.out
        rw [itemsF_on hm.out.1 HQ'.out HR'.out, hm.out.2] at E0
        exact E0
      clear HS HF HQ' HR'
      go_wp2_with fail
      refine (keyFault_any _ _).mono ?_
      rintro e w9 ⟨rfl, hw9⟩
      obtain rfl := hw9.symm
      rw [HK.out]
      go_wp2_with fail
      refine (itemValue_is _ _ _ _).mono ?_
      rintro e w1 ⟨rfl, q1⟩
      rw [HQ.out]
      have HB1 : Hid (Below w.heap.size w w1) := by
        refine Below.trans ?_ (q1.mono ?_)
        · repeat (first | exact Below.refl _ _ | exact HB.out | refine Below.setCell ?_ (by first | omega | (simp <;> omega) | (have := HB.out.size; simp <;> omega)) _ | refine Below.alloc ?_ (by first | omega | (simp <;> omega) | (have := HB.out.size; simp <;> omega)) _)
        · have := HZ.out; simp; omega
      have HB2 : Hid (Below wr.heap.size wr w1) := by
        refine Below.trans ?_ (q1.mono ?_)
        · repeat (first | exact Below.refl _ _ | exact HB.out | refine Below.setCell ?_ (by first | omega | (simp <;> omega) | (have := HB.out.size; simp <;> omega)) _ | refine Below.alloc ?_ (by first | omega | (simp <;> omega) | (have := HB.out.size; simp <;> omega)) _)
        · simp
      have R1 : Hid (Row w1 B 3 k F (.slice (some ⟨g, o, none⟩) k cp)) := RK.out.later HB2.out
      obtain ⟨⟨k0, k1, k2⟩, _⟩ := K0.out.later q1
      have hlt1 := World.block_lt_of_cell? w1 _ k0
      clear q1 K0 HB
      have h0S : (fun x : World => x.cell? ⟨wr.heap.size, 0, none⟩ = some (.int .i64 n0) ∧ Below w1.heap.size w1 x) w1.drew := ⟨k0, Below.drew (Below.refl _ _)⟩
      go_wp2_with fail
      refine wp_region_held_drew (S := fun x : World => x.cell? ⟨wr.heap.size, 0, none⟩ = some (.int .i64 n0) ∧ Below w1.heap.size w1 x) (by kernel_rfl) h0S (fun hS => ?_)
      clear h0S
      refine tkH 0 ?_ hS (fun wx hx => ?_) ?_; rotate_left
      · obtain ⟨hx0, _⟩ := hx; go_simp; try with_reducible rfl
      refine tkH 1 ?_ hS (fun wx hx => ?_) ?_; rotate_left
      · obtain ⟨hx0, _⟩ := hx; go_simp; try with_reducible rfl
      refine tkH 2 ?_ hS (fun wx hx => ?_) ?_; rotate_left
      · obtain ⟨hx0, _⟩ := hx; go_simp; try with_reducible rfl
      refine tkH 3 ?_ hS (fun wx hx => ?_) ?_; rotate_left
      · obtain ⟨hx0, _⟩ := hx; go_simp; try with_reducible rfl
      refine tkH 4 ?_ hS (fun wx hx => ?_) ?_; rotate_left
      · obtain ⟨hx0, _⟩ := hx; go_simp; try with_reducible rfl
      refine rdH 5 (fun K hK => ?_)
      go_simp
      go_wp2_with fail
      refine (keyAmong_is _ B k F n0 false HR.out _ (R1.out.later hS.2) (by omega)).mono ?_
      rintro e w2 ⟨rfl, q2⟩
      go_wp2_with fail
      refine hK.out _ _ ⟨(q2.cell (p := ⟨wr.heap.size, 0, none⟩) (Nat.lt_of_lt_of_le hlt1 hS.2.size)).trans hS.1, hS.2.trans (q2.mono hS.2.size)⟩ (fun hS => ?_)
      clear hK K q2
      refine wpAnyH_done (by kernel_rfl) ?_ _
      have HB3 : Hid (Below w.heap.size w w2) := HB1.out.trans (hS.2.mono HB1.out.size)
      go_simp
      go_wp2
      go_roundw
      case rel => exact ⟨k + 1, by omega, by go_num, E, HB3⟩
      case measure => simp [intOf]; omega
end Go.Proofs.YtjkchhcnochjlaaGreatDoor

namespace Go.Proofs.YtjkchhcnochjlaaGreatDoor
open Go.RowKit

/-- A block of 7 cells. -/
def Blk7F (x : World) (b : Nat) (a0 a1 a2 a3 a4 a5 a6 : Value) : Prop :=
  (x.cell? ⟨b, 0, none⟩ = some a0 ∧ x.cell? ⟨b, 1, none⟩ = some a1 ∧ x.cell? ⟨b, 2, none⟩ = some a2 ∧ x.cell? ⟨b, 3, none⟩ = some a3 ∧ x.cell? ⟨b, 4, none⟩ = some a4 ∧ x.cell? ⟨b, 5, none⟩ = some a5 ∧ x.cell? ⟨b, 6, none⟩ = some a6) ∧
    x.frozen? ⟨b, 0, none⟩ = false ∧ x.frozen? ⟨b, 1, none⟩ = false ∧ x.frozen? ⟨b, 2, none⟩ = false ∧ x.frozen? ⟨b, 3, none⟩ = false ∧ x.frozen? ⟨b, 4, none⟩ = false ∧ x.frozen? ⟨b, 5, none⟩ = false ∧ x.frozen? ⟨b, 6, none⟩ = false
theorem Blk7F.kept {x x' : World} {b : Nat} {a0 a1 a2 a3 a4 a5 a6 : Value} (h : Blk7F x b a0 a1 a2 a3 a4 a5 a6) (hb : x'.heap[b]? = x.heap[b]?) : Blk7F x' b a0 a1 a2 a3 a4 a5 a6 := by
  obtain ⟨⟨h0, h1, h2, h3, h4, h5, h6⟩, f0, f1, f2, f3, f4, f5, f6⟩ := h
  exact ⟨⟨(World.cell?_of_block (w := x) (a := ⟨b, 0, none⟩) hb).trans h0, (World.cell?_of_block (w := x) (a := ⟨b, 1, none⟩) hb).trans h1, (World.cell?_of_block (w := x) (a := ⟨b, 2, none⟩) hb).trans h2, (World.cell?_of_block (w := x) (a := ⟨b, 3, none⟩) hb).trans h3, (World.cell?_of_block (w := x) (a := ⟨b, 4, none⟩) hb).trans h4, (World.cell?_of_block (w := x) (a := ⟨b, 5, none⟩) hb).trans h5, (World.cell?_of_block (w := x) (a := ⟨b, 6, none⟩) hb).trans h6⟩,
    (World.frozen?_of_block (w := x) (a := ⟨b, 0, none⟩) hb).trans f0, (World.frozen?_of_block (w := x) (a := ⟨b, 1, none⟩) hb).trans f1, (World.frozen?_of_block (w := x) (a := ⟨b, 2, none⟩) hb).trans f2, (World.frozen?_of_block (w := x) (a := ⟨b, 3, none⟩) hb).trans f3, (World.frozen?_of_block (w := x) (a := ⟨b, 4, none⟩) hb).trans f4, (World.frozen?_of_block (w := x) (a := ⟨b, 5, none⟩) hb).trans f5, (World.frozen?_of_block (w := x) (a := ⟨b, 6, none⟩) hb).trans f6⟩
theorem Blk7F.lt {x : World} {b : Nat} {a0 a1 a2 a3 a4 a5 a6 : Value} (h : Blk7F x b a0 a1 a2 a3 a4 a5 a6) : b < x.heap.size := World.block_lt_of_cell? x _ h.1.1
theorem Blk7F.later {x x' : World} {b : Nat} {a0 a1 a2 a3 a4 a5 a6 : Value} (h : Blk7F x b a0 a1 a2 a3 a4 a5 a6) (hb : Below x.heap.size x x') : Blk7F x' b a0 a1 a2 a3 a4 a5 a6 := h.kept (hb.block b h.lt)
theorem Blk7F.alloc {x : World} {b : Nat} {a0 a1 a2 a3 a4 a5 a6 : Value} (h : Blk7F x b a0 a1 a2 a3 a4 a5 a6) (o : Obj) : Blk7F (x.alloc o) b a0 a1 a2 a3 a4 a5 a6 := h.later ((Below.refl _ _).alloc (Nat.le_refl _) o)
theorem Blk7F.new (w : World) (a0 a1 a2 a3 a4 a5 a6 : Value) (t : TypeId) : Blk7F (w.alloc (.cells #[a0, a1, a2, a3, a4, a5, a6] t)) w.heap.size a0 a1 a2 a3 a4 a5 a6 := by
  refine ⟨⟨World.cell?_alloc_mark w _ _ _ 0, World.cell?_alloc_mark w _ _ _ 1, World.cell?_alloc_mark w _ _ _ 2, World.cell?_alloc_mark w _ _ _ 3, World.cell?_alloc_mark w _ _ _ 4, World.cell?_alloc_mark w _ _ _ 5, World.cell?_alloc_mark w _ _ _ 6⟩, ?_, ?_, ?_, ?_, ?_, ?_, ?_⟩ <;> simp
theorem Blk7F.far {x : World} {b : Nat} {a0 a1 a2 a3 a4 a5 a6 : Value} (h : Blk7F x b a0 a1 a2 a3 a4 a5 a6) {g j : Nat} (hg : b ≠ g) (v : Value) : Blk7F (x.setCell ⟨g, j, none⟩ v) b a0 a1 a2 a3 a4 a5 a6 := by
  obtain ⟨⟨h0, h1, h2, h3, h4, h5, h6⟩, f0, f1, f2, f3, f4, f5, f6⟩ := h
  refine ⟨⟨(World.cell?_setCell_other _ _ _ _ (fun e => hg (congrArg Addr.block e).symm)).trans h0, (World.cell?_setCell_other _ _ _ _ (fun e => hg (congrArg Addr.block e).symm)).trans h1, (World.cell?_setCell_other _ _ _ _ (fun e => hg (congrArg Addr.block e).symm)).trans h2, (World.cell?_setCell_other _ _ _ _ (fun e => hg (congrArg Addr.block e).symm)).trans h3, (World.cell?_setCell_other _ _ _ _ (fun e => hg (congrArg Addr.block e).symm)).trans h4, (World.cell?_setCell_other _ _ _ _ (fun e => hg (congrArg Addr.block e).symm)).trans h5, (World.cell?_setCell_other _ _ _ _ (fun e => hg (congrArg Addr.block e).symm)).trans h6⟩, ?_, ?_, ?_, ?_, ?_, ?_, ?_⟩
  all_goals rw [World.frozen?_setCell]; assumption
theorem Blk7F.put0 {x : World} {b : Nat} {a0 a1 a2 a3 a4 a5 a6 : Value} (h : Blk7F x b a0 a1 a2 a3 a4 a5 a6) (u : Value) : Blk7F (x.setCell ⟨b, 0, none⟩ u) b u a1 a2 a3 a4 a5 a6 := by
  obtain ⟨⟨h0, h1, h2, h3, h4, h5, h6⟩, f0, f1, f2, f3, f4, f5, f6⟩ := h
  refine ⟨⟨World.cell?_setCell_same _ _ _ h0, (World.cell?_setCell_other _ _ _ _ (by simp)).trans h1, (World.cell?_setCell_other _ _ _ _ (by simp)).trans h2, (World.cell?_setCell_other _ _ _ _ (by simp)).trans h3, (World.cell?_setCell_other _ _ _ _ (by simp)).trans h4, (World.cell?_setCell_other _ _ _ _ (by simp)).trans h5, (World.cell?_setCell_other _ _ _ _ (by simp)).trans h6⟩, ?_, ?_, ?_, ?_, ?_, ?_, ?_⟩
  all_goals rw [World.frozen?_setCell]; assumption
theorem Blk7F.put1 {x : World} {b : Nat} {a0 a1 a2 a3 a4 a5 a6 : Value} (h : Blk7F x b a0 a1 a2 a3 a4 a5 a6) (u : Value) : Blk7F (x.setCell ⟨b, 1, none⟩ u) b a0 u a2 a3 a4 a5 a6 := by
  obtain ⟨⟨h0, h1, h2, h3, h4, h5, h6⟩, f0, f1, f2, f3, f4, f5, f6⟩ := h
  refine ⟨⟨(World.cell?_setCell_other _ _ _ _ (by simp)).trans h0, World.cell?_setCell_same _ _ _ h1, (World.cell?_setCell_other _ _ _ _ (by simp)).trans h2, (World.cell?_setCell_other _ _ _ _ (by simp)).trans h3, (World.cell?_setCell_other _ _ _ _ (by simp)).trans h4, (World.cell?_setCell_other _ _ _ _ (by simp)).trans h5, (World.cell?_setCell_other _ _ _ _ (by simp)).trans h6⟩, ?_, ?_, ?_, ?_, ?_, ?_, ?_⟩
  all_goals rw [World.frozen?_setCell]; assumption
theorem Blk7F.put2 {x : World} {b : Nat} {a0 a1 a2 a3 a4 a5 a6 : Value} (h : Blk7F x b a0 a1 a2 a3 a4 a5 a6) (u : Value) : Blk7F (x.setCell ⟨b, 2, none⟩ u) b a0 a1 u a3 a4 a5 a6 := by
  obtain ⟨⟨h0, h1, h2, h3, h4, h5, h6⟩, f0, f1, f2, f3, f4, f5, f6⟩ := h
  refine ⟨⟨(World.cell?_setCell_other _ _ _ _ (by simp)).trans h0, (World.cell?_setCell_other _ _ _ _ (by simp)).trans h1, World.cell?_setCell_same _ _ _ h2, (World.cell?_setCell_other _ _ _ _ (by simp)).trans h3, (World.cell?_setCell_other _ _ _ _ (by simp)).trans h4, (World.cell?_setCell_other _ _ _ _ (by simp)).trans h5, (World.cell?_setCell_other _ _ _ _ (by simp)).trans h6⟩, ?_, ?_, ?_, ?_, ?_, ?_, ?_⟩
  all_goals rw [World.frozen?_setCell]; assumption
theorem Blk7F.put3 {x : World} {b : Nat} {a0 a1 a2 a3 a4 a5 a6 : Value} (h : Blk7F x b a0 a1 a2 a3 a4 a5 a6) (u : Value) : Blk7F (x.setCell ⟨b, 3, none⟩ u) b a0 a1 a2 u a4 a5 a6 := by
  obtain ⟨⟨h0, h1, h2, h3, h4, h5, h6⟩, f0, f1, f2, f3, f4, f5, f6⟩ := h
  refine ⟨⟨(World.cell?_setCell_other _ _ _ _ (by simp)).trans h0, (World.cell?_setCell_other _ _ _ _ (by simp)).trans h1, (World.cell?_setCell_other _ _ _ _ (by simp)).trans h2, World.cell?_setCell_same _ _ _ h3, (World.cell?_setCell_other _ _ _ _ (by simp)).trans h4, (World.cell?_setCell_other _ _ _ _ (by simp)).trans h5, (World.cell?_setCell_other _ _ _ _ (by simp)).trans h6⟩, ?_, ?_, ?_, ?_, ?_, ?_, ?_⟩
  all_goals rw [World.frozen?_setCell]; assumption
theorem Blk7F.put4 {x : World} {b : Nat} {a0 a1 a2 a3 a4 a5 a6 : Value} (h : Blk7F x b a0 a1 a2 a3 a4 a5 a6) (u : Value) : Blk7F (x.setCell ⟨b, 4, none⟩ u) b a0 a1 a2 a3 u a5 a6 := by
  obtain ⟨⟨h0, h1, h2, h3, h4, h5, h6⟩, f0, f1, f2, f3, f4, f5, f6⟩ := h
  refine ⟨⟨(World.cell?_setCell_other _ _ _ _ (by simp)).trans h0, (World.cell?_setCell_other _ _ _ _ (by simp)).trans h1, (World.cell?_setCell_other _ _ _ _ (by simp)).trans h2, (World.cell?_setCell_other _ _ _ _ (by simp)).trans h3, World.cell?_setCell_same _ _ _ h4, (World.cell?_setCell_other _ _ _ _ (by simp)).trans h5, (World.cell?_setCell_other _ _ _ _ (by simp)).trans h6⟩, ?_, ?_, ?_, ?_, ?_, ?_, ?_⟩
  all_goals rw [World.frozen?_setCell]; assumption
theorem Blk7F.put5 {x : World} {b : Nat} {a0 a1 a2 a3 a4 a5 a6 : Value} (h : Blk7F x b a0 a1 a2 a3 a4 a5 a6) (u : Value) : Blk7F (x.setCell ⟨b, 5, none⟩ u) b a0 a1 a2 a3 a4 u a6 := by
  obtain ⟨⟨h0, h1, h2, h3, h4, h5, h6⟩, f0, f1, f2, f3, f4, f5, f6⟩ := h
  refine ⟨⟨(World.cell?_setCell_other _ _ _ _ (by simp)).trans h0, (World.cell?_setCell_other _ _ _ _ (by simp)).trans h1, (World.cell?_setCell_other _ _ _ _ (by simp)).trans h2, (World.cell?_setCell_other _ _ _ _ (by simp)).trans h3, (World.cell?_setCell_other _ _ _ _ (by simp)).trans h4, World.cell?_setCell_same _ _ _ h5, (World.cell?_setCell_other _ _ _ _ (by simp)).trans h6⟩, ?_, ?_, ?_, ?_, ?_, ?_, ?_⟩
  all_goals rw [World.frozen?_setCell]; assumption
theorem Blk7F.put6 {x : World} {b : Nat} {a0 a1 a2 a3 a4 a5 a6 : Value} (h : Blk7F x b a0 a1 a2 a3 a4 a5 a6) (u : Value) : Blk7F (x.setCell ⟨b, 6, none⟩ u) b a0 a1 a2 a3 a4 a5 u := by
  obtain ⟨⟨h0, h1, h2, h3, h4, h5, h6⟩, f0, f1, f2, f3, f4, f5, f6⟩ := h
  refine ⟨⟨(World.cell?_setCell_other _ _ _ _ (by simp)).trans h0, (World.cell?_setCell_other _ _ _ _ (by simp)).trans h1, (World.cell?_setCell_other _ _ _ _ (by simp)).trans h2, (World.cell?_setCell_other _ _ _ _ (by simp)).trans h3, (World.cell?_setCell_other _ _ _ _ (by simp)).trans h4, (World.cell?_setCell_other _ _ _ _ (by simp)).trans h5, World.cell?_setCell_same _ _ _ h6⟩, ?_, ?_, ?_, ?_, ?_, ?_, ?_⟩
  all_goals rw [World.frozen?_setCell]; assumption
/-- A block of 10 cells. -/
def Blk10 (x : World) (b : Nat) (a0 a1 a2 a3 a4 a5 a6 a7 a8 a9 : Value) : Prop :=
  (x.cell? ⟨b, 0, none⟩ = some a0 ∧ x.cell? ⟨b, 1, none⟩ = some a1 ∧ x.cell? ⟨b, 2, none⟩ = some a2 ∧ x.cell? ⟨b, 3, none⟩ = some a3 ∧ x.cell? ⟨b, 4, none⟩ = some a4 ∧ x.cell? ⟨b, 5, none⟩ = some a5 ∧ x.cell? ⟨b, 6, none⟩ = some a6 ∧ x.cell? ⟨b, 7, none⟩ = some a7 ∧ x.cell? ⟨b, 8, none⟩ = some a8 ∧ x.cell? ⟨b, 9, none⟩ = some a9) ∧
    x.frozen? ⟨b, 0, none⟩ = false ∧ x.frozen? ⟨b, 1, none⟩ = false ∧ x.frozen? ⟨b, 2, none⟩ = false ∧ x.frozen? ⟨b, 3, none⟩ = false ∧ x.frozen? ⟨b, 4, none⟩ = false ∧ x.frozen? ⟨b, 5, none⟩ = false ∧ x.frozen? ⟨b, 6, none⟩ = false ∧ x.frozen? ⟨b, 7, none⟩ = false ∧ x.frozen? ⟨b, 8, none⟩ = false ∧ x.frozen? ⟨b, 9, none⟩ = false
theorem Blk10.kept {x x' : World} {b : Nat} {a0 a1 a2 a3 a4 a5 a6 a7 a8 a9 : Value} (h : Blk10 x b a0 a1 a2 a3 a4 a5 a6 a7 a8 a9) (hb : x'.heap[b]? = x.heap[b]?) : Blk10 x' b a0 a1 a2 a3 a4 a5 a6 a7 a8 a9 := by
  obtain ⟨⟨h0, h1, h2, h3, h4, h5, h6, h7, h8, h9⟩, f0, f1, f2, f3, f4, f5, f6, f7, f8, f9⟩ := h
  exact ⟨⟨(World.cell?_of_block (w := x) (a := ⟨b, 0, none⟩) hb).trans h0, (World.cell?_of_block (w := x) (a := ⟨b, 1, none⟩) hb).trans h1, (World.cell?_of_block (w := x) (a := ⟨b, 2, none⟩) hb).trans h2, (World.cell?_of_block (w := x) (a := ⟨b, 3, none⟩) hb).trans h3, (World.cell?_of_block (w := x) (a := ⟨b, 4, none⟩) hb).trans h4, (World.cell?_of_block (w := x) (a := ⟨b, 5, none⟩) hb).trans h5, (World.cell?_of_block (w := x) (a := ⟨b, 6, none⟩) hb).trans h6, (World.cell?_of_block (w := x) (a := ⟨b, 7, none⟩) hb).trans h7, (World.cell?_of_block (w := x) (a := ⟨b, 8, none⟩) hb).trans h8, (World.cell?_of_block (w := x) (a := ⟨b, 9, none⟩) hb).trans h9⟩,
    (World.frozen?_of_block (w := x) (a := ⟨b, 0, none⟩) hb).trans f0, (World.frozen?_of_block (w := x) (a := ⟨b, 1, none⟩) hb).trans f1, (World.frozen?_of_block (w := x) (a := ⟨b, 2, none⟩) hb).trans f2, (World.frozen?_of_block (w := x) (a := ⟨b, 3, none⟩) hb).trans f3, (World.frozen?_of_block (w := x) (a := ⟨b, 4, none⟩) hb).trans f4, (World.frozen?_of_block (w := x) (a := ⟨b, 5, none⟩) hb).trans f5, (World.frozen?_of_block (w := x) (a := ⟨b, 6, none⟩) hb).trans f6, (World.frozen?_of_block (w := x) (a := ⟨b, 7, none⟩) hb).trans f7, (World.frozen?_of_block (w := x) (a := ⟨b, 8, none⟩) hb).trans f8, (World.frozen?_of_block (w := x) (a := ⟨b, 9, none⟩) hb).trans f9⟩
theorem Blk10.lt {x : World} {b : Nat} {a0 a1 a2 a3 a4 a5 a6 a7 a8 a9 : Value} (h : Blk10 x b a0 a1 a2 a3 a4 a5 a6 a7 a8 a9) : b < x.heap.size := World.block_lt_of_cell? x _ h.1.1
theorem Blk10.later {x x' : World} {b : Nat} {a0 a1 a2 a3 a4 a5 a6 a7 a8 a9 : Value} (h : Blk10 x b a0 a1 a2 a3 a4 a5 a6 a7 a8 a9) (hb : Below x.heap.size x x') : Blk10 x' b a0 a1 a2 a3 a4 a5 a6 a7 a8 a9 := h.kept (hb.block b h.lt)
theorem Blk10.alloc {x : World} {b : Nat} {a0 a1 a2 a3 a4 a5 a6 a7 a8 a9 : Value} (h : Blk10 x b a0 a1 a2 a3 a4 a5 a6 a7 a8 a9) (o : Obj) : Blk10 (x.alloc o) b a0 a1 a2 a3 a4 a5 a6 a7 a8 a9 := h.later ((Below.refl _ _).alloc (Nat.le_refl _) o)
theorem Blk10.new (w : World) (a0 a1 a2 a3 a4 a5 a6 a7 a8 a9 : Value) (t : TypeId) : Blk10 (w.alloc (.cells #[a0, a1, a2, a3, a4, a5, a6, a7, a8, a9] t)) w.heap.size a0 a1 a2 a3 a4 a5 a6 a7 a8 a9 := by
  refine ⟨⟨World.cell?_alloc_mark w _ _ _ 0, World.cell?_alloc_mark w _ _ _ 1, World.cell?_alloc_mark w _ _ _ 2, World.cell?_alloc_mark w _ _ _ 3, World.cell?_alloc_mark w _ _ _ 4, World.cell?_alloc_mark w _ _ _ 5, World.cell?_alloc_mark w _ _ _ 6, World.cell?_alloc_mark w _ _ _ 7, World.cell?_alloc_mark w _ _ _ 8, World.cell?_alloc_mark w _ _ _ 9⟩, ?_, ?_, ?_, ?_, ?_, ?_, ?_, ?_, ?_, ?_⟩ <;> simp
theorem Blk10.far {x : World} {b : Nat} {a0 a1 a2 a3 a4 a5 a6 a7 a8 a9 : Value} (h : Blk10 x b a0 a1 a2 a3 a4 a5 a6 a7 a8 a9) {g j : Nat} (hg : b ≠ g) (v : Value) : Blk10 (x.setCell ⟨g, j, none⟩ v) b a0 a1 a2 a3 a4 a5 a6 a7 a8 a9 := by
  obtain ⟨⟨h0, h1, h2, h3, h4, h5, h6, h7, h8, h9⟩, f0, f1, f2, f3, f4, f5, f6, f7, f8, f9⟩ := h
  refine ⟨⟨(World.cell?_setCell_other _ _ _ _ (fun e => hg (congrArg Addr.block e).symm)).trans h0, (World.cell?_setCell_other _ _ _ _ (fun e => hg (congrArg Addr.block e).symm)).trans h1, (World.cell?_setCell_other _ _ _ _ (fun e => hg (congrArg Addr.block e).symm)).trans h2, (World.cell?_setCell_other _ _ _ _ (fun e => hg (congrArg Addr.block e).symm)).trans h3, (World.cell?_setCell_other _ _ _ _ (fun e => hg (congrArg Addr.block e).symm)).trans h4, (World.cell?_setCell_other _ _ _ _ (fun e => hg (congrArg Addr.block e).symm)).trans h5, (World.cell?_setCell_other _ _ _ _ (fun e => hg (congrArg Addr.block e).symm)).trans h6, (World.cell?_setCell_other _ _ _ _ (fun e => hg (congrArg Addr.block e).symm)).trans h7, (World.cell?_setCell_other _ _ _ _ (fun e => hg (congrArg Addr.block e).symm)).trans h8, (World.cell?_setCell_other _ _ _ _ (fun e => hg (congrArg Addr.block e).symm)).trans h9⟩, ?_, ?_, ?_, ?_, ?_, ?_, ?_, ?_, ?_, ?_⟩
  all_goals rw [World.frozen?_setCell]; assumption
theorem Blk10.put0 {x : World} {b : Nat} {a0 a1 a2 a3 a4 a5 a6 a7 a8 a9 : Value} (h : Blk10 x b a0 a1 a2 a3 a4 a5 a6 a7 a8 a9) (u : Value) : Blk10 (x.setCell ⟨b, 0, none⟩ u) b u a1 a2 a3 a4 a5 a6 a7 a8 a9 := by
  obtain ⟨⟨h0, h1, h2, h3, h4, h5, h6, h7, h8, h9⟩, f0, f1, f2, f3, f4, f5, f6, f7, f8, f9⟩ := h
  refine ⟨⟨World.cell?_setCell_same _ _ _ h0, (World.cell?_setCell_other _ _ _ _ (by simp)).trans h1, (World.cell?_setCell_other _ _ _ _ (by simp)).trans h2, (World.cell?_setCell_other _ _ _ _ (by simp)).trans h3, (World.cell?_setCell_other _ _ _ _ (by simp)).trans h4, (World.cell?_setCell_other _ _ _ _ (by simp)).trans h5, (World.cell?_setCell_other _ _ _ _ (by simp)).trans h6, (World.cell?_setCell_other _ _ _ _ (by simp)).trans h7, (World.cell?_setCell_other _ _ _ _ (by simp)).trans h8, (World.cell?_setCell_other _ _ _ _ (by simp)).trans h9⟩, ?_, ?_, ?_, ?_, ?_, ?_, ?_, ?_, ?_, ?_⟩
  all_goals rw [World.frozen?_setCell]; assumption
theorem Blk10.put1 {x : World} {b : Nat} {a0 a1 a2 a3 a4 a5 a6 a7 a8 a9 : Value} (h : Blk10 x b a0 a1 a2 a3 a4 a5 a6 a7 a8 a9) (u : Value) : Blk10 (x.setCell ⟨b, 1, none⟩ u) b a0 u a2 a3 a4 a5 a6 a7 a8 a9 := by
  obtain ⟨⟨h0, h1, h2, h3, h4, h5, h6, h7, h8, h9⟩, f0, f1, f2, f3, f4, f5, f6, f7, f8, f9⟩ := h
  refine ⟨⟨(World.cell?_setCell_other _ _ _ _ (by simp)).trans h0, World.cell?_setCell_same _ _ _ h1, (World.cell?_setCell_other _ _ _ _ (by simp)).trans h2, (World.cell?_setCell_other _ _ _ _ (by simp)).trans h3, (World.cell?_setCell_other _ _ _ _ (by simp)).trans h4, (World.cell?_setCell_other _ _ _ _ (by simp)).trans h5, (World.cell?_setCell_other _ _ _ _ (by simp)).trans h6, (World.cell?_setCell_other _ _ _ _ (by simp)).trans h7, (World.cell?_setCell_other _ _ _ _ (by simp)).trans h8, (World.cell?_setCell_other _ _ _ _ (by simp)).trans h9⟩, ?_, ?_, ?_, ?_, ?_, ?_, ?_, ?_, ?_, ?_⟩
  all_goals rw [World.frozen?_setCell]; assumption
theorem Blk10.put2 {x : World} {b : Nat} {a0 a1 a2 a3 a4 a5 a6 a7 a8 a9 : Value} (h : Blk10 x b a0 a1 a2 a3 a4 a5 a6 a7 a8 a9) (u : Value) : Blk10 (x.setCell ⟨b, 2, none⟩ u) b a0 a1 u a3 a4 a5 a6 a7 a8 a9 := by
  obtain ⟨⟨h0, h1, h2, h3, h4, h5, h6, h7, h8, h9⟩, f0, f1, f2, f3, f4, f5, f6, f7, f8, f9⟩ := h
  refine ⟨⟨(World.cell?_setCell_other _ _ _ _ (by simp)).trans h0, (World.cell?_setCell_other _ _ _ _ (by simp)).trans h1, World.cell?_setCell_same _ _ _ h2, (World.cell?_setCell_other _ _ _ _ (by simp)).trans h3, (World.cell?_setCell_other _ _ _ _ (by simp)).trans h4, (World.cell?_setCell_other _ _ _ _ (by simp)).trans h5, (World.cell?_setCell_other _ _ _ _ (by simp)).trans h6, (World.cell?_setCell_other _ _ _ _ (by simp)).trans h7, (World.cell?_setCell_other _ _ _ _ (by simp)).trans h8, (World.cell?_setCell_other _ _ _ _ (by simp)).trans h9⟩, ?_, ?_, ?_, ?_, ?_, ?_, ?_, ?_, ?_, ?_⟩
  all_goals rw [World.frozen?_setCell]; assumption
theorem Blk10.put3 {x : World} {b : Nat} {a0 a1 a2 a3 a4 a5 a6 a7 a8 a9 : Value} (h : Blk10 x b a0 a1 a2 a3 a4 a5 a6 a7 a8 a9) (u : Value) : Blk10 (x.setCell ⟨b, 3, none⟩ u) b a0 a1 a2 u a4 a5 a6 a7 a8 a9 := by
  obtain ⟨⟨h0, h1, h2, h3, h4, h5, h6, h7, h8, h9⟩, f0, f1, f2, f3, f4, f5, f6, f7, f8, f9⟩ := h
  refine ⟨⟨(World.cell?_setCell_other _ _ _ _ (by simp)).trans h0, (World.cell?_setCell_other _ _ _ _ (by simp)).trans h1, (World.cell?_setCell_other _ _ _ _ (by simp)).trans h2, World.cell?_setCell_same _ _ _ h3, (World.cell?_setCell_other _ _ _ _ (by simp)).trans h4, (World.cell?_setCell_other _ _ _ _ (by simp)).trans h5, (World.cell?_setCell_other _ _ _ _ (by simp)).trans h6, (World.cell?_setCell_other _ _ _ _ (by simp)).trans h7, (World.cell?_setCell_other _ _ _ _ (by simp)).trans h8, (World.cell?_setCell_other _ _ _ _ (by simp)).trans h9⟩, ?_, ?_, ?_, ?_, ?_, ?_, ?_, ?_, ?_, ?_⟩
  all_goals rw [World.frozen?_setCell]; assumption
theorem Blk10.put4 {x : World} {b : Nat} {a0 a1 a2 a3 a4 a5 a6 a7 a8 a9 : Value} (h : Blk10 x b a0 a1 a2 a3 a4 a5 a6 a7 a8 a9) (u : Value) : Blk10 (x.setCell ⟨b, 4, none⟩ u) b a0 a1 a2 a3 u a5 a6 a7 a8 a9 := by
  obtain ⟨⟨h0, h1, h2, h3, h4, h5, h6, h7, h8, h9⟩, f0, f1, f2, f3, f4, f5, f6, f7, f8, f9⟩ := h
  refine ⟨⟨(World.cell?_setCell_other _ _ _ _ (by simp)).trans h0, (World.cell?_setCell_other _ _ _ _ (by simp)).trans h1, (World.cell?_setCell_other _ _ _ _ (by simp)).trans h2, (World.cell?_setCell_other _ _ _ _ (by simp)).trans h3, World.cell?_setCell_same _ _ _ h4, (World.cell?_setCell_other _ _ _ _ (by simp)).trans h5, (World.cell?_setCell_other _ _ _ _ (by simp)).trans h6, (World.cell?_setCell_other _ _ _ _ (by simp)).trans h7, (World.cell?_setCell_other _ _ _ _ (by simp)).trans h8, (World.cell?_setCell_other _ _ _ _ (by simp)).trans h9⟩, ?_, ?_, ?_, ?_, ?_, ?_, ?_, ?_, ?_, ?_⟩
  all_goals rw [World.frozen?_setCell]; assumption
theorem Blk10.put5 {x : World} {b : Nat} {a0 a1 a2 a3 a4 a5 a6 a7 a8 a9 : Value} (h : Blk10 x b a0 a1 a2 a3 a4 a5 a6 a7 a8 a9) (u : Value) : Blk10 (x.setCell ⟨b, 5, none⟩ u) b a0 a1 a2 a3 a4 u a6 a7 a8 a9 := by
  obtain ⟨⟨h0, h1, h2, h3, h4, h5, h6, h7, h8, h9⟩, f0, f1, f2, f3, f4, f5, f6, f7, f8, f9⟩ := h
  refine ⟨⟨(World.cell?_setCell_other _ _ _ _ (by simp)).trans h0, (World.cell?_setCell_other _ _ _ _ (by simp)).trans h1, (World.cell?_setCell_other _ _ _ _ (by simp)).trans h2, (World.cell?_setCell_other _ _ _ _ (by simp)).trans h3, (World.cell?_setCell_other _ _ _ _ (by simp)).trans h4, World.cell?_setCell_same _ _ _ h5, (World.cell?_setCell_other _ _ _ _ (by simp)).trans h6, (World.cell?_setCell_other _ _ _ _ (by simp)).trans h7, (World.cell?_setCell_other _ _ _ _ (by simp)).trans h8, (World.cell?_setCell_other _ _ _ _ (by simp)).trans h9⟩, ?_, ?_, ?_, ?_, ?_, ?_, ?_, ?_, ?_, ?_⟩
  all_goals rw [World.frozen?_setCell]; assumption
theorem Blk10.put6 {x : World} {b : Nat} {a0 a1 a2 a3 a4 a5 a6 a7 a8 a9 : Value} (h : Blk10 x b a0 a1 a2 a3 a4 a5 a6 a7 a8 a9) (u : Value) : Blk10 (x.setCell ⟨b, 6, none⟩ u) b a0 a1 a2 a3 a4 a5 u a7 a8 a9 := by
  obtain ⟨⟨h0, h1, h2, h3, h4, h5, h6, h7, h8, h9⟩, f0, f1, f2, f3, f4, f5, f6, f7, f8, f9⟩ := h
  refine ⟨⟨(World.cell?_setCell_other _ _ _ _ (by simp)).trans h0, (World.cell?_setCell_other _ _ _ _ (by simp)).trans h1, (World.cell?_setCell_other _ _ _ _ (by simp)).trans h2, (World.cell?_setCell_other _ _ _ _ (by simp)).trans h3, (World.cell?_setCell_other _ _ _ _ (by simp)).trans h4, (World.cell?_setCell_other _ _ _ _ (by simp)).trans h5, World.cell?_setCell_same _ _ _ h6, (World.cell?_setCell_other _ _ _ _ (by simp)).trans h7, (World.cell?_setCell_other _ _ _ _ (by simp)).trans h8, (World.cell?_setCell_other _ _ _ _ (by simp)).trans h9⟩, ?_, ?_, ?_, ?_, ?_, ?_, ?_, ?_, ?_, ?_⟩
  all_goals rw [World.frozen?_setCell]; assumption
theorem Row.at10 {w : World} {B n : Nat} {F : Nat → Int} {ao : Option Addr} {cp : Nat} (h : Row w B 10 n F (.slice ao n cp)) {k : Nat} (hk : k < n) :
    ∃ g o, ao = some ⟨g, o, none⟩ ∧ B ≤ g ∧ g < w.heap.size ∧ w.cell? ⟨g, o + k * 10, none⟩ = some (.int .i64 (F (k * 10))) ∧ w.cell? ⟨g, o + k * 10 + 1, none⟩ = some (.int .i64 (F (k * 10 + 1))) ∧ w.cell? ⟨g, o + k * 10 + 2, none⟩ = some (.int .i64 (F (k * 10 + 2))) ∧ w.cell? ⟨g, o + k * 10 + 3, none⟩ = some (.int .i64 (F (k * 10 + 3))) ∧ w.cell? ⟨g, o + k * 10 + 4, none⟩ = some (.int .i64 (F (k * 10 + 4))) ∧ w.cell? ⟨g, o + k * 10 + 5, none⟩ = some (.int .i64 (F (k * 10 + 5))) ∧ w.cell? ⟨g, o + k * 10 + 6, none⟩ = some (.int .i64 (F (k * 10 + 6))) ∧ w.cell? ⟨g, o + k * 10 + 7, none⟩ = some (.int .i64 (F (k * 10 + 7))) ∧ w.cell? ⟨g, o + k * 10 + 8, none⟩ = some (.int .i64 (F (k * 10 + 8))) ∧ w.cell? ⟨g, o + k * 10 + 9, none⟩ = some (.int .i64 (F (k * 10 + 9))) := by
  obtain ⟨g, o, ha, hB, hg, hc⟩ := h.at hk
  exact ⟨g, o, ha, hB, hg, hc 0 (by omega), hc 1 (by omega), hc 2 (by omega), hc 3 (by omega), hc 4 (by omega), hc 5 (by omega), hc 6 (by omega), hc 7 (by omega), hc 8 (by omega), hc 9 (by omega)⟩
theorem info_RunA : (Tryz.prog.info? 65).map (fun i => (i.zero, i.size, i.bytes)) = some (some (.agg #[.int .i64 0, .int .i64 0, .int .i64 0, .int .i64 0, .int .i64 0, .int .i64 0, .int .i64 0, .int .i64 0, .int .i64 0, .int .i64 0]), 10, 80) := by kernel_rfl
set_option maxHeartbeats 400000 in
theorem toFsOp_eq (x0 x1 x2 x3 x4 x5 : Int) (w : World) :
    Calls Tryz.prog 58 #[.agg #[.int .i64 x0, .int .i64 x1, .int .i64 x2, .int .i64 x3, .int .i64 x4, .int .i64 x5]] w fun e w' => e = .returned (.agg #[.int .i64 x0, .int .i64 x1, .int .i64 x2, .int .i64 x3, .int .i64 x4, .int .i64 x5]) ∧ w' = ((w.alloc (.cells #[.int .i64 x0, .int .i64 x1, .int .i64 x2, .int .i64 x3, .int .i64 x4, .int .i64 x5] 84)).alloc (.cells #[.int .i64 x0, .int .i64 x1, .int .i64 x2, .int .i64 x3, .int .i64 x4, .int .i64 x5] 63)).alloc (.cells #[.int .i64 x0, .int .i64 x1, .int .i64 x2, .int .i64 x3, .int .i64 x4, .int .i64 x5] 63) := by
  go_enter Tryz.func58, Tryz.ntmps58
  go_wp2
  exact bodyPost_ret (v := .agg #[.int .i64 x0, .int .i64 x1, .int .i64 x2, .int .i64 x3, .int .i64 x4, .int .i64 x5]) (by simp [results, Tryz.results58, go_sem]) rfl ⟨rfl, rfl⟩
set_option maxHeartbeats 400000 in
theorem eqFsOp_eq (x0 x1 x2 x3 x4 x5 : Int) (w : World) :
    Calls Tryz.prog 75 #[.agg #[.int .i64 x0, .int .i64 x1, .int .i64 x2, .int .i64 x3, .int .i64 x4, .int .i64 x5], .agg #[.int .i64 x0, .int .i64 x1, .int .i64 x2, .int .i64 x3, .int .i64 x4, .int .i64 x5]] w fun e w' => e = .returned (.bool true) ∧ w' = (w.alloc (.cells #[.int .i64 x0, .int .i64 x1, .int .i64 x2, .int .i64 x3, .int .i64 x4, .int .i64 x5] 63)).alloc (.cells #[.int .i64 x0, .int .i64 x1, .int .i64 x2, .int .i64 x3, .int .i64 x4, .int .i64 x5] 63) := by
  go_enter Tryz.func75, Tryz.ntmps75
  go_wp2
  go_ret
  exact ⟨rfl, rfl⟩
set_option maxHeartbeats 2000000 in
theorem toRun_any (x0 x1 x2 x3 x4 x5 x6 x7 x8 x9 : Int) (w : World) :
    Calls Tryz.prog 31 #[.agg #[.int .i64 x0, .int .i64 x1, .int .i64 x2, .int .i64 x3, .int .i64 x4, .int .i64 x5, .int .i64 x6, .int .i64 x7, .int .i64 x8, .int .i64 x9]] w fun e w' => e = .returned (.agg #[.int .i64 x0, .int .i64 x1, .int .i64 x2, .int .i64 x3, .int .i64 x4, .int .i64 x5, .int .i64 x6, .int .i64 x7, .int .i64 x8, .int .i64 x9]) ∧ Below w.heap.size w w' := by
  go_enter Tryz.func31, Tryz.ntmps31
  go_wp2_with fail
  refine (toFsOp_eq x0 x1 x2 x3 x4 x5 _).mono ?_
  rintro e y1 ⟨rfl, rfl⟩
  go_wp2
  exact bodyPost_ret (v := .agg #[.int .i64 x0, .int .i64 x1, .int .i64 x2, .int .i64 x3, .int .i64 x4, .int .i64 x5, .int .i64 x6, .int .i64 x7, .int .i64 x8, .int .i64 x9]) (by simp [results, Tryz.results31, go_sem]) rfl ⟨rfl, ((((((Below.refl _ _).alloc (Nat.le_refl _) _).alloc (by simp <;> omega) _).alloc (by simp <;> omega) _).alloc (by simp <;> omega) _).alloc (by simp <;> omega) _).alloc (by simp <;> omega) _⟩
set_option maxHeartbeats 400000 in
theorem toRunS_cap (v : Value) (B n : Nat) (F : Nat → Int) (w : World) (h : Row w B 10 n F v) (hn : n ≤ 1048576) :
    Calls Tryz.prog 17 #[v] w fun e w' => ∃ uo, e = .returned (.slice uo n n) ∧ Row w' w.heap.size 10 n F (.slice uo n n) ∧ Free w' (n * 10) (.slice uo n n) ∧ Below w.heap.size w w' := by
  obtain ⟨ao, cp, rfl⟩ := h.form
  have H : Hid (Row w B 10 n F (.slice ao n cp)) := h
  clear h
  have hmk := make_rowP Tryz.underlying46 info_RunA n (by omega) (by omega)
  go_enter Tryz.func17, Tryz.ntmps17
  go_wp2
  go_loopw [4] (fun i wr => ∃ k : Nat, k ≤ n ∧ i = .int .i64 k ∧ Hid (Below w.heap.size w wr ∧ Fill wr w.heap.size 0 (n * 10) (k * 10) F)) (fun i _ => n - (intOf i).toNat)
  case atStart => exact ⟨0, Nat.zero_le _, rfl, below_alloc _ _, by rw [Nat.zero_mul]; exact Fill.made _ _ _ _ _⟩
  case round =>
    obtain ⟨k, hk, rfl, hR⟩ := hrel
    by_cases hlt : k < n
    · obtain ⟨g, o, rfl, _, hg, c0, c1, c2, c3, c4, c5, c6, c7, c8, c9⟩ := H.out.at10 hlt
      have b0 := hR.out.1.cell (p := ⟨g, o + k * 10, none⟩) hg
      rw [c0] at b0
      have b1 := hR.out.1.cell (p := ⟨g, o + k * 10 + 1, none⟩) hg
      rw [c1] at b1
      have b2 := hR.out.1.cell (p := ⟨g, o + k * 10 + 2, none⟩) hg
      rw [c2] at b2
      have b3 := hR.out.1.cell (p := ⟨g, o + k * 10 + 3, none⟩) hg
      rw [c3] at b3
      have b4 := hR.out.1.cell (p := ⟨g, o + k * 10 + 4, none⟩) hg
      rw [c4] at b4
      have b5 := hR.out.1.cell (p := ⟨g, o + k * 10 + 5, none⟩) hg
      rw [c5] at b5
      have b6 := hR.out.1.cell (p := ⟨g, o + k * 10 + 6, none⟩) hg
      rw [c6] at b6
      have b7 := hR.out.1.cell (p := ⟨g, o + k * 10 + 7, none⟩) hg
      rw [c7] at b7
      have b8 := hR.out.1.cell (p := ⟨g, o + k * 10 + 8, none⟩) hg
      rw [c8] at b8
      have b9 := hR.out.1.cell (p := ⟨g, o + k * 10 + 9, none⟩) hg
      rw [c9] at b9
      clear c0 c1 c2 c3 c4 c5 c6 c7 c8 c9
      go_wp2_with fail
      refine (toRun_any _ _ _ _ _ _ _ _ _ _ _).mono ?_
      rintro e w1 ⟨rfl, q1⟩
      have f1 := hR.out.2.later q1
      obtain ⟨v0, d0, e0⟩ := f1.at (p := k * 10) (by omega)
      obtain ⟨v1, d1, e1⟩ := f1.at (p := k * 10 + 1) (by omega)
      obtain ⟨v2, d2, e2⟩ := f1.at (p := k * 10 + 2) (by omega)
      obtain ⟨v3, d3, e3⟩ := f1.at (p := k * 10 + 3) (by omega)
      obtain ⟨v4, d4, e4⟩ := f1.at (p := k * 10 + 4) (by omega)
      obtain ⟨v5, d5, e5⟩ := f1.at (p := k * 10 + 5) (by omega)
      obtain ⟨v6, d6, e6⟩ := f1.at (p := k * 10 + 6) (by omega)
      obtain ⟨v7, d7, e7⟩ := f1.at (p := k * 10 + 7) (by omega)
      obtain ⟨v8, d8, e8⟩ := f1.at (p := k * 10 + 8) (by omega)
      obtain ⟨v9, d9, e9⟩ := f1.at (p := k * 10 + 9) (by omega)
      have HF : Hid (Below w.heap.size w w1 ∧ Fill w1 w.heap.size 0 (n * 10) (k * 10) F) := ⟨hR.out.1.trans (q1.mono hR.out.1.size), f1⟩
      clear q1 f1 b0 b1 b2 b3 b4 b5 b6 b7 b8 b9
      simp only [Nat.zero_add] at d0 e0 d1 e1 d2 e2 d3 e3 d4 e4 d5 e5 d6 e6 d7 e7 d8 e8 d9 e9
      go_wp2
      go_roundw
      case rel =>
        refine ⟨k + 1, by omega, by go_num, ((((((((((HF.out.1.setCell (Nat.le_refl _) _).setCell (Nat.le_refl _) _).setCell (Nat.le_refl _) _).setCell (Nat.le_refl _) _).setCell (Nat.le_refl _) _).setCell (Nat.le_refl _) _).setCell (Nat.le_refl _) _).setCell (Nat.le_refl _) _).setCell (Nat.le_refl _) _).setCell (Nat.le_refl _) _), ?_⟩
        have hq := ((((((((((HF.out.2.put0 (by omega)).put0 (by omega)).put0 (by omega)).put0 (by omega)).put0 (by omega)).put0 (by omega)).put0 (by omega)).put0 (by omega)).put0 (by omega)).put0 (by omega))
        rwa [show k * 10 + 1 + 1 + 1 + 1 + 1 + 1 + 1 + 1 + 1 + 1 = (k + 1) * 10 by omega] at hq
      case measure => simp [intOf]; omega
    · obtain rfl : k = n := by omega
      go_wp2
      go_ret
      exact ⟨_, rfl, (hR.out.2.row (Nat.le_refl _) _).1, (hR.out.2.row (B := 0) (Nat.zero_le _) _).2, hR.out.1⟩
set_option maxHeartbeats 400000 in
theorem szRunS_ok (a : Option Addr) (n c : Nat) (left : Int) (w : World) (h : (n : Int) ≤ left) (h2 : left ≤ 1048576) :
    Calls Tryz.prog 11 #[.slice a n c, .int .i64 left] w fun e w' => e = .returned (.int .i64 (left - n)) ∧ w' = w := by
  have d : decide (left - n < 0) = false := decide_eq_false (by omega)
  go_enter Tryz.func11, Tryz.ntmps11
  go_wp2
  go_ret
  exact ⟨rfl, rfl⟩
set_option maxHeartbeats 400000 in
theorem szRunS_no (a : Option Addr) (n c : Nat) (left : Int) (w : World) (h : left < n) (h0 : 0 ≤ left) (h2 : left ≤ 1048576) (hn : n ≤ 9223372036854775807) :
    Calls Tryz.prog 11 #[.slice a n c, .int .i64 left] w fun e w' => e = .returned (.int .i64 (-1)) ∧ w' = w := by
  have d : decide (left - n < 0) = true := decide_eq_true (by omega)
  go_enter Tryz.func11, Tryz.ntmps11
  go_wp2
  go_ret
  exact ⟨rfl, rfl⟩

set_option maxHeartbeats 2000000 in
theorem eqRun_same (x0 x1 x2 x3 x4 x5 x6 x7 x8 x9 : Int) (w : World) :
    Calls Tryz.prog 42 #[.agg #[.int .i64 x0, .int .i64 x1, .int .i64 x2, .int .i64 x3, .int .i64 x4, .int .i64 x5, .int .i64 x6, .int .i64 x7, .int .i64 x8, .int .i64 x9], .agg #[.int .i64 x0, .int .i64 x1, .int .i64 x2, .int .i64 x3, .int .i64 x4, .int .i64 x5, .int .i64 x6, .int .i64 x7, .int .i64 x8, .int .i64 x9]] w fun e w' => e = .returned (.bool true) ∧ Below w.heap.size w w' := by
  go_enter Tryz.func42, Tryz.ntmps42
  go_wp2_with fail
  refine (eqFsOp_eq x0 x1 x2 x3 x4 x5 _).mono ?_
  rintro e y1 ⟨rfl, rfl⟩
  go_wp2
  go_ret
  exact ⟨rfl, ((((Below.refl _ _).alloc (Nat.le_refl _) _).alloc (by simp <;> omega) _).alloc (by simp <;> omega) _).alloc (by simp <;> omega) _⟩
def TwoRun (w : World) (g o g' o' k : Nat) (F : Nat → Int) (x : World) : Prop := (x.cell? ⟨g, o + k * 10, none⟩ = some (.int .i64 (F (k * 10))) ∧ x.cell? ⟨g, o + k * 10 + 1, none⟩ = some (.int .i64 (F (k * 10 + 1))) ∧ x.cell? ⟨g, o + k * 10 + 2, none⟩ = some (.int .i64 (F (k * 10 + 2))) ∧ x.cell? ⟨g, o + k * 10 + 3, none⟩ = some (.int .i64 (F (k * 10 + 3))) ∧ x.cell? ⟨g, o + k * 10 + 4, none⟩ = some (.int .i64 (F (k * 10 + 4))) ∧ x.cell? ⟨g, o + k * 10 + 5, none⟩ = some (.int .i64 (F (k * 10 + 5))) ∧ x.cell? ⟨g, o + k * 10 + 6, none⟩ = some (.int .i64 (F (k * 10 + 6))) ∧ x.cell? ⟨g, o + k * 10 + 7, none⟩ = some (.int .i64 (F (k * 10 + 7))) ∧ x.cell? ⟨g, o + k * 10 + 8, none⟩ = some (.int .i64 (F (k * 10 + 8))) ∧ x.cell? ⟨g, o + k * 10 + 9, none⟩ = some (.int .i64 (F (k * 10 + 9))) ∧ x.cell? ⟨g', o' + k * 10, none⟩ = some (.int .i64 (F (k * 10))) ∧ x.cell? ⟨g', o' + k * 10 + 1, none⟩ = some (.int .i64 (F (k * 10 + 1))) ∧ x.cell? ⟨g', o' + k * 10 + 2, none⟩ = some (.int .i64 (F (k * 10 + 2))) ∧ x.cell? ⟨g', o' + k * 10 + 3, none⟩ = some (.int .i64 (F (k * 10 + 3))) ∧ x.cell? ⟨g', o' + k * 10 + 4, none⟩ = some (.int .i64 (F (k * 10 + 4))) ∧ x.cell? ⟨g', o' + k * 10 + 5, none⟩ = some (.int .i64 (F (k * 10 + 5))) ∧ x.cell? ⟨g', o' + k * 10 + 6, none⟩ = some (.int .i64 (F (k * 10 + 6))) ∧ x.cell? ⟨g', o' + k * 10 + 7, none⟩ = some (.int .i64 (F (k * 10 + 7))) ∧ x.cell? ⟨g', o' + k * 10 + 8, none⟩ = some (.int .i64 (F (k * 10 + 8))) ∧ x.cell? ⟨g', o' + k * 10 + 9, none⟩ = some (.int .i64 (F (k * 10 + 9)))) ∧ Below w.heap.size w x
theorem TwoRun.later {w x x' : World} {g o g' o' k : Nat} {F : Nat → Int} (h : TwoRun w g o g' o' k F x) (hg : g < w.heap.size) (hg' : g' < w.heap.size) (hb : Below x.heap.size x x') : TwoRun w g o g' o' k F x' := by
  obtain ⟨⟨hx0, hx1, hx2, hx3, hx4, hx5, hx6, hx7, hx8, hx9, hx10, hx11, hx12, hx13, hx14, hx15, hx16, hx17, hx18, hx19⟩, hy⟩ := h
  exact ⟨⟨(hb.cell (Nat.lt_of_lt_of_le hg hy.size)).trans hx0, (hb.cell (Nat.lt_of_lt_of_le hg hy.size)).trans hx1, (hb.cell (Nat.lt_of_lt_of_le hg hy.size)).trans hx2, (hb.cell (Nat.lt_of_lt_of_le hg hy.size)).trans hx3, (hb.cell (Nat.lt_of_lt_of_le hg hy.size)).trans hx4, (hb.cell (Nat.lt_of_lt_of_le hg hy.size)).trans hx5, (hb.cell (Nat.lt_of_lt_of_le hg hy.size)).trans hx6, (hb.cell (Nat.lt_of_lt_of_le hg hy.size)).trans hx7, (hb.cell (Nat.lt_of_lt_of_le hg hy.size)).trans hx8, (hb.cell (Nat.lt_of_lt_of_le hg hy.size)).trans hx9, (hb.cell (Nat.lt_of_lt_of_le hg' hy.size)).trans hx10, (hb.cell (Nat.lt_of_lt_of_le hg' hy.size)).trans hx11, (hb.cell (Nat.lt_of_lt_of_le hg' hy.size)).trans hx12, (hb.cell (Nat.lt_of_lt_of_le hg' hy.size)).trans hx13, (hb.cell (Nat.lt_of_lt_of_le hg' hy.size)).trans hx14, (hb.cell (Nat.lt_of_lt_of_le hg' hy.size)).trans hx15, (hb.cell (Nat.lt_of_lt_of_le hg' hy.size)).trans hx16, (hb.cell (Nat.lt_of_lt_of_le hg' hy.size)).trans hx17, (hb.cell (Nat.lt_of_lt_of_le hg' hy.size)).trans hx18, (hb.cell (Nat.lt_of_lt_of_le hg' hy.size)).trans hx19⟩, hy.trans (hb.mono hy.size)⟩
set_option maxRecDepth 100000 in
set_option maxHeartbeats 1000000 in
theorem eqRunS_same (va vb : Value) (Ba Bb n : Nat) (F : Nat → Int) (w : World) (ha : Row w Ba 10 n F va) (hb : Row w Bb 10 n F vb) (hn : n ≤ 1048576) :
    Calls Tryz.prog 22 #[va, vb] w fun e w' => e = .returned (.bool true) ∧ Below w.heap.size w w' := by
  obtain ⟨ao, ca, rfl⟩ := ha.form
  obtain ⟨bo, cb, rfl⟩ := hb.form
  have HA : Hid (Row w Ba 10 n F (.slice ao n ca)) := ha
  have HB : Hid (Row w Bb 10 n F (.slice bo n cb)) := hb
  clear ha hb
  go_enter Tryz.func22, Tryz.ntmps22
  go_wp2
  go_loopw [5] (fun i wr => ∃ k : Nat, k ≤ n ∧ i = .int .i64 k ∧ Below w.heap.size w wr) (fun i _ => n - (intOf i).toNat)
  case atStart => exact ⟨0, Nat.zero_le _, rfl, Below.refl _ _⟩
  case round =>
    obtain ⟨k, hk, rfl, hbw⟩ := hrel
    by_cases hlt : k < n
    · obtain ⟨g, o, rfl, _, hg, c0, c1, c2, c3, c4, c5, c6, c7, c8, c9⟩ := HA.out.at10 hlt
      obtain ⟨g', o', rfl, _, hg', d0, d1, d2, d3, d4, d5, d6, d7, d8, d9⟩ := HB.out.at10 hlt
      have h0 : TwoRun w g o g' o' k F wr.drew := ⟨⟨(hbw.cell (p := ⟨g, o + k * 10, none⟩) hg).trans c0, (hbw.cell (p := ⟨g, o + k * 10 + 1, none⟩) hg).trans c1, (hbw.cell (p := ⟨g, o + k * 10 + 2, none⟩) hg).trans c2, (hbw.cell (p := ⟨g, o + k * 10 + 3, none⟩) hg).trans c3, (hbw.cell (p := ⟨g, o + k * 10 + 4, none⟩) hg).trans c4, (hbw.cell (p := ⟨g, o + k * 10 + 5, none⟩) hg).trans c5, (hbw.cell (p := ⟨g, o + k * 10 + 6, none⟩) hg).trans c6, (hbw.cell (p := ⟨g, o + k * 10 + 7, none⟩) hg).trans c7, (hbw.cell (p := ⟨g, o + k * 10 + 8, none⟩) hg).trans c8, (hbw.cell (p := ⟨g, o + k * 10 + 9, none⟩) hg).trans c9, (hbw.cell (p := ⟨g', o' + k * 10, none⟩) hg').trans d0, (hbw.cell (p := ⟨g', o' + k * 10 + 1, none⟩) hg').trans d1, (hbw.cell (p := ⟨g', o' + k * 10 + 2, none⟩) hg').trans d2, (hbw.cell (p := ⟨g', o' + k * 10 + 3, none⟩) hg').trans d3, (hbw.cell (p := ⟨g', o' + k * 10 + 4, none⟩) hg').trans d4, (hbw.cell (p := ⟨g', o' + k * 10 + 5, none⟩) hg').trans d5, (hbw.cell (p := ⟨g', o' + k * 10 + 6, none⟩) hg').trans d6, (hbw.cell (p := ⟨g', o' + k * 10 + 7, none⟩) hg').trans d7, (hbw.cell (p := ⟨g', o' + k * 10 + 8, none⟩) hg').trans d8, (hbw.cell (p := ⟨g', o' + k * 10 + 9, none⟩) hg').trans d9⟩, hbw.drew⟩
      clear c0 d0 c1 d1 c2 d2 c3 d3 c4 d4 c5 d5 c6 d6 c7 d7 c8 d8 c9 d9 hbw
      go_wp2_with fail
      refine wp_region_held_drew (S := TwoRun w g o g' o' k F) (by kernel_rfl) h0 (fun hS => ?_)
      clear h0
      refine tkH 0 ?_ hS (fun wx hx => ?_) ?_; rotate_left
      · obtain ⟨⟨hx0, hx1, hx2, hx3, hx4, hx5, hx6, hx7, hx8, hx9, hx10, hx11, hx12, hx13, hx14, hx15, hx16, hx17, hx18, hx19⟩, _⟩ := hx; go_simp; try with_reducible rfl
      refine tkH 1 ?_ hS (fun wx hx => ?_) ?_; rotate_left
      · obtain ⟨⟨hx0, hx1, hx2, hx3, hx4, hx5, hx6, hx7, hx8, hx9, hx10, hx11, hx12, hx13, hx14, hx15, hx16, hx17, hx18, hx19⟩, _⟩ := hx; go_simp; try with_reducible rfl
      refine tkH 2 ?_ hS (fun wx hx => ?_) ?_; rotate_left
      · obtain ⟨⟨hx0, hx1, hx2, hx3, hx4, hx5, hx6, hx7, hx8, hx9, hx10, hx11, hx12, hx13, hx14, hx15, hx16, hx17, hx18, hx19⟩, _⟩ := hx; go_simp; try with_reducible rfl
      refine tkH 3 ?_ hS (fun wx hx => ?_) ?_; rotate_left
      · obtain ⟨⟨hx0, hx1, hx2, hx3, hx4, hx5, hx6, hx7, hx8, hx9, hx10, hx11, hx12, hx13, hx14, hx15, hx16, hx17, hx18, hx19⟩, _⟩ := hx; go_simp; try with_reducible rfl
      refine tkH 4 ?_ hS (fun wx hx => ?_) ?_; rotate_left
      · obtain ⟨⟨hx0, hx1, hx2, hx3, hx4, hx5, hx6, hx7, hx8, hx9, hx10, hx11, hx12, hx13, hx14, hx15, hx16, hx17, hx18, hx19⟩, _⟩ := hx; go_simp; try with_reducible rfl
      refine tkH 5 ?_ hS (fun wx hx => ?_) ?_; rotate_left
      · obtain ⟨⟨hx0, hx1, hx2, hx3, hx4, hx5, hx6, hx7, hx8, hx9, hx10, hx11, hx12, hx13, hx14, hx15, hx16, hx17, hx18, hx19⟩, _⟩ := hx; go_simp; try with_reducible rfl
      refine tkH 6 ?_ hS (fun wx hx => ?_) ?_; rotate_left
      · obtain ⟨⟨hx0, hx1, hx2, hx3, hx4, hx5, hx6, hx7, hx8, hx9, hx10, hx11, hx12, hx13, hx14, hx15, hx16, hx17, hx18, hx19⟩, _⟩ := hx; go_simp; try with_reducible rfl
      refine tkH 7 ?_ hS (fun wx hx => ?_) ?_; rotate_left
      · obtain ⟨⟨hx0, hx1, hx2, hx3, hx4, hx5, hx6, hx7, hx8, hx9, hx10, hx11, hx12, hx13, hx14, hx15, hx16, hx17, hx18, hx19⟩, _⟩ := hx; go_simp; try with_reducible rfl
      refine rdH 8 (fun K hK => ?_)
      go_simp
      go_wp2_with fail
      refine (eqRun_same _ _ _ _ _ _ _ _ _ _ _).mono ?_
      rintro e w' ⟨rfl, hb⟩
      go_wp2_with fail
      refine hK.out _ _ (hS.later hg hg' hb) (fun hS => ?_)
      clear hK K
      refine tkH 9 ?_ hS (fun wx hx => ?_) ?_; rotate_left
      · obtain ⟨⟨hx0, hx1, hx2, hx3, hx4, hx5, hx6, hx7, hx8, hx9, hx10, hx11, hx12, hx13, hx14, hx15, hx16, hx17, hx18, hx19⟩, _⟩ := hx; go_simp; try with_reducible rfl
      refine wpAnyH_done (by kernel_rfl) ?_ _
      go_simp
      go_wp2
      go_roundw
      case rel => exact ⟨k + 1, by omega, by go_num, hS.2⟩
      case measure => simp [intOf]; omega
    · go_wp2
      go_ret
      exact ⟨rfl, hbw⟩
end Go.Proofs.YtjkchhcnochjlaaGreatDoor

namespace Go.Proofs.YtjkchhcnochjlaaGreatDoor
open Go.ChangeShapes Go.WideShapes Go.ChangeAt Go.RowKit Go.Joins Go.Deep

set_option maxRecDepth 100000 in
/-- The cells of a world that came in, opened. -/
theorem open_world6 {H : Type} {enc : TypeId × Value → H} {W : World} {fuel : Nat} {u0 u1 u2 u3 u4 u5 : Value} {d : DataW H} {p : List MemPlace} (hf0 : DataW.trod enc Tryz.prog W 0 (fun _ => true) true fuel 30 [u0, u1, u2, u3, u4, u5] = some (d, p)) :
    ∃ (nw nx bd : Int) (nr : Nat) (F : Nat → Int) (n : Nat) (S : Nat → Sto) (V : Nat → Nat → Value) (nt : Nat) (T : Nat → Tx) (X : Nat → Value), (u0 = .int .i64 nw ∧ u1 = .int .i64 nx ∧ u2 = .int .i64 bd) ∧ Grs W 0 nr F n S V u3 u4 ∧ Txs W 0 nt T X u5 ∧
      (nr ≤ 9223372036854775807 ∧ n ≤ 9223372036854775807 ∧ ∀ i, i < n → BigS (S i)) ∧ nt ≤ 9223372036854775807 ∧ (∀ i, i < nt → (T i).m ≤ 9223372036854775807) ∧ (Lit.int .i64 nw).wf = true ∧ (Lit.int .i64 nx).wf = true ∧ (Lit.int .i64 bd).wf = true := by
  obtain ⟨xs, k, _, _, _, hxl, hf⟩ := DataW.trod_struct Tryz.underlying30 hf0
  have t0 : DataW.trod enc Tryz.prog W 0 (fun _ => true) true k 2 (List.take (Tryz.prog.cellsOf 2) (List.drop 0 [u0, u1, u2, u3, u4, u5])) = xs[0]? := hf 0 _ rfl
  have t1 : DataW.trod enc Tryz.prog W 0 (fun _ => true) true k 23 (List.take (Tryz.prog.cellsOf 23) (List.drop 1 [u0, u1, u2, u3, u4, u5])) = xs[1]? := hf 1 _ rfl
  have t2 : DataW.trod enc Tryz.prog W 0 (fun _ => true) true k 27 (List.take (Tryz.prog.cellsOf 27) (List.drop 3 [u0, u1, u2, u3, u4, u5])) = xs[2]? := hf 2 _ rfl
  have t3 : DataW.trod enc Tryz.prog W 0 (fun _ => true) true k 28 (List.take (Tryz.prog.cellsOf 28) (List.drop 5 [u0, u1, u2, u3, u4, u5])) = xs[3]? := hf 3 _ rfl
  rw [show Tryz.prog.cellsOf 2 = 1 by kernel_rfl] at t0
  rw [show Tryz.prog.cellsOf 23 = 2 by kernel_rfl] at t1
  rw [show Tryz.prog.cellsOf 27 = 2 by kernel_rfl] at t2
  rw [show Tryz.prog.cellsOf 28 = 1 by kernel_rfl] at t3
  simp only [List.drop_zero, List.drop_succ_cons, List.take_succ_cons, List.take_zero] at t0 t1 t2 t3
  obtain ⟨z0, hz0⟩ : ∃ z, xs[0]? = some z := ⟨xs[0]'(by rw [hxl]; decide), by simp⟩
  obtain ⟨z1, hz1⟩ : ∃ z, xs[1]? = some z := ⟨xs[1]'(by rw [hxl]; decide), by simp⟩
  obtain ⟨z2, hz2⟩ : ∃ z, xs[2]? = some z := ⟨xs[2]'(by rw [hxl]; decide), by simp⟩
  obtain ⟨z3, hz3⟩ : ∃ z, xs[3]? = some z := ⟨xs[3]'(by rw [hxl]; decide), by simp⟩
  rw [hz0] at t0
  rw [hz1] at t1
  rw [hz2] at t2
  rw [hz3] at t3
  obtain ⟨nw, hs0, _, w0⟩ := DataW.trod_int Tryz.underlying2 t0
  simp only [List.cons.injEq, and_true] at hs0
  obtain ⟨ys, k1, _, _, _, hyl, hg⟩ := DataW.trod_struct Tryz.underlying23 t1
  have g0 : DataW.trod enc Tryz.prog W 0 (fun _ => true) true k1 2 (List.take (Tryz.prog.cellsOf 2) (List.drop 0 [u1, u2])) = ys[0]? := hg 0 _ rfl
  have g1 : DataW.trod enc Tryz.prog W 0 (fun _ => true) true k1 2 (List.take (Tryz.prog.cellsOf 2) (List.drop 1 [u1, u2])) = ys[1]? := hg 1 _ rfl
  rw [show Tryz.prog.cellsOf 2 = 1 by kernel_rfl] at g0 g1
  simp only [List.drop_zero, List.drop_succ_cons, List.take_succ_cons, List.take_zero] at g0 g1
  obtain ⟨q0, hq0⟩ : ∃ z, ys[0]? = some z := ⟨ys[0]'(by rw [hyl]; decide), by simp⟩
  obtain ⟨q1, hq1⟩ : ∃ z, ys[1]? = some z := ⟨ys[1]'(by rw [hyl]; decide), by simp⟩
  rw [hq0] at g0
  rw [hq1] at g1
  obtain ⟨nx, hs1, _, w1⟩ := DataW.trod_int Tryz.underlying2 g0
  obtain ⟨bd, hs2, _, w2⟩ := DataW.trod_int Tryz.underlying2 g1
  simp only [List.cons.injEq, and_true] at hs1 hs2
  obtain ⟨ps, k2, _, _, _, hpl, hh⟩ := DataW.trod_struct Tryz.underlying27 t2
  have r0 : DataW.trod enc Tryz.prog W 0 (fun _ => true) true k2 24 (List.take (Tryz.prog.cellsOf 24) (List.drop 0 [u3, u4])) = ps[0]? := hh 0 _ rfl
  have r1 : DataW.trod enc Tryz.prog W 0 (fun _ => true) true k2 25 (List.take (Tryz.prog.cellsOf 25) (List.drop 1 [u3, u4])) = ps[1]? := hh 1 _ rfl
  rw [show Tryz.prog.cellsOf 24 = 1 by kernel_rfl] at r0
  rw [show Tryz.prog.cellsOf 25 = 1 by kernel_rfl] at r1
  simp only [List.drop_zero, List.drop_succ_cons, List.take_succ_cons, List.take_zero] at r0 r1
  obtain ⟨e0, he0⟩ : ∃ z, ps[0]? = some z := ⟨ps[0]'(by rw [hpl]; decide), by simp⟩
  obtain ⟨e1, he1⟩ : ∃ z, ps[1]? = some z := ⟨ps[1]'(by rw [hpl]; decide), by simp⟩
  rw [he0] at r0
  rw [he1] at r1
  obtain ⟨nr, F, rr, l0, _⟩ := open_row (m := 3) Tryz.underlying24 Tryz.underlying164 (by kernel_rfl) (by decide) rfl (fun j f hf => by
    match j, hf with
    | 0, hf => cases hf; exact ⟨rfl, by kernel_rfl, Tryz.underlying2⟩
    | 1, hf => cases hf; exact ⟨rfl, by kernel_rfl, Tryz.underlying2⟩
    | 2, hf => cases hf; exact ⟨rfl, by kernel_rfl, Tryz.underlying2⟩) r0
  obtain ⟨n, S, V, s1, l1, ls⟩ := open_stos r1
  obtain ⟨nt, T, X, tx, l2, lt⟩ := open_txs t3
  refine ⟨nw, nx, bd, nr, F, n, S, V, nt, T, X, ⟨hs0, hs1, hs2⟩, ⟨rr, s1⟩, tx, ⟨by simpa [maxLen] using l0, by simpa [maxLen] using l1, fun i hi => ?_⟩, by simpa [maxLen] using l2, fun i hi => by simpa [maxLen] using lt i hi, w0, w1, w2⟩
  obtain ⟨h0, h1, h2⟩ := ls i hi
  exact ⟨by simpa [maxLen] using h0, by simpa [maxLen] using h1, by simpa [maxLen] using h2⟩

set_option maxRecDepth 100000 in
/-- Runs that came in, opened. -/
theorem open_runs {H : Type} {enc : TypeId × Value → H} {w : World} {base : Nat} {spare : Nat → Bool} {held : Bool} {fuel : Nat} {v : Value} {x : DataW H × List MemPlace}
    (h : DataW.trod enc Tryz.prog w base spare held fuel 31 [v] = some x) :
    ∃ n F, Row w base 10 n F v ∧ n ≤ maxLen ∧ ∀ i j, i < n → j < 10 → (Lit.int .i64 (F (i * 10 + j))).wf = true := by
  rcases open_slice Tryz.underlying31 h with ⟨h0, _⟩ | ⟨a, len, cap, q, n, D, Pl, hv, hb, hl, hm, hmm, rfl, hx⟩
  · simp only [List.cons.injEq, and_true] at h0
    subst h0
    exact ⟨0, fun _ => 0, ⟨_, _, rfl, fun h => absurd h (Nat.lt_irrefl 0)⟩, Nat.zero_le _, fun i j hi => absurd hi (Nat.not_lt_zero i)⟩
  simp only [List.cons.injEq, and_true] at hv
  subst hv
  have hlq : len ≤ q := by rw [hmm]; split <;> omega
  have hce : Tryz.prog.cellsOf 86 = 10 := by kernel_rfl
  have each : ∀ i, i < len → ∃ y : Nat → Int, (∀ j, j < 10 → w.cell? (a.add (i * 10 + j)) = some (.int .i64 (y j))) ∧ ∀ j, j < 10 → (Lit.int .i64 (y j)).wf = true := by
    intro i hi
    obtain ⟨cs', h1, h2⟩ := hx i (by omega)
    rw [hce] at h1
    obtain ⟨_, hlen, hcell⟩ := World.cells?_some h1
    obtain ⟨xs, k, hk, hxy, _, hxl, hf⟩ := DataW.trod_struct Tryz.underlying86 h2
    match cs', hlen with
    | [u0, u1, u2, u3, u4, u5, u6, u7, u8, u9], _ =>
      have g0 : DataW.trod enc Tryz.prog w base spare held k 84 (List.take (Tryz.prog.cellsOf 84) (List.drop 0 [u0, u1, u2, u3, u4, u5, u6, u7, u8, u9])) = xs[0]? := hf 0 _ rfl
      have t6 : DataW.trod enc Tryz.prog w base spare held k 2 (List.take (Tryz.prog.cellsOf 2) (List.drop 6 [u0, u1, u2, u3, u4, u5, u6, u7, u8, u9])) = xs[1]? := hf 1 _ rfl
      have t7 : DataW.trod enc Tryz.prog w base spare held k 2 (List.take (Tryz.prog.cellsOf 2) (List.drop 7 [u0, u1, u2, u3, u4, u5, u6, u7, u8, u9])) = xs[2]? := hf 2 _ rfl
      have t8 : DataW.trod enc Tryz.prog w base spare held k 2 (List.take (Tryz.prog.cellsOf 2) (List.drop 8 [u0, u1, u2, u3, u4, u5, u6, u7, u8, u9])) = xs[3]? := hf 3 _ rfl
      have t9 : DataW.trod enc Tryz.prog w base spare held k 2 (List.take (Tryz.prog.cellsOf 2) (List.drop 9 [u0, u1, u2, u3, u4, u5, u6, u7, u8, u9])) = xs[4]? := hf 4 _ rfl
      rw [show Tryz.prog.cellsOf 84 = 6 by kernel_rfl] at g0
      rw [show Tryz.prog.cellsOf 2 = 1 by kernel_rfl] at t6 t7 t8 t9
      simp only [List.drop_zero, List.drop_succ_cons, List.take_succ_cons, List.take_zero] at g0 t6 t7 t8 t9
      obtain ⟨z0, hz0⟩ : ∃ z, xs[0]? = some z := ⟨xs[0]'(by rw [hxl]; decide), by simp⟩
      obtain ⟨z1, hz1⟩ : ∃ z, xs[1]? = some z := ⟨xs[1]'(by rw [hxl]; decide), by simp⟩
      obtain ⟨z2, hz2⟩ : ∃ z, xs[2]? = some z := ⟨xs[2]'(by rw [hxl]; decide), by simp⟩
      obtain ⟨z3, hz3⟩ : ∃ z, xs[3]? = some z := ⟨xs[3]'(by rw [hxl]; decide), by simp⟩
      obtain ⟨z4, hz4⟩ : ∃ z, xs[4]? = some z := ⟨xs[4]'(by rw [hxl]; decide), by simp⟩
      rw [hz0] at g0
      rw [hz1] at t6
      rw [hz2] at t7
      rw [hz3] at t8
      rw [hz4] at t9
      obtain ⟨ys, k1, _, _, _, hyl, hg⟩ := DataW.trod_struct Tryz.underlying84 g0
      have t0 : DataW.trod enc Tryz.prog w base spare held k1 2 (List.take (Tryz.prog.cellsOf 2) (List.drop 0 [u0, u1, u2, u3, u4, u5])) = ys[0]? := hg 0 _ rfl
      have t1 : DataW.trod enc Tryz.prog w base spare held k1 2 (List.take (Tryz.prog.cellsOf 2) (List.drop 1 [u0, u1, u2, u3, u4, u5])) = ys[1]? := hg 1 _ rfl
      have t2 : DataW.trod enc Tryz.prog w base spare held k1 2 (List.take (Tryz.prog.cellsOf 2) (List.drop 2 [u0, u1, u2, u3, u4, u5])) = ys[2]? := hg 2 _ rfl
      have t3 : DataW.trod enc Tryz.prog w base spare held k1 2 (List.take (Tryz.prog.cellsOf 2) (List.drop 3 [u0, u1, u2, u3, u4, u5])) = ys[3]? := hg 3 _ rfl
      have t4 : DataW.trod enc Tryz.prog w base spare held k1 2 (List.take (Tryz.prog.cellsOf 2) (List.drop 4 [u0, u1, u2, u3, u4, u5])) = ys[4]? := hg 4 _ rfl
      have t5 : DataW.trod enc Tryz.prog w base spare held k1 2 (List.take (Tryz.prog.cellsOf 2) (List.drop 5 [u0, u1, u2, u3, u4, u5])) = ys[5]? := hg 5 _ rfl
      rw [show Tryz.prog.cellsOf 2 = 1 by kernel_rfl] at t0 t1 t2 t3 t4 t5
      simp only [List.drop_zero, List.drop_succ_cons, List.take_succ_cons, List.take_zero] at t0 t1 t2 t3 t4 t5
      obtain ⟨y0, hy0⟩ : ∃ z, ys[0]? = some z := ⟨ys[0]'(by rw [hyl]; decide), by simp⟩
      rw [hy0] at t0
      obtain ⟨y1, hy1⟩ : ∃ z, ys[1]? = some z := ⟨ys[1]'(by rw [hyl]; decide), by simp⟩
      rw [hy1] at t1
      obtain ⟨y2, hy2⟩ : ∃ z, ys[2]? = some z := ⟨ys[2]'(by rw [hyl]; decide), by simp⟩
      rw [hy2] at t2
      obtain ⟨y3, hy3⟩ : ∃ z, ys[3]? = some z := ⟨ys[3]'(by rw [hyl]; decide), by simp⟩
      rw [hy3] at t3
      obtain ⟨y4, hy4⟩ : ∃ z, ys[4]? = some z := ⟨ys[4]'(by rw [hyl]; decide), by simp⟩
      rw [hy4] at t4
      obtain ⟨y5, hy5⟩ : ∃ z, ys[5]? = some z := ⟨ys[5]'(by rw [hyl]; decide), by simp⟩
      rw [hy5] at t5
      obtain ⟨s0, hs0, _, w0⟩ := DataW.trod_int Tryz.underlying2 t0
      obtain ⟨s1, hs1, _, w1⟩ := DataW.trod_int Tryz.underlying2 t1
      obtain ⟨s2, hs2, _, w2⟩ := DataW.trod_int Tryz.underlying2 t2
      obtain ⟨s3, hs3, _, w3⟩ := DataW.trod_int Tryz.underlying2 t3
      obtain ⟨s4, hs4, _, w4⟩ := DataW.trod_int Tryz.underlying2 t4
      obtain ⟨s5, hs5, _, w5⟩ := DataW.trod_int Tryz.underlying2 t5
      obtain ⟨s6, hs6, _, w6⟩ := DataW.trod_int Tryz.underlying2 t6
      obtain ⟨s7, hs7, _, w7⟩ := DataW.trod_int Tryz.underlying2 t7
      obtain ⟨s8, hs8, _, w8⟩ := DataW.trod_int Tryz.underlying2 t8
      obtain ⟨s9, hs9, _, w9⟩ := DataW.trod_int Tryz.underlying2 t9
      simp only [List.cons.injEq, and_true] at hs0 hs1 hs2 hs3 hs4 hs5 hs6 hs7 hs8 hs9
      refine ⟨fun j => match j with | 0 => s0 | 1 => s1 | 2 => s2 | 3 => s3 | 4 => s4 | 5 => s5 | 6 => s6 | 7 => s7 | 8 => s8 | _ => s9, fun j hj => ?_, fun j hj => ?_⟩
      · have ej := hcell j (by simpa using hj)
        rw [add_add] at ej
        rw [ej]
        match j, hj with
        | 0, _ => show some u0 = _; rw [hs0]; rfl
        | 1, _ => show some u1 = _; rw [hs1]; rfl
        | 2, _ => show some u2 = _; rw [hs2]; rfl
        | 3, _ => show some u3 = _; rw [hs3]; rfl
        | 4, _ => show some u4 = _; rw [hs4]; rfl
        | 5, _ => show some u5 = _; rw [hs5]; rfl
        | 6, _ => show some u6 = _; rw [hs6]; rfl
        | 7, _ => show some u7 = _; rw [hs7]; rfl
        | 8, _ => show some u8 = _; rw [hs8]; rfl
        | 9, _ => show some u9 = _; rw [hs9]; rfl
      · match j, hj with
        | 0, _ => exact w0
        | 1, _ => exact w1
        | 2, _ => exact w2
        | 3, _ => exact w3
        | 4, _ => exact w4
        | 5, _ => exact w5
        | 6, _ => exact w6
        | 7, _ => exact w7
        | 8, _ => exact w8
        | 9, _ => exact w9
  obtain ⟨Y, hY⟩ := choose_lt (α := Nat → Int) each
  have hF : ∀ i j, j < 10 → (fun p => Y (p / 10) (p % 10)) (i * 10 + j) = Y i j := fun i j hj => by
    show Y ((i * 10 + j) / 10) ((i * 10 + j) % 10) = _
    rw [show (i * 10 + j) / 10 = i by omega, show (i * 10 + j) % 10 = j by omega]
  refine ⟨len, fun p => Y (p / 10) (p % 10), ⟨_, _, rfl, fun hn => ?_⟩, Nat.le_trans hl hm, fun i j hi hj => by rw [hF i j hj]; exact (hY i hi).2 j hj⟩
  obtain ⟨b, o, s⟩ := a
  have h0 := (hY 0 hn).1 0 (by decide)
  obtain rfl : s = none := by simpa [Addr.add] using World.cell?_spot h0
  refine ⟨b, o, rfl, hb, World.block_lt_of_cell? w _ h0, fun p hp => ?_⟩
  have hc := (hY (p / 10) (by omega)).1 (p % 10) (Nat.mod_lt _ (by decide))
  rw [WideShapes.add_plain, show p / 10 * 10 + p % 10 = p by omega] at hc
  exact hc
theorem array7F {a : Array Value} (h : a.size = 7) : ∃ u0 u1 u2 u3 u4 u5 u6, a = #[u0, u1, u2, u3, u4, u5, u6] := by
  obtain ⟨l⟩ := a
  match l, h with
  | [u0, u1, u2, u3, u4, u5, u6], _ => exact ⟨u0, u1, u2, u3, u4, u5, u6, rfl⟩
set_option maxRecDepth 100000 in
/-- A file system that came in, opened. -/
theorem open_fsworld {H : Type} {enc : TypeId × Value → H} {W : World} {base : Nat} {v : Value} {d : DataW H} {p : List MemPlace} (hv : Value.okWide Tryz.prog W .any base 33 v) (h : DataW.Trod enc Tryz.prog W 0 (fun _ => true) true 33 v d p) :
    ∃ (nw nx bd : Int) (nr : Nat) (F : Nat → Int) (n : Nat) (S : Nat → Sto) (V : Nat → Nat → Value) (vr vs : Value) (nt : Nat) (T : Nat → Tx) (X : Nat → Value) (vt : Value) (nq : Nat) (R : Nat → Int) (vq : Value), v = .agg #[.int .i64 nw, .int .i64 nx, .int .i64 bd, vr, vs, vt, vq] ∧ Grs W 0 nr F n S V vr vs ∧ Txs W 0 nt T X vt ∧ Row W 0 10 nq R vq ∧
      (nr ≤ 9223372036854775807 ∧ n ≤ 9223372036854775807 ∧ ∀ i, i < n → BigS (S i)) ∧ nt ≤ 9223372036854775807 ∧ (∀ i, i < nt → (T i).m ≤ 9223372036854775807) ∧ nq ≤ 9223372036854775807 := by
  obtain ⟨cs, rfl, hsz⟩ := okWide_struct Tryz.underlying33 hv
  have hce : Tryz.prog.cellsOf 33 = 7 := by kernel_rfl
  obtain ⟨u0, u1, u2, u3, u4, u5, u6, rfl⟩ := array7F (hsz.trans hce)
  obtain ⟨fuel, hf0⟩ := h
  obtain ⟨xs, k, _, _, _, hxl, hf⟩ := DataW.trod_struct Tryz.underlying33 hf0
  simp only [Value.cells] at hf
  have t0 : DataW.trod enc Tryz.prog W 0 (fun _ => true) true k 30 (List.take (Tryz.prog.cellsOf 30) (List.drop 0 [u0, u1, u2, u3, u4, u5, u6])) = xs[0]? := hf 0 _ rfl
  have t1 : DataW.trod enc Tryz.prog W 0 (fun _ => true) true k 31 (List.take (Tryz.prog.cellsOf 31) (List.drop 6 [u0, u1, u2, u3, u4, u5, u6])) = xs[1]? := hf 1 _ rfl
  rw [show Tryz.prog.cellsOf 30 = 6 by kernel_rfl] at t0
  rw [show Tryz.prog.cellsOf 31 = 1 by kernel_rfl] at t1
  simp only [List.drop_zero, List.drop_succ_cons, List.take_succ_cons, List.take_zero] at t0 t1
  obtain ⟨⟨z0, y0⟩, hz0⟩ : ∃ z, xs[0]? = some z := ⟨xs[0]'(by rw [hxl]; decide), by simp⟩
  obtain ⟨z1, hz1⟩ : ∃ z, xs[1]? = some z := ⟨xs[1]'(by rw [hxl]; decide), by simp⟩
  rw [hz0] at t0
  rw [hz1] at t1
  obtain ⟨nw, nx, bd, nr, F, n, S, V, nt, T, X, ⟨rfl, rfl, rfl⟩, hG, hX, b1, b2, b3, _⟩ := open_world6 t0
  obtain ⟨nq, R, hq, hl, _⟩ := open_runs t1
  exact ⟨nw, nx, bd, nr, F, n, S, V, u3, u4, nt, T, X, u5, nq, R, u6, rfl, hG, hX, hq, b1, b2, b3, by simpa [maxLen] using hl⟩
end Go.Proofs.YtjkchhcnochjlaaGreatDoor

namespace Go.Proofs.YtjkchhcnochjlaaGreatDoor
open Go.RowKit

def sizeX (T : Nat → Tx) (i : Nat) : Nat := (T i).m
/-- Two transactions at a place. -/
def Two6 (w : World) (g o g' o' k : Nat) (t : Tx) (u u' : Value) (x : World) : Prop :=
  Below w.heap.size w x ∧ (x.cell? ⟨g, o + k * 6, none⟩ = some (.int .i64 t.s) ∧ x.cell? ⟨g, o + k * 6 + 1, none⟩ = some (.int .i64 t.c) ∧ x.cell? ⟨g, o + k * 6 + 2, none⟩ = some (.int .i64 t.u) ∧ x.cell? ⟨g, o + k * 6 + 3, none⟩ = some (.int .i64 t.st) ∧ x.cell? ⟨g, o + k * 6 + 4, none⟩ = some (.int .i64 t.a) ∧ x.cell? ⟨g, o + k * 6 + 5, none⟩ = some u) ∧
    (x.cell? ⟨g', o' + k * 6, none⟩ = some (.int .i64 t.s) ∧ x.cell? ⟨g', o' + k * 6 + 1, none⟩ = some (.int .i64 t.c) ∧ x.cell? ⟨g', o' + k * 6 + 2, none⟩ = some (.int .i64 t.u) ∧ x.cell? ⟨g', o' + k * 6 + 3, none⟩ = some (.int .i64 t.st) ∧ x.cell? ⟨g', o' + k * 6 + 4, none⟩ = some (.int .i64 t.a) ∧ x.cell? ⟨g', o' + k * 6 + 5, none⟩ = some u') ∧ g < x.heap.size ∧ g' < x.heap.size
theorem Two6.later {w : World} {g o g' o' k : Nat} {t : Tx} {u u' : Value} {x x' : World} (h : Two6 w g o g' o' k t u u' x) (hb : Below x.heap.size x x') : Two6 w g o g' o' k t u u' x' := by
  obtain ⟨h0, ⟨a0, a1, a2, a3, a4, a5⟩, ⟨b0, b1, b2, b3, b4, b5⟩, hg, hg'⟩ := h
  have k1 : ∀ p, x'.cell? ⟨g, p, none⟩ = x.cell? ⟨g, p, none⟩ := fun p => hb.cell (p := ⟨g, p, none⟩) hg
  have k2 : ∀ p, x'.cell? ⟨g', p, none⟩ = x.cell? ⟨g', p, none⟩ := fun p => hb.cell (p := ⟨g', p, none⟩) hg'
  exact ⟨h0.trans (hb.mono h0.size), ⟨(k1 _).trans a0, (k1 _).trans a1, (k1 _).trans a2, (k1 _).trans a3, (k1 _).trans a4, (k1 _).trans a5⟩, ⟨(k2 _).trans b0, (k2 _).trans b1, (k2 _).trans b2, (k2 _).trans b3, (k2 _).trans b4, (k2 _).trans b5⟩, Nat.lt_of_lt_of_le hg hb.size, Nat.lt_of_lt_of_le hg' hb.size⟩
set_option maxRecDepth 100000 in
set_option maxHeartbeats 4000000 in
theorem eqTxnS_same (n : Nat) (T : Nat → Tx) (V U : Nat → Value) (va vb : Value) (Ba Bb : Nat) (w : World) (ha : Txs w Ba n T V va) (hb : Txs w Bb n T U vb) (hn : n ≤ 1048576) (hs : ∀ i, i < n → (T i).m ≤ 1048576) :
    Calls Tryz.prog 41 #[va, vb] w fun e w' => e = .returned (.bool true) ∧ Below w.heap.size w w' := by
  obtain ⟨ao, cp, rfl⟩ := ha.form
  obtain ⟨ao', cp', rfl⟩ := hb.form
  have H : Hid (Txs w Ba n T V (.slice ao n cp)) := ha
  have H' : Hid (Txs w Bb n T U (.slice ao' n cp')) := hb
  have HN : Hid (∀ i, i < n → (T i).m ≤ 1048576) := hs
  clear ha hb hs
  go_enter Tryz.func41, Tryz.ntmps41
  go_wp2
  go_loopw [5] (fun i wr => ∃ k : Nat, k ≤ n ∧ i = .int .i64 k ∧ Hid (Below w.heap.size w wr)) (fun i _ => n - (intOf i).toNat)
  case atStart => exact ⟨0, Nat.zero_le _, rfl, Below.refl _ _⟩
  case round =>
    obtain ⟨k, hk, rfl, hR⟩ := hrel
    by_cases hlt : k < n
    · obtain ⟨g, o, rfl, _, hg, hc, rk, _⟩ := (H.out.later hR.out).at hlt
      obtain ⟨g', o', rfl, _, hg', hc', rk', _⟩ := (H'.out.later hR.out).at hlt
      obtain ⟨a1, d1, e1⟩ := rk.form
      obtain ⟨a1', d1', e1'⟩ := rk'.form
      rw [e1] at hc rk
      rw [e1'] at hc' rk'
      have hN : Hid ((T k).m ≤ 1048576) := HN.out k hlt
      obtain ⟨t0, ht⟩ : ∃ t, T k = t := ⟨_, rfl⟩
      rw [ht] at hc hc' rk rk' hN
      have SK : Hid (Row wr Ba 3 t0.m t0.L (.slice a1 t0.m d1) ∧ Row wr Bb 3 t0.m t0.L (.slice a1' t0.m d1')) := ⟨rk, rk'⟩
      have TT : Hid (Two6 w g o g' o' k t0 (.slice a1 t0.m d1) (.slice a1' t0.m d1') wr) := ⟨hR.out, hc, hc', hg, hg'⟩
      obtain ⟨s', c', u', st', a', m', L'⟩ := t0
      clear ht rk rk' hc hc' hg hg' e1 e1'
      go_wp2_with fail
      refine wp_region_held_drew (S := Two6 w g o g' o' k ⟨s', c', u', st', a', m', L'⟩ (.slice a1 m' d1) (.slice a1' m' d1')) (by kernel_rfl) (TT.out.later (Below.drew (Below.refl _ _))) (fun hS => ?_)
      refine tkH 0 ?_ hS (fun wx hx => ?_) ?_; rotate_left
      · obtain ⟨_, ⟨hx0, hx1, hx2, hx3, hx4, hx5⟩, ⟨hy0, hy1, hy2, hy3, hy4, hy5⟩, _⟩ := hx; go_simp; try with_reducible rfl
      refine tkH 1 ?_ hS (fun wx hx => ?_) ?_; rotate_left
      · obtain ⟨_, ⟨hx0, hx1, hx2, hx3, hx4, hx5⟩, ⟨hy0, hy1, hy2, hy3, hy4, hy5⟩, _⟩ := hx; go_simp; try with_reducible rfl
      refine tkH 2 ?_ hS (fun wx hx => ?_) ?_; rotate_left
      · obtain ⟨_, ⟨hx0, hx1, hx2, hx3, hx4, hx5⟩, ⟨hy0, hy1, hy2, hy3, hy4, hy5⟩, _⟩ := hx; go_simp; try with_reducible rfl
      refine tkH 3 ?_ hS (fun wx hx => ?_) ?_; rotate_left
      · obtain ⟨_, ⟨hx0, hx1, hx2, hx3, hx4, hx5⟩, ⟨hy0, hy1, hy2, hy3, hy4, hy5⟩, _⟩ := hx; go_simp; try with_reducible rfl
      refine tkH 4 ?_ hS (fun wx hx => ?_) ?_; rotate_left
      · obtain ⟨_, ⟨hx0, hx1, hx2, hx3, hx4, hx5⟩, ⟨hy0, hy1, hy2, hy3, hy4, hy5⟩, _⟩ := hx; go_simp; try with_reducible rfl
      refine tkH 5 ?_ hS (fun wx hx => ?_) ?_; rotate_left
      · obtain ⟨_, ⟨hx0, hx1, hx2, hx3, hx4, hx5⟩, ⟨hy0, hy1, hy2, hy3, hy4, hy5⟩, _⟩ := hx; go_simp; try with_reducible rfl
      refine tkH 6 ?_ hS (fun wx hx => ?_) ?_; rotate_left
      · obtain ⟨_, ⟨hx0, hx1, hx2, hx3, hx4, hx5⟩, ⟨hy0, hy1, hy2, hy3, hy4, hy5⟩, _⟩ := hx; go_simp; try with_reducible rfl
      refine tkH 7 ?_ hS (fun wx hx => ?_) ?_; rotate_left
      · obtain ⟨_, ⟨hx0, hx1, hx2, hx3, hx4, hx5⟩, ⟨hy0, hy1, hy2, hy3, hy4, hy5⟩, _⟩ := hx; go_simp; try with_reducible rfl
      refine rdH 8 (fun K hK => ?_)
      go_simp
      go_wp2_with fail
      refine (eqTxn_same s' c' u' st' a' m' L' _ _ Ba Bb _ (SK.out.1.later (below_dr (Below.refl _ _) 1)) (SK.out.2.later (below_dr (Below.refl _ _) 1)) hN.out).mono ?_
      rintro e w1 ⟨rfl, q1⟩
      have hS' := hS.later q1
      clear q1
      go_wp2_with fail
      refine hK.out _ _ hS' (fun hS => ?_)
      clear hK K hS' TT
      refine tkH 9 ?_ hS (fun wx hx => ?_) ?_; rotate_left
      · obtain ⟨_, ⟨hx0, hx1, hx2, hx3, hx4, hx5⟩, ⟨hy0, hy1, hy2, hy3, hy4, hy5⟩, _⟩ := hx; go_simp; try with_reducible rfl
      refine wpAnyH_done (by kernel_rfl) ?_ _
      have HB : Hid (Below w.heap.size w w1) := hS.1
      clear hS hR SK
      go_simp
      go_wp2
      go_roundw
      case rel => exact ⟨k + 1, by omega, by go_num, HB⟩
      case measure => simp [intOf]; omega
    · obtain rfl : k = n := by omega
      go_wp2
      go_ret
      exact ⟨rfl, hR.out⟩
end Go.Proofs.YtjkchhcnochjlaaGreatDoor

namespace Go.Proofs.YtjkchhcnochjlaaGreatDoor
open Go.RowKit

/-- What is told of an oracle. -/
def oFault (a b : Int) : Int := if (a < 1 ∨ 100000 < a) ∨ (b < 1 ∨ 100000 < b) then 3 else if b < a then 1 else 0
theorem oFault_range {a b : Int} (h : (a < 1 ∨ 100000 < a) ∨ (b < 1 ∨ 100000 < b)) : oFault a b = 3 := by unfold oFault; rw [if_pos h]
theorem oFault_form {a b : Int} (h : ¬ ((a < 1 ∨ 100000 < a) ∨ (b < 1 ∨ 100000 < b))) (h2 : b < a) : oFault a b = 1 := by unfold oFault; rw [if_neg h, if_pos h2]
theorem oFault_ok {a b : Int} (h : ¬ ((a < 1 ∨ 100000 < a) ∨ (b < 1 ∨ 100000 < b))) (h2 : ¬ b < a) : oFault a b = 0 := by unfold oFault; rw [if_neg h, if_neg h2]

set_option maxHeartbeats 1000000 in
theorem implOracleFault_any (a b : Int) (w : World) :
    Calls Tryz.prog 60 #[.agg #[.int .i64 a, .int .i64 b]] w fun e w' => e = .returned (.int .i64 (oFault a b)) ∧ w' = w.alloc (.cells #[.int .i64 a, .int .i64 b] 38) := by
  by_cases h1 : a < 1
  · rw [oFault_range (by omega)]
    go_enter Tryz.func60, Tryz.ntmps60
    go_wp2
    first | (go_ret; exact ⟨rfl, rfl⟩) | (go_ret; exact ⟨rfl, 0, rfl⟩) | (go_quiet (fail); go_wp2; go_ret; exact ⟨rfl, _, rfl⟩)
  by_cases h2 : 100000 < a
  · rw [oFault_range (by omega)]
    have d1 : decide (a ≤ 100000) = false := decide_eq_false (by omega)
    go_enter Tryz.func60, Tryz.ntmps60
    go_wp2
    first | (go_ret; exact ⟨rfl, rfl⟩) | (go_ret; exact ⟨rfl, 0, rfl⟩) | (go_quiet (fail); go_wp2; go_ret; exact ⟨rfl, _, rfl⟩)
  have d1 : decide (a ≤ 100000) = true := decide_eq_true (by omega)
  by_cases h3 : b < 1
  · rw [oFault_range (by omega)]
    go_enter Tryz.func60, Tryz.ntmps60
    go_wp2
    first | (go_ret; exact ⟨rfl, rfl⟩) | (go_ret; exact ⟨rfl, 0, rfl⟩) | (go_quiet (fail); go_wp2; go_ret; exact ⟨rfl, _, rfl⟩)
  by_cases h4 : 100000 < b
  · rw [oFault_range (by omega)]
    have d2 : decide (b ≤ 100000) = false := decide_eq_false (by omega)
    go_enter Tryz.func60, Tryz.ntmps60
    go_wp2
    first | (go_ret; exact ⟨rfl, rfl⟩) | (go_ret; exact ⟨rfl, 0, rfl⟩) | (go_quiet (fail); go_wp2; go_ret; exact ⟨rfl, _, rfl⟩)
  have d2 : decide (b ≤ 100000) = true := decide_eq_true (by omega)
  by_cases h5 : b < a
  · rw [oFault_form (by omega) h5]
    go_enter Tryz.func60, Tryz.ntmps60
    go_wp2
    first | (go_ret; exact ⟨rfl, rfl⟩) | (go_ret; exact ⟨rfl, 0, rfl⟩) | (go_quiet (fail); go_wp2; go_ret; exact ⟨rfl, _, rfl⟩)
  · rw [oFault_ok (by omega) h5]
    go_enter Tryz.func60, Tryz.ntmps60
    go_wp2
    first | (go_ret; exact ⟨rfl, rfl⟩) | (go_ret; exact ⟨rfl, 0, rfl⟩) | (go_quiet (fail); go_wp2; go_ret; exact ⟨rfl, _, rfl⟩)

end Go.Proofs.YtjkchhcnochjlaaGreatDoor

namespace Go.Proofs.YtjkchhcnochjlaaGreatDoor
open Go.RowKit

theorem oFault_zero {a b : Int} (h : oFault a b = 0) : 1 ≤ a ∧ a ≤ b ∧ b ≤ 100000 := by
  unfold oFault at h
  split at h
  · omega
  · split at h
    · omega
    · omega
theorem toOracle_any (a b : Int) (w : World) :
    Calls Tryz.prog 28 #[.agg #[.int .i64 a, .int .i64 b]] w fun e w' => e = .returned (.agg #[.int .i64 a, .int .i64 b]) ∧ Below w.heap.size w w' := by
  go_enter Tryz.func28, Tryz.ntmps28
  go_wp2
  exact bodyPost_ret (v := .agg #[.int .i64 a, .int .i64 b]) (by simp [results, Tryz.results28, go_sem]) rfl ⟨rfl, by repeat (first | exact Below.refl _ _ | refine Below.setCell ?_ (by first | omega | (simp <;> omega)) _ | refine Below.alloc ?_ (by first | omega | (simp <;> omega)) _)⟩
theorem eqOracle_same (a b : Int) (w : World) :
    Calls Tryz.prog 39 #[.agg #[.int .i64 a, .int .i64 b], .agg #[.int .i64 a, .int .i64 b]] w fun e w' => e = .returned (.bool true) ∧ w' = (w.alloc (.cells #[.int .i64 a, .int .i64 b] 38)).alloc (.cells #[.int .i64 a, .int .i64 b] 38) := by
  go_enter Tryz.func39, Tryz.ntmps39
  go_wp2
  go_ret
  exact ⟨rfl, rfl⟩
end Go.Proofs.YtjkchhcnochjlaaGreatDoor

namespace Go.Proofs.YtjkchhcnochjlaaGreatDoor
open Go.RowKit

theorem setCell_otherE {x : World} {b i j : Nat} {u v : Value} (hn : i ≠ j) (h : x.cell? ⟨b, i, none⟩ = some u) : (x.setCell ⟨b, j, none⟩ v).cell? ⟨b, i, none⟩ = some u := (World.cell?_setCell_other _ _ _ _ (fun e => hn (congrArg Addr.off e).symm)).trans h
theorem Blk6.put0 {x : World} {b : Nat} {a0 a1 a2 a3 a4 a5 : Value} (h : Blk6 x b a0 a1 a2 a3 a4 a5) (c0 : Value) : Blk6 (x.setCell ⟨b, 0, none⟩ c0) b c0 a1 a2 a3 a4 a5 := by
  obtain ⟨⟨h0, h1, h2, h3, h4, h5⟩, f0, f1, f2, f3, f4, f5⟩ := h
  refine ⟨⟨?_, ?_, ?_, ?_, ?_, ?_⟩, by simpa using f0, by simpa using f1, by simpa using f2, by simpa using f3, by simpa using f4, by simpa using f5⟩
  · exact World.cell?_setCell_same _ _ _ h0
  · exact setCell_otherE (by decide) h1
  · exact setCell_otherE (by decide) h2
  · exact setCell_otherE (by decide) h3
  · exact setCell_otherE (by decide) h4
  · exact setCell_otherE (by decide) h5
theorem Blk6.put12 {x : World} {b : Nat} {a0 a1 a2 a3 a4 a5 : Value} (h : Blk6 x b a0 a1 a2 a3 a4 a5) (c1 c2 : Value) : Blk6 ((x.setCell ⟨b, 1, none⟩ c1).setCell ⟨b, 2, none⟩ c2) b a0 c1 c2 a3 a4 a5 := by
  obtain ⟨⟨h0, h1, h2, h3, h4, h5⟩, f0, f1, f2, f3, f4, f5⟩ := h
  refine ⟨⟨?_, ?_, ?_, ?_, ?_, ?_⟩, by simpa using f0, by simpa using f1, by simpa using f2, by simpa using f3, by simpa using f4, by simpa using f5⟩
  · exact setCell_otherE (by decide) (setCell_otherE (by decide) h0)
  · exact setCell_otherE (by decide) (World.cell?_setCell_same _ _ _ h1)
  · exact World.cell?_setCell_same _ _ _ (setCell_otherE (by decide) h2)
  · exact setCell_otherE (by decide) (setCell_otherE (by decide) h3)
  · exact setCell_otherE (by decide) (setCell_otherE (by decide) h4)
  · exact setCell_otherE (by decide) (setCell_otherE (by decide) h5)
theorem Blk6.put34 {x : World} {b : Nat} {a0 a1 a2 a3 a4 a5 : Value} (h : Blk6 x b a0 a1 a2 a3 a4 a5) (c3 c4 : Value) : Blk6 ((x.setCell ⟨b, 3, none⟩ c3).setCell ⟨b, 4, none⟩ c4) b a0 a1 a2 c3 c4 a5 := by
  obtain ⟨⟨h0, h1, h2, h3, h4, h5⟩, f0, f1, f2, f3, f4, f5⟩ := h
  refine ⟨⟨?_, ?_, ?_, ?_, ?_, ?_⟩, by simpa using f0, by simpa using f1, by simpa using f2, by simpa using f3, by simpa using f4, by simpa using f5⟩
  · exact setCell_otherE (by decide) (setCell_otherE (by decide) h0)
  · exact setCell_otherE (by decide) (setCell_otherE (by decide) h1)
  · exact setCell_otherE (by decide) (setCell_otherE (by decide) h2)
  · exact setCell_otherE (by decide) (World.cell?_setCell_same _ _ _ h3)
  · exact World.cell?_setCell_same _ _ _ (setCell_otherE (by decide) h4)
  · exact setCell_otherE (by decide) (setCell_otherE (by decide) h5)
theorem Blk6.put5 {x : World} {b : Nat} {a0 a1 a2 a3 a4 a5 : Value} (h : Blk6 x b a0 a1 a2 a3 a4 a5) (c5 : Value) : Blk6 (x.setCell ⟨b, 5, none⟩ c5) b a0 a1 a2 a3 a4 c5 := by
  obtain ⟨⟨h0, h1, h2, h3, h4, h5⟩, f0, f1, f2, f3, f4, f5⟩ := h
  refine ⟨⟨?_, ?_, ?_, ?_, ?_, ?_⟩, by simpa using f0, by simpa using f1, by simpa using f2, by simpa using f3, by simpa using f4, by simpa using f5⟩
  · exact setCell_otherE (by decide) h0
  · exact setCell_otherE (by decide) h1
  · exact setCell_otherE (by decide) h2
  · exact setCell_otherE (by decide) h3
  · exact setCell_otherE (by decide) h4
  · exact World.cell?_setCell_same _ _ _ h5
theorem Blk6.putAll {x : World} {b : Nat} {a0 a1 a2 a3 a4 a5 : Value} (h : Blk6 x b a0 a1 a2 a3 a4 a5) (c0 c1 c2 c3 c4 c5 : Value) : Blk6 ((((((x.setCell ⟨b, 0, none⟩ c0).setCell ⟨b, 1, none⟩ c1).setCell ⟨b, 2, none⟩ c2).setCell ⟨b, 3, none⟩ c3).setCell ⟨b, 4, none⟩ c4).setCell ⟨b, 5, none⟩ c5) b c0 c1 c2 c3 c4 c5 := by
  obtain ⟨⟨h0, h1, h2, h3, h4, h5⟩, f0, f1, f2, f3, f4, f5⟩ := h
  refine ⟨⟨?_, ?_, ?_, ?_, ?_, ?_⟩, by simpa using f0, by simpa using f1, by simpa using f2, by simpa using f3, by simpa using f4, by simpa using f5⟩
  · exact setCell_otherE (by decide) (setCell_otherE (by decide) (setCell_otherE (by decide) (setCell_otherE (by decide) (setCell_otherE (by decide) (World.cell?_setCell_same _ _ _ h0)))))
  · exact setCell_otherE (by decide) (setCell_otherE (by decide) (setCell_otherE (by decide) (setCell_otherE (by decide) (World.cell?_setCell_same _ _ _ (setCell_otherE (by decide) h1)))))
  · exact setCell_otherE (by decide) (setCell_otherE (by decide) (setCell_otherE (by decide) (World.cell?_setCell_same _ _ _ (setCell_otherE (by decide) (setCell_otherE (by decide) h2)))))
  · exact setCell_otherE (by decide) (setCell_otherE (by decide) (World.cell?_setCell_same _ _ _ (setCell_otherE (by decide) (setCell_otherE (by decide) (setCell_otherE (by decide) h3)))))
  · exact setCell_otherE (by decide) (World.cell?_setCell_same _ _ _ (setCell_otherE (by decide) (setCell_otherE (by decide) (setCell_otherE (by decide) (setCell_otherE (by decide) h4)))))
  · exact World.cell?_setCell_same _ _ _ (setCell_otherE (by decide) (setCell_otherE (by decide) (setCell_otherE (by decide) (setCell_otherE (by decide) (setCell_otherE (by decide) h5)))))

theorem Blk6.farE {x : World} {b : Nat} {a0 a1 a2 a3 a4 a5 : Value} (h : Blk6 x b a0 a1 a2 a3 a4 a5) {p : Addr} (hp : b ≠ p.block) (u : Value) : Blk6 (x.setCell p u) b a0 a1 a2 a3 a4 a5 := h.kept (Below.heap_setCell x p u b hp)
set_option maxRecDepth 100000 in
set_option maxHeartbeats 4000000 in
theorem eqWorldT_same (nw nx bd : Int) (nr : Nat) (F : Nat → Int) (n : Nat) (S : Nat → Sto) (V U : Nat → Nat → Value) (ra : Option Addr) (rc : Nat) (sa : Option Addr) (sc : Nat) (qa : Option Addr) (qc : Nat) (pa : Option Addr) (pc : Nat) (nt : Nat) (T : Nat → Tx) (X Y : Nat → Value) (ta : Option Addr) (tc : Nat) (ya : Option Addr) (yc : Nat) (B B' : Nat) (w : World) (h : Grs w B nr F n S V (.slice ra nr rc) (.slice sa n sc)) (h' : Grs w B' nr F n S U (.slice qa nr qc) (.slice pa n pc)) (ht : Txs w B nt T X (.slice ta nt tc)) (ht' : Txs w B' nt T Y (.slice ya nt yc)) (hs : nr ≤ 1048576 ∧ n ≤ 1048576 ∧ ∀ i, i < n → SmallS (S i)) (hx : nt ≤ 1048576 ∧ ∀ i, i < nt → (T i).m ≤ 1048576) :
    Calls Tryz.prog 21 #[.agg #[.int .i64 nw, .int .i64 nx, .int .i64 bd, .slice ra nr rc, .slice sa n sc, .slice ta nt tc], .agg #[.int .i64 nw, .int .i64 nx, .int .i64 bd, .slice qa nr qc, .slice pa n pc, .slice ya nt yc]] w fun e w' => e = .returned (.bool true) ∧ Below w.heap.size w w' := by
  have H : Hid (Grs w B nr F n S V (.slice ra nr rc) (.slice sa n sc) ∧ Grs w B' nr F n S U (.slice qa nr qc) (.slice pa n pc)) := ⟨h, h'⟩
  have HX : Hid (Txs w B nt T X (.slice ta nt tc) ∧ Txs w B' nt T Y (.slice ya nt yc)) := ⟨ht, ht'⟩
  have HN : Hid ((nr ≤ 1048576 ∧ n ≤ 1048576 ∧ ∀ i, i < n → SmallS (S i)) ∧ (nt ≤ 1048576 ∧ ∀ i, i < nt → (T i).m ≤ 1048576)) := ⟨hs, hx⟩
  clear h h' hs ht ht' hx
  go_enter Tryz.func21, Tryz.ntmps21
  go_wp2_with fail
  refine (eqOracle_same nx bd _).mono ?_
  rintro e w1 ⟨rfl, hw1⟩
  have q1 : Below w.heap.size w w1 := by
    rw [hw1]
    exact ((((Below.refl w.heap.size w).alloc (Nat.le_refl _) _).alloc (by simp) _).alloc (by simp; omega) _).alloc (by simp; omega) _
  have B0 : Hid (Blk6 w1 w.heap.size (.int .i64 nw) (.int .i64 nx) (.int .i64 bd) (.slice ra nr rc) (.slice sa n sc) (.slice ta nt tc) ∧ Blk6 w1 (w.heap.size + 1) (.int .i64 nw) (.int .i64 nx) (.int .i64 bd) (.slice qa nr qc) (.slice pa n pc) (.slice ya nt yc)) := by
    have k := Blk6.new w (.int .i64 nw) (.int .i64 nx) (.int .i64 bd) (.slice ra nr rc) (.slice sa n sc) (.slice ta nt tc) 45
    have k' := Blk6.new (w.alloc (.cells #[.int .i64 nw, .int .i64 nx, .int .i64 bd, .slice ra nr rc, .slice sa n sc, .slice ta nt tc] 45)) (.int .i64 nw) (.int .i64 nx) (.int .i64 bd) (.slice qa nr qc) (.slice pa n pc) (.slice ya nt yc) 45
    rw [World.size_alloc] at k'
    rw [hw1]
    exact ⟨((k.later (below_alloc _ _)).later (below_alloc _ _)).later (below_alloc _ _), (k'.later (below_alloc _ _)).later (below_alloc _ _)⟩
  have Q1 : Hid (Below w.heap.size w w1) := q1
  clear hw1 q1
  obtain ⟨⟨⟨s0, s1, s2, s3, s4, s5⟩, _⟩, ⟨t0, t1, t2, t3, t4, t5⟩, _⟩ := B0.out
  go_wp2_with fail
  refine (eqGroups_same nr F n S V U _ _ _ _ B B' _ (H.out.1.later Q1.out) (H.out.2.later Q1.out) HN.out.1.1 HN.out.1.2.1 HN.out.1.2.2).mono ?_
  rintro e w2 ⟨rfl, q2⟩
  have Q : Hid (Below w.heap.size w w2) := Q1.out.trans (q2.mono Q1.out.size)
  have B2 : Hid (Blk6 w2 w.heap.size (.int .i64 nw) (.int .i64 nx) (.int .i64 bd) (.slice ra nr rc) (.slice sa n sc) (.slice ta nt tc) ∧ Blk6 w2 (w.heap.size + 1) (.int .i64 nw) (.int .i64 nx) (.int .i64 bd) (.slice qa nr qc) (.slice pa n pc) (.slice ya nt yc)) := ⟨B0.out.1.later q2, B0.out.2.later q2⟩
  clear s0 s1 s2 s3 s4 s5 t0 t1 t2 t3 t4 t5 q2 Q1 B0
  obtain ⟨⟨⟨s0, s1, s2, s3, s4, s5⟩, _⟩, ⟨t0, t1, t2, t3, t4, t5⟩, _⟩ := B2.out
  go_wp2_with fail
  refine (eqTxnS_same nt T X Y _ _ B B' _ (HX.out.1.later Q.out) (HX.out.2.later Q.out) HN.out.2.1 HN.out.2.2).mono ?_
  rintro e w3 ⟨rfl, q3⟩
  have Q3 : Hid (Below w.heap.size w w3) := Q.out.trans (q3.mono Q.out.size)
  clear q3 Q s0 s1 s2 s3 s4 s5 t0 t1 t2 t3 t4 t5 B2
  go_wp2
  go_ret
  exact ⟨rfl, Q3.out⟩
/-- A world that a call has laid: groups and transactions, each in blocks of its own. -/
def NewWd (w : World) (nw nx bd : Int) (nr : Nat) (F : Nat → Int) (n : Nat) (S : Nat → Sto) (nt : Nat) (T : Nat → Tx) (e : Ending) (w' : World) : Prop :=
  ∃ ra rc g U z gt Y zt, e = .returned (.agg #[.int .i64 nw, .int .i64 nx, .int .i64 bd, .slice ra nr rc, .slice (some ⟨g, 0, none⟩) n n, .slice (some ⟨gt, 0, none⟩) nt nt]) ∧ FineG w' w.heap.size nr F n S ra rc g U z ∧ (z n ≤ gt ∧ gt < w'.heap.size ∧ FillT w' gt nt nt T Y ∧ FineT w' zt nt T Y ∧ zt 0 = gt + 1 ∧ (∀ i, i ≤ nt → gt < zt i) ∧ zt nt ≤ w'.heap.size) ∧ Below w.heap.size w w'
end Go.Proofs.YtjkchhcnochjlaaGreatDoor

namespace Go.Proofs.YtjkchhcnochjlaaGreatDoor
open Go.RowKit

/-- The three blocks of toWorld: the box, the answer, what is laid. -/
def ToW (w : World) (v0 v1 v2 v3 v4 v5 u0 u1 u2 u3 u4 u5 : Value) (x : World) : Prop :=
  Below w.heap.size w x ∧ Blk6 x w.heap.size v0 v1 v2 v3 v4 v5 ∧ Blk6 x (w.heap.size + 1) (.int .i64 0) (.int .i64 0) (.int .i64 0) (.slice none 0 0) (.slice none 0 0) (.slice none 0 0) ∧ Blk6 x (w.heap.size + 2) u0 u1 u2 u3 u4 u5
theorem ToW.later {w : World} {v0 v1 v2 v3 v4 v5 u0 u1 u2 u3 u4 u5 : Value} {x x' : World} (h : ToW w v0 v1 v2 v3 v4 v5 u0 u1 u2 u3 u4 u5 x) (hb : Below x.heap.size x x') : ToW w v0 v1 v2 v3 v4 v5 u0 u1 u2 u3 u4 u5 x' :=
  ⟨h.1.trans (hb.mono h.1.size), h.2.1.later hb, h.2.2.1.later hb, h.2.2.2.later hb⟩
theorem hid_mkE {p : Prop} (h : p) : Hid p := h
theorem size_set (x : World) (a : Addr) (u : Value) : (x.setCell a u).heap.size = x.heap.size := by simp [World.setCell]
theorem FineG.farE {w : World} {lo nr : Nat} {F : Nat → Int} {n : Nat} {S : Nat → Sto} {ra : Option Addr} {rc g : Nat} {U : Nat → Nat → Value} {z : Nat → Nat} (h : FineG w lo nr F n S ra rc g U z) {b j : Nat} (hb : b < lo) (u : Value) : FineG (w.setCell ⟨b, j, none⟩ u) lo nr F n S ra rc g U z := by
  obtain ⟨⟨h1, h2, h3⟩, h4, h5, h6, h7, h8, h9⟩ := h
  exact ⟨⟨h1.far (Or.inl (by show b < lo; exact hb)) _, h2.far _ _, h3⟩, h4, h5.far (by show g ≠ b; omega) _, h6.far (fun i hi => by show b < z i; have := h8 i (by omega); omega) _, h7, h8, by rw [size_set]; exact h9⟩
theorem FineG.monoE {w : World} {lo lo' nr : Nat} {F : Nat → Int} {n : Nat} {S : Nat → Sto} {ra : Option Addr} {rc g : Nat} {U : Nat → Nat → Value} {z : Nat → Nat} (h : FineG w lo nr F n S ra rc g U z) (hl : lo' ≤ lo) : FineG w lo' nr F n S ra rc g U z :=
  ⟨⟨h.1.1.mono hl, h.1.2⟩, Nat.le_trans hl h.2.1, h.2.2⟩
theorem FillT.farE {w : World} {g n k : Nat} {T : Nat → Tx} {U : Nat → Value} (h : FillT w g n k T U) {b j : Nat} (hb : g ≠ b) (u : Value) : FillT (w.setCell ⟨b, j, none⟩ u) g n k T U := by
  have hk : ∀ p, (w.setCell ⟨b, j, none⟩ u).cell? ⟨g, p, none⟩ = w.cell? ⟨g, p, none⟩ := fun p => World.cell?_of_block (w := w) (a := ⟨g, p, none⟩) (Below.heap_setCell w ⟨b, j, none⟩ u g hb)
  refine ⟨by rw [size_set]; exact h.1, fun p hp => ⟨⟨?_, by simp only [World.frozen?_setCell]; exact (h.2 p hp).1.2⟩, fun d => (hk p).trans ((h.2 p hp).2 d)⟩⟩
  obtain ⟨v, hv⟩ := (h.2 p hp).1.1
  exact ⟨v, (hk p).trans hv⟩
set_option maxRecDepth 100000 in
set_option maxHeartbeats 4000000 in
theorem toWorld_any (nw nx bd : Int) (nr : Nat) (F : Nat → Int) (n : Nat) (S : Nat → Sto) (V : Nat → Nat → Value) (vr vs : Value) (nt : Nat) (T : Nat → Tx) (X : Nat → Value) (vt : Value) (B : Nat) (w : World) (h : Grs w B nr F n S V vr vs) (ht : Txs w B nt T X vt) (hs : nr ≤ 1048576 ∧ n ≤ 1048576 ∧ ∀ i, i < n → SmallS (S i)) (hx : nt ≤ 1048576 ∧ ∀ i, i < nt → (T i).m ≤ 1048576) :
    Calls Tryz.prog 16 #[.agg #[.int .i64 nw, .int .i64 nx, .int .i64 bd, vr, vs, vt]] w (NewWd w nw nx bd nr F n S nt T) := by
  obtain ⟨a0, c0, a1, c1, rfl, rfl⟩ := h.form
  obtain ⟨at', ct, rfl⟩ := ht.form
  have H : Hid (Grs w B nr F n S V (.slice a0 nr c0) (.slice a1 n c1) ∧ Txs w B nt T X (.slice at' nt ct)) := ⟨h, ht⟩
  have HN : Hid ((nr ≤ 1048576 ∧ n ≤ 1048576 ∧ ∀ i, i < n → SmallS (S i)) ∧ nt ≤ 1048576 ∧ ∀ i, i < nt → (T i).m ≤ 1048576) := ⟨hs, hx⟩
  have W0 : Hid (ToW w (.int .i64 nw) (.int .i64 nx) (.int .i64 bd) (.slice a0 nr c0) (.slice a1 n c1) (.slice at' nt ct) (.int .i64 nw) (.int .i64 0) (.int .i64 0) (.slice none 0 0) (.slice none 0 0) (.slice none 0 0) (((w.alloc (.cells #[.int .i64 nw, .int .i64 nx, .int .i64 bd, .slice a0 nr c0, .slice a1 n c1, .slice at' nt ct] 30)).alloc (.cells #[.int .i64 0, .int .i64 0, .int .i64 0, .slice none 0 0, .slice none 0 0, .slice none 0 0] 45)).alloc (.cells #[.int .i64 nw, .int .i64 0, .int .i64 0, .slice none 0 0, .slice none 0 0, .slice none 0 0] 45))) := by
    have k1 := Blk6.new (w.alloc (.cells #[.int .i64 nw, .int .i64 nx, .int .i64 bd, .slice a0 nr c0, .slice a1 n c1, .slice at' nt ct] 30)) (.int .i64 0) (.int .i64 0) (.int .i64 0) (.slice none 0 0) (.slice none 0 0) (.slice none 0 0) 45
    have k2 := Blk6.new ((w.alloc (.cells #[.int .i64 nw, .int .i64 nx, .int .i64 bd, .slice a0 nr c0, .slice a1 n c1, .slice at' nt ct] 30)).alloc (.cells #[.int .i64 0, .int .i64 0, .int .i64 0, .slice none 0 0, .slice none 0 0, .slice none 0 0] 45)) (.int .i64 nw) (.int .i64 0) (.int .i64 0) (.slice none 0 0) (.slice none 0 0) (.slice none 0 0) 45
    rw [World.size_alloc] at k1
    rw [World.size_alloc, World.size_alloc] at k2
    exact ⟨((below_alloc _ _).alloc (by simp) _).alloc (by simp; omega) _, ((Blk6.new w _ _ _ _ _ _ _).alloc _).alloc _, k1.alloc _, k2⟩
  clear h ht hs hx
  go_enter Tryz.func16, Tryz.ntmps16
  go_wp2_with fail
  generalize ((w.alloc (.cells #[.int .i64 nw, .int .i64 nx, .int .i64 bd, .slice a0 nr c0, .slice a1 n c1, .slice at' nt ct] 30)).alloc (.cells #[.int .i64 0, .int .i64 0, .int .i64 0, .slice none 0 0, .slice none 0 0, .slice none 0 0] 45)).alloc (.cells #[.int .i64 nw, .int .i64 0, .int .i64 0, .slice none 0 0, .slice none 0 0, .slice none 0 0] 45) = x0 at W0 ⊢
  refine (toOracle_any nx bd _).mono ?_
  rintro e y1 ⟨rfl, q1⟩
  have W1 : Hid (ToW w (.int .i64 nw) (.int .i64 nx) (.int .i64 bd) (.slice a0 nr c0) (.slice a1 n c1) (.slice at' nt ct) (.int .i64 nw) (.int .i64 0) (.int .i64 0) (.slice none 0 0) (.slice none 0 0) (.slice none 0 0) y1) := W0.out.later q1
  have W1' : Hid (ToW w (.int .i64 nw) (.int .i64 nx) (.int .i64 bd) (.slice a0 nr c0) (.slice a1 n c1) (.slice at' nt ct) (.int .i64 nw) (.int .i64 nx) (.int .i64 bd) (.slice none 0 0) (.slice none 0 0) (.slice none 0 0) ((y1.setCell ⟨w.heap.size + 2, 1, none⟩ (.int .i64 nx)).setCell ⟨w.heap.size + 2, 2, none⟩ (.int .i64 bd))) := ⟨(W1.out.1.setCell (by show w.heap.size ≤ w.heap.size + 2; omega) _).setCell (by show w.heap.size ≤ w.heap.size + 2; omega) _, (W1.out.2.1.farE (by show w.heap.size ≠ w.heap.size + 2; omega) _).farE (by show w.heap.size ≠ w.heap.size + 2; omega) _, (W1.out.2.2.1.farE (by show w.heap.size + 1 ≠ w.heap.size + 2; omega) _).farE (by show w.heap.size + 1 ≠ w.heap.size + 2; omega) _, W1.out.2.2.2.put12 _ _⟩
  obtain ⟨_, ⟨⟨b0, b1, b2, b3, b4, b5⟩, _⟩, _, ⟨⟨o0, o1, o2, o3, o4, o5⟩, p0, p1, p2, p3, p4, p5⟩⟩ := W1.out
  clear q1 W0
  go_wp2_with fail
  clear b0 b1 b2 b3 b4 b5 o0 o1 o2 o3 o4 o5 p0 p1 p2 p3 p4 p5 W1
  generalize (y1.setCell ⟨w.heap.size + 2, 1, none⟩ (.int .i64 nx)).setCell ⟨w.heap.size + 2, 2, none⟩ (.int .i64 bd) = x1 at W1' ⊢
  refine (toGroups_any nr F n S V _ _ B _ (H.out.1.later W1'.out.1) HN.out.1.1 HN.out.1.2.1 HN.out.1.2.2).mono ?_
  rintro e y2 ⟨ra, rc, g, U, z, rfl, hg, q2⟩
  have W2 : Hid (ToW w (.int .i64 nw) (.int .i64 nx) (.int .i64 bd) (.slice a0 nr c0) (.slice a1 n c1) (.slice at' nt ct) (.int .i64 nw) (.int .i64 nx) (.int .i64 bd) (.slice none 0 0) (.slice none 0 0) (.slice none 0 0) y2) := W1'.out.later q2
  have lo : Hid (w.heap.size + 3 ≤ x1.heap.size) := W1'.out.2.2.2.lt
  have W2' : Hid (ToW w (.int .i64 nw) (.int .i64 nx) (.int .i64 bd) (.slice a0 nr c0) (.slice a1 n c1) (.slice at' nt ct) (.int .i64 nw) (.int .i64 nx) (.int .i64 bd) (.slice ra nr rc) (.slice (some ⟨g, 0, none⟩) n n) (.slice none 0 0) ((y2.setCell ⟨w.heap.size + 2, 3, none⟩ (.slice ra nr rc)).setCell ⟨w.heap.size + 2, 4, none⟩ (.slice (some ⟨g, 0, none⟩) n n))) := ⟨(W2.out.1.setCell (by show w.heap.size ≤ w.heap.size + 2; omega) _).setCell (by show w.heap.size ≤ w.heap.size + 2; omega) _, (W2.out.2.1.farE (by show w.heap.size ≠ w.heap.size + 2; omega) _).farE (by show w.heap.size ≠ w.heap.size + 2; omega) _, (W2.out.2.2.1.farE (by show w.heap.size + 1 ≠ w.heap.size + 2; omega) _).farE (by show w.heap.size + 1 ≠ w.heap.size + 2; omega) _, W2.out.2.2.2.put34 _ _⟩
  have G2 : Hid (FineG ((y2.setCell ⟨w.heap.size + 2, 3, none⟩ (.slice ra nr rc)).setCell ⟨w.heap.size + 2, 4, none⟩ (.slice (some ⟨g, 0, none⟩) n n)) x1.heap.size nr F n S ra rc g U z) := (hg.farE (by have := lo.out; omega) _).farE (by have := lo.out; omega) _
  obtain ⟨_, ⟨⟨b0, b1, b2, b3, b4, b5⟩, _⟩, _, ⟨⟨o0, o1, o2, o3, o4, o5⟩, p0, p1, p2, p3, p4, p5⟩⟩ := W2.out
  clear q2 hg W1'
  go_wp2_with fail
  clear b0 b1 b2 b3 b4 b5 o0 o1 o2 o3 o4 o5 p0 p1 p2 p3 p4 p5 W2
  generalize (y2.setCell ⟨w.heap.size + 2, 3, none⟩ (.slice ra nr rc)).setCell ⟨w.heap.size + 2, 4, none⟩ (.slice (some ⟨g, 0, none⟩) n n) = x2 at W2' G2 ⊢
  refine (toTxnS_any nt T X _ B _ (H.out.2.later W2'.out.1) HN.out.2.1 HN.out.2.2).mono ?_
  rintro e y3 ⟨gt, Y, zt, rfl, hgt, FT, ⟨fine, ft0, ft1, ft2⟩, q3⟩
  have W3 : Hid (ToW w (.int .i64 nw) (.int .i64 nx) (.int .i64 bd) (.slice a0 nr c0) (.slice a1 n c1) (.slice at' nt ct) (.int .i64 nw) (.int .i64 nx) (.int .i64 bd) (.slice ra nr rc) (.slice (some ⟨g, 0, none⟩) n n) (.slice none 0 0) y3) := W2'.out.later q3
  have G3 : Hid (FineG y3 x1.heap.size nr F n S ra rc g U z ∧ z n ≤ gt) := ⟨G2.out.later q3, Nat.le_trans G2.out.2.2.2.2.2.2 hgt.1⟩
  have TT : Hid ((gt < y3.heap.size ∧ FillT y3 gt nt nt T Y ∧ FineT y3 zt nt T Y ∧ zt 0 = gt + 1 ∧ (∀ i, i ≤ nt → gt < zt i) ∧ zt nt ≤ y3.heap.size) ∧ x1.heap.size ≤ gt) := ⟨⟨hgt.2, FT, fine, ft0, ft1, ft2⟩, by have := G2.out.2.1; have := G2.out.2.2.2.2.2.1 n (Nat.le_refl _); have := G3.out.2; omega⟩
  have KL := hid_mkE ((W3.out.2.2.1.farE (p := ⟨w.heap.size + 2, 5, none⟩) (by show w.heap.size + 1 ≠ w.heap.size + 2; omega) (.slice (some ⟨gt, 0, none⟩) nt nt)).putAll (.int .i64 nw) (.int .i64 nx) (.int .i64 bd) (.slice ra nr rc) (.slice (some ⟨g, 0, none⟩) n n) (.slice (some ⟨gt, 0, none⟩) nt nt))
  obtain ⟨_, _, ⟨⟨d0, d1, d2, d3, d4, d5⟩, e0, e1, e2, e3, e4, e5⟩, ⟨⟨o0, o1, o2, o3, o4, o5⟩, p0, p1, p2, p3, p4, p5⟩⟩ := W3.out
  clear q3 FT fine ft0 ft1 ft2 hgt W2' G2
  go_wp2
  obtain ⟨⟨k0, k1, k2, k3, k4, k5⟩, _⟩ := KL.out
  have hlo := lo.out
  have htl := TT.out.2
  refine bodyPost_ret (v := .agg #[.int .i64 nw, .int .i64 nx, .int .i64 bd, .slice ra nr rc, .slice (some ⟨g, 0, none⟩) n n, .slice (some ⟨gt, 0, none⟩) nt nt]) (by simp [results, Tryz.results16, go_sem, k0, k1, k2, k3, k4, k5]) rfl ⟨ra, rc, g, U, z, gt, Y, zt, rfl, ?_, ?_, ?_⟩
  · have s : ∀ {y : World} (b j : Nat) (u : Value), b < x1.heap.size → FineG y x1.heap.size nr F n S ra rc g U z → FineG (y.setCell ⟨b, j, none⟩ u) x1.heap.size nr F n S ra rc g U z := fun b j u hb q => q.farE hb u
    exact FineG.monoE (s _ _ _ (by omega) (s _ _ _ (by omega) (s _ _ _ (by omega) (s _ _ _ (by omega) (s _ _ _ (by omega) (s _ _ _ (by omega) (s _ _ _ (by omega) G3.out.1))))))) (by omega)
  · have s : ∀ {y : World} (b j : Nat) (u : Value), b < x1.heap.size → (gt < y.heap.size ∧ FillT y gt nt nt T Y ∧ FineT y zt nt T Y ∧ zt 0 = gt + 1 ∧ (∀ i, i ≤ nt → gt < zt i) ∧ zt nt ≤ y.heap.size) → (gt < (y.setCell ⟨b, j, none⟩ u).heap.size ∧ FillT (y.setCell ⟨b, j, none⟩ u) gt nt nt T Y ∧ FineT (y.setCell ⟨b, j, none⟩ u) zt nt T Y ∧ zt 0 = gt + 1 ∧ (∀ i, i ≤ nt → gt < zt i) ∧ zt nt ≤ (y.setCell ⟨b, j, none⟩ u).heap.size) := fun b j u hb q => ⟨by rw [size_set]; exact q.1, q.2.1.farE (by omega) _, q.2.2.1.far (fun i hi => by show b < zt i; have := q.2.2.2.2.1 i (by omega); omega) _, q.2.2.2.1, q.2.2.2.2.1, by rw [size_set]; exact q.2.2.2.2.2⟩
    exact ⟨G3.out.2, s _ _ _ (by omega) (s _ _ _ (by omega) (s _ _ _ (by omega) (s _ _ _ (by omega) (s _ _ _ (by omega) (s _ _ _ (by omega) (s _ _ _ (by omega) TT.out.1))))))⟩
  · have s : ∀ {y : World} (b j : Nat) (u : Value), w.heap.size ≤ b → Below w.heap.size w y → Below w.heap.size w (y.setCell ⟨b, j, none⟩ u) := fun b j u hb q => q.setCell (by show w.heap.size ≤ b; exact hb) u
    exact s _ _ _ (by omega) (s _ _ _ (by omega) (s _ _ _ (by omega) (s _ _ _ (by omega) (s _ _ _ (by omega) (s _ _ _ (by omega) (s _ _ _ (by omega) W3.out.1))))))
end Go.Proofs.YtjkchhcnochjlaaGreatDoor

namespace Go.Proofs.YtjkchhcnochjlaaGreatDoor
open Go.RowKit

set_option maxRecDepth 100000 in
set_option maxHeartbeats 4000000 in
theorem szStoreS_lim (n : Nat) (S : Nat → Sto) (V : Nat → Nat → Value) (v : Value) (B : Nat) (left : Int) (w : World) (h : Stos w B n S V v) (hn : n ≤ 9223372036854775807) (hs : ∀ i, i < n → BigS (S i)) (h0 : 0 ≤ left) (h2 : left ≤ 1048576) :
    Calls Tryz.prog 44 #[v, .int .i64 left] w fun e w' => ∃ r, e = .returned (.int .i64 r) ∧ (SzAns n S left r ∧ r ≤ left) ∧ Below w.heap.size w w' := by
  obtain ⟨ao, cp, rfl⟩ := h.form
  have H : Hid (Stos w B n S V (.slice ao n cp)) := h
  have HN : Hid (∀ i, i < n → BigS (S i)) := hs
  clear h hs
  by_cases hl : left < n
  · have d : decide (left - n < 0) = true := decide_eq_true (by omega)
    go_enter Tryz.func44, Tryz.ntmps44
    go_wp2
    go_ret
    exact ⟨-1, rfl, ⟨Or.inl rfl, by omega⟩, Below.refl _ _⟩
  have d : decide (left - n < 0) = false := decide_eq_false (by omega)
  go_enter Tryz.func44, Tryz.ntmps44
  go_wp2
  go_loopw [1, 5] (fun j i wr => ∃ (k : Nat) (L : Int), k ≤ n ∧ j = .int .i64 L ∧ i = .int .i64 k ∧ Hid ((0 ≤ L ∧ L + (sumN (sizeT S) k : Nat) ≤ left) ∧ ∀ i, i < k → SmallS (S i)) ∧ Hid (Below w.heap.size w wr)) (fun _ i _ => n - (intOf i).toNat)
  case atStart => exact ⟨0, left - n, Nat.zero_le _, rfl, rfl, ⟨by simp only [sumN]; omega, fun i hi => absurd hi (Nat.not_lt_zero i)⟩, Below.refl _ _⟩
  case round =>
    obtain ⟨k, L, hk, rfl, rfl, hL, hR⟩ := hrel
    by_cases hlt : k < n
    · obtain ⟨g, o, rfl, _, hg, ⟨c0, c1, c2⟩, sk⟩ := H.out.at hlt
      have b0 := hR.out.cell (p := ⟨g, o + k * 3, none⟩) hg
      rw [c0] at b0
      have b1 := hR.out.cell (p := ⟨g, o + k * 3 + 1, none⟩) hg
      rw [c1] at b1
      have b2 := hR.out.cell (p := ⟨g, o + k * 3 + 2, none⟩) hg
      rw [c2] at b2
      clear c0 c1 c2
      obtain ⟨a0, d0, a1, d1, a2, d2, e0, e1, e2⟩ := sk.form
      rw [e0] at b0
      rw [e1] at b1
      rw [e2] at b2
      clear sk e0 e1 e2
      obtain ⟨n0, hn0⟩ : ∃ x, (S k).nc = x := ⟨_, rfl⟩
      obtain ⟨n1, hn1⟩ : ∃ x, (S k).nl = x := ⟨_, rfl⟩
      obtain ⟨n2, hn2⟩ : ∃ x, (S k).nw = x := ⟨_, rfl⟩
      rw [hn0] at b0
      rw [hn1] at b1
      rw [hn2] at b2
      have hB : Hid (n0 ≤ 9223372036854775807 ∧ n1 ≤ 9223372036854775807 ∧ n2 ≤ 9223372036854775807) := by
        have := HN.out k hlt
        unfold BigS at this
        rw [hn0, hn1, hn2] at this
        exact this
      have hE : Hid ((S k).nc = n0 ∧ (S k).nl = n1 ∧ (S k).nw = n2) := ⟨hn0, hn1, hn2⟩
      clear hn0 hn1 hn2
      by_cases hfit : (n0 : Int) + n1 + n2 ≤ L
      · go_wp2_with fail
        refine (szStore_ok L _ _ _ _ _ _ _ _ _ _ hfit hL.out.1.1 (by have := hL.out.1; omega) hB.out.1 hB.out.2.1 hB.out.2.2).mono ?_
        rintro e w1 ⟨rfl, q1⟩
        have HB : Hid (Below w.heap.size w w1) := hR.out.trans (q1.mono hR.out.size)
        have dd : decide (L - n0 - n1 - n2 < 0) = false := decide_eq_false (by omega)
        clear q1 hR b0 b1 b2
        go_wp2
        go_roundw
        case rel =>
          have hst : sumN (sizeT S) (k + 1) = sumN (sizeT S) k + (n0 + n1 + n2) := by show sumN (sizeT S) k + ((S k).nc + (S k).nl + (S k).nw) = _; rw [hE.out.1, hE.out.2.1, hE.out.2.2]
          refine ⟨k + 1, L - n0 - n1 - n2, by omega, by go_num, by go_num, ⟨by have := hL.out.1; rw [hst]; omega, fun i hi => ?_⟩, HB⟩
          by_cases q : i = k
          · subst q
            have h1 := hL.out.1
            unfold SmallS
            rw [hE.out.1, hE.out.2.1, hE.out.2.2]
            omega
          · exact hL.out.2 i (by omega)
        case measure => simp [intOf]; omega
      · go_wp2_with fail
        refine (szStore_no L _ _ _ _ _ _ _ _ _ _ (by omega) hL.out.1.1 (by have := hL.out.1; omega) hB.out.1 hB.out.2.1 hB.out.2.2).mono ?_
        rintro e w1 ⟨rfl, q1⟩
        have HB : Hid (Below w.heap.size w w1) := hR.out.trans (q1.mono hR.out.size)
        clear q1 hR b0 b1 b2
        go_wp2
        go_ret
        exact ⟨-1, rfl, ⟨Or.inl rfl, by omega⟩, HB.out⟩
    · obtain rfl : k = n := by omega
      go_wp2
      go_ret
      exact ⟨L, rfl, ⟨Or.inr ⟨hL.out.1.1, by omega, by have := hL.out.1; omega, hL.out.2⟩, by have := hL.out.1; omega⟩, hR.out⟩

set_option maxHeartbeats 1000000 in
theorem szGroups_lim (nr : Nat) (F : Nat → Int) (n : Nat) (S : Nat → Sto) (V : Nat → Nat → Value) (vr vs : Value) (B : Nat) (w : World) (h : Grs w B nr F n S V vr vs) (hr : nr ≤ 9223372036854775807) (hn : n ≤ 9223372036854775807) (hs : ∀ i, i < n → BigS (S i)) :
    Calls Tryz.prog 23 #[.agg #[vr, vs], .int .i64 1048576] w fun e w' => ∃ r, e = .returned (.int .i64 r) ∧ (r = -1 ∨ (0 ≤ r ∧ nr ≤ 1048576 ∧ (n ≤ 1048576 ∧ sumN (sizeT S) n ≤ 1048576) ∧ ∀ i, i < n → SmallS (S i))) ∧ r ≤ 1048576 ∧ Below w.heap.size w w' := by
  obtain ⟨a0, c0, a1, c1, rfl, rfl⟩ := h.form
  have H : Hid (Grs w B nr F n S V (.slice a0 nr c0) (.slice a1 n c1)) := h
  have HN : Hid (∀ i, i < n → BigS (S i)) := hs
  clear h hs
  by_cases hl : (1048576 : Int) < nr
  · go_enter Tryz.func23, Tryz.ntmps23
    go_wp2_with fail
    refine (szRangeS_no _ _ _ 1048576 _ hl (by omega) (by omega) hr).mono ?_
    rintro e w1 ⟨rfl, rfl⟩
    go_wp2
    go_ret
    exact ⟨-1, rfl, Or.inl rfl, by omega, below_alloc _ _⟩
  go_enter Tryz.func23, Tryz.ntmps23
  go_wp2_with fail
  refine (szRangeS_ok _ _ _ 1048576 _ (by omega) (by omega)).mono ?_
  rintro e w1 ⟨rfl, hw1⟩
  have d : decide ((1048576 : Int) - nr < 0) = false := decide_eq_false (by omega)
  have k1 : Blk2 w1 w.heap.size (.slice a0 nr c0) (.slice a1 n c1) := by rw [hw1]; exact Blk2.new w _ _ _
  have B1 : Hid (Below w.heap.size w w1) := by rw [hw1]; exact below_alloc _ _
  clear hw1
  obtain ⟨⟨_, x1⟩, _⟩ := k1
  go_wp2_with fail
  refine (szStoreS_lim n S V _ B (1048576 - nr) _ (H.out.2.later B1.out) hn HN.out (by omega) (by omega)).mono ?_
  rintro e w2 ⟨r, rfl, ⟨hA, hle⟩, q2⟩
  have B2 : Hid (Below w.heap.size w w2) := B1.out.trans (q2.mono B1.out.size)
  clear q2 x1
  rcases hA with rfl | ⟨h1, h3, h2, h4⟩
  · go_wp2
    go_ret
    exact ⟨-1, rfl, Or.inl rfl, by omega, B2.out⟩
  · have dr : decide (r < 0) = false := decide_eq_false (by omega)
    have HA : Hid (∀ i, i < n → SmallS (S i)) := h4
    clear h4
    go_wp2
    go_ret
    exact ⟨r, rfl, Or.inr ⟨h1, by omega, ⟨h3, by omega⟩, HA.out⟩, by omega, B2.out⟩
end Go.Proofs.YtjkchhcnochjlaaGreatDoor

namespace Go.Proofs.YtjkchhcnochjlaaGreatDoor
open Go.RowKit

def SxLim (n : Nat) (T : Nat → Tx) (left r : Int) : Prop := r = -1 ∨ (0 ≤ r ∧ n ≤ 1048576 ∧ ((sumN (sizeX T) n : Nat) : Int) + r ≤ left ∧ ∀ i, i < n → (T i).m ≤ 1048576)
set_option maxRecDepth 100000 in
set_option maxHeartbeats 4000000 in
theorem szTxnS_lim (n : Nat) (T : Nat → Tx) (V : Nat → Value) (v : Value) (B : Nat) (left : Int) (w : World) (h : Txs w B n T V v) (hn : n ≤ 9223372036854775807) (hs : ∀ i, i < n → (T i).m ≤ 9223372036854775807) (h0 : 0 ≤ left) (h2 : left ≤ 1048576) :
    Calls Tryz.prog 24 #[v, .int .i64 left] w fun e w' => ∃ r, e = .returned (.int .i64 r) ∧ SxLim n T left r ∧ Below w.heap.size w w' := by
  obtain ⟨ao, cp, rfl⟩ := h.form
  have H : Hid (Txs w B n T V (.slice ao n cp)) := h
  have HN : Hid (∀ i, i < n → (T i).m ≤ 9223372036854775807) := hs
  clear h hs
  by_cases hl : left < n
  · have d : decide (left - n < 0) = true := decide_eq_true (by omega)
    go_enter Tryz.func24, Tryz.ntmps24
    go_wp2
    go_ret
    exact ⟨-1, rfl, Or.inl rfl, Below.refl _ _⟩
  have d : decide (left - n < 0) = false := decide_eq_false (by omega)
  go_enter Tryz.func24, Tryz.ntmps24
  go_wp2
  go_loopw [1, 5] (fun j i wr => ∃ (k : Nat) (L : Int), k ≤ n ∧ j = .int .i64 L ∧ i = .int .i64 k ∧ Hid ((0 ≤ L ∧ L + (sumN (sizeX T) k : Nat) ≤ left) ∧ ∀ i, i < k → (T i).m ≤ 1048576) ∧ Hid (Below w.heap.size w wr)) (fun _ i _ => n - (intOf i).toNat)
  case atStart => exact ⟨0, left - n, Nat.zero_le _, rfl, rfl, ⟨by simp only [sumN]; omega, fun i hi => absurd hi (Nat.not_lt_zero i)⟩, Below.refl _ _⟩
  case round =>
    obtain ⟨k, L, hk, rfl, rfl, hL, hR⟩ := hrel
    by_cases hlt : k < n
    · obtain ⟨g, o, rfl, _, hg, ⟨c0, c1, c2, c3, c4, c5⟩, rk, _⟩ := H.out.at hlt
      have b0 := (hR.out.cell (p := ⟨g, o + k * 6, none⟩) hg).trans c0
      have b1 := (hR.out.cell (p := ⟨g, o + k * 6 + 1, none⟩) hg).trans c1
      have b2 := (hR.out.cell (p := ⟨g, o + k * 6 + 2, none⟩) hg).trans c2
      have b3 := (hR.out.cell (p := ⟨g, o + k * 6 + 3, none⟩) hg).trans c3
      have b4 := (hR.out.cell (p := ⟨g, o + k * 6 + 4, none⟩) hg).trans c4
      have b5 := (hR.out.cell (p := ⟨g, o + k * 6 + 5, none⟩) hg).trans c5
      obtain ⟨a1, d1, e1⟩ := rk.form
      rw [e1] at b5
      clear c0 c1 c2 c3 c4 c5 rk e1
      have hB : Hid ((T k).m ≤ 9223372036854775807) := HN.out k hlt
      obtain ⟨t0, ht⟩ : ∃ t, T k = t := ⟨_, rfl⟩
      have HK : Hid (T k = t0) := ht
      rw [ht] at b0 b1 b2 b3 b4 b5 hB
      obtain ⟨s', c', u', st', a', m', L'⟩ := t0
      clear ht
      by_cases hfit : (m' : Int) ≤ L
      · go_wp2_with fail
        refine (szTxn_ok _ _ _ _ _ _ _ _ _ _ hfit (by have := hL.out.1; omega)).mono ?_
        rintro e w1 ⟨rfl, q1⟩
        have HB : Hid (Below w.heap.size w w1) := hR.out.trans (q1.mono hR.out.size)
        have dd : decide (L - m' < 0) = false := decide_eq_false (by omega)
        clear q1 hR b0 b1 b2 b3 b4 b5
        go_wp2
        go_roundw
        case rel =>
          have hst : sumN (sizeX T) (k + 1) = sumN (sizeX T) k + m' := by show sumN (sizeX T) k + (T k).m = _; rw [HK.out]
          refine ⟨k + 1, L - m', by omega, by go_num, by go_num, ⟨by have := hL.out.1; rw [hst]; omega, fun i hi => ?_⟩, HB⟩
          by_cases q : i = k
          · subst q
            have h1 := hL.out.1
            rw [HK.out]
            show m' ≤ 1048576
            omega
          · exact hL.out.2 i (by omega)
        case measure => simp [intOf]; omega
      · go_wp2_with fail
        refine (szTxn_no _ _ _ _ _ _ _ _ _ _ (by omega) hL.out.1.1 (by have := hL.out.1; omega) hB.out).mono ?_
        rintro e w1 ⟨rfl, q1⟩
        have HB : Hid (Below w.heap.size w w1) := hR.out.trans (q1.mono hR.out.size)
        clear q1 hR b0 b1 b2 b3 b4 b5
        go_wp2
        go_ret
        exact ⟨-1, rfl, Or.inl rfl, HB.out⟩
    · obtain rfl : k = n := by omega
      go_wp2
      go_ret
      exact ⟨L, rfl, Or.inr ⟨hL.out.1.1, by omega, by have := hL.out.1; omega, hL.out.2⟩, hR.out⟩
set_option maxRecDepth 100000 in
set_option maxHeartbeats 2000000 in
theorem szWorld_lim (nw nx bd : Int) (nr : Nat) (F : Nat → Int) (n : Nat) (S : Nat → Sto) (V : Nat → Nat → Value) (vr vs : Value) (nt : Nat) (T : Nat → Tx) (X : Nat → Value) (vt : Value) (B : Nat) (w : World) (h : Grs w B nr F n S V vr vs) (ht : Txs w B nt T X vt) (hr : nr ≤ 9223372036854775807) (hn : n ≤ 9223372036854775807) (hs : ∀ i, i < n → BigS (S i)) (hnt : nt ≤ 9223372036854775807) (hx : ∀ i, i < nt → (T i).m ≤ 9223372036854775807) :
    Calls Tryz.prog 10 #[.agg #[.int .i64 nw, .int .i64 nx, .int .i64 bd, vr, vs, vt], .int .i64 1048576] w fun e w' => ∃ r, e = .returned (.int .i64 r) ∧ (r = -1 ∨ ((0 ≤ r ∧ r ≤ 1048576) ∧ (nr ≤ 1048576 ∧ n ≤ 1048576 ∧ sumN (sizeT S) n ≤ 1048576 ∧ ∀ i, i < n → SmallS (S i)) ∧ nt ≤ 1048576 ∧ sumN (sizeX T) nt ≤ 1048576 ∧ ∀ i, i < nt → (T i).m ≤ 1048576)) ∧ Below w.heap.size w w' := by
  obtain ⟨a0, c0, a1, c1, rfl, rfl⟩ := h.form
  obtain ⟨at', ct, rfl⟩ := ht.form
  have H : Hid (Grs w B nr F n S V (.slice a0 nr c0) (.slice a1 n c1) ∧ Txs w B nt T X (.slice at' nt ct)) := ⟨h, ht⟩
  have HN : Hid ((∀ i, i < n → BigS (S i)) ∧ ∀ i, i < nt → (T i).m ≤ 9223372036854775807) := ⟨hs, hx⟩
  have K0 : Hid (Blk6 (w.alloc (.cells #[.int .i64 nw, .int .i64 nx, .int .i64 bd, .slice a0 nr c0, .slice a1 n c1, .slice at' nt ct] 30)) w.heap.size (.int .i64 nw) (.int .i64 nx) (.int .i64 bd) (.slice a0 nr c0) (.slice a1 n c1) (.slice at' nt ct)) := Blk6.new w _ _ _ _ _ _ _
  clear h ht hs hx
  go_enter Tryz.func10, Tryz.ntmps10
  go_wp2_with fail
  refine (szGroups_lim nr F n S V _ _ B _ (H.out.1.later (below_alloc _ _)) hr hn HN.out.1).mono ?_
  rintro e w1 ⟨r, rfl, hA, hle, q1⟩
  have Q1 : Hid (Below w.heap.size w w1 ∧ Blk6 w1 w.heap.size (.int .i64 nw) (.int .i64 nx) (.int .i64 bd) (.slice a0 nr c0) (.slice a1 n c1) (.slice at' nt ct)) := ⟨(below_alloc _ _).trans (q1.mono (by simp)), K0.out.later q1⟩
  clear q1 K0
  rcases hA with rfl | ⟨h1, h2, h3, h4⟩
  · go_wp2
    go_ret
    exact ⟨-1, rfl, Or.inl rfl, Q1.out.1⟩
  have dr : decide (r < 0) = false := decide_eq_false (by omega)
  have HA : Hid ((nr ≤ 1048576 ∧ n ≤ 1048576 ∧ sumN (sizeT S) n ≤ 1048576 ∧ ∀ i, i < n → SmallS (S i))) := ⟨h2, h3.1, h3.2, h4⟩
  clear h2 h3 h4
  obtain ⟨⟨s0, s1, s2, s3, s4, s5⟩, _⟩ := Q1.out.2
  go_wp2_with fail
  refine (szTxnS_lim nt T X _ B r _ (H.out.2.later Q1.out.1) hnt HN.out.2 h1 hle).mono ?_
  rintro e w2 ⟨r2, rfl, hB, q2⟩
  have Q2 : Hid (Below w.heap.size w w2) := Q1.out.1.trans (q2.mono Q1.out.1.size)
  clear q2 s0 s1 s2 s3 s4 s5 Q1
  rcases hB with rfl | ⟨g1, g2, g3, g4⟩
  · go_wp2
    go_ret
    exact ⟨-1, rfl, Or.inl rfl, Q2.out⟩
  have dr2 : decide (r2 < 0) = false := decide_eq_false (by omega)
  have HB : Hid (nt ≤ 1048576 ∧ sumN (sizeX T) nt ≤ 1048576 ∧ ∀ i, i < nt → (T i).m ≤ 1048576) := ⟨g2, by omega, g4⟩
  have g5 : r2 ≤ 1048576 := by omega
  clear g2 g3 g4
  go_wp2
  go_ret
  exact ⟨r2, rfl, Or.inr ⟨⟨g1, g5⟩, HA.out, HB.out⟩, Q2.out⟩
set_option maxRecDepth 100000 in
set_option maxHeartbeats 2000000 in
theorem szFsWorld_any (nw nx bd : Int) (nr : Nat) (F : Nat → Int) (n : Nat) (S : Nat → Sto) (V : Nat → Nat → Value) (vr vs : Value) (nt : Nat) (T : Nat → Tx) (X : Nat → Value) (vt : Value) (nq : Nat) (R : Nat → Int) (vq : Value) (B : Nat) (w : World) (h : Grs w B nr F n S V vr vs) (ht : Txs w B nt T X vt) (hq : Row w B 10 nq R vq) (hr : nr ≤ 9223372036854775807) (hn : n ≤ 9223372036854775807) (hs : ∀ i, i < n → BigS (S i)) (hnt : nt ≤ 9223372036854775807) (hx : ∀ i, i < nt → (T i).m ≤ 9223372036854775807) (hnq : nq ≤ 9223372036854775807) :
    Calls Tryz.prog 4 #[.agg #[.int .i64 nw, .int .i64 nx, .int .i64 bd, vr, vs, vt, vq], .int .i64 1048576] w fun e w' => ∃ r, e = .returned (.int .i64 r) ∧ (r = -1 ∨ (0 ≤ r ∧ (nr ≤ 1048576 ∧ n ≤ 1048576 ∧ sumN (sizeT S) n ≤ 1048576 ∧ ∀ i, i < n → SmallS (S i)) ∧ (nt ≤ 1048576 ∧ sumN (sizeX T) nt ≤ 1048576 ∧ ∀ i, i < nt → (T i).m ≤ 1048576) ∧ nq ≤ 1048576)) ∧ Below w.heap.size w w' := by
  obtain ⟨a0, c0, a1, c1, rfl, rfl⟩ := h.form
  obtain ⟨a2, c2, rfl⟩ := ht.form
  obtain ⟨a3, c3, rfl⟩ := hq.form
  have H : Hid (Grs w B nr F n S V (.slice a0 nr c0) (.slice a1 n c1) ∧ Txs w B nt T X (.slice a2 nt c2)) := ⟨h, ht⟩
  have HN : Hid ((∀ i, i < n → BigS (S i)) ∧ ∀ i, i < nt → (T i).m ≤ 9223372036854775807) := ⟨hs, hx⟩
  have K0 : Hid (Blk7F (w.alloc (.cells #[.int .i64 nw, .int .i64 nx, .int .i64 bd, .slice a0 nr c0, .slice a1 n c1, .slice a2 nt c2, .slice a3 nq c3] 33)) w.heap.size (.int .i64 nw) (.int .i64 nx) (.int .i64 bd) (.slice a0 nr c0) (.slice a1 n c1) (.slice a2 nt c2) (.slice a3 nq c3)) := Blk7F.new w _ _ _ _ _ _ _ _
  clear h ht hs hx hq
  go_enter Tryz.func4, Tryz.ntmps4
  go_wp2_with fail
  refine (szWorld_lim nw nx bd nr F n S V _ _ nt T X _ B _ (H.out.1.later (below_alloc _ _)) (H.out.2.later (below_alloc _ _)) hr hn HN.out.1 hnt HN.out.2).mono ?_
  rintro e w1 ⟨r, rfl, hA, q1⟩
  have Q1 : Hid (Below w.heap.size w w1 ∧ Blk7F w1 w.heap.size (.int .i64 nw) (.int .i64 nx) (.int .i64 bd) (.slice a0 nr c0) (.slice a1 n c1) (.slice a2 nt c2) (.slice a3 nq c3)) := ⟨(below_alloc _ _).trans (q1.mono (by simp)), K0.out.later q1⟩
  clear q1 K0
  rcases hA with rfl | ⟨⟨h1, h1'⟩, h2, h3⟩
  · go_wp2
    go_ret
    exact ⟨-1, rfl, Or.inl rfl, Q1.out.1⟩
  have dr : decide (r < 0) = false := decide_eq_false (by omega)
  have HA : Hid ((nr ≤ 1048576 ∧ n ≤ 1048576 ∧ sumN (sizeT S) n ≤ 1048576 ∧ ∀ i, i < n → SmallS (S i)) ∧ nt ≤ 1048576 ∧ sumN (sizeX T) nt ≤ 1048576 ∧ ∀ i, i < nt → (T i).m ≤ 1048576) := ⟨h2, h3⟩
  clear h2 h3
  obtain ⟨⟨s0, s1, s2, s3, s4, s5, s6⟩, _⟩ := Q1.out.2
  go_wp2_with fail
  by_cases hb : (nq : Int) ≤ r
  · refine (szRunS_ok _ _ _ _ _ hb h1').mono ?_
    rintro e w2 ⟨rfl, hw2⟩
    obtain rfl := hw2.symm
    have dr2 : decide (r - nq < 0) = false := decide_eq_false (by omega)
    go_wp2
    go_ret
    exact ⟨_, rfl, Or.inr ⟨by omega, HA.out.1, HA.out.2, by omega⟩, Q1.out.1⟩
  · refine (szRunS_no _ _ _ _ _ (by omega) h1 h1' hnq).mono ?_
    rintro e w2 ⟨rfl, hw2⟩
    obtain rfl := hw2.symm
    go_wp2
    go_ret
    exact ⟨-1, rfl, Or.inl rfl, Q1.out.1⟩
/-- A world that a call has laid in blocks from lo on. -/
def Wd (lo : Nat) (nr : Nat) (F : Nat → Int) (n : Nat) (S : Nat → Sto) (ra : Option Addr) (rc g : Nat) (U : Nat → Nat → Value) (z : Nat → Nat) (nt : Nat) (T : Nat → Tx) (gt : Nat) (Y : Nat → Value) (zt : Nat → Nat) (y : World) : Prop := FineG y lo nr F n S ra rc g U z ∧ z n ≤ gt ∧ gt < y.heap.size ∧ FillT y gt nt nt T Y ∧ FineT y zt nt T Y ∧ zt 0 = gt + 1 ∧ (∀ i, i ≤ nt → gt < zt i) ∧ zt nt ≤ y.heap.size
theorem FillT.laterR {w w' : World} {g n k : Nat} {T : Nat → Tx} {U : Nat → Value} (h : FillT w g n k T U) (hb : Below w.heap.size w w') : FillT w' g n k T U := by
  have hk : ∀ p, w'.cell? ⟨g, p, none⟩ = w.cell? ⟨g, p, none⟩ := fun p => hb.cell (p := ⟨g, p, none⟩) h.1
  have hf : ∀ p, w'.frozen? ⟨g, p, none⟩ = w.frozen? ⟨g, p, none⟩ := fun p => hb.frozen (p := ⟨g, p, none⟩) h.1
  refine ⟨Nat.lt_of_lt_of_le h.1 hb.size, fun p hp => ⟨⟨?_, (hf p).trans (h.2 p hp).1.2⟩, fun d => (hk p).trans ((h.2 p hp).2 d)⟩⟩
  obtain ⟨v, hv⟩ := (h.2 p hp).1.1
  exact ⟨v, (hk p).trans hv⟩
theorem Wd.lo {lo : Nat} {nr : Nat} {F : Nat → Int} {n : Nat} {S : Nat → Sto} {ra : Option Addr} {rc g : Nat} {U : Nat → Nat → Value} {z : Nat → Nat} {nt : Nat} {T : Nat → Tx} {gt : Nat} {Y : Nat → Value} {zt : Nat → Nat} {y : World} (h : Wd lo nr F n S ra rc g U z nt T gt Y zt y) : lo ≤ gt := by
  have h1 := h.1.2.1
  have h2 := h.1.2.2.2.2.2.1 n (Nat.le_refl _)
  have h3 := h.2.1
  omega
theorem Wd.set {lo : Nat} {nr : Nat} {F : Nat → Int} {n : Nat} {S : Nat → Sto} {ra : Option Addr} {rc g : Nat} {U : Nat → Nat → Value} {z : Nat → Nat} {nt : Nat} {T : Nat → Tx} {gt : Nat} {Y : Nat → Value} {zt : Nat → Nat} {y : World} (h : Wd lo nr F n S ra rc g U z nt T gt Y zt y) {b j : Nat} (hb : b < lo) (u : Value) : Wd lo nr F n S ra rc g U z nt T gt Y zt (y.setCell ⟨b, j, none⟩ u) := by
  have hl := h.lo
  obtain ⟨h1, h2, h3, h4, h5, h6, h7, h8⟩ := h
  exact ⟨h1.farE hb u, h2, by rw [size_set]; exact h3, h4.farE (by omega) _, h5.far (fun i hi => by show b < zt i; have := h7 i (by omega); omega) _, h6, h7, by rw [size_set]; exact h8⟩
theorem Wd.later {lo : Nat} {nr : Nat} {F : Nat → Int} {n : Nat} {S : Nat → Sto} {ra : Option Addr} {rc g : Nat} {U : Nat → Nat → Value} {z : Nat → Nat} {nt : Nat} {T : Nat → Tx} {gt : Nat} {Y : Nat → Value} {zt : Nat → Nat} {y y' : World} (h : Wd lo nr F n S ra rc g U z nt T gt Y zt y) (hb : Below y.heap.size y y') : Wd lo nr F n S ra rc g U z nt T gt Y zt y' := by
  obtain ⟨h1, h2, h3, h4, h5, h6, h7, h8⟩ := h
  exact ⟨h1.later hb, h2, Nat.lt_of_lt_of_le h3 hb.size, h4.laterR hb, h5.later hb, h6, h7, Nat.le_trans h8 hb.size⟩
theorem Wd.mono {lo : Nat} {nr : Nat} {F : Nat → Int} {n : Nat} {S : Nat → Sto} {ra : Option Addr} {rc g : Nat} {U : Nat → Nat → Value} {z : Nat → Nat} {nt : Nat} {T : Nat → Tx} {gt : Nat} {Y : Nat → Value} {zt : Nat → Nat} {y : World} (h : Wd lo nr F n S ra rc g U z nt T gt Y zt y) {lo' : Nat} (hb : lo' ≤ lo) : Wd lo' nr F n S ra rc g U z nt T gt Y zt y := ⟨h.1.monoE hb, h.2⟩
theorem Wd.rows {lo : Nat} {nr : Nat} {F : Nat → Int} {n : Nat} {S : Nat → Sto} {ra : Option Addr} {rc g : Nat} {U : Nat → Nat → Value} {z : Nat → Nat} {nt : Nat} {T : Nat → Tx} {gt : Nat} {Y : Nat → Value} {zt : Nat → Nat} {y : World} (h : Wd lo nr F n S ra rc g U z nt T gt Y zt y) : Grs y 0 nr F n S U (.slice ra nr rc) (.slice (some ⟨g, 0, none⟩) n n) ∧ Txs y 0 nt T Y (.slice (some ⟨gt, 0, none⟩) nt nt) := by
  obtain ⟨h1, h2, h3, h4, h5, h6, h7, h8⟩ := h
  refine ⟨h1.grs.mono (Nat.zero_le _), ⟨⟨_, _, rfl, fun _ => ⟨gt, 0, rfl, Nat.zero_le _, h3, fun i hi j hj => ?_⟩⟩, fun i hi => ⟨(h5 i hi).1.1.mono (Nat.zero_le _), (h5 i hi).1.2.2⟩⟩⟩
  rw [Nat.zero_add]
  exact h4.cell (Nat.le_refl _) hi hj
/-- Runs that a call has laid from lo on. -/
def Qd (lo nq : Nat) (R : Nat → Int) (v : Value) (y : World) : Prop := Row y lo 10 nq R v ∧ Free y (nq * 10) v
/-- A file system that a call has laid. -/
def NewFw (w : World) (nw nx bd : Int) (nr : Nat) (F : Nat → Int) (n : Nat) (S : Nat → Sto) (nt : Nat) (T : Nat → Tx) (nq : Nat) (R : Nat → Int) (e : Ending) (w' : World) : Prop :=
  ∃ ra rc g U z gt Y zt uq, e = .returned (.agg #[.int .i64 nw, .int .i64 nx, .int .i64 bd, .slice ra nr rc, .slice (some ⟨g, 0, none⟩) n n, .slice (some ⟨gt, 0, none⟩) nt nt, .slice uq nq nq]) ∧ Wd w.heap.size nr F n S ra rc g U z nt T gt Y zt w' ∧ Qd (zt nt) nq R (.slice uq nq nq) w' ∧ Below w.heap.size w w'
theorem NewFw.rows {w w' : World} {nw nx bd : Int} {nr : Nat} {F : Nat → Int} {n : Nat} {S : Nat → Sto} {nt : Nat} {T : Nat → Tx} {nq : Nat} {R : Nat → Int} {e : Ending} (h : NewFw w nw nx bd nr F n S nt T nq R e w') :
    ∃ ra rc g U gt Y uq, e = .returned (.agg #[.int .i64 nw, .int .i64 nx, .int .i64 bd, .slice ra nr rc, .slice (some ⟨g, 0, none⟩) n n, .slice (some ⟨gt, 0, none⟩) nt nt, .slice uq nq nq]) ∧ Grs w' 0 nr F n S U (.slice ra nr rc) (.slice (some ⟨g, 0, none⟩) n n) ∧ Txs w' 0 nt T Y (.slice (some ⟨gt, 0, none⟩) nt nt) ∧ Row w' 0 10 nq R (.slice uq nq nq) ∧ Below w.heap.size w w' := by
  obtain ⟨ra, rc, g, U, z, gt, Y, zt, uq, rfl, h1, h2, h3⟩ := h
  exact ⟨ra, rc, g, U, gt, Y, uq, rfl, h1.rows.1, h1.rows.2, h2.1.mono (Nat.zero_le _), h3⟩
set_option maxRecDepth 100000 in
set_option maxHeartbeats 1500000 in
theorem toFsWorld_any (nw nx bd : Int) (nr : Nat) (F : Nat → Int) (n : Nat) (S : Nat → Sto) (V : Nat → Nat → Value) (vr vs : Value) (nt : Nat) (T : Nat → Tx) (X : Nat → Value) (vt : Value) (nq : Nat) (R : Nat → Int) (vq : Value) (B : Nat) (w : World) (h : Grs w B nr F n S V vr vs) (ht : Txs w B nt T X vt) (hq : Row w B 10 nq R vq) (hs : nr ≤ 1048576 ∧ n ≤ 1048576 ∧ ∀ i, i < n → SmallS (S i)) (hx : nt ≤ 1048576 ∧ ∀ i, i < nt → (T i).m ≤ 1048576) (hnq : nq ≤ 1048576) :
    Calls Tryz.prog 6 #[.agg #[.int .i64 nw, .int .i64 nx, .int .i64 bd, vr, vs, vt, vq]] w (NewFw w nw nx bd nr F n S nt T nq R) := by
  obtain ⟨a0, c0, a1, c1, rfl, rfl⟩ := h.form
  obtain ⟨a2, c2, rfl⟩ := ht.form
  obtain ⟨a3, c3, rfl⟩ := hq.form
  have H : Hid ((Grs w B nr F n S V (.slice a0 nr c0) (.slice a1 n c1) ∧ Txs w B nt T X (.slice a2 nt c2)) ∧ Row w B 10 nq R (.slice a3 nq c3)) := ⟨⟨h, ht⟩, hq⟩
  have HN : Hid ((nr ≤ 1048576 ∧ n ≤ 1048576 ∧ ∀ i, i < n → SmallS (S i)) ∧ nt ≤ 1048576 ∧ ∀ i, i < nt → (T i).m ≤ 1048576) := ⟨hs, hx⟩
  have K0 := ((Blk7F.new w (.int .i64 nw) (.int .i64 nx) (.int .i64 bd) (.slice a0 nr c0) (.slice a1 n c1) (.slice a2 nt c2) (.slice a3 nq c3) 33).alloc (.cells #[.int .i64 0, .int .i64 0, .int .i64 0, .slice none 0 0, .slice none 0 0, .slice none 0 0, .slice none 0 0] 48)).alloc (.cells #[.int .i64 0, .int .i64 0, .int .i64 0, .slice none 0 0, .slice none 0 0, .slice none 0 0, .slice none 0 0] 48)
  have K1 := (Blk7F.new (w.alloc (.cells #[.int .i64 nw, .int .i64 nx, .int .i64 bd, .slice a0 nr c0, .slice a1 n c1, .slice a2 nt c2, .slice a3 nq c3] 33)) (.int .i64 0) (.int .i64 0) (.int .i64 0) (.slice none 0 0) (.slice none 0 0) (.slice none 0 0) (.slice none 0 0) 48).alloc (.cells #[.int .i64 0, .int .i64 0, .int .i64 0, .slice none 0 0, .slice none 0 0, .slice none 0 0, .slice none 0 0] 48)
  have K2 := Blk7F.new ((w.alloc (.cells #[.int .i64 nw, .int .i64 nx, .int .i64 bd, .slice a0 nr c0, .slice a1 n c1, .slice a2 nt c2, .slice a3 nq c3] 33)).alloc (.cells #[.int .i64 0, .int .i64 0, .int .i64 0, .slice none 0 0, .slice none 0 0, .slice none 0 0, .slice none 0 0] 48)) (.int .i64 0) (.int .i64 0) (.int .i64 0) (.slice none 0 0) (.slice none 0 0) (.slice none 0 0) (.slice none 0 0) 48
  rw [World.size_alloc] at K1
  rw [World.size_alloc, World.size_alloc] at K2
  have HK : Hid ((Blk7F (((w.alloc (.cells #[.int .i64 nw, .int .i64 nx, .int .i64 bd, .slice a0 nr c0, .slice a1 n c1, .slice a2 nt c2, .slice a3 nq c3] 33)).alloc (.cells #[.int .i64 0, .int .i64 0, .int .i64 0, .slice none 0 0, .slice none 0 0, .slice none 0 0, .slice none 0 0] 48)).alloc (.cells #[.int .i64 0, .int .i64 0, .int .i64 0, .slice none 0 0, .slice none 0 0, .slice none 0 0, .slice none 0 0] 48)) w.heap.size (.int .i64 nw) (.int .i64 nx) (.int .i64 bd) (.slice a0 nr c0) (.slice a1 n c1) (.slice a2 nt c2) (.slice a3 nq c3) ∧ Blk7F (((w.alloc (.cells #[.int .i64 nw, .int .i64 nx, .int .i64 bd, .slice a0 nr c0, .slice a1 n c1, .slice a2 nt c2, .slice a3 nq c3] 33)).alloc (.cells #[.int .i64 0, .int .i64 0, .int .i64 0, .slice none 0 0, .slice none 0 0, .slice none 0 0, .slice none 0 0] 48)).alloc (.cells #[.int .i64 0, .int .i64 0, .int .i64 0, .slice none 0 0, .slice none 0 0, .slice none 0 0, .slice none 0 0] 48)) (w.heap.size + 1) (.int .i64 0) (.int .i64 0) (.int .i64 0) (.slice none 0 0) (.slice none 0 0) (.slice none 0 0) (.slice none 0 0) ∧ Blk7F (((w.alloc (.cells #[.int .i64 nw, .int .i64 nx, .int .i64 bd, .slice a0 nr c0, .slice a1 n c1, .slice a2 nt c2, .slice a3 nq c3] 33)).alloc (.cells #[.int .i64 0, .int .i64 0, .int .i64 0, .slice none 0 0, .slice none 0 0, .slice none 0 0, .slice none 0 0] 48)).alloc (.cells #[.int .i64 0, .int .i64 0, .int .i64 0, .slice none 0 0, .slice none 0 0, .slice none 0 0, .slice none 0 0] 48)) (w.heap.size + 2) (.int .i64 0) (.int .i64 0) (.int .i64 0) (.slice none 0 0) (.slice none 0 0) (.slice none 0 0) (.slice none 0 0)) ∧ Below w.heap.size w (((w.alloc (.cells #[.int .i64 nw, .int .i64 nx, .int .i64 bd, .slice a0 nr c0, .slice a1 n c1, .slice a2 nt c2, .slice a3 nq c3] 33)).alloc (.cells #[.int .i64 0, .int .i64 0, .int .i64 0, .slice none 0 0, .slice none 0 0, .slice none 0 0, .slice none 0 0] 48)).alloc (.cells #[.int .i64 0, .int .i64 0, .int .i64 0, .slice none 0 0, .slice none 0 0, .slice none 0 0, .slice none 0 0] 48))) := ⟨⟨K0, K1, K2⟩, ((below_alloc _ _).alloc (by simp) _).alloc (by simp; omega) _⟩
  clear h ht hs hx hq K0 K1 K2
  go_enter Tryz.func6, Tryz.ntmps6
  go_wp2_with fail
  generalize ((w.alloc (.cells #[.int .i64 nw, .int .i64 nx, .int .i64 bd, .slice a0 nr c0, .slice a1 n c1, .slice a2 nt c2, .slice a3 nq c3] 33)).alloc (.cells #[.int .i64 0, .int .i64 0, .int .i64 0, .slice none 0 0, .slice none 0 0, .slice none 0 0, .slice none 0 0] 48)).alloc (.cells #[.int .i64 0, .int .i64 0, .int .i64 0, .slice none 0 0, .slice none 0 0, .slice none 0 0, .slice none 0 0] 48) = y0 at HK ⊢
  refine (toWorld_any nw nx bd nr F n S V _ _ nt T X _ B _ (H.out.1.1.later HK.out.2) (H.out.1.2.later HK.out.2) HN.out.1 HN.out.2).mono ?_
  rintro e y1 ⟨ra, rc, g, U, z, gt, Y, zt, rfl, hG, hT, q1⟩
  have HW : Hid (Wd y0.heap.size nr F n S ra rc g U z nt T gt Y zt y1) := ⟨hG, hT⟩
  have hlo : w.heap.size + 3 ≤ y0.heap.size := HK.out.1.2.2.lt
  have H1 : Hid ((Blk7F y1 w.heap.size (.int .i64 nw) (.int .i64 nx) (.int .i64 bd) (.slice a0 nr c0) (.slice a1 n c1) (.slice a2 nt c2) (.slice a3 nq c3) ∧ Blk7F y1 (w.heap.size + 1) (.int .i64 0) (.int .i64 0) (.int .i64 0) (.slice none 0 0) (.slice none 0 0) (.slice none 0 0) (.slice none 0 0) ∧ Blk7F y1 (w.heap.size + 2) (.int .i64 0) (.int .i64 0) (.int .i64 0) (.slice none 0 0) (.slice none 0 0) (.slice none 0 0) (.slice none 0 0)) ∧ Below w.heap.size w y1) := ⟨⟨HK.out.1.1.later q1, HK.out.1.2.1.later q1, HK.out.1.2.2.later q1⟩, HK.out.2.trans (q1.mono HK.out.2.size)⟩
  clear HK q1 hG hT
  obtain ⟨ys, HY⟩ : ∃ y, Hid (y = (((((y1.setCell ⟨w.heap.size + 2, 0, none⟩ (.int .i64 nw)).setCell ⟨w.heap.size + 2, 1, none⟩ (.int .i64 nx)).setCell ⟨w.heap.size + 2, 2, none⟩ (.int .i64 bd)).setCell ⟨w.heap.size + 2, 3, none⟩ (.slice ra nr rc)).setCell ⟨w.heap.size + 2, 4, none⟩ (.slice (some ⟨g, 0, none⟩) n n)).setCell ⟨w.heap.size + 2, 5, none⟩ (.slice (some ⟨gt, 0, none⟩) nt nt)) := ⟨_, rfl⟩
  have H2 : Hid (((Blk7F ys w.heap.size (.int .i64 nw) (.int .i64 nx) (.int .i64 bd) (.slice a0 nr c0) (.slice a1 n c1) (.slice a2 nt c2) (.slice a3 nq c3) ∧ Blk7F ys (w.heap.size + 1) (.int .i64 0) (.int .i64 0) (.int .i64 0) (.slice none 0 0) (.slice none 0 0) (.slice none 0 0) (.slice none 0 0) ∧ Blk7F ys (w.heap.size + 2) (.int .i64 nw) (.int .i64 nx) (.int .i64 bd) (.slice ra nr rc) (.slice (some ⟨g, 0, none⟩) n n) (.slice (some ⟨gt, 0, none⟩) nt nt) (.slice none 0 0)) ∧ Below w.heap.size w ys) ∧ Wd y0.heap.size nr F n S ra rc g U z nt T gt Y zt ys) := by
    rw [HY.out]
    obtain ⟨⟨k0, k1, k2⟩, kb⟩ := H1.out
    have n0 : w.heap.size ≠ w.heap.size + 2 := by omega
    have n1 : w.heap.size + 1 ≠ w.heap.size + 2 := by omega
    have nb : ∀ j, w.heap.size ≤ (⟨w.heap.size + 2, j, none⟩ : Addr).block := fun j => by show w.heap.size ≤ w.heap.size + 2; omega
    have nl : w.heap.size + 2 < y0.heap.size := by omega
    exact ⟨⟨⟨(((((k0.far n0 _).far n0 _).far n0 _).far n0 _).far n0 _).far n0 _, (((((k1.far n1 _).far n1 _).far n1 _).far n1 _).far n1 _).far n1 _, (((((k2.put0 _).put1 _).put2 _).put3 _).put4 _).put5 _⟩, (((((kb.setCell (nb 0) _).setCell (nb 1) _).setCell (nb 2) _).setCell (nb 3) _).setCell (nb 4) _).setCell (nb 5) _⟩, (((((HW.out.set nl _).set nl _).set nl _).set nl _).set nl _).set nl _⟩
  obtain ⟨⟨⟨b0, b1, b2, b3, b4, b5, b6⟩, _⟩, _, ⟨t0, t1, t2, t3, t4, t5, t6⟩, u0, u1, u2, u3, u4, u5, u6⟩ := H1.out.1
  clear HW
  go_wp2_with fail
  rw [← HY.out]
  clear b0 b1 b2 b3 b4 b5 b6 t0 t1 t2 t3 t4 t5 t6 u0 u1 u2 u3 u4 u5 u6 H1 HY
  obtain ⟨⟨⟨b0, b1, b2, b3, b4, b5, b6⟩, _⟩, _⟩ := H2.out.1.1
  refine (toRunS_cap _ B nq R _ (H.out.2.later H2.out.1.2) hnq).mono ?_
  rintro e y2 ⟨uq, rfl, hR, hf, q2⟩
  clear b0 b1 b2 b3 b4 b5 b6
  have hz : zt nt ≤ ys.heap.size := H2.out.2.2.2.2.2.2.2.2
  have hl : y0.heap.size ≤ zt nt := by
    have h1 := H2.out.2.lo
    have h2 := H2.out.2.2.2.2.2.2.2.1 nt (Nat.le_refl _)
    omega
  have HQ : Hid (Qd (zt nt) nq R (.slice uq nq nq) y2) := ⟨hR.mono hz, hf⟩
  have H3 : Hid (((Blk7F y2 w.heap.size (.int .i64 nw) (.int .i64 nx) (.int .i64 bd) (.slice a0 nr c0) (.slice a1 n c1) (.slice a2 nt c2) (.slice a3 nq c3) ∧ Blk7F y2 (w.heap.size + 1) (.int .i64 0) (.int .i64 0) (.int .i64 0) (.slice none 0 0) (.slice none 0 0) (.slice none 0 0) (.slice none 0 0) ∧ Blk7F y2 (w.heap.size + 2) (.int .i64 nw) (.int .i64 nx) (.int .i64 bd) (.slice ra nr rc) (.slice (some ⟨g, 0, none⟩) n n) (.slice (some ⟨gt, 0, none⟩) nt nt) (.slice none 0 0)) ∧ Below w.heap.size w y2) ∧ Wd y0.heap.size nr F n S ra rc g U z nt T gt Y zt y2) := ⟨⟨⟨H2.out.1.1.1.later q2, H2.out.1.1.2.1.later q2, H2.out.1.1.2.2.later q2⟩, H2.out.1.2.trans (q2.mono H2.out.1.2.size)⟩, H2.out.2.later q2⟩
  clear hR hf q2 H2
  have KL := hid_mkE ((((((((H3.out.1.1.2.1.far (g := w.heap.size + 2) (j := 6) (by omega) (.slice uq nq nq)).put0 (.int .i64 nw)).put1 (.int .i64 nx)).put2 (.int .i64 bd)).put3 (.slice ra nr rc)).put4 (.slice (some ⟨g, 0, none⟩) n n)).put5 (.slice (some ⟨gt, 0, none⟩) nt nt)).put6 (.slice uq nq nq))
  obtain ⟨_, ⟨⟨d0, d1, d2, d3, d4, d5, d6⟩, e0, e1, e2, e3, e4, e5, e6⟩, ⟨⟨o0, o1, o2, o3, o4, o5, o6⟩, p0, p1, p2, p3, p4, p5, p6⟩⟩ := H3.out.1.1
  go_wp2
  obtain ⟨⟨k0, k1, k2, k3, k4, k5, k6⟩, _⟩ := KL.out
  refine bodyPost_ret (v := .agg #[.int .i64 nw, .int .i64 nx, .int .i64 bd, .slice ra nr rc, .slice (some ⟨g, 0, none⟩) n n, .slice (some ⟨gt, 0, none⟩) nt nt, .slice uq nq nq]) (by simp [results, Tryz.results6, go_sem, k0, k1, k2, k3, k4, k5, k6]) rfl ⟨ra, rc, g, U, z, gt, Y, zt, uq, rfl, ?_, ?_, ?_⟩
  · have s : ∀ {y : World} (b j : Nat) (u : Value), b < y0.heap.size → Wd y0.heap.size nr F n S ra rc g U z nt T gt Y zt y → Wd y0.heap.size nr F n S ra rc g U z nt T gt Y zt (y.setCell ⟨b, j, none⟩ u) := fun b j u hb q => q.set hb u
    exact Wd.mono (s _ _ _ (by omega) (s _ _ _ (by omega) (s _ _ _ (by omega) (s _ _ _ (by omega) (s _ _ _ (by omega) (s _ _ _ (by omega) (s _ _ _ (by omega) (s _ _ _ (by omega) H3.out.2)))))))) (by omega)
  · have s : ∀ {y : World} (b j : Nat) (u : Value), b < zt nt → Qd (zt nt) nq R (.slice uq nq nq) y → Qd (zt nt) nq R (.slice uq nq nq) (y.setCell ⟨b, j, none⟩ u) := fun b j u hb q => ⟨q.1.far (Or.inl (by show b < zt nt; exact hb)) _, q.2.far _ _⟩
    exact s _ _ _ (by omega) (s _ _ _ (by omega) (s _ _ _ (by omega) (s _ _ _ (by omega) (s _ _ _ (by omega) (s _ _ _ (by omega) (s _ _ _ (by omega) (s _ _ _ (by omega) HQ.out)))))))
  · have s : ∀ {y : World} (b j : Nat) (u : Value), w.heap.size ≤ b → Below w.heap.size w y → Below w.heap.size w (y.setCell ⟨b, j, none⟩ u) := fun b j u hb q => q.setCell (by show w.heap.size ≤ b; exact hb) u
    exact s _ _ _ (by omega) (s _ _ _ (by omega) (s _ _ _ (by omega) (s _ _ _ (by omega) (s _ _ _ (by omega) (s _ _ _ (by omega) (s _ _ _ (by omega) (s _ _ _ (by omega) H3.out.1.2)))))))
set_option maxRecDepth 100000 in
set_option maxHeartbeats 2000000 in
theorem eqFsWorld_same (nw nx bd : Int) (nr : Nat) (F : Nat → Int) (n : Nat) (S : Nat → Sto) (V U : Nat → Nat → Value) (ra : Option Addr) (rc : Nat) (sa : Option Addr) (sc : Nat) (qa : Option Addr) (qc : Nat) (pa : Option Addr) (pc : Nat) (nt : Nat) (T : Nat → Tx) (X Y : Nat → Value) (ta : Option Addr) (tc : Nat) (ya : Option Addr) (yc : Nat) (nq : Nat) (R : Nat → Int) (xa : Option Addr) (xc : Nat) (za : Option Addr) (zc : Nat) (B B' : Nat) (w : World) (h : Grs w B nr F n S V (.slice ra nr rc) (.slice sa n sc)) (h' : Grs w B' nr F n S U (.slice qa nr qc) (.slice pa n pc)) (ht : Txs w B nt T X (.slice ta nt tc)) (ht' : Txs w B' nt T Y (.slice ya nt yc)) (hq : Row w B 10 nq R (.slice xa nq xc)) (hq' : Row w B' 10 nq R (.slice za nq zc)) (hs : nr ≤ 1048576 ∧ n ≤ 1048576 ∧ ∀ i, i < n → SmallS (S i)) (hx : nt ≤ 1048576 ∧ ∀ i, i < nt → (T i).m ≤ 1048576) (hnq : nq ≤ 1048576) :
    Calls Tryz.prog 9 #[.agg #[.int .i64 nw, .int .i64 nx, .int .i64 bd, .slice ra nr rc, .slice sa n sc, .slice ta nt tc, .slice xa nq xc], .agg #[.int .i64 nw, .int .i64 nx, .int .i64 bd, .slice qa nr qc, .slice pa n pc, .slice ya nt yc, .slice za nq zc]] w fun e w' => e = .returned (.bool true) ∧ Below w.heap.size w w' := by
  have H : Hid ((Grs w B nr F n S V (.slice ra nr rc) (.slice sa n sc) ∧ Grs w B' nr F n S U (.slice qa nr qc) (.slice pa n pc)) ∧ (Txs w B nt T X (.slice ta nt tc) ∧ Txs w B' nt T Y (.slice ya nt yc)) ∧ Row w B 10 nq R (.slice xa nq xc) ∧ Row w B' 10 nq R (.slice za nq zc)) := ⟨⟨h, h'⟩, ⟨ht, ht'⟩, hq, hq'⟩
  have HN : Hid ((nr ≤ 1048576 ∧ n ≤ 1048576 ∧ ∀ i, i < n → SmallS (S i)) ∧ (nt ≤ 1048576 ∧ ∀ i, i < nt → (T i).m ≤ 1048576)) := ⟨hs, hx⟩
  have K0 := (Blk7F.new w (.int .i64 nw) (.int .i64 nx) (.int .i64 bd) (.slice ra nr rc) (.slice sa n sc) (.slice ta nt tc) (.slice xa nq xc) 48).alloc (.cells #[.int .i64 nw, .int .i64 nx, .int .i64 bd, .slice qa nr qc, .slice pa n pc, .slice ya nt yc, .slice za nq zc] 48)
  have K1 := Blk7F.new (w.alloc (.cells #[.int .i64 nw, .int .i64 nx, .int .i64 bd, .slice ra nr rc, .slice sa n sc, .slice ta nt tc, .slice xa nq xc] 48)) (.int .i64 nw) (.int .i64 nx) (.int .i64 bd) (.slice qa nr qc) (.slice pa n pc) (.slice ya nt yc) (.slice za nq zc) 48
  rw [World.size_alloc] at K1
  have HK : Hid ((Blk7F ((w.alloc (.cells #[.int .i64 nw, .int .i64 nx, .int .i64 bd, .slice ra nr rc, .slice sa n sc, .slice ta nt tc, .slice xa nq xc] 48)).alloc (.cells #[.int .i64 nw, .int .i64 nx, .int .i64 bd, .slice qa nr qc, .slice pa n pc, .slice ya nt yc, .slice za nq zc] 48)) w.heap.size (.int .i64 nw) (.int .i64 nx) (.int .i64 bd) (.slice ra nr rc) (.slice sa n sc) (.slice ta nt tc) (.slice xa nq xc) ∧ Blk7F ((w.alloc (.cells #[.int .i64 nw, .int .i64 nx, .int .i64 bd, .slice ra nr rc, .slice sa n sc, .slice ta nt tc, .slice xa nq xc] 48)).alloc (.cells #[.int .i64 nw, .int .i64 nx, .int .i64 bd, .slice qa nr qc, .slice pa n pc, .slice ya nt yc, .slice za nq zc] 48)) (w.heap.size + 1) (.int .i64 nw) (.int .i64 nx) (.int .i64 bd) (.slice qa nr qc) (.slice pa n pc) (.slice ya nt yc) (.slice za nq zc)) ∧ Below w.heap.size w ((w.alloc (.cells #[.int .i64 nw, .int .i64 nx, .int .i64 bd, .slice ra nr rc, .slice sa n sc, .slice ta nt tc, .slice xa nq xc] 48)).alloc (.cells #[.int .i64 nw, .int .i64 nx, .int .i64 bd, .slice qa nr qc, .slice pa n pc, .slice ya nt yc, .slice za nq zc] 48))) := ⟨⟨K0, K1⟩, (below_alloc _ _).alloc (by simp) _⟩
  clear h h' ht ht' hq hq' hs hx K0 K1
  go_enter Tryz.func9, Tryz.ntmps9
  go_wp2_with fail
  generalize (w.alloc (.cells #[.int .i64 nw, .int .i64 nx, .int .i64 bd, .slice ra nr rc, .slice sa n sc, .slice ta nt tc, .slice xa nq xc] 48)).alloc (.cells #[.int .i64 nw, .int .i64 nx, .int .i64 bd, .slice qa nr qc, .slice pa n pc, .slice ya nt yc, .slice za nq zc] 48) = y0 at HK ⊢
  refine (eqWorldT_same nw nx bd nr F n S V U _ _ _ _ _ _ _ _ nt T X Y _ _ _ _ B B' _ (H.out.1.1.later HK.out.2) (H.out.1.2.later HK.out.2) (H.out.2.1.1.later HK.out.2) (H.out.2.1.2.later HK.out.2) HN.out.1 HN.out.2).mono ?_
  rintro e y1 ⟨rfl, q1⟩
  have H1 : Hid ((Blk7F y1 w.heap.size (.int .i64 nw) (.int .i64 nx) (.int .i64 bd) (.slice ra nr rc) (.slice sa n sc) (.slice ta nt tc) (.slice xa nq xc) ∧ Blk7F y1 (w.heap.size + 1) (.int .i64 nw) (.int .i64 nx) (.int .i64 bd) (.slice qa nr qc) (.slice pa n pc) (.slice ya nt yc) (.slice za nq zc)) ∧ Below w.heap.size w y1) := ⟨⟨HK.out.1.1.later q1, HK.out.1.2.later q1⟩, HK.out.2.trans (q1.mono HK.out.2.size)⟩
  clear q1 HK
  obtain ⟨⟨⟨s0, s1, s2, s3, s4, s5, s6⟩, _⟩, ⟨t0, t1, t2, t3, t4, t5, t6⟩, _⟩ := H1.out.1
  go_wp2_with fail
  refine (eqRunS_same _ _ B B' nq R _ (H.out.2.2.1.later H1.out.2) (H.out.2.2.2.later H1.out.2) hnq).mono ?_
  rintro e y2 ⟨rfl, q2⟩
  have Q2 : Hid (Below w.heap.size w y2) := H1.out.2.trans (q2.mono H1.out.2.size)
  clear q2 s0 s1 s2 s3 s4 s5 s6 t0 t1 t2 t3 t4 t5 t6 H1
  go_wp2
  go_ret
  exact ⟨rfl, Q2.out⟩
end Go.Proofs.YtjkchhcnochjlaaGreatDoor

