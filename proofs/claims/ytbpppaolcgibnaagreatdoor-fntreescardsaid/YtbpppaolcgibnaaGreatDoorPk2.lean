/-
  Own text, merged of PaiC, PaiD, PaiE, PaiF, PaiG, PaiH, FsH, FsI, FsK, FsD, FsJ, FsL.
-/
import Derived.Test.YtbpppaolcgibnaaGreatDoorPk1
namespace Go.Proofs.YtbpppaolcgibnaaGreatDoor
open Go.RowKit

theorem comparePairs_is (a b c d r : Int) (hr : cmpOf a c = r) (w : World) :
    Calls Tryz.prog 48 #[.agg #[.int .i64 a, .int .i64 b], .agg #[.int .i64 c, .int .i64 d]] w fun e w' => e = .returned (.int .i64 r) ∧ Below w.heap.size w w' := by
  have HR : Hid (cmpOf a c = r) := hr
  clear hr
  go_enter Tryz.func48, Tryz.ntmps48
  go_wp2_with fail
  refine (compare_is _ _ r HR.out _).mono ?_
  rintro e w9 ⟨rfl, hw9⟩
  obtain rfl := hw9.symm
  go_wp2
  go_ret
  exact ⟨rfl, (below_alloc _ _).alloc (by simp) _⟩
theorem cmpOf_geq {p n0 : Int} (h : n0 ≤ p) : decide (cmpOf p n0 ≥ 0) = true := by
  unfold cmpOf
  rw [if_neg (by omega)]
  split <;> exact decide_eq_true (by omega)
theorem cmpOf_lt {p n0 : Int} (h : ¬ n0 ≤ p) : decide (cmpOf p n0 ≥ 0) = false := by
  unfold cmpOf
  rw [if_pos (by omega)]
  exact decide_eq_false (by omega)
/-- The pair ahead in its row, the pair in its box, and that nothing old has turned. -/
def TwoP (w : World) (g o b : Nat) (p0 p1 n0 n1 : Int) (x : World) : Prop := (x.cell? ⟨g, o, none⟩ = some (.int .i64 p0) ∧ x.cell? ⟨g, o + 1, none⟩ = some (.int .i64 p1) ∧ x.cell? ⟨b, 0, none⟩ = some (.int .i64 n0) ∧ x.cell? ⟨b, 1, none⟩ = some (.int .i64 n1)) ∧ Below w.heap.size w x
theorem TwoP.later {w x x' : World} {g o b : Nat} {p0 p1 n0 n1 : Int} (h : TwoP w g o b p0 p1 n0 n1 x) (hb : Below x.heap.size x x') : TwoP w g o b p0 p1 n0 n1 x' := by
  obtain ⟨⟨h0, h1, h2, h3⟩, hy⟩ := h
  exact ⟨⟨(hb.cell (World.block_lt_of_cell? x _ h0)).trans h0, (hb.cell (World.block_lt_of_cell? x _ h1)).trans h1, (hb.cell (World.block_lt_of_cell? x _ h2)).trans h2, (hb.cell (World.block_lt_of_cell? x _ h3)).trans h3⟩, hy.trans (hb.mono hy.size)⟩
set_option maxRecDepth 100000 in
set_option maxHeartbeats 4000000 in
theorem implPairs_any (v : Value) (B n : Nat) (F : Nat → Int) (w : World) (h : Row w B 2 n F v) (hn : n ≤ 1048576) :
    Calls Tryz.prog 19 #[v] w fun e w' => e = .returned (.int .i64 (pairsF F n 0)) ∧ Below w.heap.size w w' := by
  obtain ⟨ao, cp, rfl⟩ := h.form
  have H : Hid (Row w B 2 n F (.slice ao n cp)) := h
  clear h
  obtain ⟨f, hf⟩ : ∃ f, pairsF F n 0 = f := ⟨_, rfl⟩
  have HF : Hid (pairsF F n 0 = f) := hf
  rw [hf]
  clear hf
  go_enter Tryz.func19, Tryz.ntmps19
  go_wp2
  go_loopw [8] (fun i wr => ∃ k : Nat, k ≤ n ∧ i = .int .i64 k ∧ Hid (pairsF F (n - k) k = f) ∧ Hid (Below w.heap.size w wr)) (fun i _ => n - (intOf i).toNat)
  case atStart => exact ⟨0, Nat.zero_le _, rfl, HF, Below.refl _ _⟩
  case round =>
    obtain ⟨k, hk, rfl, HS, HB⟩ := hrel
    by_cases hlt : k < n
    case neg =>
      have en : n - k = 0 := by omega
      have E : Hid (f = 0) := by
        have := HS.out
        rw [en, pairsF] at this
        exact this.symm
      clear HS HF
      go_wp2
      go_ret
      exact ⟨by rw [E.out]; rfl, HB.out⟩
    have hrow := H.out.later HB.out
    obtain ⟨g, o, rfl, _, hg, x0, x1⟩ := hrow.at2 hlt
    have hm : Hid (0 < n - k ∧ n - k - 1 = n - (k + 1)) := ⟨by omega, by omega⟩
    obtain ⟨n0, N0⟩ : ∃ x, F (k * 2) = x := ⟨_, rfl⟩
    rw [N0] at x0
    obtain ⟨n1, N1⟩ : ∃ x, F (k * 2 + 1) = x := ⟨_, rfl⟩
    rw [N1] at x1
    have NN : Hid (F (k * 2) = n0 ∧ F (k * 2 + 1) = n1) := ⟨N0, N1⟩
    clear N0 N1
    by_cases h5 : faultOf n0 = 0
    case neg =>
      obtain ⟨q, hq⟩ : ∃ q, faultOf n0 = q := ⟨_, rfl⟩
      have HQ : Hid (faultOf n0 = q) := hq
      have E : Hid (f = q) := by
        have E0 := HS.out
        rw [pairsF_bad (f := q) hm.out.1 (by rw [pairF_key NN.out.1 h5]; exact hq) (by rw [← hq]; exact h5)] at E0
        exact E0.symm
      have d : (q != 0) = true := bne_iff_ne.2 (by rw [← hq]; exact h5)
      clear h5 hq HS HF
      go_wp2_with fail
      refine (keyFault_any _ _).mono ?_
      rintro e w9 ⟨rfl, hw9⟩
      obtain rfl := hw9.symm
      rw [HQ.out]
      go_wp2
      go_ret
      refine ⟨by rw [E.out]; rfl, ?_⟩
      repeat (first | exact Below.refl _ _ | exact HB.out | refine below_dn ?_ _ | refine Below.setCell ?_ (by first | omega | (simp <;> omega) | (have := HB.out.size; simp <;> omega)) _ | refine Below.alloc ?_ (by first | omega | (simp <;> omega) | (have := HB.out.size; simp <;> omega)) _)
    have HK : Hid (faultOf n0 = 0) := h5
    clear h5
    by_cases h6 : 0 ≤ n1 ∧ n1 ≤ 9999
    case neg =>
      have E : Hid (f = 3) := by
        have E0 := HS.out
        rw [pairsF_bad (f := 3) hm.out.1 (pairF_val NN.out.1 NN.out.2 HK.out h6) (by omega)] at E0
        exact E0.symm
      have HV : Hid (decide ((0 : Int) ≤ n1 ∧ n1 ≤ 9999) = false) := decide_eq_false h6
      clear h6 HS HF
      go_wp2_with fail
      refine (keyFault_any _ _).mono ?_
      rintro e w9 ⟨rfl, hw9⟩
      obtain rfl := hw9.symm
      rw [HK.out]
      go_wp2_with fail
      refine (isValueT_is _ false HV.out _).mono ?_
      rintro e w9 ⟨rfl, hw9⟩
      obtain rfl := hw9.symm
      go_wp2
      go_ret
      refine ⟨by rw [E.out]; rfl, ?_⟩
      repeat (first | exact Below.refl _ _ | exact HB.out | refine below_dn ?_ _ | refine Below.setCell ?_ (by first | omega | (simp <;> omega) | (have := HB.out.size; simp <;> omega)) _ | refine Below.alloc ?_ (by first | omega | (simp <;> omega) | (have := HB.out.size; simp <;> omega)) _)
    have HV : Hid (decide ((0 : Int) ≤ n1 ∧ n1 ≤ 9999) = true) := decide_eq_true h6
    rcases Nat.eq_zero_or_pos k with hk0 | hk0
    · have E : Hid (pairsF F (n - (k + 1)) (k + 1) = f) := by
        have E0 := HS.out
        rw [pairsF_on hm.out.1 (pairF_ok NN.out.1 NN.out.2 rfl HK.out h6 (fun q => absurd q.1 (by omega))), hm.out.2] at E0
        exact E0
      clear h6 HS HF
      subst hk0
      simp only [Nat.zero_mul, Nat.add_zero] at x0 x1
      go_wp2_with fail
      refine (keyFault_any _ _).mono ?_
      rintro e w9 ⟨rfl, hw9⟩
      obtain rfl := hw9.symm
      rw [HK.out]
      go_wp2_with fail
      refine (isValueT_is _ true HV.out _).mono ?_
      rintro e w9 ⟨rfl, hw9⟩
      obtain rfl := hw9.symm
      go_wp2_with fail
      go_quiet (fail)
      go_wp2
      go_roundw
      case rel =>
        refine ⟨0 + 1, by omega, by go_num, E, ?_⟩
        show Below _ _ _
        repeat (first | exact Below.refl _ _ | exact HB.out | refine below_dn ?_ _ | refine Below.setCell ?_ (by first | omega | (simp <;> omega) | (have := HB.out.size; simp <;> omega)) _ | refine Below.alloc ?_ (by first | omega | (simp <;> omega) | (have := HB.out.size; simp <;> omega)) _)
      case measure => simp [intOf]; omega
    obtain ⟨g', o', hgo, _, _, p0, p1⟩ := hrow.at2 (k := k - 1) (by omega)
    obtain ⟨rfl, rfl⟩ : g = g' ∧ o = o' := by simpa using hgo
    obtain ⟨p, P⟩ : ∃ x, F ((k - 1) * 2) = x := ⟨_, rfl⟩
    rw [P] at p0
    obtain ⟨p', P'⟩ : ∃ x, F ((k - 1) * 2 + 1) = x := ⟨_, rfl⟩
    rw [P'] at p1
    have hsub : ((k : Int) - 1) = ((k - 1 : Nat) : Int) := by omega
    have hwr : IntKind.i64.wrap ((k - 1 : Nat) : Int) = ((k - 1 : Nat) : Int) := by simp [IntKind.wrap, IntKind.bits, IntKind.signed]; omega
    have hlt' : k - 1 < n := by omega
    have d : decide ((k : Int) > 0) = true := decide_eq_true (by omega)
    clear hgo hrow P'
    by_cases h7 : n0 ≤ p
    · have E : Hid (f = 1) := by
        have E0 := HS.out
        rw [pairsF_bad (f := 1) hm.out.1 (pairF_form NN.out.1 NN.out.2 P HK.out h6 hk0 h7) (by omega)] at E0
        exact E0.symm
      have HC : Hid (decide (cmpOf p n0 ≥ 0) = true) := cmpOf_geq h7
      clear h6 HS HF
      go_wp2_with fail
      refine (keyFault_any _ _).mono ?_
      rintro e w9 ⟨rfl, hw9⟩
      obtain rfl := hw9.symm
      rw [HK.out]
      go_wp2_with fail
      refine (isValueT_is _ true HV.out _).mono ?_
      rintro e w9 ⟨rfl, hw9⟩
      obtain rfl := hw9.symm
      go_wp2_with fail
      refine wp_region_held_drew (S := TwoP w g (o + (k - 1) * 2) wr.heap.size p p' n0 n1) (by kernel_rfl) ?_ (fun hS => ?_)
      · refine ⟨⟨?_, ?_, ?_, ?_⟩, ?_⟩
        · go_simp
        · go_simp
        · go_simp
        · go_simp
        · refine Below.drew ?_
          repeat (first | exact Below.refl _ _ | exact HB.out | refine below_dn ?_ _ | refine Below.setCell ?_ (by first | omega | (simp <;> omega) | (have := HB.out.size; simp <;> omega)) _ | refine Below.alloc ?_ (by first | omega | (simp <;> omega) | (have := HB.out.size; simp <;> omega)) _)
      refine tkH 0 ?_ hS (fun wx hx => ?_) ?_; rotate_left
      · obtain ⟨⟨hx0, hx1, hx2, hx3⟩, _⟩ := hx; go_simp; try with_reducible rfl
      refine tkH 1 ?_ hS (fun wx hx => ?_) ?_; rotate_left
      · obtain ⟨⟨hx0, hx1, hx2, hx3⟩, _⟩ := hx; go_simp; try with_reducible rfl
      refine tkH 2 ?_ hS (fun wx hx => ?_) ?_; rotate_left
      · obtain ⟨⟨hx0, hx1, hx2, hx3⟩, _⟩ := hx; go_simp; try with_reducible rfl
      refine tkH 3 ?_ hS (fun wx hx => ?_) ?_; rotate_left
      · obtain ⟨⟨hx0, hx1, hx2, hx3⟩, _⟩ := hx; go_simp; try with_reducible rfl
      refine tkH 4 ?_ hS (fun wx hx => ?_) ?_; rotate_left
      · obtain ⟨⟨hx0, hx1, hx2, hx3⟩, _⟩ := hx; go_simp; try with_reducible rfl
      refine tkH 5 ?_ hS (fun wx hx => ?_) ?_; rotate_left
      · obtain ⟨⟨hx0, hx1, hx2, hx3⟩, _⟩ := hx; go_simp; try with_reducible rfl
      refine tkH 6 ?_ hS (fun wx hx => ?_) ?_; rotate_left
      · obtain ⟨⟨hx0, hx1, hx2, hx3⟩, _⟩ := hx; go_simp; try with_reducible rfl
      refine tkH 7 ?_ hS (fun wx hx => ?_) ?_; rotate_left
      · obtain ⟨⟨hx0, hx1, hx2, hx3⟩, _⟩ := hx; go_simp; try with_reducible rfl
      refine tkH 8 ?_ hS (fun wx hx => ?_) ?_; rotate_left
      · obtain ⟨⟨hx0, hx1, hx2, hx3⟩, _⟩ := hx; go_simp; try with_reducible rfl
      refine rdH 9 (fun K hK => ?_)
      go_simp
      go_wp2_with fail
      refine (comparePairs_is _ _ _ _ (cmpOf p n0) rfl _).mono ?_
      rintro e w2 ⟨rfl, q2⟩
      go_wp2_with fail
      refine hK.out _ _ (hS.later q2) (fun hS => ?_)
      clear hK K q2
      refine tkH 10 ?_ hS (fun wx hx => ?_) ?_; rotate_left
      · obtain ⟨⟨hx0, hx1, hx2, hx3⟩, _⟩ := hx; go_simp; try with_reducible rfl
      rw [HC.out]
      refine tkH 11 ?_ hS (fun wx hx => ?_) ?_; rotate_left
      · obtain ⟨⟨hx0, hx1, hx2, hx3⟩, _⟩ := hx; go_simp; try with_reducible rfl
      refine wpAnyH_done (by kernel_rfl) ?_ _
      go_simp
      go_wp2
      go_ret
      exact ⟨by rw [E.out]; rfl, hS.2⟩
    · have E : Hid (pairsF F (n - (k + 1)) (k + 1) = f) := by
        have E0 := HS.out
        rw [pairsF_on hm.out.1 (pairF_ok NN.out.1 NN.out.2 P HK.out h6 (fun q => h7 q.2)), hm.out.2] at E0
        exact E0
      have HC : Hid (decide (cmpOf p n0 ≥ 0) = false) := cmpOf_lt h7
      clear h6 HS HF
      go_wp2_with fail
      refine (keyFault_any _ _).mono ?_
      rintro e w9 ⟨rfl, hw9⟩
      obtain rfl := hw9.symm
      rw [HK.out]
      go_wp2_with fail
      refine (isValueT_is _ true HV.out _).mono ?_
      rintro e w9 ⟨rfl, hw9⟩
      obtain rfl := hw9.symm
      go_wp2_with fail
      refine wp_region_held_drew (S := TwoP w g (o + (k - 1) * 2) wr.heap.size p p' n0 n1) (by kernel_rfl) ?_ (fun hS => ?_)
      · refine ⟨⟨?_, ?_, ?_, ?_⟩, ?_⟩
        · go_simp
        · go_simp
        · go_simp
        · go_simp
        · refine Below.drew ?_
          repeat (first | exact Below.refl _ _ | exact HB.out | refine below_dn ?_ _ | refine Below.setCell ?_ (by first | omega | (simp <;> omega) | (have := HB.out.size; simp <;> omega)) _ | refine Below.alloc ?_ (by first | omega | (simp <;> omega) | (have := HB.out.size; simp <;> omega)) _)
      refine tkH 0 ?_ hS (fun wx hx => ?_) ?_; rotate_left
      · obtain ⟨⟨hx0, hx1, hx2, hx3⟩, _⟩ := hx; go_simp; try with_reducible rfl
      refine tkH 1 ?_ hS (fun wx hx => ?_) ?_; rotate_left
      · obtain ⟨⟨hx0, hx1, hx2, hx3⟩, _⟩ := hx; go_simp; try with_reducible rfl
      refine tkH 2 ?_ hS (fun wx hx => ?_) ?_; rotate_left
      · obtain ⟨⟨hx0, hx1, hx2, hx3⟩, _⟩ := hx; go_simp; try with_reducible rfl
      refine tkH 3 ?_ hS (fun wx hx => ?_) ?_; rotate_left
      · obtain ⟨⟨hx0, hx1, hx2, hx3⟩, _⟩ := hx; go_simp; try with_reducible rfl
      refine tkH 4 ?_ hS (fun wx hx => ?_) ?_; rotate_left
      · obtain ⟨⟨hx0, hx1, hx2, hx3⟩, _⟩ := hx; go_simp; try with_reducible rfl
      refine tkH 5 ?_ hS (fun wx hx => ?_) ?_; rotate_left
      · obtain ⟨⟨hx0, hx1, hx2, hx3⟩, _⟩ := hx; go_simp; try with_reducible rfl
      refine tkH 6 ?_ hS (fun wx hx => ?_) ?_; rotate_left
      · obtain ⟨⟨hx0, hx1, hx2, hx3⟩, _⟩ := hx; go_simp; try with_reducible rfl
      refine tkH 7 ?_ hS (fun wx hx => ?_) ?_; rotate_left
      · obtain ⟨⟨hx0, hx1, hx2, hx3⟩, _⟩ := hx; go_simp; try with_reducible rfl
      refine tkH 8 ?_ hS (fun wx hx => ?_) ?_; rotate_left
      · obtain ⟨⟨hx0, hx1, hx2, hx3⟩, _⟩ := hx; go_simp; try with_reducible rfl
      refine rdH 9 (fun K hK => ?_)
      go_simp
      go_wp2_with fail
      refine (comparePairs_is _ _ _ _ (cmpOf p n0) rfl _).mono ?_
      rintro e w2 ⟨rfl, q2⟩
      go_wp2_with fail
      refine hK.out _ _ (hS.later q2) (fun hS => ?_)
      clear hK K q2
      refine tkH 10 ?_ hS (fun wx hx => ?_) ?_; rotate_left
      · obtain ⟨⟨hx0, hx1, hx2, hx3⟩, _⟩ := hx; go_simp; try with_reducible rfl
      rw [HC.out]
      refine tkH 11 ?_ hS (fun wx hx => ?_) ?_; rotate_left
      · obtain ⟨⟨hx0, hx1, hx2, hx3⟩, _⟩ := hx; go_simp; try with_reducible rfl
      refine wpAnyH_done (by kernel_rfl) ?_ _
      go_simp
      go_wp2
      go_roundw
      case rel => exact ⟨k + 1, by omega, by go_num, E, hS.2⟩
      case measure => simp [intOf]; omega
end Go.Proofs.YtbpppaolcgibnaaGreatDoor

namespace Go.Proofs.YtbpppaolcgibnaaGreatDoor
open Go.RowKit

theorem lt_cellP {w : World} {p : Addr} {v : Value} (h : w.cell? p = some v) : p.block < w.heap.size := World.block_lt_of_cell? w p h
/-- The place of something in a row: all ahead of it is so, and what stands there is not. -/
def placeAtP (p : Nat → Prop) (n k : Nat) : Prop := k ≤ n ∧ (∀ j, j < k → p j) ∧ (k < n → ¬ p k)
def aheadP (F : Nat → Int) (a : Int) (j : Nat) : Prop := F (j * 2) < a
def AP (w : World) (B n : Nat) (F : Nat → Int) (ao : Option Addr) (cp : Nat) (x0 x1 : Int) (X : World) : Prop :=
  (X.cell? ⟨w.heap.size, 0, none⟩ = some (.int .i64 x0) ∧ X.cell? ⟨w.heap.size, 1, none⟩ = some (.int .i64 x1)) ∧ Row X B 2 n F (.slice ao n cp) ∧ Below w.heap.size w X
theorem AP.drew {w X : World} {B n : Nat} {F : Nat → Int} {ao : Option Addr} {cp : Nat} {x0 x1 : Int} (h : AP w B n F ao cp x0 x1 X) : AP w B n F ao cp x0 x1 X.drew := ⟨h.1, h.2.1, h.2.2.drew⟩
theorem AP.later {w X X' : World} {B n : Nat} {F : Nat → Int} {ao : Option Addr} {cp : Nat} {x0 x1 : Int} (h : AP w B n F ao cp x0 x1 X) (_ : Row w B 2 n F (.slice ao n cp)) (hb : Below X.heap.size X X') : AP w B n F ao cp x0 x1 X' :=
  ⟨⟨(hb.cell (lt_cellP h.1.1)).trans h.1.1, (hb.cell (lt_cellP h.1.2)).trans h.1.2⟩, h.2.1.later hb, h.2.2.trans (hb.mono h.2.2.size)⟩
theorem cmp_negP (a x : Int) : cmpOf a x < 0 ↔ a < x := by
  unfold cmpOf
  constructor
  · intro h
    by_cases h1 : a < x
    · exact h1
    · simp [h1] at h
      split at h <;> omega
  · intro h
    simp [h]
theorem cmp_zeroP (a x : Int) : cmpOf a x = 0 ↔ a = x := by
  unfold cmpOf
  constructor
  · intro h
    by_cases h1 : a < x
    · simp [h1] at h
    · by_cases h2 : x < a
      · simp [h1, h2] at h
      · omega
  · rintro rfl
    simp
/-- What the search answers. -/
def FoundP (w : World) (n : Nat) (F : Nat → Int) (x0 : Int) (e : Ending) (w' : World) : Prop := ∃ (k : Nat) (r : Bool), e = .returned (.tuple #[.int .i64 k, .bool r]) ∧ placeAtP (aheadP F x0) n k ∧ (r = true ↔ k < n ∧ F (k * 2) = x0) ∧ Below w.heap.size w w'
set_option maxRecDepth 100000 in
set_option maxHeartbeats 4000000 in
theorem searchP_any (n : Nat) (F : Nat → Int) (ao : Option Addr) (cp : Nat) (B : Nat) (x0 x1 : Int) (w : World) (h : Row w B 2 n F (.slice ao n cp)) (hn : n ≤ 1000) (hmono : ∀ i j, i ≤ j → j < n → aheadP F x0 j → aheadP F x0 i) :
    Calls Tryz.prog 107 #[.slice ao n cp, .agg #[.int .i64 x0, .int .i64 x1], .func (.func 48) #[] #[]] w (FoundP w n F x0) := by
  have H : Hid (Row w B 2 n F (.slice ao n cp)) := h
  have HM : Hid (∀ i j, i ≤ j → j < n → aheadP F x0 j → aheadP F x0 i) := hmono
  clear h hmono
  go_enter Tryz.func107, Tryz.ntmps107
  go_wp2
  go_loopw [9, 10] (fun a b wr => ∃ i j : Nat, i ≤ j ∧ j ≤ n ∧ a = .int .i64 i ∧ b = .int .i64 j ∧ Hid (∀ q, q < i → aheadP F x0 q) ∧ Hid (∀ q, j ≤ q → q < n → ¬ aheadP F x0 q) ∧ Hid (AP w B n F ao cp x0 x1 wr)) (fun a b _ => (intOf b).toNat - (intOf a).toNat)
  case atStart =>
    refine ⟨0, n, Nat.zero_le _, Nat.le_refl _, rfl, rfl, fun q hq => absurd hq (Nat.not_lt_zero q), fun q h1 h2 => absurd h2 (Nat.not_lt.2 h1), ?_⟩
    exact ⟨⟨World.cell?_alloc_mark w _ _ _ 0, World.cell?_alloc_mark w _ _ _ 1⟩, H.out.alloc _, below_alloc _ _⟩
  case round =>
    obtain ⟨i, j, hij, hj, rfl, rfl, HA, HB, HS⟩ := hrel
    by_cases hlt : i < j
    case neg =>
      obtain rfl : i = j := by omega
      have HP : Hid (placeAtP (aheadP F x0) n i) := ⟨hj, HA.out, fun q => HB.out i (Nat.le_refl _) q⟩
      clear HA HB hij hlt
      go_upto_region 8 with fail
      by_cases hin : i < n
      · obtain ⟨g, o, hao, _, hg, y0, y1⟩ := HS.out.2.1.at2 hin
        subst hao
        obtain ⟨n0, N0⟩ : ∃ x, F (i * 2) = x := ⟨_, rfl⟩
        rw [N0] at y0
        obtain ⟨n1, N1⟩ : ∃ x, F (i * 2 + 1) = x := ⟨_, rfl⟩
        rw [N1] at y1
        have HN : Hid (F (i * 2) = n0) := N0
        clear N0 N1
        have dn : decide (i < n) = true := decide_eq_true hin
        refine wp_region_held_drew (S := fun X => (X.cell? ⟨w.heap.size, 0, none⟩ = some (.int .i64 x0) ∧ X.cell? ⟨w.heap.size, 1, none⟩ = some (.int .i64 x1)) ∧ (X.cell? ⟨g, o + i * 2, none⟩ = some (.int .i64 n0) ∧ X.cell? ⟨g, o + i * 2 + 1, none⟩ = some (.int .i64 n1)) ∧ AP w B n F (some ⟨g, o, none⟩) cp x0 x1 X) (by kernel_rfl) ⟨HS.out.1, ⟨y0, y1⟩, HS.out.drew⟩ (fun hS => ?_)
        refine tkH 0 ?_ hS (fun wx hx => ?_) ?_; rotate_left
        · obtain ⟨⟨hx0, hx1⟩, ⟨hx4, hx5⟩, _⟩ := hx; go_simp; try with_reducible rfl
        refine tkH 1 ?_ hS (fun wx hx => ?_) ?_; rotate_left
        · obtain ⟨⟨hx0, hx1⟩, ⟨hx4, hx5⟩, _⟩ := hx; go_simp; try with_reducible rfl
        refine tkH 2 ?_ hS (fun wx hx => ?_) ?_; rotate_left
        · obtain ⟨⟨hx0, hx1⟩, ⟨hx4, hx5⟩, _⟩ := hx; go_simp; try with_reducible rfl
        refine tkH 3 ?_ hS (fun wx hx => ?_) ?_; rotate_left
        · obtain ⟨⟨hx0, hx1⟩, ⟨hx4, hx5⟩, _⟩ := hx; go_simp; try with_reducible rfl
        refine tkH 4 ?_ hS (fun wx hx => ?_) ?_; rotate_left
        · obtain ⟨⟨hx0, hx1⟩, ⟨hx4, hx5⟩, _⟩ := hx; go_simp; try with_reducible rfl
        refine tkH 5 ?_ hS (fun wx hx => ?_) ?_; rotate_left
        · obtain ⟨⟨hx0, hx1⟩, ⟨hx4, hx5⟩, _⟩ := hx; go_simp; try with_reducible rfl
        refine tkH 6 ?_ hS (fun wx hx => ?_) ?_; rotate_left
        · obtain ⟨⟨hx0, hx1⟩, ⟨hx4, hx5⟩, _⟩ := hx; go_simp; try with_reducible rfl
        refine tkH 7 ?_ hS (fun wx hx => ?_) ?_; rotate_left
        · obtain ⟨⟨hx0, hx1⟩, ⟨hx4, hx5⟩, _⟩ := hx; go_simp; try with_reducible rfl
        refine tkH 8 ?_ hS (fun wx hx => ?_) ?_; rotate_left
        · obtain ⟨⟨hx0, hx1⟩, ⟨hx4, hx5⟩, _⟩ := hx; go_simp; try with_reducible rfl
        refine tkH 9 ?_ hS (fun wx hx => ?_) ?_; rotate_left
        · obtain ⟨⟨hx0, hx1⟩, ⟨hx4, hx5⟩, _⟩ := hx; go_simp; try with_reducible rfl
        refine tkH 10 ?_ hS (fun wx hx => ?_) ?_; rotate_left
        · obtain ⟨⟨hx0, hx1⟩, ⟨hx4, hx5⟩, _⟩ := hx; go_simp; try with_reducible rfl
        refine rdH 11 (fun K hK => ?_)
        go_simp
        go_wp2_with fail
        obtain ⟨r, hr⟩ : ∃ r, cmpOf n0 x0 = r := ⟨_, rfl⟩
        refine (comparePairs_is n0 n1 x0 x1 r hr _).mono ?_
        rintro e w1 ⟨rfl, q1⟩
        have S1 : AP w B n F (some ⟨g, o, none⟩) cp x0 x1 w1 := hS.2.2.later H.out q1
        obtain ⟨_, ⟨y0, y1⟩, _⟩ := hS
        have y0' := (q1.cell (p := ⟨g, o + i * 2, none⟩) (lt_cellP y0)).trans y0
        have y1' := (q1.cell (p := ⟨g, o + i * 2 + 1, none⟩) (lt_cellP y1)).trans y1
        go_wp2_with fail
        refine hK.out _ _ ⟨S1.1, ⟨y0', y1'⟩, S1⟩ (fun hS => ?_)
        clear hK K y0 y1 y0' y1' q1 S1 HS
        by_cases ha : n0 = x0
        · obtain rfl : r = 0 := by rw [← hr]; exact (cmp_zeroP n0 x0).2 ha
          have HR : Hid (F (i * 2) = x0) := HN.out.trans ha
          clear ha hr HN
          refine tkH 12 ?_ hS (fun wx hx => ?_) ?_; rotate_left
          · obtain ⟨⟨hx0, hx1⟩, ⟨hx4, hx5⟩, _⟩ := hx; go_simp; try with_reducible rfl
          refine tkH 13 ?_ hS (fun wx hx => ?_) ?_; rotate_left
          · obtain ⟨⟨hx0, hx1⟩, ⟨hx4, hx5⟩, _⟩ := hx; go_simp; try with_reducible rfl
          refine tkH 14 ?_ hS (fun wx hx => ?_) ?_; rotate_left
          · obtain ⟨⟨hx0, hx1⟩, ⟨hx4, hx5⟩, _⟩ := hx; go_simp; try with_reducible rfl
          refine tkH 15 ?_ hS (fun wx hx => ?_) ?_; rotate_left
          · obtain ⟨⟨hx0, hx1⟩, ⟨hx4, hx5⟩, _⟩ := hx; go_simp; try with_reducible rfl
          refine wpAnyH_done (by kernel_rfl) ?_ _
          go_simp
          go_wp2
          go_ret2
          exact ⟨i, true, rfl, HP.out, ⟨fun _ => ⟨hin, HR.out⟩, fun _ => rfl⟩, hS.2.2.2.2⟩
        · have dr : (r == 0) = false := beq_eq_false_iff_ne.2 (by rw [← hr]; exact fun q => ha ((cmp_zeroP n0 x0).1 q))
          have HR : Hid (¬ F (i * 2) = x0) := fun q => ha (HN.out.symm.trans q)
          clear ha hr HN
          refine tkH 12 ?_ hS (fun wx hx => ?_) ?_; rotate_left
          · obtain ⟨⟨hx0, hx1⟩, ⟨hx4, hx5⟩, _⟩ := hx; go_simp; try with_reducible rfl
          refine tkH 13 ?_ hS (fun wx hx => ?_) ?_; rotate_left
          · obtain ⟨⟨hx0, hx1⟩, ⟨hx4, hx5⟩, _⟩ := hx; go_simp; try with_reducible rfl
          refine tkH 14 ?_ hS (fun wx hx => ?_) ?_; rotate_left
          · obtain ⟨⟨hx0, hx1⟩, ⟨hx4, hx5⟩, _⟩ := hx; go_simp; try with_reducible rfl
          refine tkH 15 ?_ hS (fun wx hx => ?_) ?_; rotate_left
          · obtain ⟨⟨hx0, hx1⟩, ⟨hx4, hx5⟩, _⟩ := hx; go_simp; try with_reducible rfl
          refine wpAnyH_done (by kernel_rfl) ?_ _
          go_simp
          go_wp2
          go_ret2
          exact ⟨i, false, rfl, HP.out, ⟨fun q => (Bool.false_ne_true q).elim, fun q => (HR.out q.2).elim⟩, hS.2.2.2.2⟩
      · have dn : decide (i < n) = false := decide_eq_false hin
        refine wp_region_held_drew (S := AP w B n F ao cp x0 x1) (by kernel_rfl) HS.out.drew (fun hS => ?_)
        refine tkH 0 ?_ hS (fun wx hx => ?_) ?_; rotate_left
        · go_simp; try with_reducible rfl
        refine tkH 1 ?_ hS (fun wx hx => ?_) ?_; rotate_left
        · go_simp; try with_reducible rfl
        refine tkH 2 ?_ hS (fun wx hx => ?_) ?_; rotate_left
        · go_simp; try with_reducible rfl
        refine tkH 3 ?_ hS (fun wx hx => ?_) ?_; rotate_left
        · go_simp; try with_reducible rfl
        refine tkH 4 ?_ hS (fun wx hx => ?_) ?_; rotate_left
        · go_simp; try with_reducible rfl
        refine noH 5 hS ?_
        refine noH 6 hS ?_
        refine noH 7 hS ?_
        refine noH 8 hS ?_
        refine noH 9 hS ?_
        refine noH 10 hS ?_
        refine noH 11 hS ?_
        refine noH 12 hS ?_
        refine tkH 13 ?_ hS (fun wx hx => ?_) ?_; rotate_left
        · go_simp; try with_reducible rfl
        refine tkH 14 ?_ hS (fun wx hx => ?_) ?_; rotate_left
        · go_simp; try with_reducible rfl
        refine tkH 15 ?_ hS (fun wx hx => ?_) ?_; rotate_left
        · go_simp; try with_reducible rfl
        refine wpAnyH_done (by kernel_rfl) ?_ _
        go_simp
        go_wp2
        go_ret2
        exact ⟨i, false, rfl, HP.out, ⟨fun q => (Bool.false_ne_true q).elim, fun q => (hin q.1).elim⟩, hS.2.2⟩
    go_upto_region 5 with fail
    obtain ⟨m, hm⟩ : ∃ m : Nat, ((i : Int) + j) / 2 = m := ⟨(i + j) / 2, by omega⟩
    have hm1 : i ≤ m ∧ m < j := by omega
    rw [hm]
    clear hm
    obtain ⟨hm1, hm2⟩ := hm1
    have hmn : m < n := by omega
    obtain ⟨g, o, hao, _, hg, y0, y1⟩ := HS.out.2.1.at2 hmn
    subst hao
    obtain ⟨n0, N0⟩ : ∃ x, F (m * 2) = x := ⟨_, rfl⟩
    rw [N0] at y0
    obtain ⟨n1, N1⟩ : ∃ x, F (m * 2 + 1) = x := ⟨_, rfl⟩
    rw [N1] at y1
    have HC : Hid (aheadP F x0 m ↔ n0 < x0) := by unfold aheadP; rw [N0]; exact Iff.rfl
    clear N0 N1
    refine wp_region_held_drew (S := fun X => (X.cell? ⟨w.heap.size, 0, none⟩ = some (.int .i64 x0) ∧ X.cell? ⟨w.heap.size, 1, none⟩ = some (.int .i64 x1)) ∧ (X.cell? ⟨g, o + m * 2, none⟩ = some (.int .i64 n0) ∧ X.cell? ⟨g, o + m * 2 + 1, none⟩ = some (.int .i64 n1)) ∧ AP w B n F (some ⟨g, o, none⟩) cp x0 x1 X) (by kernel_rfl) ⟨HS.out.1, ⟨y0, y1⟩, HS.out.drew⟩ (fun hS => ?_)
    refine tkH 0 ?_ hS (fun wx hx => ?_) ?_; rotate_left
    · obtain ⟨⟨hx0, hx1⟩, ⟨hx4, hx5⟩, _⟩ := hx; go_simp; try with_reducible rfl
    refine tkH 1 ?_ hS (fun wx hx => ?_) ?_; rotate_left
    · obtain ⟨⟨hx0, hx1⟩, ⟨hx4, hx5⟩, _⟩ := hx; go_simp; try with_reducible rfl
    refine tkH 2 ?_ hS (fun wx hx => ?_) ?_; rotate_left
    · obtain ⟨⟨hx0, hx1⟩, ⟨hx4, hx5⟩, _⟩ := hx; go_simp; try with_reducible rfl
    refine tkH 3 ?_ hS (fun wx hx => ?_) ?_; rotate_left
    · obtain ⟨⟨hx0, hx1⟩, ⟨hx4, hx5⟩, _⟩ := hx; go_simp; try with_reducible rfl
    refine tkH 4 ?_ hS (fun wx hx => ?_) ?_; rotate_left
    · obtain ⟨⟨hx0, hx1⟩, ⟨hx4, hx5⟩, _⟩ := hx; go_simp; try with_reducible rfl
    refine tkH 5 ?_ hS (fun wx hx => ?_) ?_; rotate_left
    · obtain ⟨⟨hx0, hx1⟩, ⟨hx4, hx5⟩, _⟩ := hx; go_simp; try with_reducible rfl
    refine rdH 6 (fun K hK => ?_)
    go_simp
    go_wp2_with fail
    obtain ⟨r, hr⟩ : ∃ r, cmpOf n0 x0 = r := ⟨_, rfl⟩
    refine (comparePairs_is n0 n1 x0 x1 r hr _).mono ?_
    rintro e w1 ⟨rfl, q1⟩
    have S1 : AP w B n F (some ⟨g, o, none⟩) cp x0 x1 w1 := hS.2.2.later H.out q1
    obtain ⟨_, ⟨y0, y1⟩, _⟩ := hS
    have y0' := (q1.cell (p := ⟨g, o + m * 2, none⟩) (lt_cellP y0)).trans y0
    have y1' := (q1.cell (p := ⟨g, o + m * 2 + 1, none⟩) (lt_cellP y1)).trans y1
    go_wp2_with fail
    refine hK.out _ _ ⟨S1.1, ⟨y0', y1'⟩, S1⟩ (fun hS => ?_)
    clear hK K y0 y1 y0' y1' q1 S1 HS
    by_cases ha : n0 < x0
    · have dr : decide (r < 0) = true := decide_eq_true (by rw [← hr]; exact (cmp_negP n0 x0).2 ha)
      have HA1 : Hid (∀ q, q < m + 1 → aheadP F x0 q) := fun q hq => HM.out q m (by omega) hmn (HC.out.2 ha)
      clear ha hr HC HA
      refine tkH 7 ?_ hS (fun wx hx => ?_) ?_; rotate_left
      · obtain ⟨⟨hx0, hx1⟩, ⟨hx4, hx5⟩, _⟩ := hx; go_simp; try with_reducible rfl
      refine wpAnyH_done (by kernel_rfl) ?_ _
      go_simp
      go_wp2
      go_roundw
      case rel => exact ⟨m + 1, j, by omega, hj, by go_num, rfl, HA1, HB, hS.2.2⟩
      case measure => simp [intOf]; omega
    · have dr : decide (r < 0) = false := decide_eq_false (by rw [← hr]; exact fun q => ha ((cmp_negP n0 x0).1 q))
      have HB1 : Hid (∀ q, m ≤ q → q < n → ¬ aheadP F x0 q) := fun q h1 h2 h3 => ha (HC.out.1 (HM.out m q h1 h2 h3))
      clear ha hr HC HB
      refine tkH 7 ?_ hS (fun wx hx => ?_) ?_; rotate_left
      · obtain ⟨⟨hx0, hx1⟩, ⟨hx4, hx5⟩, _⟩ := hx; go_simp; try with_reducible rfl
      refine wpAnyH_done (by kernel_rfl) ?_ _
      go_simp
      go_wp2
      go_roundw
      case rel => exact ⟨i, m, hm1, by omega, rfl, rfl, HA, HB1, hS.2.2⟩
      case measure => simp [intOf]; omega
end Go.Proofs.YtbpppaolcgibnaaGreatDoor

namespace Go.Proofs.YtbpppaolcgibnaaGreatDoor
open Go.RowKit

abbrev Prs := List (Int × Int)
/-- The numbers of a list of pairs, one behind the other. -/
def rowL (L : Prs) (p : Nat) : Int := if p % 2 = 0 then (L.getD (p / 2) (0, 0)).1 else (L.getD (p / 2) (0, 0)).2
theorem rowL_key (L : Prs) (k : Nat) : rowL L (k * 2) = (L.getD k (0, 0)).1 := by
  unfold rowL
  rw [if_pos (by omega), show k * 2 / 2 = k by omega]
theorem rowL_val (L : Prs) (k : Nat) : rowL L (k * 2 + 1) = (L.getD k (0, 0)).2 := by
  unfold rowL
  rw [if_neg (by omega), show (k * 2 + 1) / 2 = k by omega]
/-- The pairs of a row. -/
def listOf (F : Nat → Int) (n : Nat) : Prs := (List.range n).map fun k => (F (k * 2), F (k * 2 + 1))
theorem listOf_length (F : Nat → Int) (n : Nat) : (listOf F n).length = n := by simp [listOf]
theorem listOf_get {F : Nat → Int} {n k : Nat} (h : k < n) : (listOf F n).getD k (0, 0) = (F (k * 2), F (k * 2 + 1)) := by simp [listOf, h, List.getD]
theorem rowL_listOf {F : Nat → Int} {n p : Nat} (h : p < n * 2) : rowL (listOf F n) p = F p := by
  unfold rowL
  rw [listOf_get (by omega)]
  split
  · show F (p / 2 * 2) = F p
    congr 1; omega
  · show F (p / 2 * 2 + 1) = F p
    congr 1; omega
theorem row_eqP {w : World} {B n : Nat} {F G : Nat → Int} {v : Value} (h : Row w B 2 n F v) (e : ∀ p, p < n * 2 → F p = G p) : Row w B 2 n G v := by
  obtain ⟨a, c, hv, hr⟩ := h
  refine ⟨a, c, hv, fun hn => ?_⟩
  obtain ⟨g, o, h1, h2, h3, h4⟩ := hr hn
  exact ⟨g, o, h1, h2, h3, fun p hp => by rw [← e p hp]; exact h4 p hp⟩
theorem vals_eqP {N : Nat} {F G : Nat → Int} (e : ∀ p, p < N → F p = G p) : vals F N = vals G N := by
  unfold vals
  exact List.map_congr_left fun p hp => by rw [e p (List.mem_range.1 hp)]
theorem own_eqP {w : World} {B m n : Nat} {ty : TypeId} {F G : Nat → Int} {v : Value} (h : Own w B ty m n F v) (e : ∀ p, p < n * m → F p = G p) : Own w B ty m n G v := by
  unfold Own at h ⊢
  rwa [← vals_eqP e]

/-- The pairs of other keys. -/
def gonePr (L : Prs) (k : Int) : Prs := L.filter fun e => e.1 ≠ k
/-- A pair put at its place, the pair of its key gone. -/
def putPr : Prs → Int → Int → Prs
  | [], k, v => [(k, v)]
  | e :: t, k, v => if k ≤ e.1 then (k, v) :: gonePr (e :: t) k else e :: putPr t k v
/-- Keys rise. -/
def Rises (L : Prs) : Prop := L.Pairwise fun a b => a.1 < b.1
/-- How many stand ahead of a key. -/
def aheadN (L : Prs) (k : Int) : Nat := (L.takeWhile fun e => decide (e.1 < k)).length
theorem aheadN_le (L : Prs) (k : Int) : aheadN L k ≤ L.length := (List.takeWhile_sublist _).length_le
theorem aheadN_lt {L : Prs} {k : Int} {j : Nat} (h : j < aheadN L k) : (L.getD j (0, 0)).1 < k := by
  induction L generalizing j with
  | nil => simp [aheadN] at h
  | cons e t ih =>
    unfold aheadN at h ih
    rw [List.takeWhile_cons] at h
    split at h
    · rename_i he
      cases j with
      | zero => simpa using he
      | succ j => simpa using ih (by simpa using h)
    · simp at h
theorem aheadN_not {L : Prs} {k : Int} (h : aheadN L k < L.length) : ¬ (L.getD (aheadN L k) (0, 0)).1 < k := by
  induction L with
  | nil => simp at h
  | cons e t ih =>
    unfold aheadN at h ih ⊢
    rw [List.takeWhile_cons] at h ⊢
    split
    · rename_i he
      rw [if_pos he] at h
      simpa using ih (by simpa using h)
    · rename_i he
      simpa using he
/-- The place that the search tells is how many stand ahead. -/
theorem place_is {L : Prs} {k : Int} {i : Nat} (h : placeAtP (aheadP (rowL L) k) L.length i) : i = aheadN L k := by
  obtain ⟨h1, h2, h3⟩ := h
  unfold aheadP at h2 h3
  simp only [rowL_key] at h2 h3
  rcases Nat.lt_trichotomy i (aheadN L k) with q | q | q
  · exact absurd (aheadN_lt q) (h3 (Nat.lt_of_lt_of_le q (aheadN_le L k)))
  · exact q
  · exact absurd (h2 _ q) (aheadN_not (by omega))
theorem rises_mono {L : Prs} (h : Rises L) {k : Int} (i j : Nat) (hij : i ≤ j) (hj : j < L.length) (ha : aheadP (rowL L) k j) : aheadP (rowL L) k i := by
  unfold aheadP at *
  rw [rowL_key] at *
  rcases Nat.eq_or_lt_of_le hij with rfl | q
  · exact ha
  · have := List.pairwise_iff_getElem.1 h i j (by omega) hj q
    simp only [List.getD_eq_getElem?_getD, List.getElem?_eq_getElem hj, List.getElem?_eq_getElem (show i < L.length by omega), Option.getD_some] at ha ⊢
    omega
/-- Of a list that rises the one that stands at the place of a key is dropped, if it has that key. -/
theorem gone_is {L : Prs} (h : Rises L) (k : Int) : gonePr L k = if aheadN L k < L.length ∧ (L.getD (aheadN L k) (0, 0)).1 = k then L.eraseIdx (aheadN L k) else L := by
  induction L with
  | nil => simp [gonePr]
  | cons e t ih =>
    have ht := List.pairwise_cons.1 h
    by_cases he : e.1 < k
    · have hA : aheadN (e :: t) k = aheadN t k + 1 := by simp [aheadN, he]
      have hg : gonePr (e :: t) k = e :: gonePr t k := by
        unfold gonePr; rw [List.filter_cons_of_pos (by simp; omega)]
      rw [hg, ih ht.2, hA]
      simp only [List.length_cons, List.getD_cons_succ, Nat.add_lt_add_iff_right, List.eraseIdx_cons_succ]
      split <;> rfl
    · have hA : aheadN (e :: t) k = 0 := by simp [aheadN, he]
      have hr : gonePr t k = t := by
        unfold gonePr
        exact List.filter_eq_self.2 fun a ha => by have := ht.1 a ha; simp; omega
      rw [hA]
      by_cases hk : e.1 = k
      · rw [if_pos ⟨by simp, by simpa using hk⟩]
        unfold gonePr
        rw [List.filter_cons_of_neg (by simp [hk])]
        exact hr
      · rw [if_neg (fun q => hk (by simpa using q.2))]
        unfold gonePr
        rw [List.filter_cons_of_pos (by simp [hk])]
        rw [show List.filter (fun e => decide (e.1 ≠ k)) t = t from hr]
theorem gonePr_rises {L : Prs} (h : Rises L) (k : Int) : Rises (gonePr L k) := h.filter _
theorem put_is {L : Prs} (h : Rises L) (k v : Int) : putPr L k v = (gonePr L k).insertIdx (aheadN (gonePr L k) k) (k, v) := by
  induction L with
  | nil => rfl
  | cons e t ih =>
    have ht := List.pairwise_cons.1 h
    by_cases he : k ≤ e.1
    · have hA : aheadN (gonePr (e :: t) k) k = 0 := by
        have hall : ∀ a ∈ gonePr (e :: t) k, ¬ a.1 < k := fun a ha => by
          have ha' := (List.mem_filter.1 ha).1
          rcases List.mem_cons.1 ha' with rfl | q
          · omega
          · have := ht.1 a q; omega
        unfold aheadN
        cases hg : gonePr (e :: t) k with
        | nil => rfl
        | cons a b =>
          rw [hg] at hall
          have := hall a (by simp)
          simp [this]
      rw [putPr, if_pos he, hA]
      rfl
    · have hg : gonePr (e :: t) k = e :: gonePr t k := by
        unfold gonePr; rw [List.filter_cons_of_pos (by simp; omega)]
      have hA : aheadN (e :: gonePr t k) k = aheadN (gonePr t k) k + 1 := by simp [aheadN, show e.1 < k by omega]
      rw [putPr, if_neg he, hg, hA, ih ht.2]
      rfl
theorem putPr_mem {L : Prs} {k v : Int} {a : Int × Int} (h : a ∈ putPr L k v) : a = (k, v) ∨ a ∈ L := by
  induction L with
  | nil => simpa [putPr] using h
  | cons e t ih =>
    rw [putPr] at h
    split at h
    · rcases List.mem_cons.1 h with q | q
      · exact Or.inl q
      · exact Or.inr (List.mem_filter.1 q).1
    · rcases List.mem_cons.1 h with q | q
      · exact Or.inr (by rw [q]; simp)
      · rcases ih q with r | r
        · exact Or.inl r
        · exact Or.inr (List.mem_cons_of_mem _ r)
theorem putPr_rises {L : Prs} (h : Rises L) (k v : Int) : Rises (putPr L k v) := by
  induction L with
  | nil => simp [putPr, Rises]
  | cons e t ih =>
    have ht := List.pairwise_cons.1 h
    rw [putPr]
    split
    · rename_i he
      refine List.pairwise_cons.2 ⟨fun a ha => ?_, gonePr_rises h k⟩
      obtain ⟨h1, h2⟩ := List.mem_filter.1 ha
      have h2' : a.1 ≠ k := by simpa using h2
      show k < a.1
      rcases List.mem_cons.1 h1 with rfl | q
      · omega
      · have := ht.1 a q; omega
    · rename_i he
      refine List.pairwise_cons.2 ⟨fun a ha => ?_, ih ht.2⟩
      rcases putPr_mem ha with rfl | q
      · show e.1 < k; omega
      · exact ht.1 a q
/-- A pair above all is put at the end. -/
theorem putPr_end {L : Prs} {k v : Int} (h : ∀ a ∈ L, a.1 < k) : putPr L k v = L ++ [(k, v)] := by
  induction L with
  | nil => rfl
  | cons e t ih =>
    have := h e (by simp)
    rw [putPr, if_neg (by omega), ih fun a ha => h a (List.mem_cons_of_mem _ ha)]
    rfl
theorem rowL_erase {L : Prs} {i p : Nat} : dropF (rowL L) 2 i p = rowL (L.eraseIdx i) p := by
  unfold dropF rowL
  simp only [List.getD_eq_getElem?_getD, List.getElem?_eraseIdx]
  by_cases h : p < i * 2
  · rw [if_pos h, if_pos (show p / 2 < i by omega)]
  · rw [if_neg h, if_neg (show ¬ p / 2 < i by omega), show (p + 2) % 2 = p % 2 by omega, show (p + 2) / 2 = p / 2 + 1 by omega]
theorem rowL_is (L : Prs) (p : Nat) : rowL L p = if p % 2 = 0 then (L[p / 2]?.getD (0, 0)).1 else (L[p / 2]?.getD (0, 0)).2 := by
  unfold rowL
  rw [List.getD_eq_getElem?_getD]
theorem rowL_insert {L : Prs} {i p : Nat} {k v : Int} (hi : i ≤ L.length) (hp : p < (L.length + 1) * 2) : insF (rowL L) 2 L.length i [k, v] p = rowL (L.insertIdx i (k, v)) p := by
  rw [rowL_is (L.insertIdx i (k, v)), List.getElem?_insertIdx]
  rcases Nat.lt_or_ge p (i * 2) with h | h
  · rw [insF_lt h, if_pos (show p / 2 < i by omega), rowL_is]
  · rcases Nat.lt_or_ge p ((i + 1) * 2) with h2 | h2
    · have := insF_at (F := rowL L) (m := 2) (n := L.length) (i := i) (p := p - i * 2) (xs := [k, v]) rfl (by omega)
      rw [show i * 2 + (p - i * 2) = p by omega] at this
      rw [this, if_neg (show ¬ p / 2 < i by omega), if_pos (show p / 2 = i by omega), if_pos (show p / 2 ≤ L.length by omega)]
      rcases Nat.mod_two_eq_zero_or_one p with q | q
      · rw [if_pos q, show p - i * 2 = 0 by omega]; rfl
      · rw [if_neg (by omega), show p - i * 2 = 1 by omega]; rfl
    · have := insF_gt (F := rowL L) (m := 2) (n := L.length) (i := i) (p := p - (i + 1) * 2) (xs := [k, v]) rfl (by omega)
      rw [show (i + 1) * 2 + (p - (i + 1) * 2) = p by omega] at this
      rw [this, if_neg (show ¬ p / 2 < i by omega), if_neg (show ¬ p / 2 = i by omega), rowL_is,
        show (i * 2 + (p - (i + 1) * 2)) % 2 = p % 2 by omega, show (i * 2 + (p - (i + 1) * 2)) / 2 = p / 2 - 1 by omega]
end Go.Proofs.YtbpppaolcgibnaaGreatDoor

namespace Go.Proofs.YtbpppaolcgibnaaGreatDoor
open Go.RowKit

/-- The list's box, the box of a pair, and that nothing old has turned. -/
def RisE (w : World) (b c : Nat) (v : Value) (k x : Int) (X : World) : Prop := Blk2 X b v (.func (.func 48) #[] #[]) ∧ Blk2 X c (.int .i64 k) (.int .i64 x) ∧ Below w.heap.size w X
theorem RisE.later {w X X' : World} {b c : Nat} {v : Value} {k x : Int} (h : RisE w b c v k x X) (hb : Below X.heap.size X X') : RisE w b c v k x X' := ⟨h.1.later hb, h.2.1.later hb, h.2.2.trans (hb.mono h.2.2.size)⟩
theorem RisE.drew {w X : World} {b c : Nat} {v : Value} {k x : Int} (h : RisE w b c v k x X) : RisE w b c v k x X.drew := ⟨h.1, h.2.1, h.2.2.drew⟩
/-- Where a pair of that key stands. -/
def atKey (L : Prs) (k : Int) : Prop := aheadN L k < L.length ∧ (L.getD (aheadN L k) (0, 0)).1 = k
def PlaceIs (w : World) (L : Prs) (k : Int) (e : Ending) (w' : World) : Prop := ∃ r : Bool, e = .returned (.tuple #[.int .i64 (aheadN L k), .bool r]) ∧ (r = true ↔ atKey L k) ∧ Below w.heap.size w w'
set_option maxRecDepth 100000 in
set_option maxHeartbeats 2000000 in
theorem place_any (L : Prs) (b B : Nat) (v : Value) (k x : Int) (w : World) (hb : Blk2 w b v (.func (.func 48) #[] #[])) (ho : Own w B 35 2 L.length (rowL L) v) (hr : Rises L) (hn : L.length ≤ 1000) :
    Calls Tryz.prog 92 #[.pointer (some ⟨b, 0, none⟩), .agg #[.int .i64 k, .int .i64 x]] w (PlaceIs w L k) := by
  obtain ⟨ao, cp, rfl⟩ := ho.form
  have HO : Hid (Own w B 35 2 L.length (rowL L) (.slice ao L.length cp) ∧ Rises L) := ⟨ho, hr⟩
  have HE : RisE w b w.heap.size (.slice ao L.length cp) k x ((w.alloc (.cells #[.int .i64 k, .int .i64 x] 35)).drew) := RisE.drew ⟨hb.alloc _, Blk2.new w _ _ _, below_alloc _ _⟩
  clear ho hr hb
  go_enter Tryz.func92, Tryz.ntmps92
  go_upto_region 1 with fail
  refine wp_region_held_drew (S := RisE w b w.heap.size (.slice ao L.length cp) k x) (by kernel_rfl) HE (fun hS => ?_)
  clear HE
  refine tkH 0 ?_ hS (fun wx hx => ?_) ?_; rotate_left
  · obtain ⟨⟨⟨hx0, hx1⟩, hx4, hx5⟩, ⟨⟨hx2, hx3⟩, hx6, hx7⟩, _⟩ := hx; go_simp; try with_reducible rfl
  refine tkH 1 ?_ hS (fun wx hx => ?_) ?_; rotate_left
  · obtain ⟨⟨⟨hx0, hx1⟩, hx4, hx5⟩, ⟨⟨hx2, hx3⟩, hx6, hx7⟩, _⟩ := hx; go_simp; try with_reducible rfl
  refine tkH 2 ?_ hS (fun wx hx => ?_) ?_; rotate_left
  · obtain ⟨⟨⟨hx0, hx1⟩, hx4, hx5⟩, ⟨⟨hx2, hx3⟩, hx6, hx7⟩, _⟩ := hx; go_simp; try with_reducible rfl
  refine tkH 3 ?_ hS (fun wx hx => ?_) ?_; rotate_left
  · obtain ⟨⟨⟨hx0, hx1⟩, hx4, hx5⟩, ⟨⟨hx2, hx3⟩, hx6, hx7⟩, _⟩ := hx; go_simp; try with_reducible rfl
  refine tkH 4 ?_ hS (fun wx hx => ?_) ?_; rotate_left
  · obtain ⟨⟨⟨hx0, hx1⟩, hx4, hx5⟩, ⟨⟨hx2, hx3⟩, hx6, hx7⟩, _⟩ := hx; go_simp; try with_reducible rfl
  refine tkH 5 ?_ hS (fun wx hx => ?_) ?_; rotate_left
  · obtain ⟨⟨⟨hx0, hx1⟩, hx4, hx5⟩, ⟨⟨hx2, hx3⟩, hx6, hx7⟩, _⟩ := hx; go_simp; try with_reducible rfl
  refine tkH 6 ?_ hS (fun wx hx => ?_) ?_; rotate_left
  · obtain ⟨⟨⟨hx0, hx1⟩, hx4, hx5⟩, ⟨⟨hx2, hx3⟩, hx6, hx7⟩, _⟩ := hx; go_simp; try with_reducible rfl
  refine tkH 7 ?_ hS (fun wx hx => ?_) ?_; rotate_left
  · obtain ⟨⟨⟨hx0, hx1⟩, hx4, hx5⟩, ⟨⟨hx2, hx3⟩, hx6, hx7⟩, _⟩ := hx; go_simp; try with_reducible rfl
  refine tkH 8 ?_ hS (fun wx hx => ?_) ?_; rotate_left
  · obtain ⟨⟨⟨hx0, hx1⟩, hx4, hx5⟩, ⟨⟨hx2, hx3⟩, hx6, hx7⟩, _⟩ := hx; go_simp; try with_reducible rfl
  refine rdH 9 (fun K hK => ?_)
  go_simp
  go_wp2_with fail
  refine (searchP_any _ _ _ _ B k x _ (HO.out.1.later hS.2.2).row.1 hn (fun i j h1 h2 h3 => rises_mono HO.out.2 i j h1 h2 h3)).mono ?_
  rintro e w1 ⟨i, r, rfl, hp, hr, q1⟩
  obtain rfl := place_is hp
  simp only [rowL_key] at hr
  have HR : Hid (r = true ↔ atKey L k) := hr
  have HB : Hid (Below w.heap.size w w1) := hS.2.2.trans (q1.mono hS.2.2.size)
  have hS1 := hS.later q1
  clear hp hr q1 hS HO
  go_wp2_with fail
  refine hK.out _ _ hS1 (fun hS => ?_)
  clear hK K hS1
  refine tkH 10 ?_ hS (fun wx hx => ?_) ?_; rotate_left
  · obtain ⟨⟨⟨hx0, hx1⟩, hx4, hx5⟩, ⟨⟨hx2, hx3⟩, hx6, hx7⟩, _⟩ := hx; go_simp; try with_reducible rfl
  refine tkH 11 ?_ hS (fun wx hx => ?_) ?_; rotate_left
  · obtain ⟨⟨⟨hx0, hx1⟩, hx4, hx5⟩, ⟨⟨hx2, hx3⟩, hx6, hx7⟩, _⟩ := hx; go_simp; try with_reducible rfl
  refine tkH 12 ?_ hS (fun wx hx => ?_) ?_; rotate_left
  · obtain ⟨⟨⟨hx0, hx1⟩, hx4, hx5⟩, ⟨⟨hx2, hx3⟩, hx6, hx7⟩, _⟩ := hx; go_simp; try with_reducible rfl
  refine tkH 13 ?_ hS (fun wx hx => ?_) ?_; rotate_left
  · obtain ⟨⟨⟨hx0, hx1⟩, hx4, hx5⟩, ⟨⟨hx2, hx3⟩, hx6, hx7⟩, _⟩ := hx; go_simp; try with_reducible rfl
  refine wpAnyH_done (by kernel_rfl) ?_ _
  go_simp
  go_wp2
  go_ret2
  exact ⟨r, rfl, HR.out, HB.out⟩
set_option maxRecDepth 100000 in
set_option maxHeartbeats 2000000 in
theorem find_any (L : Prs) (b B : Nat) (v : Value) (k x : Int) (w : World) (hb : Blk2 w b v (.func (.func 48) #[] #[])) (ho : Own w B 35 2 L.length (rowL L) v) (hr : Rises L) (hn : L.length ≤ 1000) :
    Calls Tryz.prog 78 #[.pointer (some ⟨b, 0, none⟩), .agg #[.int .i64 k, .int .i64 x]] w fun e w' => ∃ (r : Bool) (y z : Int), e = .returned (.tuple #[.agg #[.int .i64 y, .int .i64 z], .bool r]) ∧ (r = true ↔ atKey L k) ∧ (r = true → (y, z) = L.getD (aheadN L k) (0, 0)) ∧ (r = false → y = 0 ∧ z = 0) ∧ Below w.heap.size w w' := by
  obtain ⟨ao, cp, rfl⟩ := ho.form
  have HO : Hid (Own w B 35 2 L.length (rowL L) (.slice ao L.length cp) ∧ Rises L ∧ Blk2 w b (.slice ao L.length cp) (.func (.func 48) #[] #[])) := ⟨ho, hr, hb⟩
  clear ho hr hb
  go_enter Tryz.func78, Tryz.ntmps78
  go_wp2_with fail
  refine (place_any L b B _ k x _ ((HO.out.2.2.alloc _).alloc _) ((HO.out.1.alloc _).alloc _) HO.out.2.1 hn).mono ?_
  rintro e w1 ⟨r, rfl, hr, q1⟩
  have HR : Hid (r = true ↔ atKey L k) := hr
  have hz := Blk2.later (Blk2.new (w.alloc (.cells #[.int .i64 k, .int .i64 x] 35)) (.int .i64 0) (.int .i64 0) 35) q1
  rw [World.size_alloc] at hz
  have HZ : Hid (Blk2 w1 (w.heap.size + 1) (.int .i64 0) (.int .i64 0)) := hz
  have HB : Hid (Below w.heap.size w w1) := ((below_alloc w _).alloc (by simp) _).trans (q1.mono (by simp; omega))
  clear q1 hr hz
  cases r with
  | false =>
    obtain ⟨⟨z0, z1⟩, z2, z3⟩ := HZ.out
    go_wp2
    refine bodyPost_ret (v := .tuple #[.agg #[.int .i64 0, .int .i64 0], .bool false]) (by simp [results, Tryz.results78, go_sem, z0, z1]) rfl ⟨false, 0, 0, rfl, HR.out, fun q => (Bool.false_ne_true q).elim, fun _ => ⟨rfl, rfl⟩, ?_⟩
    exact ((HB.out.setCell (by simp) _).setCell (by simp) _)
  | true =>
    have hat := HR.out.1 rfl
    obtain ⟨g, o, hao, _, hg, y0, y1⟩ := (HO.out.1.later HB.out).row.1.at2 hat.1
    subst hao
    obtain ⟨hb0, hb1⟩ := (HO.out.2.2.later HB.out).1
    obtain ⟨y, Y⟩ : ∃ y, rowL L (aheadN L k * 2) = y := ⟨_, rfl⟩
    obtain ⟨z, Z⟩ : ∃ y, rowL L (aheadN L k * 2 + 1) = y := ⟨_, rfl⟩
    rw [Y] at y0
    rw [Z] at y1
    have HY : Hid ((y, z) = L.getD (aheadN L k) (0, 0)) := by
      unfold Hid
      rw [← Y, ← Z, rowL_key, rowL_val]
    have hlt := hat.1
    have ha : aheadN L k ≤ 1000 := Nat.le_trans (aheadN_le L k) hn
    obtain ⟨⟨z0, z1⟩, z2, z3⟩ := HZ.out
    have HT : Hid (atKey L k) := hat
    clear Y Z hat HR
    obtain ⟨A, hA⟩ : ∃ A, aheadN L k = A := ⟨_, rfl⟩
    rw [hA] at y0 y1 hlt ha
    rw [hA]
    have HAA : Hid (aheadN L k = A) := hA
    have HP := (Blk2.put HZ.out (.int .i64 y) (.int .i64 z)).1
    have q0 : (w1.setCell ⟨w.heap.size + 1, 0, none⟩ (.int .i64 y)).cell? ⟨w.heap.size + 1, 0, none⟩ = some (.int .i64 y) := World.cell?_setCell_same _ _ _ (u := .int .i64 0) z0
    have q1 := HP.2
    have HH : Hid (_ ∧ _) := ⟨q0, q1⟩
    clear hA q0 q1 HP
    go_wp2
    refine bodyPost_ret (v := .tuple #[.agg #[.int .i64 y, .int .i64 z], .bool true]) (by simp [results, Tryz.results78, go_sem, HH.out.1, HH.out.2]) rfl ⟨true, y, z, rfl, ⟨fun _ => HT.out, fun _ => rfl⟩, fun _ => HY.out, fun q => (Bool.false_ne_true q.symm).elim, ?_⟩
    exact ((HB.out.setCell (by simp) _).setCell (by simp) _)
theorem Blk2.set0P {x : World} {b : Nat} {a0 a1 : Value} (h : Blk2 x b a0 a1) (u : Value) : Blk2 (x.setCell ⟨b, 0, none⟩ u) b u a1 := by
  obtain ⟨⟨h0, h1⟩, f0, f1⟩ := h
  exact ⟨⟨World.cell?_setCell_same _ _ _ h0, (World.cell?_setCell_other _ _ _ _ (by simp)).trans h1⟩, by simpa using f0, by simpa using f1⟩
theorem own_grown {w w' : World} {b B : Nat} {v a0 a1 : Value} {n : Nat} {F : Nat → Int} (hb : Blk2 w b a0 a1) (ho : Own w B 35 2 n F v) (hB : b < B) (hg : w.grownBy w' v.ownBlock) : Blk2 w' b a0 a1 :=
  hb.kept (hg.block b hb.lt (fun e => by have := (own_in ho b e.symm).1; omega))
/-- What turned lies in the list's own blocks. -/
theorem grown_belowP {w w' : World} {B D : Nat} {v : Value} {n : Nat} {F : Nat → Int} (ho : Own w B 35 2 n F v) (hD : D ≤ B) (hDw : D ≤ w.heap.size) (hg : w.grownBy w' v.ownBlock) : Below D w w' :=
  ⟨hg.os, hg.tape, hg.output, hg.size, fun i hi => hg.block i (by omega) (fun e => by have := (own_in ho i e.symm).1; omega)⟩
/-- The list stands in its box: its own memory is behind the box. -/
def Ris (w : World) (b : Nat) (L : Prs) : Prop := ∃ v, Blk2 w b v (.func (.func 48) #[] #[]) ∧ Own w (b + 1) 35 2 L.length (rowL L) v
theorem Ris.later {w w' : World} {b : Nat} {L : Prs} (h : Ris w b L) (hb : Below w.heap.size w w') : Ris w' b L := by
  obtain ⟨v, h1, h2⟩ := h
  exact ⟨v, h1.later hb, h2.later hb⟩
theorem Ris.lt {w : World} {b : Nat} {L : Prs} (h : Ris w b L) : b < w.heap.size := by
  obtain ⟨v, h1, _⟩ := h
  exact h1.lt
theorem stored_is {w : World} {b : Nat} {v v' : Value} {L : Prs} (hb : Blk2 w b v (.func (.func 48) #[] #[])) (ho : Own w (b + 1) 35 2 L.length (rowL L) v') : Blk2 (w.setCell ⟨b, 0, none⟩ v') b v' (.func (.func 48) #[] #[]) ∧ Own (w.setCell ⟨b, 0, none⟩ v') (b + 1) 35 2 L.length (rowL L) v' :=
  ⟨Blk2.set0P hb _, own_kept ho (fun j hj => Below.heap_setCell w ⟨b, 0, none⟩ _ j (fun e => by have := (own_in ho j hj).1; simp at e; omega))⟩
/-- All blocks but two are as they were. -/
def KeptBut (b : Nat) (v : Value) (w w' : World) : Prop := w.heap.size ≤ w'.heap.size ∧ ∀ i, i < w.heap.size → i ≠ b → v.ownBlock ≠ some i → w'.heap[i]? = w.heap[i]?
theorem KeptBut.below {b : Nat} {v : Value} {w w' : World} (h : Below w.heap.size w w') : KeptBut b v w w' := ⟨h.size, fun i hi _ _ => h.block i hi⟩
theorem KeptBut.grown {b : Nat} {v : Value} {w w' : World} (h : w.grownBy w' v.ownBlock) : KeptBut b v w w' := ⟨h.size, fun i hi _ hv => h.block i hi (fun e => hv e.symm)⟩
theorem KeptBut.trans {b : Nat} {v : Value} {w w' w'' : World} (h : KeptBut b v w w') (_ : w.heap.size ≤ w'.heap.size) (h' : KeptBut b v w' w'') : KeptBut b v w w'' := ⟨Nat.le_trans h.1 h'.1, fun i hi h1 h2 => (h'.2 i (Nat.lt_of_lt_of_le hi h.1) h1 h2).trans (h.2 i hi h1 h2)⟩
theorem KeptBut.trans' {b : Nat} {v : Value} {w w' w'' : World} (h : KeptBut b v w w') (h' : KeptBut b v w' w'') : KeptBut b v w w'' := h.trans h.1 h'
theorem KeptBut.set {b k : Nat} {v u : Value} (w : World) : KeptBut b v w (w.setCell ⟨b, k, none⟩ u) := ⟨by simp, fun i _ h _ => Below.heap_setCell w ⟨b, k, none⟩ u i h⟩
set_option maxRecDepth 100000 in
set_option maxHeartbeats 2000000 in
theorem drop_any (L : Prs) (b : Nat) (v : Value) (k x : Int) (w : World) (hb : Blk2 w b v (.func (.func 48) #[] #[])) (ho : Own w (b + 1) 35 2 L.length (rowL L) v) (hr : Rises L) (hn : L.length ≤ 1000) :
    Calls Tryz.prog 91 #[.pointer (some ⟨b, 0, none⟩), .agg #[.int .i64 k, .int .i64 x]] w fun e w' => e = .returned (.tuple #[]) ∧ (∃ v', (Blk2 w' b v' (.func (.func 48) #[] #[]) ∧ Own w' (b + 1) 35 2 (gonePr L k).length (rowL (gonePr L k)) v') ∧ v'.ownBlock = v.ownBlock) ∧ Below b w w' ∧ KeptBut b v w w' := by
  obtain ⟨ao, cp, rfl⟩ := ho.form
  have HO : Hid (Own w (b + 1) 35 2 L.length (rowL L) (.slice ao L.length cp) ∧ Rises L ∧ Blk2 w b (.slice ao L.length cp) (.func (.func 48) #[] #[])) := ⟨ho, hr, hb⟩
  clear ho hr hb
  go_enter Tryz.func91, Tryz.ntmps91
  go_wp2_with fail
  refine (place_any L b (b + 1) _ k x _ (HO.out.2.2.alloc _) (HO.out.1.alloc _) HO.out.2.1 hn).mono ?_
  rintro e w1 ⟨r, rfl, hr, q1⟩
  have HR : Hid (r = true ↔ atKey L k) := hr
  have HB : Hid (Below w.heap.size w w1) := (below_alloc w _).trans (q1.mono (by simp))
  have hbw : Hid (b < w.heap.size) := HO.out.2.2.lt
  clear q1 hr
  by_cases hat : atKey L k
  · obtain rfl : r = true := HR.out.2 hat
    have HT : Hid (atKey L k) := hat
    have HE : Hid (gonePr L k = L.eraseIdx (aheadN L k)) := by
      unfold Hid
      rw [gone_is HO.out.2.1]; exact if_pos hat
    have O1 : Hid (Own w1 (b + 1) 35 2 L.length (rowL L) (.slice ao L.length cp) ∧ Blk2 w1 b (.slice ao L.length cp) (.func (.func 48) #[] #[])) := ⟨HO.out.1.later HB.out, HO.out.2.2.later HB.out⟩
    obtain ⟨⟨hb0, hb1⟩, _, _⟩ := O1.out.2
    have hlt := hat.1
    have ha : aheadN L k ≤ 1000 := Nat.le_trans (aheadN_le L k) hn
    obtain ⟨A, hA⟩ : ∃ A, aheadN L k = A := ⟨_, rfl⟩
    have HAA : Hid (aheadN L k = A) := hA
    rw [hA] at hlt ha
    rw [hA]
    clear hA HR hat
    go_wp2_with fail
    refine (delP_any _ (b + 1) L.length A (rowL L) _ O1.out.1 (by omega) hlt).mono ?_
    rintro e w2 ⟨v2, rfl, ho2, hg2, hob2⟩
    obtain ⟨e2, f2, rfl⟩ := ho2.form
    have HB2 : Hid (Blk2 w2 b (.slice ao L.length cp) (.func (.func 48) #[] #[])) := own_grown O1.out.2 O1.out.1 (by omega) hg2
    have HO2 : Hid (Own w2 (b + 1) 35 2 (gonePr L k).length (rowL (gonePr L k)) (.slice e2 (L.length - 1) f2)) := by
      unfold Hid
      rw [HE.out, HAA.out, List.length_eraseIdx_of_lt hlt]
      exact own_eqP ho2 (fun p _ => rowL_erase)
    have HD : Hid (Below b w w2) := (HB.out.mono (Nat.le_of_lt hbw.out)).trans (grown_belowP O1.out.1 (by omega) (by have := HB.out.size; have := hbw.out; omega) hg2)
    obtain ⟨⟨c0, c1⟩, c2, c3⟩ := HB2.out
    have HK : Hid (KeptBut b (.slice ao L.length cp) w w2) := (KeptBut.below HB.out).trans HB.out.size (KeptBut.grown hg2)
    have HOB : Hid ((Value.slice e2 (L.length - 1) f2).ownBlock = (Value.slice ao L.length cp).ownBlock) := hob2
    clear ho2 hg2 hob2
    go_wp2
    go_end0
    exact ⟨rfl, ⟨_, stored_is HB2.out HO2.out, HOB.out⟩, HD.out.setCell (Nat.le_refl _) _, HK.out.trans' (KeptBut.set _)⟩
  · obtain rfl : r = false := Bool.eq_false_iff.2 (fun q => hat (HR.out.1 q))
    have HE : Hid (gonePr L k = L) := by
      unfold Hid
      rw [gone_is HO.out.2.1]; exact if_neg hat
    clear hat HR
    go_wp2
    go_end0
    rw [HE.out]
    exact ⟨rfl, ⟨_, ⟨HO.out.2.2.later HB.out, HO.out.1.later HB.out⟩, rfl⟩, HB.out.mono (Nat.le_of_lt hbw.out), KeptBut.below HB.out⟩
end Go.Proofs.YtbpppaolcgibnaaGreatDoor

namespace Go.Proofs.YtbpppaolcgibnaaGreatDoor
open Go.RowKit

set_option maxRecDepth 100000 in
set_option maxHeartbeats 2000000 in
theorem put_any (L : Prs) (b : Nat) (k x : Int) (w : World) (h : Ris w b L) (hr : Rises L) (hn : L.length ≤ 900) :
    Calls Tryz.prog 75 #[.pointer (some ⟨b, 0, none⟩), .agg #[.int .i64 k, .int .i64 x]] w fun e w' => e = .returned (.tuple #[]) ∧ Ris w' b (putPr L k x) ∧ Below b w w' := by
  obtain ⟨v, hb, ho⟩ := h
  have HO : Hid (Blk2 w b v (.func (.func 48) #[] #[]) ∧ Own w (b + 1) 35 2 L.length (rowL L) v ∧ Rises L) := ⟨hb, ho, hr⟩
  have hbw : b < w.heap.size := hb.lt
  obtain ⟨G, hG⟩ : ∃ G, gonePr L k = G := ⟨_, rfl⟩
  have hGn : G.length ≤ 900 := by rw [← hG]; exact Nat.le_trans (List.length_filter_le _ _) hn
  have HGR : Hid (Rises G ∧ putPr L k x = G.insertIdx (aheadN G k) (k, x)) := by
    unfold Hid
    rw [← hG]
    exact ⟨gonePr_rises hr k, put_is hr k x⟩
  have HG : Hid (gonePr L k = G) := hG
  clear hb ho hr hG
  go_enter Tryz.func75, Tryz.ntmps75
  go_wp2_with fail
  refine (drop_any L b v k x _ (HO.out.1.alloc _) (HO.out.2.1.alloc _) HO.out.2.2 (by omega)).mono ?_
  rintro e w1 ⟨rfl, h1, q1, hk1⟩
  rw [HG.out] at h1
  obtain ⟨v1, ⟨hb1, ho1⟩, hv1⟩ := h1
  obtain ⟨ao, cp, rfl⟩ := ho1.form
  have HX1 : Blk2 w1 w.heap.size (.int .i64 k) (.int .i64 x) := (Blk2.new w _ _ 35).kept (hk1.2 _ (by simp) (by omega) (fun e => by have := (own_in HO.out.2.1 _ e).2; omega))
  have R1 : Hid (Blk2 w1 b (.slice ao G.length cp) (.func (.func 48) #[] #[]) ∧ Own w1 (b + 1) 35 2 G.length (rowL G) (.slice ao G.length cp) ∧ Blk2 w1 w.heap.size (.int .i64 k) (.int .i64 x) ∧ Below b w w1) := ⟨hb1, ho1, HX1, ((below_alloc w _).mono (Nat.le_of_lt hbw)).trans q1⟩
  obtain ⟨⟨c0, c1⟩, _, _⟩ := HX1
  have HVB : Hid (∀ q, (Value.slice ao G.length cp).ownBlock = some q → q < w.heap.size) := fun q hq => (own_in HO.out.2.1 q (hv1 ▸ hq)).2
  clear hv1 hb1 ho1 q1 hk1 HO
  go_wp2_with fail
  refine (place_any G b (b + 1) _ k x _ R1.out.1 R1.out.2.1 HGR.out.1 (by omega)).mono ?_
  rintro e w2 ⟨r, rfl, _, q2⟩
  have R2 : Hid (Blk2 w2 b (.slice ao G.length cp) (.func (.func 48) #[] #[]) ∧ Own w2 (b + 1) 35 2 G.length (rowL G) (.slice ao G.length cp) ∧ Blk2 w2 w.heap.size (.int .i64 k) (.int .i64 x) ∧ Below b w w2) := ⟨R1.out.1.later q2, R1.out.2.1.later q2, R1.out.2.2.1.later q2, R1.out.2.2.2.trans (q2.mono (by have := R1.out.2.2.2.size; omega))⟩
  have hle : aheadN G k ≤ G.length := aheadN_le G k
  obtain ⟨A, hA⟩ : ∃ A, aheadN G k = A := ⟨_, rfl⟩
  have HAA : Hid (putPr L k x = G.insertIdx A (k, x)) := by unfold Hid; rw [← hA]; exact HGR.out.2
  rw [hA] at hle
  rw [hA]
  clear hA q2 R1 c0 c1
  have hw2 : b < w2.heap.size := R2.out.1.lt
  have hc2 : w.heap.size < w2.heap.size := R2.out.2.2.1.lt
  have HI : Hid (Calls Tryz.prog 93 #[.slice ao G.length cp, .int .i64 A, .slice (some ⟨w2.heap.size, 0, none⟩) 1 1] (w2.drew.alloc (.cells #[.int .i64 k, .int .i64 x] 35)) (InsP (w2.drew.alloc (.cells #[.int .i64 k, .int .i64 x] 35)) (b + 1) G.length A (rowL G) [k, x] (.slice ao G.length cp))) :=
    insP_any _ (b + 1) G.length A w2.heap.size 1 (rowL G) [k, x] _ rfl (R2.out.2.1.later ((Below.drew (Below.refl _ _)).trans ((below_alloc _ _).mono (Nat.le_refl _)))) (by simp; omega) (by omega) hle (fun e => by have := (own_in R2.out.2.1 _ e).2; omega) (Blkk.made w2.drew _ _ _ rfl) (fun p hp => by
      rw [World.cell?_alloc_at (w := w2.drew) _ _ w2.heap.size p rfl]
      obtain rfl | rfl : p = 0 ∨ p = 1 := by omega
      all_goals rfl)
  have HYB : Hid (Below w2.heap.size w2 (w2.drew.alloc (.cells #[.int .i64 k, .int .i64 x] 35))) := (Below.drew (Below.refl _ _)).trans ((below_alloc _ _).mono (Nat.le_refl _))
  have SY : Hid (Blk2 (w2.drew.alloc (.cells #[.int .i64 k, .int .i64 x] 35)) b (.slice ao G.length cp) (.func (.func 48) #[] #[]) ∧ Blk2 (w2.drew.alloc (.cells #[.int .i64 k, .int .i64 x] 35)) w.heap.size (.int .i64 k) (.int .i64 x)) := ⟨R2.out.1.later HYB.out, R2.out.2.2.1.later HYB.out⟩
  have HOY : Hid (Own (w2.drew.alloc (.cells #[.int .i64 k, .int .i64 x] 35)) (b + 1) 35 2 G.length (rowL G) (.slice ao G.length cp) ∧ Below b w (w2.drew.alloc (.cells #[.int .i64 k, .int .i64 x] 35))) := ⟨R2.out.2.1.later HYB.out, R2.out.2.2.2.trans (HYB.out.mono (by omega))⟩
  obtain ⟨⟨p0, p1⟩, _, _⟩ := R2.out.1
  have hS0 : (fun X : World => Blk2 X w.heap.size (.int .i64 k) (.int .i64 x)) w2.drew := R2.out.2.2.1
  clear R2
  go_upto_region 3 with fail
  refine wp_region_held_drew (S := (fun X : World => Blk2 X w.heap.size (.int .i64 k) (.int .i64 x))) (by kernel_rfl) hS0 (fun hS => ?_)
  clear hS0
  refine tkH 0 ?_ hS (fun wx hx => ?_) ?_; rotate_left
  · obtain ⟨⟨hx2, hx3⟩, hx6, hx7⟩ := hx; go_simp; try with_reducible rfl
  refine tkH 1 ?_ hS (fun wx hx => ?_) ?_; rotate_left
  · obtain ⟨⟨hx2, hx3⟩, hx6, hx7⟩ := hx; go_simp; try with_reducible rfl
  refine tkH 2 ?_ hS (fun wx hx => ?_) ?_; rotate_left
  · obtain ⟨⟨hx2, hx3⟩, hx6, hx7⟩ := hx; go_simp; try with_reducible rfl
  refine tkH 3 ?_ hS (fun wx hx => ?_) ?_; rotate_left
  · obtain ⟨⟨hx2, hx3⟩, hx6, hx7⟩ := hx; go_simp; try with_reducible rfl
  refine tkH 5 ?_ hS (fun wx hx => ?_) ?_; rotate_left
  · obtain ⟨⟨hx2, hx3⟩, hx6, hx7⟩ := hx; go_simp; try with_reducible rfl
  refine tkH 6 ?_ hS (fun wx hx => ?_) ?_; rotate_left
  · obtain ⟨⟨hx2, hx3⟩, hx6, hx7⟩ := hx; go_simp; try with_reducible rfl
  refine wpAnyH_ready (rs := [4, 7]) (by kernel_rfl) (by simp) ?_
  refine AllReadyH.cons rfl (fun K hK => ?_) (AllReadyH.cons rfl (fun K hK => ?_) AllReadyH.nil)
  focus
    go_simp
    refine hK.out _ _ hS (fun hS => ?_)
    clear hK K p0 p1
    refine rdH 7 (fun K hK => ?_)
    go_simp
    refine hK.out _ _ SY.out.2 (fun hS => ?_)
    clear hK K
  rotate_left
  focus
    go_simp
    refine hK.out _ _ SY.out.2 (fun hS => ?_)
    clear hK K
    refine rdH 4 (fun K hK => ?_)
    go_simp
    refine hK.out _ _ hS (fun hS => ?_)
    clear hK K p0 p1
  rotate_left
  all_goals
    refine rdH 8 (fun K hK => ?_)
    go_simp
    go_wp2_with fail
    refine HI.out.mono ?_
    rintro e w3 ⟨a3, c3, rfl, ho3, hg3, _⟩
    have HB3 : Hid (Blk2 w3 b (.slice ao G.length cp) (.func (.func 48) #[] #[])) := own_grown SY.out.1 HOY.out.1 (by omega) hg3
    have hS3 : Blk2 w3 w.heap.size (.int .i64 k) (.int .i64 x) := SY.out.2.kept (hg3.block _ (by simp; omega) (fun e => by have := HVB.out _ e.symm; omega))
    have HO3 : Hid (Own w3 (b + 1) 35 2 (putPr L k x).length (rowL (putPr L k x)) (.slice a3 (G.length + 1) c3)) := by
      unfold Hid
      rw [HAA.out, List.length_insertIdx_of_le_length hle]
      exact own_eqP ho3 (fun p hp => rowL_insert hle hp)
    have HD3 : Hid (Below b w w3) := HOY.out.2.trans (grown_belowP HOY.out.1 (by omega) (by simp; omega) hg3)
    clear ho3 hg3
    go_wp2_with fail
    refine hK.out _ _ hS3 (fun hS => ?_)
    clear hK K hS3
    refine tkH 9 ?_ hS (fun wx hx => ?_) ?_; rotate_left
    · obtain ⟨⟨hx2, hx3⟩, hx6, hx7⟩ := hx; go_simp; try with_reducible rfl
    refine tkH 10 ?_ hS (fun wx hx => ?_) ?_; rotate_left
    · obtain ⟨⟨hx2, hx3⟩, hx6, hx7⟩ := hx; go_simp; try with_reducible rfl
    refine rdH 11 (fun K hK => ?_)
    obtain ⟨⟨x0, x1⟩, x2, x3⟩ := HB3.out
    go_simp
    refine hK.out _ _ (hS.kept (Below.heap_setCell _ ⟨b, 0, none⟩ _ _ (by simp; omega))) (fun hS => ?_)
    clear hK K x0 x1 x2 x3
    refine wpAnyH_done (by kernel_rfl) ?_ _
    go_simp
    go_end0
    exact ⟨rfl, ⟨_, stored_is HB3.out HO3.out⟩, HD3.out.setCell (Nat.le_refl _) _⟩
theorem take_put {L : Prs} (h : Rises L) {k : Nat} (hk : k < L.length) : putPr (L.take k) (L.getD k (0, 0)).1 (L.getD k (0, 0)).2 = L.take (k + 1) := by
  have hg : L.getD k (0, 0) = L[k] := by simp [List.getD, hk]
  rw [hg, putPr_end, List.take_succ_eq_append_getElem hk]
  intro a ha
  obtain ⟨i, hi, rfl⟩ := List.getElem_of_mem ha
  rw [List.getElem_take]
  have hi' : i < k := by
    rw [List.length_take] at hi; omega
  exact List.pairwise_iff_getElem.1 h i k (by omega) hk hi'
theorem rises_take {L : Prs} (h : Rises L) (k : Nat) : Rises (L.take k) := List.Pairwise.sublist (List.take_sublist k L) h
theorem Ris.new (w : World) : Ris (w.alloc (.cells #[.slice none 0 0, (.func (.func 48) #[] #[])] 130)) w.heap.size [] := ⟨_, Blk2.new w _ _ _, Own.nil _ _ _ _ _⟩
set_option maxRecDepth 100000 in
set_option maxHeartbeats 2000000 in
theorem filled_any (L : Prs) (v : Value) (B : Nat) (w : World) (h : Row w B 2 L.length (rowL L) v) (hr : Rises L) (hn : L.length ≤ 800) :
    Calls Tryz.prog 47 #[(.func (.func 48) #[] #[]), v] w fun e w' => ∃ b, e = .returned (.pointer (some ⟨b, 0, none⟩)) ∧ w.heap.size ≤ b ∧ Ris w' b L ∧ Below w.heap.size w w' := by
  obtain ⟨ao, cp, rfl⟩ := h.form
  have H : Hid (Row w B 2 L.length (rowL L) (.slice ao L.length cp) ∧ Rises L) := ⟨h, hr⟩
  clear h hr
  go_enter Tryz.func47, Tryz.ntmps47
  go_wp2
  go_loopw [13] (fun i wr => ∃ k : Nat, k ≤ L.length ∧ i = .int .i64 k ∧ Hid (Ris wr w.heap.size (L.take k) ∧ Below w.heap.size w wr)) (fun i _ => L.length - (intOf i).toNat)
  case atStart => exact ⟨0, Nat.zero_le _, rfl, Ris.new w, below_alloc _ _⟩
  case round =>
    obtain ⟨k, hk, rfl, HS⟩ := hrel
    by_cases hlt : k < L.length
    case neg =>
      obtain rfl : k = L.length := by omega
      have HE : Hid (Ris wr w.heap.size L ∧ Below w.heap.size w wr) := by
        have := HS.out
        rwa [List.take_length] at this
      clear HS
      go_wp2
      go_ret
      exact ⟨_, rfl, Nat.le_refl _, HE.out.1, HE.out.2⟩
    obtain ⟨g, o, hao, _, hg, y0, y1⟩ := (H.out.1.later HS.out.2).at2 hlt
    subst hao
    obtain ⟨n0, N0⟩ : ∃ x, rowL L (k * 2) = x := ⟨_, rfl⟩
    rw [N0] at y0
    obtain ⟨n1, N1⟩ : ∃ x, rowL L (k * 2 + 1) = x := ⟨_, rfl⟩
    rw [N1] at y1
    have HP : Hid (putPr (L.take k) n0 n1 = L.take (k + 1)) := by
      unfold Hid
      rw [← N0, ← N1, rowL_key, rowL_val]
      exact take_put H.out.2 hlt
    clear N0 N1
    have hz : Hid (w.heap.size < wr.heap.size) := HS.out.1.lt
    go_wp2_with fail
    refine (put_any (L.take k) w.heap.size n0 n1 _ (HS.out.1.later ?_) (rises_take H.out.2 k) (by rw [List.length_take]; omega)).mono ?_
    · exact below_alloc _ _
    rintro e w1 ⟨rfl, h1, q1⟩
    rw [HP.out] at h1
    have H1 : Hid (Ris w1 w.heap.size (L.take (k + 1)) ∧ Below w.heap.size w w1) := ⟨h1, HS.out.2.trans (((below_alloc wr _).mono (Nat.le_of_lt hz.out)).trans q1)⟩
    clear h1 q1 HS y0 y1
    go_wp2
    go_roundw
    case rel => exact ⟨k + 1, by omega, by go_num, H1⟩
    case measure => simp [intOf]; omega
/-- What an item makes of a list. -/
def stepA (L : Prs) (k kd v : Int) : Prs := if kd = 1 then putPr L k v else if kd = 2 then gonePr L k else L
/-- What the first m items make of it. -/
def applyN (L : Prs) (F : Nat → Int) : Nat → Prs
  | 0 => L
  | m + 1 => stepA (applyN L F m) (F (m * 3)) (F (m * 3 + 1)) (F (m * 3 + 2))
theorem putPr_len (L : Prs) (k v : Int) : (putPr L k v).length ≤ L.length + 1 := by
  induction L with
  | nil => simp [putPr]
  | cons e t ih =>
    rw [putPr]
    split
    · simp only [List.length_cons]
      have : (gonePr (e :: t) k).length ≤ (e :: t).length := List.length_filter_le _ _
      simp only [List.length_cons] at this
      omega
    · simp only [List.length_cons]; omega
theorem gonePr_len (L : Prs) (k : Int) : (gonePr L k).length ≤ L.length := List.length_filter_le _ _
theorem stepA_len (L : Prs) (k kd v : Int) : (stepA L k kd v).length ≤ L.length + 1 := by
  unfold stepA
  split
  · exact putPr_len L k v
  · split
    · exact Nat.le_trans (gonePr_len L k) (by omega)
    · omega
theorem stepA_rises {L : Prs} (h : Rises L) (k kd v : Int) : Rises (stepA L k kd v) := by
  unfold stepA
  split
  · exact putPr_rises h k v
  · split
    · exact gonePr_rises h k
    · exact h
theorem applyN_len (L : Prs) (F : Nat → Int) : ∀ m, (applyN L F m).length ≤ L.length + m
  | 0 => Nat.le_refl _
  | m + 1 => by
    have h1 := applyN_len L F m
    have h2 := stepA_len (applyN L F m) (F (m * 3)) (F (m * 3 + 1)) (F (m * 3 + 2))
    show (stepA _ _ _ _).length ≤ _
    omega
end Go.Proofs.YtbpppaolcgibnaaGreatDoor

namespace Go.Proofs.YtbpppaolcgibnaaGreatDoor
open Go.RowKit

theorem pairsF_all {F : Nat → Int} : ∀ {m k : Nat}, pairsF F m k = 0 → ∀ j, j < m → pairF F (k + j) = 0
  | 0, _, _, j, hj => absurd hj (Nat.not_lt_zero j)
  | m + 1, k, h, j, hj => by
    rw [pairsF] at h
    by_cases h0 : pairF F k = 0
    · rw [if_neg (fun q => q h0)] at h
      cases j with
      | zero => exact h0
      | succ j =>
        have := pairsF_all h j (by omega)
        rwa [show k + 1 + j = k + (j + 1) by omega] at this
    · rw [if_pos h0] at h
      exact absurd h h0
theorem faultOf_in {k : Int} (h : faultOf k = 0) : 0 ≤ k ∧ k ≤ 199 := by
  rcases Classical.em (k < 0 ∨ 199 < k) with q | q
  · rw [faultOf_range q] at h; omega
  · omega
theorem pairF_zero {F : Nat → Int} {k : Nat} (h : pairF F k = 0) : faultOf (F (k * 2)) = 0 ∧ (0 ≤ F (k * 2 + 1) ∧ F (k * 2 + 1) ≤ 9999) ∧ (0 < k → F ((k - 1) * 2) < F (k * 2)) := by
  unfold pairF at h
  by_cases h1 : faultOf (F (k * 2)) = 0
  · rw [if_neg (fun q => q h1)] at h
    by_cases h2 : 0 ≤ F (k * 2 + 1) ∧ F (k * 2 + 1) ≤ 9999
    · rw [if_neg (fun q => q h2)] at h
      by_cases h3 : 0 < k ∧ F (k * 2) ≤ F ((k - 1) * 2)
      · rw [if_pos h3] at h; omega
      · exact ⟨h1, h2, fun q => by omega⟩
    · rw [if_pos h2] at h; omega
  · rw [if_pos h1] at h; exact absurd h h1
/-- A list without a fault: its keys rise, and it is short. -/
theorem pairs_rise {F : Nat → Int} {n : Nat} (h : pairsF F n 0 = 0) : Rises (listOf F n) ∧ n ≤ 200 := by
  have hall : ∀ j, j < n → pairF F j = 0 := fun j hj => by have := pairsF_all h j hj; rwa [Nat.zero_add] at this
  have hup : ∀ d i, i + d < n → F (i * 2) + d ≤ F ((i + d) * 2) := fun d => by
    induction d with
    | zero => intro i _; simp
    | succ d ih =>
      intro i hi
      have h1 := ih i (by omega)
      have h2 := (pairF_zero (hall (i + (d + 1)) hi)).2.2 (by omega)
      rw [show i + (d + 1) - 1 = i + d by omega] at h2
      omega
  constructor
  · refine List.pairwise_iff_getElem.2 fun i j hi hj hij => ?_
    rw [listOf_length] at hi hj
    simp only [listOf, List.getElem_map, List.getElem_range]
    have := hup (j - i) i (by omega)
    rw [show i + (j - i) = j by omega] at this
    omega
  · rcases Nat.lt_or_ge 200 n with q | q
    · have h1 := hup 200 0 (by omega)
      have h2 := faultOf_in (pairF_zero (hall (0 + 200) (by omega))).1
      have h3 := faultOf_in (pairF_zero (hall 0 (by omega))).1
      simp only [Nat.zero_add, Nat.zero_mul] at h1 h2 h3
      omega
    · exact q
/-- Whether a key has a pair, and its value. -/
def lookF (L : Prs) (k : Int) : Bool × Int := match L.find? (fun e => e.1 == k) with
  | some e => (true, e.2)
  | none => (false, 0)
theorem lookF_at {L : Prs} {k : Int} {i : Nat} (hi : i < L.length) (h : ∀ j, j < i → (L.getD j (0, 0)).1 ≠ k) (h1 : (L.getD i (0, 0)).1 = k) : lookF L k = (true, (L.getD i (0, 0)).2) := by
  unfold lookF
  have hf : L.find? (fun e => e.1 == k) = some (L.getD i (0, 0)) := by
    induction L generalizing i with
    | nil => simp at hi
    | cons e t ih =>
      cases i with
      | zero =>
        have : e.1 = k := by simpa using h1
        simp [this]
      | succ i =>
        have h0 := h 0 (by omega)
        have : ¬ e.1 = k := by simpa using h0
        rw [List.find?_cons_of_neg (by simpa using this), List.getD_cons_succ]
        exact ih (by simpa using hi) (fun j hj => by have := h (j + 1) (by omega); simpa using this) (by simpa using h1)
  rw [hf]
theorem lookF_no {L : Prs} {k : Int} (h : ∀ j, j < L.length → (L.getD j (0, 0)).1 ≠ k) : lookF L k = (false, 0) := by
  unfold lookF
  have hf : L.find? (fun e => e.1 == k) = none := by
    refine List.find?_eq_none.2 fun e he => ?_
    obtain ⟨i, hi, rfl⟩ := List.getElem_of_mem he
    have := h i hi
    simp only [List.getD_eq_getElem?_getD, List.getElem?_eq_getElem hi, Option.getD_some] at this
    simpa using this
  rw [hf]
theorem look_at {L : Prs} {k : Int} (h : atKey L k) : lookF L k = (true, (L.getD (aheadN L k) (0, 0)).2) := lookF_at h.1 (fun j hj => by have := aheadN_lt hj; omega) h.2
theorem look_no {L : Prs} (hr : Rises L) {k : Int} (h : ¬ atKey L k) : lookF L k = (false, 0) := by
  refine lookF_no fun j hj => ?_
  rcases Nat.lt_or_ge j (aheadN L k) with q | q
  · have := aheadN_lt q; omega
  · have h1 := aheadN_not (L := L) (k := k) (by omega)
    have h2 : (L.getD (aheadN L k) (0, 0)).1 ≠ k := fun e => h ⟨by omega, e⟩
    rcases Nat.eq_or_lt_of_le q with e | q
    · rw [← e]; exact h2
    · have := List.pairwise_iff_getElem.1 hr (aheadN L k) j (by omega) hj q
      simp only [List.getD_eq_getElem?_getD, List.getElem?_eq_getElem hj, List.getElem?_eq_getElem (show aheadN L k < L.length by omega), Option.getD_some] at h1 h2 ⊢
      omega
set_option maxRecDepth 100000 in
set_option maxHeartbeats 2000000 in
theorem l11Value_any (L : Prs) (v : Value) (B : Nat) (key : Int) (w : World) (h : Row w B 2 L.length (rowL L) v) (hn : L.length ≤ 1048576) :
    Calls Tryz.prog 35 #[v, .int .i64 key] w fun e w' => e = .returned (.tuple #[.int .i64 (lookF L key).2, .bool (lookF L key).1]) ∧ w' = w := by
  obtain ⟨ao, cp, rfl⟩ := h.form
  have H : Hid (Row w B 2 L.length (rowL L) (.slice ao L.length cp)) := h
  clear h
  obtain ⟨r, hr⟩ : ∃ r, lookF L key = r := ⟨_, rfl⟩
  have HR : Hid (lookF L key = r) := hr
  rw [hr]
  clear hr
  obtain ⟨r1, r2⟩ := r
  go_enter Tryz.func35, Tryz.ntmps35
  go_wp2
  go_loopw [6] (fun i wr => ∃ k : Nat, k ≤ L.length ∧ i = .int .i64 k ∧ Hid (∀ j, j < k → (L.getD j (0, 0)).1 ≠ key) ∧ wr = w) (fun i _ => L.length - (intOf i).toNat)
  case atStart => exact ⟨0, Nat.zero_le _, rfl, fun j hj => absurd hj (Nat.not_lt_zero j), rfl⟩
  case round =>
    obtain ⟨k, hk, rfl, HS, rfl⟩ := hrel
    by_cases hlt : k < L.length
    case neg =>
      have HE : Hid (r1 = false ∧ r2 = 0) := by
        have := HR.out.symm.trans (lookF_no fun j hj => HS.out j (by omega))
        exact (by simpa using this : r1 = false ∧ r2 = 0)
      clear HS HR
      go_wp2
      go_ret2
      rw [HE.out.1, HE.out.2]
      exact ⟨rfl, rfl⟩
    obtain ⟨g, o, hao, _, hg, y0, y1⟩ := H.out.at2 hlt
    subst hao
    rw [rowL_key] at y0
    rw [rowL_val] at y1
    obtain ⟨n0, N0⟩ : ∃ x, (L.getD k (0, 0)).1 = x := ⟨_, rfl⟩
    rw [N0] at y0
    obtain ⟨n1, N1⟩ : ∃ x, (L.getD k (0, 0)).2 = x := ⟨_, rfl⟩
    rw [N1] at y1
    have NN : Hid ((L.getD k (0, 0)).1 = n0 ∧ (L.getD k (0, 0)).2 = n1) := ⟨N0, N1⟩
    clear N0 N1
    by_cases he : n0 = key
    · have HE : Hid (r1 = true ∧ r2 = n1) := by
        have := HR.out.symm.trans (lookF_at hlt HS.out (NN.out.1.trans he))
        rw [NN.out.2] at this
        exact (by simpa using this : r1 = true ∧ r2 = n1)
      subst he
      clear HS HR NN
      go_wp2
      go_ret2
      rw [HE.out.1, HE.out.2]
      exact ⟨rfl, rfl⟩
    · have HS1 : Hid (∀ j, j < k + 1 → (L.getD j (0, 0)).1 ≠ key) := fun j hj => by
        rcases Nat.eq_or_lt_of_le (Nat.lt_succ_iff.1 hj) with rfl | q
        · rw [NN.out.1]; exact he
        · exact HS.out j q
      have d : (n0 == key) = false := beq_eq_false_iff_ne.2 he
      clear he HS HR NN
      go_wp2
      go_roundw
      case rel => exact ⟨k + 1, by omega, by go_num, HS1, trivial⟩
      case measure => simp [intOf]; omega
theorem row_list {w : World} {B n : Nat} {F : Nat → Int} {v : Value} (h : Row w B 2 n F v) : Row w B 2 (listOf F n).length (rowL (listOf F n)) v := by
  rw [listOf_length]
  exact row_eqP h fun p hp => (rowL_listOf hp).symm
end Go.Proofs.YtbpppaolcgibnaaGreatDoor

namespace Go.Proofs.YtbpppaolcgibnaaGreatDoor
open Go.RowKit Go.Maps

theorem intKeyed : Keyed Tryz.prog 2 := int_keyed Tryz.underlying2
def sightD (s : Bool × Int) : DataW Unit := .agg [.lit (.bool s.1), .lit (.int .i64 s.2)]
def sightR (v : Value) : Option (DataW Unit × List MemPlace) :=
  match v with
  | .agg cs => match cs.toList with
    | [.bool h, .int .i64 x] => some (sightD (h, x), [])
    | _ => none
  | _ => none
theorem sightR_mk (s : Bool × Int) : sightR (.agg #[.bool s.1, .int .i64 s.2]) = some (sightD s, []) := rfl
theorem sightR_inv {v : Value} {s : Bool × Int} {ps : List MemPlace} (h : sightR v = some (sightD s, ps)) : v = .agg #[.bool s.1, .int .i64 s.2] := by
  unfold sightR at h
  split at h
  · rename_i cs
    split at h
    · rename_i hh xx e
      simp only [sightD, Option.some.injEq, Prod.mk.injEq, DataW.agg.injEq, List.cons.injEq, DataW.lit.injEq, Lit.bool.injEq, Lit.int.injEq, true_and, and_true] at h
      obtain ⟨⟨rfl, rfl⟩, _⟩ := h
      have : cs = #[.bool s.1, .int .i64 s.2] := by rw [← Array.toList_inj]; exact e
      rw [this]
    · cases h
  · cases h
/-- Block b is a map of at most n entries: at key k it has m k. -/
def SM (w : World) (b n : Nat) (m : Int → Option (Bool × Int)) : Prop :=
  ∃ D : DataW Unit, w.ownsMap Tryz.prog 2 sightR b n D ∧ ∀ x, (Lit.int .i64 x).wf = true → Maps.has D (.int .i64 x) = (m x).isSome ∧ D.atKey (.int .i64 x) (sightD (false, 0)) = sightD ((m x).getD (false, 0))
theorem SM.made (w : World) : SM (w.alloc (.map #[] 0)) w.heap.size 0 (fun _ => none) := ⟨.map [], World.ownsMap_made w _ _ _, fun _ _ => ⟨rfl, rfl⟩⟩
theorem SM.lt {w : World} {b n : Nat} {m : Int → Option (Bool × Int)} (h : SM w b n m) : b < w.heap.size := by
  obtain ⟨D, h, _⟩ := h; exact h.lt
theorem SM.kept {w w' : World} {b n : Nat} {m : Int → Option (Bool × Int)} (h : SM w b n m) (hb : w'.heap[b]? = w.heap[b]?) : SM w' b n m := by
  obtain ⟨D, ⟨es, clock, h1, h2⟩, r⟩ := h
  exact ⟨D, ⟨es, clock, hb.trans h1, h2⟩, r⟩
theorem SM.later {w w' : World} {b n : Nat} {m : Int → Option (Bool × Int)} (h : SM w b n m) (hb : Below w.heap.size w w') : SM w' b n m := h.kept (hb.block b h.lt)
theorem zero_sight (w : World) : (zeroValue 103).run Tryz.prog w = .ok (.agg #[.bool false, .int .i64 0]) w := by kernel_rfl
/-- 'v, ok := m[k]', 'm[k]'. -/
theorem SM.look {w : World} {b n : Nat} {m : Int → Option (Bool × Int)} (h : SM w b n m) {x : Int} (hx : (Lit.int .i64 x).wf = true) :
    (Instr.lookup 92 (.map (some b)) (.int .i64 x) true).run Tryz.prog w = .ok (.tuple #[.agg #[.bool ((m x).getD (false, 0)).1, .int .i64 ((m x).getD (false, 0)).2], .bool (m x).isSome]) w := by
  obtain ⟨D, h, r⟩ := h
  obtain ⟨v, ps, hrun, hv⟩ := h.look_ok intKeyed Tryz.underlying92 (zero_sight w) (sightR_mk (false, 0)) (keyOf_int_mk Tryz.underlying2 hx)
  rw [(r x hx).2] at hv
  rw [hrun, (r x hx).1, sightR_inv hv]
theorem SM.look1 {w : World} {b n : Nat} {m : Int → Option (Bool × Int)} (h : SM w b n m) {x : Int} (hx : (Lit.int .i64 x).wf = true) :
    (Instr.lookup 92 (.map (some b)) (.int .i64 x) false).run Tryz.prog w = .ok (.agg #[.bool ((m x).getD (false, 0)).1, .int .i64 ((m x).getD (false, 0)).2]) w := by
  obtain ⟨D, h, r⟩ := h
  obtain ⟨v, ps, hrun, hv⟩ := h.lookup intKeyed Tryz.underlying92 (zero_sight w) (sightR_mk (false, 0)) (keyOf_int_mk Tryz.underlying2 hx)
  rw [(r x hx).2] at hv
  rw [hrun, sightR_inv hv]
theorem keyLit (x : Int) : WideAt.IsKeyLit (.int .i64 x) := trivial
def putS1 (m : Int → Option (Bool × Int)) (a : Int) (v : Bool × Int) (x : Int) : Option (Bool × Int) := if x = a then some v else m x
/-- 'm[k] = v'. -/
theorem SM.put {w : World} {b n : Nat} {m : Int → Option (Bool × Int)} (h : SM w b n m) (hn : n < maxLen) {x : Int} (hx : (Lit.int .i64 x).wf = true) (s : Bool × Int) :
    ∃ w', (Instr.mapUpdate 92 (.map (some b)) (.int .i64 x) (.agg #[.bool s.1, .int .i64 s.2])).run Tryz.prog w = .ok () w' ∧ SM w' b (n + 1) (putS1 m x s) ∧ w.grownBy w' (some b) := by
  obtain ⟨D, h, r⟩ := h
  obtain ⟨w', hrun, h', hg⟩ := h.update intKeyed Tryz.underlying92 hn (keyOf_int_mk Tryz.underlying2 hx) (sightR_mk s)
  refine ⟨w', hrun, ⟨_, h', fun p hp => ?_⟩, hg⟩
  unfold putS1
  by_cases e : p = x
  · subst e
    rw [if_pos rfl]
    exact ⟨has_put_same h.isMap (keyLit _) _, atKey_put_same h.isMap (keyLit _) _ _⟩
  · rw [if_neg e, has_put_other (fun q => e (by simpa using q)), atKey_put_other (fun q => e (by simpa using q))]
    exact r p hp
theorem wf_key {a : Int} (h0 : 0 ≤ a) (h1 : a ≤ 100000) : (Lit.int .i64 a).wf = true := by
  have e0 : IntKind.i64.min = -9223372036854775808 := by decide
  have e1 : IntKind.i64.max = 9223372036854775807 := by decide
  simp [Lit.wf, e0, e1]
  omega
end Go.Proofs.YtbpppaolcgibnaaGreatDoor

namespace Go.Proofs.YtbpppaolcgibnaaGreatDoor
open Go.RowKit Go.Maps

/-- What was read: each key once, in order. -/
def addR (xs : List Int) (k : Int) : List Int := if k ∈ xs then xs else xs ++ [k]
/-- What stands by its key. -/
def seenM (L : Prs) (xs : List Int) (k : Int) : Option (Bool × Int) := if k ∈ xs then some (lookF L k) else none
theorem SM.congr {w : World} {b n : Nat} {m m' : Int → Option (Bool × Int)} (h : SM w b n m) (e : ∀ x, m x = m' x) : SM w b n m' := by
  obtain ⟨D, h1, r⟩ := h; exact ⟨D, h1, fun x hx => by rw [← e]; exact r x hx⟩
/-- The view that is looked at: its box rb, its pairs in blocks below mb. -/
def Viewed (w : World) (rb mb : Nat) (L : Prs) : Prop := ∃ v, Blk2 w rb v (.func (.func 48) #[] #[]) ∧ Own w (rb + 1) 35 2 L.length (rowL L) v ∧ ∀ k, v.ownBlock = some k → k < mb
/-- The box b of a looking: the view's box rb, the map mb, what was read. -/
def Looks (w : World) (b rb mb : Nat) (L : Prs) (xs : List Int) (vr : Value) : Prop :=
  Blk3 w b (.pointer (some ⟨rb, 0, none⟩)) (.map (some mb)) vr ∧ Viewed w rb mb L ∧ SM w mb xs.length (seenM L xs) ∧ Ints w (b + 1) vr xs ∧ rb < mb ∧ mb < b
theorem Viewed.kept {w w' : World} {rb mb : Nat} {L : Prs} (h : Viewed w rb mb L) (hb : ∀ k, k < w.heap.size → k < mb → w'.heap[k]? = w.heap[k]?) (hr : rb < mb) : Viewed w' rb mb L := by
  obtain ⟨v, h1, h2, h3⟩ := h
  exact ⟨v, h1.kept (hb rb h1.lt hr), own_kept h2 (fun k hk => hb k (own_in h2 k hk).2 (h3 k hk)), h3⟩
/-- Blocks that a looking does not write into are as they were; what it has read lies where it lay, or in new memory. -/
def Keeps (w w' : World) (b mb : Nat) (vr vr' : Value) : Prop :=
  (w'.os = w.os ∧ w'.tape = w.tape ∧ w'.output = w.output) ∧ w.heap.size ≤ w'.heap.size ∧ (∀ k, k < w.heap.size → k ≠ b → k ≠ mb → vr.ownBlock ≠ some k → w'.heap[k]? = w.heap[k]?) ∧ ∀ k, vr'.ownBlock = some k → k < w.heap.size → vr.ownBlock = some k
theorem Keeps.below {w w' : World} (b mb : Nat) (vr : Value) (h : Below w.heap.size w w') : Keeps w w' b mb vr vr := ⟨⟨h.os, h.tape, h.output⟩, h.size, fun k hk _ _ _ => h.block k hk, fun _ hk _ => hk⟩
theorem Keeps.trans {w w' w'' : World} {b mb : Nat} {vr vr' vr'' : Value} (h : Keeps w w' b mb vr vr') (h' : Keeps w' w'' b mb vr' vr'') : Keeps w w'' b mb vr vr'' :=
  ⟨⟨h'.1.1.trans h.1.1, h'.1.2.1.trans h.1.2.1, h'.1.2.2.trans h.1.2.2⟩, Nat.le_trans h.2.1 h'.2.1, fun k hk h1 h2 h3 => (h'.2.2.1 k (Nat.lt_of_lt_of_le hk h.2.1) h1 h2 (fun e => h3 (h.2.2.2 k e hk))).trans (h.2.2.1 k hk h1 h2 h3), fun k hk hw => h.2.2.2 k (h'.2.2.2 k hk (Nat.lt_of_lt_of_le hw h.2.1)) hw⟩
theorem Looks.later {w w' : World} {b rb mb : Nat} {L : Prs} {xs : List Int} {vr : Value} (h : Looks w b rb mb L xs vr) (hb : Below w.heap.size w w') : Looks w' b rb mb L xs vr :=
  ⟨h.1.later hb, h.2.1.kept (fun k hk _ => hb.block k hk) h.2.2.2.2.1, h.2.2.1.later hb, h.2.2.2.1.later hb, h.2.2.2.2⟩
theorem Looks.alloc {w : World} {b rb mb : Nat} {L : Prs} {xs : List Int} {vr : Value} (h : Looks w b rb mb L xs vr) (o : Obj) : Looks (w.alloc o) b rb mb L xs vr := h.later (below_alloc _ _)
/-- A block of the caller's own. -/
def Off (w : World) (b mb : Nat) (vr : Value) (k : Nat) : Prop := k < w.heap.size ∧ k ≠ b ∧ k ≠ mb ∧ vr.ownBlock ≠ some k
theorem Keeps.off {w w' : World} {b mb : Nat} {vr vr' : Value} {k : Nat} (h : Keeps w w' b mb vr vr') (ho : Off w b mb vr k) : Off w' b mb vr' k ∧ w'.heap[k]? = w.heap[k]? :=
  ⟨⟨Nat.lt_of_lt_of_le ho.1 h.2.1, ho.2.1, ho.2.2.1, fun e => ho.2.2.2 (h.2.2.2 k e ho.1)⟩, h.2.2.1 k ho.1 ho.2.1 ho.2.2.1 ho.2.2.2⟩
theorem Looks.off {w : World} {b rb mb : Nat} {L : Prs} {xs : List Int} {vr : Value} (h : Looks w b rb mb L xs vr) (o : Obj) : Off (w.alloc o) b mb vr w.heap.size := by
  have h1 := h.1.lt
  have h2 := h.2.2.1.lt
  exact ⟨by simp, by omega, by omega, fun e => by have := (h.2.2.2.1.lt _ e).2; omega⟩
theorem Keeps.toBelow {w w' : World} {b mb B : Nat} {vr vr' : Value} (h : Keeps w w' b mb vr vr') (hB : B ≤ w.heap.size) (h1 : B ≤ b) (h2 : B ≤ mb) (h3 : ∀ k, vr.ownBlock = some k → B ≤ k) : Below B w w' :=
  ⟨h.1.1, h.1.2.1, h.1.2.2, h.2.1, fun k hk => h.2.2.1 k (by omega) (by omega) (by omega) (fun e => by have := h3 k e; omega)⟩
theorem Blk3.set2L {x : World} {b : Nat} {a0 a1 a2 : Value} (h : Blk3 x b a0 a1 a2) (u : Value) : Blk3 (x.setCell ⟨b, 2, none⟩ u) b a0 a1 u := by
  obtain ⟨⟨h0, h1, h2⟩, f0, f1, f2⟩ := h
  exact ⟨⟨(World.cell?_setCell_other _ _ _ _ (by simp)).trans h0, (World.cell?_setCell_other _ _ _ _ (by simp)).trans h1, World.cell?_setCell_same _ _ _ h2⟩, by simpa using f0, by simpa using f1, by simpa using f2⟩
theorem find_look {L : Prs} {key y z : Int} {r : Bool} (hr : Rises L) (h1 : r = true ↔ atKey L key) (h2 : r = true → (y, z) = L.getD (aheadN L key) (0, 0)) (h3 : r = false → y = 0 ∧ z = 0) : lookF L key = (r, z) := by
  cases r with
  | true => rw [look_at (h1.1 rfl), ← h2 rfl]
  | false => rw [look_no hr (fun q => Bool.false_ne_true (h1.2 q)), (h3 rfl).2]
def LookAns (w : World) (b rb mb : Nat) (L : Prs) (xs : List Int) (vr : Value) (key : Int) (e : Ending) (w' : World) : Prop :=
  e = .returned (.agg #[.bool (lookF L key).1, .int .i64 (lookF L key).2]) ∧ ∃ vr', Looks w' b rb mb L (addR xs key) vr' ∧ Keeps w w' b mb vr vr'
set_option maxRecDepth 100000 in
set_option maxHeartbeats 4000000 in
theorem look_old (L : Prs) (b rb mb : Nat) (xs : List Int) (vr : Value) (key : Int) (w : World) (h : Looks w b rb mb L xs vr) (hk : 0 ≤ key ∧ key ≤ 199) (hin : key ∈ xs) :
    Calls Tryz.prog 51 #[.pointer (some ⟨b, 0, none⟩), .int .i64 key] w (LookAns w b rb mb L xs vr key) := by
  have HL : Hid (Looks w b rb mb L xs vr ∧ key ∈ xs) := ⟨h, hin⟩
  obtain ⟨s, hs⟩ : ∃ s, lookF L key = s := ⟨_, rfl⟩
  obtain ⟨r, z⟩ := s
  have HS : Hid (lookF L key = (r, z)) := hs
  have hm : seenM L xs key = some (r, z) := by unfold seenM; rw [if_pos hin, hs]
  have hlook := (h.2.2.1.later (below_alloc w (.cells #[.bool false, .int .i64 0] 103))).look (wf_key hk.1 (by omega))
  rw [hm] at hlook
  have hlook' : (Instr.lookup 92 (.map (some mb)) (.int .i64 key) true).run Tryz.prog (w.alloc (.cells #[.bool false, .int .i64 0] 103)) = .ok (.tuple #[.agg #[.bool r, .int .i64 z], .bool true]) (w.alloc (.cells #[.bool false, .int .i64 0] 103)) := hlook
  obtain ⟨⟨c0, c1, c2⟩, _⟩ := h.1
  have hlt := h.1.lt
  clear hlook hs hm h hin
  go_enter Tryz.func51, Tryz.ntmps51
  go_wp2
  refine bodyPost_ret (v := .agg #[.bool r, .int .i64 z]) (by simp [results, Tryz.results51, go_sem]) rfl ?_
  have hB : Below w.heap.size w ((w.alloc (.cells #[.bool r, .int .i64 z] 103)).alloc (.cells #[.bool r, .int .i64 z] 103)) := (below_alloc _ _).alloc (by simp) _
  unfold LookAns
  rw [HS.out]
  refine ⟨rfl, vr, ?_, Keeps.below _ _ _ hB⟩
  rw [show addR xs key = xs from if_pos HL.out.2]
  exact HL.out.1.later hB
theorem info_i64L : (Tryz.prog.info? 2).map (fun i => (i.zero, i.size, i.bytes)) = some (some (.int .i64 0), 1, 8) := by kernel_rfl
theorem run_lit1L (x : Int) (w : World) : (Instr.buildSlice 93 1 #[(0, .int .i64 x)]).run Tryz.prog w = .ok (.slice (some ⟨w.heap.size, 0, none⟩) 1 1) (w.alloc (.cells #[.int .i64 x] 2)) := by
  first | kernel_rfl | rfl
theorem row_lit1 (Y : World) (x : Int) : Row (Y.alloc (.cells #[.int .i64 x] 2)) Y.heap.size 1 1 (fun p => [x].getD p 0) (.slice (some ⟨Y.heap.size, 0, none⟩) 1 1) :=
  (OwnM.rowL (OwnM.lit Y 2 1 1 [x] #[.int .i64 x] (by simp) rfl (by unfold maxLen; omega))).1
theorem seen_put {L : Prs} {xs : List Int} {key : Int} {s : Bool × Int} (hs : lookF L key = s) (x : Int) : putS1 (seenM L xs) key s x = seenM L (xs ++ [key]) x := by
  unfold putS1 seenM
  by_cases e : x = key
  · subst e
    rw [if_pos rfl, if_pos (by simp), hs]
  · rw [if_neg e]
    by_cases h : x ∈ xs
    · rw [if_pos h, if_pos (by simp [h])]
    · rw [if_neg h, if_neg (by simp [h, e])]
/-- Behind the append: the box still has the old list; its new one is u. -/
def LookApp (w w6 : World) (b rb mb : Nat) (L : Prs) (ys : List Int) (v u : Value) : Prop :=
  (Blk3 w6 b (.pointer (some ⟨rb, 0, none⟩)) (.map (some mb)) v ∧ Viewed w6 rb mb L ∧ SM w6 mb ys.length (seenM L ys) ∧ Blk2 w6 w.heap.size (.bool false) (.int .i64 0)) ∧ (Ints w6 (b + 1) u ys ∧ ∀ k, u.ownBlock = some k → k ≠ w.heap.size) ∧ (b < w.heap.size ∧ mb < b ∧ rb < mb) ∧ Keeps w w6 b mb v u
theorem look_app {w w5 w6 : World} {b rb mb : Nat} {L : Prs} {xs : List Int} {key : Int} {ao ao1 : Option Addr} {cp cp1 : Nat}
    (h1 : Blk3 w5 b (.pointer (some ⟨rb, 0, none⟩)) (.map (some mb)) (.slice ao xs.length cp)) (h2 : Viewed w5 rb mb L) (h3 : SM w5 mb (xs.length + 1) (seenM L (xs ++ [key]))) (h4 : Blk2 w5 w.heap.size (.bool false) (.int .i64 0))
    (ho : ∀ k, (Value.slice ao xs.length cp).ownBlock = some k → k ≠ b ∧ k ≠ mb ∧ k ≠ w.heap.size ∧ k < w5.heap.size) (hvb : ∀ k, (Value.slice ao xs.length cp).ownBlock = some k → b + 1 ≤ k)
    (O6 : OwnM w6 (b + 1) 2 1 (.slice ao1 (xs.length + 1) cp1) (xs.length + 1) (xs ++ nums (fun p => [key].getD p 0) (1 * 1)))
    (G6 : (w5.alloc (.cells #[.int .i64 key] 2)).grownBy w6 (Value.slice ao xs.length cp).ownBlock)
    (N6 : (Value.slice ao1 (xs.length + 1) cp1).ownBlock = (Value.slice ao xs.length cp).ownBlock ∨ (Value.slice ao1 (xs.length + 1) cp1).ownBlock = some (w5.alloc (.cells #[.int .i64 key] 2)).heap.size)
    (hb : b < w.heap.size) (hm : mb < b) (hr : rb < mb) (hK : Keeps w w5 b mb (.slice ao xs.length cp) (.slice ao xs.length cp)) :
    LookApp w w6 b rb mb L (xs ++ [key]) (.slice ao xs.length cp) (.slice ao1 (xs.length + 1) cp1) := by
  have kp : ∀ k, k < w5.heap.size → (Value.slice ao xs.length cp).ownBlock ≠ some k → w6.heap[k]? = w5.heap[k]? := fun k hk hne => (G6.block k (by simp; omega) (fun e => hne e.symm)).trans (Below.heap_alloc w5 _ k hk)
  have hsz : w5.heap.size ≤ w6.heap.size := Nat.le_trans (by simp) G6.size
  refine ⟨⟨h1.kept (kp b h1.lt (fun e => (ho b e).1 rfl)), h2.kept (fun k hk hkm => kp k hk (fun e => by have := hvb k e; omega)) hr, ?_, h4.kept (kp _ h4.lt (fun e => (ho _ e).2.2.1 rfl))⟩, ⟨?_, ?_⟩, ⟨hb, hm, hr⟩, hK.trans ⟨⟨G6.os, G6.tape, G6.output⟩, hsz, fun k hk _ _ hne => kp k hk hne, fun k hk hlt => ?_⟩⟩
  · rw [List.length_append]
    exact h3.kept (kp mb h3.lt (fun e => (ho mb e).2.1 rfl))
  · have e : nums (fun p => [key].getD p 0) (1 * 1) = [key] := rfl
    rw [e] at O6
    unfold Ints
    rw [List.length_append]
    exact O6
  · intro k hk
    rcases N6 with q | q
    · exact (ho k (by rw [← q]; exact hk)).2.2.1
    · rw [q] at hk
      have := Option.some.inj hk
      have := h4.lt
      simp at *
      omega
  · rcases N6 with q | q
    · rw [← q]; exact hk
    · rw [q] at hk
      have := Option.some.inj hk
      simp at this
      omega
theorem LookApp.cells {w w6 : World} {b rb mb : Nat} {L : Prs} {ys : List Int} {v u : Value} (h : LookApp w w6 b rb mb L ys v u) :
    w6.cell? ⟨b, 0, none⟩ = some (.pointer (some ⟨rb, 0, none⟩)) ∧ w6.cell? ⟨b, 1, none⟩ = some (.map (some mb)) ∧ w6.cell? ⟨b, 2, none⟩ = some v ∧ w6.frozen? ⟨b, 2, none⟩ = false ∧ w6.cell? ⟨w.heap.size, 0, none⟩ = some (.bool false) ∧ w6.cell? ⟨w.heap.size, 1, none⟩ = some (.int .i64 0) ∧ w6.frozen? ⟨w.heap.size, 0, none⟩ = false ∧ w6.frozen? ⟨w.heap.size, 1, none⟩ = false :=
  ⟨h.1.1.1.1, h.1.1.1.2.1, h.1.1.1.2.2, h.1.1.2.2.2, h.1.2.2.2.1.1, h.1.2.2.2.1.2, h.1.2.2.2.2.1, h.1.2.2.2.2.2⟩
theorem LookApp.look {w w6 : World} {b rb mb : Nat} {L : Prs} {xs : List Int} {v u : Value} {key : Int} {s : Bool × Int} (h : LookApp w w6 b rb mb L (xs ++ [key]) v u) (hwf : (Lit.int .i64 key).wf = true) (hs : lookF L key = s) :
    (Instr.lookup 92 (.map (some mb)) (.int .i64 key) false).run Tryz.prog (w6.setCell ⟨b, 2, none⟩ u) = .ok (.agg #[.bool s.1, .int .i64 s.2]) (w6.setCell ⟨b, 2, none⟩ u) := by
  have h1 := (h.1.2.2.1.kept (Below.heap_setCell w6 ⟨b, 2, none⟩ u mb (by have := h.2.2.1.2.1; simp; omega))).look1 hwf
  have h2 : seenM L (xs ++ [key]) key = some s := by unfold seenM; rw [if_pos (by simp), hs]
  rw [h2] at h1
  exact h1
theorem LookApp.done {w w6 : World} {b rb mb : Nat} {L : Prs} {ys : List Int} {v u : Value} (h : LookApp w w6 b rb mb L ys v u) (p q : Value) :
    Looks (((w6.setCell ⟨b, 2, none⟩ u).setCell ⟨w.heap.size, 0, none⟩ p).setCell ⟨w.heap.size, 1, none⟩ q) b rb mb L ys u ∧ Keeps w (((w6.setCell ⟨b, 2, none⟩ u).setCell ⟨w.heap.size, 0, none⟩ p).setCell ⟨w.heap.size, 1, none⟩ q) b mb v u := by
  obtain ⟨⟨h1, h2, h3, h4⟩, ⟨h5, h6⟩, ⟨hb, hm, hr⟩, h7⟩ := h
  have kp : ∀ k, k ≠ b → k ≠ w.heap.size → (((w6.setCell ⟨b, 2, none⟩ u).setCell ⟨w.heap.size, 0, none⟩ p).setCell ⟨w.heap.size, 1, none⟩ q).heap[k]? = w6.heap[k]? := fun k hk hw => ((Below.heap_setCell _ ⟨w.heap.size, 1, none⟩ q k hw).trans (Below.heap_setCell _ ⟨w.heap.size, 0, none⟩ p k hw)).trans (Below.heap_setCell w6 ⟨b, 2, none⟩ u k hk)
  have kb : (((w6.setCell ⟨b, 2, none⟩ u).setCell ⟨w.heap.size, 0, none⟩ p).setCell ⟨w.heap.size, 1, none⟩ q).heap[b]? = (w6.setCell ⟨b, 2, none⟩ u).heap[b]? := (Below.heap_setCell _ ⟨w.heap.size, 1, none⟩ q b (by simp; omega)).trans (Below.heap_setCell _ ⟨w.heap.size, 0, none⟩ p b (by simp; omega))
  have hi : OwnM w6 (b + 1) 2 1 u ys.length ys := h5
  refine ⟨⟨(h1.set2L u).kept kb, h2.kept (fun k _ hk => kp k (by omega) (by omega)) hr, h3.kept (kp mb (by omega) (by omega)), OwnM.keptB hi (fun k hk => kp k (by have := (h5.lt k hk).1; omega) (h6 k hk)), hr, hm⟩, ⟨h7.1, by simpa using h7.2.1, fun k hk h1 h2 h3 => (kp k h1 (by omega)).trans (h7.2.2.1 k hk h1 h2 h3), h7.2.2.2⟩⟩
set_option maxRecDepth 100000 in
set_option maxHeartbeats 4000000 in
theorem look_new (L : Prs) (b rb mb : Nat) (xs : List Int) (vr : Value) (key : Int) (w : World) (h : Looks w b rb mb L xs vr) (hrs : Rises L) (hn : L.length ≤ 1000) (hk : 0 ≤ key ∧ key ≤ 199) (hx : xs.length ≤ 1000) (hin : ¬ key ∈ xs) :
    Calls Tryz.prog 51 #[.pointer (some ⟨b, 0, none⟩), .int .i64 key] w (LookAns w b rb mb L xs vr key) := by
  obtain ⟨ao, cp, rfl⟩ := h.2.2.2.1.form
  have HL : Hid (Looks w b rb mb L xs (.slice ao xs.length cp) ∧ ¬ key ∈ xs ∧ Rises L) := ⟨h, hin, hrs⟩
  obtain ⟨i0, hi, hz⟩ : ∃ i, Tryz.prog.info? 2 = some i ∧ (i.zero, i.size, i.bytes) = (some (.int .i64 0), 1, 8) := by
    have := info_i64L
    cases q : Tryz.prog.info? 2 with
    | none => rw [q] at this; cases this
    | some i => rw [q] at this; exact ⟨i, rfl, Option.some.inj this⟩
  simp only [Prod.mk.injEq] at hz
  obtain ⟨hz0, hz1, hz2⟩ := hz
  have hwf := wf_key hk.1 (show key ≤ 100000 by omega)
  have hm : seenM L xs key = none := if_neg hin
  have hlook := (h.2.2.1.later (below_alloc w (.cells #[.bool false, .int .i64 0] 103))).look hwf
  rw [hm] at hlook
  have hlook' : (Instr.lookup 92 (.map (some mb)) (.int .i64 key) true).run Tryz.prog (w.alloc (.cells #[.bool false, .int .i64 0] 103)) = .ok (.tuple #[.agg #[.bool false, .int .i64 0], .bool false]) (w.alloc (.cells #[.bool false, .int .i64 0] 103)) := hlook
  obtain ⟨⟨c0, c1, c2⟩, _⟩ := h.1
  have hlt := h.1.lt
  have HLT : Hid (b < w.heap.size ∧ mb < b ∧ rb < mb) := ⟨hlt, h.2.2.2.2.2, h.2.2.2.2.1⟩
  have HB2 : Hid (Below w.heap.size w ((w.alloc (.cells #[.bool false, .int .i64 0] 103)).alloc (.cells #[.bool false, .int .i64 0] 103))) := (below_alloc _ _).alloc (by simp) _
  obtain ⟨v0, V1, V2, V3⟩ := h.2.1
  have HV : Hid (Blk2 w rb v0 (.func (.func 48) #[] #[]) ∧ Own w (rb + 1) 35 2 L.length (rowL L) v0) := ⟨V1, V2⟩
  have HR : Hid (Blk2 (w.alloc (.cells #[.bool false, .int .i64 0] 103)) w.heap.size (.bool false) (.int .i64 0)) := Blk2.new _ _ _ _
  have HK : Hid (0 ≤ key ∧ key ≤ 199) := hk
  clear hlook hm h hin V1 V2 V3 hrs hk
  go_enter Tryz.func51, Tryz.ntmps51
  go_wp2_with fail
  refine (find_any L rb (rb + 1) v0 key 0 _ ((HV.out.1.alloc _).alloc _) ((HV.out.2.alloc _).alloc _) HL.out.2.2 hn).mono ?_
  rintro e w3 ⟨r, y, z, rfl, hr1, hr2, hr3, q3⟩
  have HS : Hid (lookF L key = (r, z)) := find_look HL.out.2.2 hr1 hr2 hr3
  have HB3 : Hid (Below w.heap.size w (w3.alloc (.cells #[.int .i64 y, .int .i64 z] 35))) := (HB2.out.trans (q3.mono (by simp; omega))).alloc (Nat.le_trans HB2.out.size q3.size) _
  have HR3 : Hid (Blk2 (w3.alloc (.cells #[.int .i64 y, .int .i64 z] 35)) w.heap.size (.bool false) (.int .i64 0) ∧ w.heap.size < w3.heap.size) := ⟨((HR.out.alloc _).later q3).alloc _, Nat.lt_of_lt_of_le (by simp; omega) q3.size⟩
  have HL3 : Hid (Looks (w3.alloc (.cells #[.int .i64 y, .int .i64 z] 35)) b rb mb L xs (.slice ao xs.length cp)) := HL.out.1.later HB3.out
  clear hr1 hr2 hr3 q3 c0 c1 c2 HV HR hlook' HB2
  go_upto_region 5 with fail
  have hpb := (Blk2.new w3 (.int .i64 y) (.int .i64 z) 35).1.2
  have HPB : Hid (w3.heap.size < (w3.alloc (.cells #[.int .i64 y, .int .i64 z] 35)).heap.size) := by unfold Hid; simp
  generalize w3.alloc (.cells #[.int .i64 y, .int .i64 z] 35) = w4 at HB3 HR3 HL3 hpb HPB ⊢
  obtain ⟨⟨c0, c1, c2⟩, f0, f1, f2⟩ := HL3.out.1
  obtain ⟨w5, hrun, hP5, hg5⟩ := SM.put (w := w4.drew) (HL3.out.2.2.1.kept rfl) (Nat.lt_of_le_of_lt hx (by decide)) hwf (r, z)
  have hk5 : ∀ i, i < w4.heap.size → i ≠ mb → w5.heap[i]? = w4.heap[i]? := fun i hi hne => hg5.block i hi (fun e => hne (Option.some.inj e))
  have S5 : w5.cell? ⟨b, 1, none⟩ = some (.map (some mb)) ∧ w5.cell? ⟨w3.heap.size, 1, none⟩ = some (.int .i64 z) := by
    have e1 := hk5 b HL3.out.1.lt (by have := HLT.out; omega)
    have e2 := hk5 w3.heap.size HPB.out (by have := HLT.out; have := HR3.out.2; omega)
    exact ⟨(World.cell?_of_block (w := w4) (a := ⟨b, 1, none⟩) e1).trans c1, (World.cell?_of_block (w := w4) (a := ⟨w3.heap.size, 1, none⟩) e2).trans hpb⟩
  have HL5 : Hid (Blk3 w5 b (.pointer (some ⟨rb, 0, none⟩)) (.map (some mb)) (.slice ao xs.length cp) ∧ Viewed w5 rb mb L ∧ SM w5 mb (xs.length + 1) (seenM L (xs ++ [key])) ∧ Ints w5 (b + 1) (.slice ao xs.length cp) xs) :=
    ⟨HL3.out.1.kept (hk5 b HL3.out.1.lt (by have := HLT.out; omega)), HL3.out.2.1.kept (fun k hk hm => hk5 k hk (by omega)) HLT.out.2.2, hP5.congr (seen_put HS.out), Ints.grown (w := w4) HL3.out.2.2.2.1 ⟨hg5.os, hg5.tape, hg5.output, hg5.size, hg5.block⟩ (fun k hk e => by have := (HL3.out.2.2.2.1.lt k hk).1; have := HLT.out; cases e; omega)⟩
  have HR5 : Hid (Blk2 w5 w.heap.size (.bool false) (.int .i64 0)) := HR3.out.1.kept (hk5 _ HR3.out.1.lt (by have := HLT.out; omega))
  have HK5 : Hid (Keeps w w5 b mb (.slice ao xs.length cp) (.slice ao xs.length cp)) := (Keeps.below b mb _ HB3.out).trans ⟨⟨hg5.os, hg5.tape, hg5.output⟩, hg5.size, fun k hk _ h2 _ => hk5 k hk h2, fun _ hk _ => hk⟩
  clear hk5 hP5 hg5 HR3 HL3 HPB HB3 c0 c2 f0 f1 f2
  refine wp_region_held_drew (S := fun X => X.cell? ⟨b, 1, none⟩ = some (.map (some mb)) ∧ X.cell? ⟨w3.heap.size, 1, none⟩ = some (.int .i64 z)) (by kernel_rfl) ⟨c1, hpb⟩ (fun hS => ?_)
  refine tkH 0 ?_ hS (fun wx hx => ?_) ?_; rotate_left
  · obtain ⟨hx0, hx1⟩ := hx; go_simp; try with_reducible rfl
  refine tkH 1 ?_ hS (fun wx hx => ?_) ?_; rotate_left
  · obtain ⟨hx0, hx1⟩ := hx; go_simp; try with_reducible rfl
  refine tkH 2 ?_ hS (fun wx hx => ?_) ?_; rotate_left
  · obtain ⟨hx0, hx1⟩ := hx; go_simp; try with_reducible rfl
  refine tkH 3 ?_ hS (fun wx hx => ?_) ?_; rotate_left
  · obtain ⟨hx0, hx1⟩ := hx; go_simp; try with_reducible rfl
  refine tkH 4 ?_ hS (fun wx hx => ?_) ?_; rotate_left
  · obtain ⟨hx0, hx1⟩ := hx; go_simp; try with_reducible rfl
  refine tkH 5 ?_ hS (fun wx hx => ?_) ?_; rotate_left
  · obtain ⟨hx0, hx1⟩ := hx; go_simp; try with_reducible rfl
  refine tkH 6 ?_ hS (fun wx hx => ?_) ?_; rotate_left
  · obtain ⟨hx0, hx1⟩ := hx; go_simp; try with_reducible rfl
  refine tkH 7 ?_ hS (fun wx hx => ?_) ?_; rotate_left
  · obtain ⟨hx0, hx1⟩ := hx; go_simp; try with_reducible rfl
  refine tkH 8 ?_ hS (fun wx hx => ?_) ?_; rotate_left
  · obtain ⟨hx0, hx1⟩ := hx; go_simp; try with_reducible rfl
  refine rdH 9 (fun K hK => ?_)
  go_simp
  refine hK.out _ _ S5 (fun hS => ?_)
  clear hK K
  refine wpAnyH_done (by kernel_rfl) ?_ _
  go_simp
  obtain ⟨⟨c0, c1', c2⟩, f0, f1, f2⟩ := HL5.out.1
  have hl5 : b < w5.heap.size := HL5.out.1.lt
  have hlit := fun w => run_lit1L key w
  have HO : Hid (OwnM (w5.alloc (.cells #[.int .i64 key] 2)) (b + 1) 2 1 (.slice ao xs.length cp) xs.length xs) := OwnM.later (show OwnM w5 (b + 1) 2 1 (.slice ao xs.length cp) xs.length xs from HL5.out.2.2.2) (below_alloc _ _)
  have HRW : Hid (Row (w5.alloc (.cells #[.int .i64 key] 2)) w5.heap.size 1 1 (fun p => [key].getD p 0) (.slice (some ⟨w5.heap.size, 0, none⟩) 1 1)) := row_lit1 w5 key
  clear hrun hS S5 hpb c1
  have HOB : Hid (∀ k, (Value.slice ao xs.length cp).ownBlock = some k → k ≠ b ∧ k ≠ mb ∧ k ≠ w.heap.size ∧ k < w5.heap.size) := fun k hk => by
    have h1 := HL.out.1.2.2.2.1.lt k hk
    have h2 := (HL5.out.2.2.2.lt k hk).2
    have := HLT.out
    exact ⟨by omega, by omega, by omega, h2⟩
  go_wp2_with (at_builtin; refine wpList_appL 2 i0 (.int .i64 0) 1 8 rfl _ _ 93 rfl Tryz.underlying93 hi hz0 hz1 hz2 rfl (by omega) (by omega) _ (b + 1) xs.length xs (.slice ao xs.length cp) rfl HO.out w5.heap.size 1 (fun p => [key].getD p 0) _ rfl HRW.out (by omega) (by simp; omega) ?_; intro ao1 cp1 w6 O6 G6 N6; have H6 := look_app HL5.out.1 HL5.out.2.1 HL5.out.2.2.1 HR5.out HOB.out (fun k hk => (HL5.out.2.2.2.lt k hk).1) O6 G6 N6 hlt HLT.out.2.1 HLT.out.2.2 HK5.out; have HH6 : Hid (LookApp w w6 b rb mb L (xs ++ [key]) (.slice ao xs.length cp) (.slice ao1 (xs.length + 1) cp1)) := H6; have hl6 := H6.look hwf HS.out; obtain ⟨d0, d1, d2, e2, z0, z1, g0, g1⟩ := H6.cells; clear O6 G6 N6 H6 HO HRW HOB HL5 HR5 HK5 c0 c1' c2 f0 f1 f2 hlit)
  have HF : Hid (_ ∧ _) := HH6.out.done (.bool r) (.int .i64 z)
  refine bodyPost_ret (v := .agg #[.bool r, .int .i64 z]) (by simp [results, Tryz.results51, go_sem, z0, z1]) rfl ?_
  unfold LookAns
  rw [HS.out]
  refine ⟨rfl, .slice ao1 (xs.length + 1) cp1, ?_, HF.out.2⟩
  rw [show addR xs key = xs ++ [key] from if_neg HL.out.2.1]
  exact HF.out.1
theorem look_is (L : Prs) (b rb mb : Nat) (xs : List Int) (vr : Value) (key : Int) (w : World) (h : Looks w b rb mb L xs vr) (hrs : Rises L) (hn : L.length ≤ 1000) (hk : 0 ≤ key ∧ key ≤ 199) (hx : xs.length ≤ 1000) :
    Calls Tryz.prog 51 #[.pointer (some ⟨b, 0, none⟩), .int .i64 key] w (LookAns w b rb mb L xs vr key) := by
  by_cases hin : key ∈ xs
  · exact look_old L b rb mb xs vr key w h hk hin
  · exact look_new L b rb mb xs vr key w h hrs hn hk hx hin
end Go.Proofs.YtbpppaolcgibnaaGreatDoor

namespace Go.Proofs.YtbpppaolcgibnaaGreatDoor
open Go.RowKit

/-- Block b is a plan under way: its value, what was read, what would be written; its lists lie behind it. -/
def Pln (w : World) (b : Nat) (v : Int) (xs : List Int) (m : Nat) (W : List Int) (vr vw : Value) : Prop := BlkP w b (.int .i64 0) (.int .i64 0) (.int .i64 v) vr vw ∧ PlanAt w (b + 1) xs m W vr vw
theorem Pln.later {w w' : World} {b : Nat} {v : Int} {xs : List Int} {m : Nat} {W : List Int} {vr vw : Value} (h : Pln w b v xs m W vr vw) (hb : Below w.heap.size w w') : Pln w' b v xs m W vr vw := ⟨h.1.later hb, h.2.later hb⟩
/-- .. all that was there ahead of it is as it was. -/
def StP (w0 w : World) (v : Int) (xs : List Int) (m : Nat) (W : List Int) : Prop := Below w0.heap.size w0 w ∧ ∃ vr vw, Pln w w0.heap.size v xs m W vr vw
theorem StP.later {w0 w w' : World} {v : Int} {xs : List Int} {m : Nat} {W : List Int} (h : StP w0 w v xs m W) (hb : Below w.heap.size w w') : StP w0 w' v xs m W := by
  obtain ⟨h1, vr, vw, h2⟩ := h
  exact ⟨h1.trans (hb.mono h1.size), vr, vw, h2.later hb⟩
theorem BlkP.set3 {x : World} {b : Nat} {a0 a1 a2 a3 a4 : Value} (h : BlkP x b a0 a1 a2 a3 a4) (u : Value) : BlkP (x.setCell ⟨b, 3, none⟩ u) b a0 a1 a2 u a4 := by
  obtain ⟨⟨h0, h1, h2, h3, h4⟩, f0, f1, f2, f3, f4⟩ := h
  exact ⟨⟨(World.cell?_setCell_other _ _ _ _ (by simp)).trans h0, (World.cell?_setCell_other _ _ _ _ (by simp)).trans h1, (World.cell?_setCell_other _ _ _ _ (by simp)).trans h2, World.cell?_setCell_same _ _ _ h3, (World.cell?_setCell_other _ _ _ _ (by simp)).trans h4⟩, by simpa using f0, by simpa using f1, by simpa using f2, by simpa using f3, by simpa using f4⟩
theorem BlkP.set4 {x : World} {b : Nat} {a0 a1 a2 a3 a4 : Value} (h : BlkP x b a0 a1 a2 a3 a4) (u : Value) : BlkP (x.setCell ⟨b, 4, none⟩ u) b a0 a1 a2 a3 u := by
  obtain ⟨⟨h0, h1, h2, h3, h4⟩, f0, f1, f2, f3, f4⟩ := h
  exact ⟨⟨(World.cell?_setCell_other _ _ _ _ (by simp)).trans h0, (World.cell?_setCell_other _ _ _ _ (by simp)).trans h1, (World.cell?_setCell_other _ _ _ _ (by simp)).trans h2, (World.cell?_setCell_other _ _ _ _ (by simp)).trans h3, World.cell?_setCell_same _ _ _ h4⟩, by simpa using f0, by simpa using f1, by simpa using f2, by simpa using f3, by simpa using f4⟩
theorem BlkP.set2 {x : World} {b : Nat} {a0 a1 a2 a3 a4 : Value} (h : BlkP x b a0 a1 a2 a3 a4) (u : Value) : BlkP (x.setCell ⟨b, 2, none⟩ u) b a0 a1 u a3 a4 := by
  obtain ⟨⟨h0, h1, h2, h3, h4⟩, f0, f1, f2, f3, f4⟩ := h
  exact ⟨⟨(World.cell?_setCell_other _ _ _ _ (by simp)).trans h0, (World.cell?_setCell_other _ _ _ _ (by simp)).trans h1, World.cell?_setCell_same _ _ _ h2, (World.cell?_setCell_other _ _ _ _ (by simp)).trans h3, (World.cell?_setCell_other _ _ _ _ (by simp)).trans h4⟩, by simpa using f0, by simpa using f1, by simpa using f2, by simpa using f3, by simpa using f4⟩
/-- Behind the append to the reads, and behind its store. -/
theorem pln_reads {w w6 : World} {b : Nat} {v key : Int} {xs : List Int} {m : Nat} {W : List Int} {ao ao1 : Option Addr} {cp cp1 : Nat} {vw : Value} (h : Pln w b v xs m W (.slice ao xs.length cp) vw)
    (O6 : OwnM w6 (b + 1) 2 1 (.slice ao1 (xs.length + 1) cp1) (xs.length + 1) (xs ++ nums (fun p => [key].getD p 0) (1 * 1)))
    (G6 : (w.alloc (.cells #[.int .i64 key] 2)).grownBy w6 (Value.slice ao xs.length cp).ownBlock)
    (N6 : (Value.slice ao1 (xs.length + 1) cp1).ownBlock = (Value.slice ao xs.length cp).ownBlock ∨ (Value.slice ao1 (xs.length + 1) cp1).ownBlock = some (w.alloc (.cells #[.int .i64 key] 2)).heap.size) :
    BlkP w6 b (.int .i64 0) (.int .i64 0) (.int .i64 v) (.slice ao xs.length cp) vw ∧ Pln (w6.setCell ⟨b, 3, none⟩ (.slice ao1 (xs.length + 1) cp1)) b v (xs ++ [key]) m W (.slice ao1 (xs.length + 1) cp1) vw ∧ Below b w (w6.setCell ⟨b, 3, none⟩ (.slice ao1 (xs.length + 1) cp1)) := by
  obtain ⟨h1, h2, h3, h4⟩ := h
  have hbb := h1.lt
  have kp : ∀ k, k < w.heap.size → (Value.slice ao xs.length cp).ownBlock ≠ some k → w6.heap[k]? = w.heap[k]? := fun k hk hne => (G6.block k (by simp; omega) (fun e => hne e.symm)).trans (Below.heap_alloc w _ k hk)
  have hB6 := h1.kept (kp b h1.lt (fun e => by have := (h2.lt b e).1; omega))
  have ks : ∀ k, k ≠ b → (w6.setCell ⟨b, 3, none⟩ (.slice ao1 (xs.length + 1) cp1)).heap[k]? = w6.heap[k]? := fun k hk => Below.heap_setCell w6 ⟨b, 3, none⟩ _ k hk
  have hsz : w.heap.size ≤ w6.heap.size := Nat.le_trans (by simp) G6.size
  refine ⟨hB6, ⟨hB6.set3 _, ?_, OwnM.keptB h3 (fun k hk => (ks k (by have := (OwnM.block h3 k hk).1; omega)).trans (kp k (OwnM.block h3 k hk).2 (fun e => h4 k e hk))), fun k hk e => ?_⟩, ⟨G6.os, G6.tape, G6.output, by simpa using hsz, fun k hk => (ks k (by omega)).trans (kp k (by omega) (fun e => by have := (h2.lt k e).1; omega))⟩⟩
  · have e : nums (fun p => [key].getD p 0) (1 * 1) = [key] := rfl
    rw [e] at O6
    unfold Ints
    rw [List.length_append]
    exact OwnM.keptB O6 (fun k hk => ks k (by have := (OwnM.block O6 k hk).1; omega))
  · rcases N6 with q | q
    · exact h4 k (by rw [← q]; exact hk) e
    · rw [q] at hk
      have h5 := Option.some.inj hk
      have h6 := (OwnM.block h3 k e).2
      simp at h5
      omega
/-- Behind the append to the writes, and behind its store. -/
theorem pln_writes {w w6 : World} {b : Nat} {v k0 k1 k2 : Int} {xs : List Int} {m : Nat} {W : List Int} {ao ao1 : Option Addr} {cp cp1 : Nat} {vr : Value} (h : Pln w b v xs m W vr (.slice ao m cp))
    (O6 : OwnM w6 (b + 1) 150 3 (.slice ao1 (m + 1) cp1) (m + 1) (W ++ nums (fun p => [k0, k1, k2].getD p 0) (1 * 3)))
    (G6 : (w.alloc (.cells #[.int .i64 k0, .int .i64 k1, .int .i64 k2] 150)).grownBy w6 (Value.slice ao m cp).ownBlock)
    (N6 : (Value.slice ao1 (m + 1) cp1).ownBlock = (Value.slice ao m cp).ownBlock ∨ (Value.slice ao1 (m + 1) cp1).ownBlock = some (w.alloc (.cells #[.int .i64 k0, .int .i64 k1, .int .i64 k2] 150)).heap.size) :
    BlkP w6 b (.int .i64 0) (.int .i64 0) (.int .i64 v) vr (.slice ao m cp) ∧ Pln (w6.setCell ⟨b, 4, none⟩ (.slice ao1 (m + 1) cp1)) b v xs (m + 1) (W ++ [k0, k1, k2]) vr (.slice ao1 (m + 1) cp1) ∧ Below b w (w6.setCell ⟨b, 4, none⟩ (.slice ao1 (m + 1) cp1)) := by
  obtain ⟨h1, h2, h3, h4⟩ := h
  have hbb := h1.lt
  have kp : ∀ k, k < w.heap.size → (Value.slice ao m cp).ownBlock ≠ some k → w6.heap[k]? = w.heap[k]? := fun k hk hne => (G6.block k (by simp; omega) (fun e => hne e.symm)).trans (Below.heap_alloc w _ k hk)
  have hB6 := h1.kept (kp b h1.lt (fun e => by have := (OwnM.block h3 b e).1; omega))
  have ks : ∀ k, k ≠ b → (w6.setCell ⟨b, 4, none⟩ (.slice ao1 (m + 1) cp1)).heap[k]? = w6.heap[k]? := fun k hk => Below.heap_setCell w6 ⟨b, 4, none⟩ _ k hk
  have hsz : w.heap.size ≤ w6.heap.size := Nat.le_trans (by simp) G6.size
  have h2' : OwnM w (b + 1) 2 1 vr xs.length xs := h2
  refine ⟨hB6, ⟨hB6.set4 _, OwnM.keptB h2' (fun k hk => (ks k (by have := (OwnM.block h2' k hk).1; omega)).trans (kp k (OwnM.block h2' k hk).2 (fun e => h4 k hk e))), ?_, fun k hk e => ?_⟩, ⟨G6.os, G6.tape, G6.output, by simpa using hsz, fun k hk => (ks k (by omega)).trans (kp k (by omega) (fun e => by have := (OwnM.block h3 k e).1; omega))⟩⟩
  · have e : nums (fun p => [k0, k1, k2].getD p 0) (1 * 3) = [k0, k1, k2] := rfl
    rw [e] at O6
    exact OwnM.keptB O6 (fun k hk => ks k (by have := (OwnM.block O6 k hk).1; omega))
  · rcases N6 with q | q
    · exact h4 k hk (by rw [← q]; exact e)
    · rw [q] at e
      have h5 := Option.some.inj e
      have h6 := (OwnM.block h2' k hk).2
      simp at h5
      omega
theorem run_item1 (k0 k1 k2 : Int) (w : World) : (Instr.buildSlice 120 1 #[(0, .agg #[.int .i64 k0, .int .i64 k1, .int .i64 k2])]).run Tryz.prog w = .ok (.slice (some ⟨w.heap.size, 0, none⟩) 1 1) (w.alloc (.cells #[.int .i64 k0, .int .i64 k1, .int .i64 k2] 150)) := by
  first | kernel_rfl | rfl
theorem row_item1 (Y : World) (k0 k1 k2 : Int) : Row (Y.alloc (.cells #[.int .i64 k0, .int .i64 k1, .int .i64 k2] 150)) Y.heap.size 3 1 (fun p => [k0, k1, k2].getD p 0) (.slice (some ⟨Y.heap.size, 0, none⟩) 1 1) :=
  (OwnM.rowL (OwnM.lit Y 150 3 1 [k0, k1, k2] #[.int .i64 k0, .int .i64 k1, .int .i64 k2] (by simp) rfl (by unfold maxLen; omega))).1
theorem info_itemL : (Tryz.prog.info? 150).map (fun i => (i.zero, i.size, i.bytes)) = some (some (.agg #[.int .i64 0, .int .i64 0, .int .i64 0]), 3, 24) := by kernel_rfl
set_option maxRecDepth 100000 in
set_option maxHeartbeats 2000000 in
theorem l13Put_is (key vv : Int) (w0 w : World) (v : Int) (xs : List Int) (m : Nat) (W : List Int) (h : StP w0 w v xs m W) (hm : m ≤ 1000) :
    Calls Tryz.prog 115 #[.pointer (some ⟨w0.heap.size, 0, none⟩), .int .i64 key, .int .i64 vv] w fun e w' => e = .returned (.tuple #[]) ∧ StP w0 w' v xs (m + 1) (W ++ [key, 1, vv]) := by
  obtain ⟨hb, vr, vw, hP⟩ := h
  obtain ⟨⟨a1, a2, rfl⟩, ⟨a3, a4, rfl⟩⟩ := hP.2.form
  have H : Hid (Below w0.heap.size w0 w ∧ Pln w w0.heap.size v xs m W (.slice a1 xs.length a2) (.slice a3 m a4)) := ⟨hb, hP⟩
  obtain ⟨b, hbq⟩ : ∃ b, w0.heap.size = b := ⟨_, rfl⟩
  have HQ : Hid (w0.heap.size = b) := hbq
  rw [hbq] at H ⊢
  obtain ⟨i0, hi, hz⟩ : ∃ i, Tryz.prog.info? 150 = some i ∧ (i.zero, i.size, i.bytes) = (some (.agg #[.int .i64 0, .int .i64 0, .int .i64 0]), 3, 24) := by
    have := info_itemL
    cases q : Tryz.prog.info? 150 with
    | none => rw [q] at this; cases this
    | some i => rw [q] at this; exact ⟨i, rfl, Option.some.inj this⟩
  simp only [Prod.mk.injEq] at hz
  obtain ⟨hz0, hz1, hz2⟩ := hz
  have hlit := fun w => run_item1 key 1 vv w
  have hlt : b < w.heap.size := H.out.2.1.lt
  obtain ⟨⟨c0, c1, c2, c3, c4⟩, f0, f1, f2, f3, f4⟩ := H.out.2.1
  have HO : Hid (OwnM (w.alloc (.cells #[.int .i64 key, .int .i64 1, .int .i64 vv] 150)) (b + 1) 150 3 (.slice a3 m a4) m W) := OwnM.later H.out.2.2.2.1 (below_alloc _ _)
  have HRW : Hid (Row (w.alloc (.cells #[.int .i64 key, .int .i64 1, .int .i64 vv] 150)) w.heap.size 3 1 (fun p => [key, 1, vv].getD p 0) (.slice (some ⟨w.heap.size, 0, none⟩) 1 1)) := row_item1 w _ _ _
  clear hb hP hbq
  go_enter Tryz.func115, Tryz.ntmps115
  go_wp2_with (at_builtin; refine wpList_appL 150 i0 (.agg #[.int .i64 0, .int .i64 0, .int .i64 0]) 3 24 rfl _ _ 120 rfl Tryz.underlying120 hi hz0 hz1 hz2 rfl (by omega) (by omega) _ (b + 1) m W (.slice a3 m a4) rfl HO.out w.heap.size 1 (fun p => [key, 1, vv].getD p 0) _ rfl HRW.out (by omega) (by simp; omega) ?_; intro ao1 cp1 w6 O6 G6 N6; have HH : Hid (_ ∧ _ ∧ _) := pln_writes H.out.2 O6 G6 N6; obtain ⟨⟨d0, d1, d2, d3, d4⟩, g0, g1, g2, g3, g4⟩ := HH.out.1; clear O6 G6 N6 c0 c1 c2 c3 c4 f0 f1 f2 f3 f4 HO HRW hlit)
  go_end0
  refine ⟨rfl, ?_⟩
  unfold StP
  rw [HQ.out]
  exact ⟨H.out.1.trans HH.out.2.2, _, _, HH.out.2.1⟩
set_option maxRecDepth 100000 in
set_option maxHeartbeats 2000000 in
theorem l13Delete_is (key : Int) (w0 w : World) (v : Int) (xs : List Int) (m : Nat) (W : List Int) (h : StP w0 w v xs m W) (hm : m ≤ 1000) :
    Calls Tryz.prog 126 #[.pointer (some ⟨w0.heap.size, 0, none⟩), .int .i64 key] w fun e w' => e = .returned (.tuple #[]) ∧ StP w0 w' v xs (m + 1) (W ++ [key, 2, 0]) := by
  obtain ⟨hb, vr, vw, hP⟩ := h
  obtain ⟨⟨a1, a2, rfl⟩, ⟨a3, a4, rfl⟩⟩ := hP.2.form
  have H : Hid (Below w0.heap.size w0 w ∧ Pln w w0.heap.size v xs m W (.slice a1 xs.length a2) (.slice a3 m a4)) := ⟨hb, hP⟩
  obtain ⟨b, hbq⟩ : ∃ b, w0.heap.size = b := ⟨_, rfl⟩
  have HQ : Hid (w0.heap.size = b) := hbq
  rw [hbq] at H ⊢
  obtain ⟨i0, hi, hz⟩ : ∃ i, Tryz.prog.info? 150 = some i ∧ (i.zero, i.size, i.bytes) = (some (.agg #[.int .i64 0, .int .i64 0, .int .i64 0]), 3, 24) := by
    have := info_itemL
    cases q : Tryz.prog.info? 150 with
    | none => rw [q] at this; cases this
    | some i => rw [q] at this; exact ⟨i, rfl, Option.some.inj this⟩
  simp only [Prod.mk.injEq] at hz
  obtain ⟨hz0, hz1, hz2⟩ := hz
  have hlit := fun w => run_item1 key 2 0 w
  have hlt : b < w.heap.size := H.out.2.1.lt
  obtain ⟨⟨c0, c1, c2, c3, c4⟩, f0, f1, f2, f3, f4⟩ := H.out.2.1
  have HO : Hid (OwnM (w.alloc (.cells #[.int .i64 key, .int .i64 2, .int .i64 0] 150)) (b + 1) 150 3 (.slice a3 m a4) m W) := OwnM.later H.out.2.2.2.1 (below_alloc _ _)
  have HRW : Hid (Row (w.alloc (.cells #[.int .i64 key, .int .i64 2, .int .i64 0] 150)) w.heap.size 3 1 (fun p => [key, 2, 0].getD p 0) (.slice (some ⟨w.heap.size, 0, none⟩) 1 1)) := row_item1 w _ _ _
  clear hb hP hbq
  go_enter Tryz.func126, Tryz.ntmps126
  go_wp2_with (at_builtin; refine wpList_appL 150 i0 (.agg #[.int .i64 0, .int .i64 0, .int .i64 0]) 3 24 rfl _ _ 120 rfl Tryz.underlying120 hi hz0 hz1 hz2 rfl (by omega) (by omega) _ (b + 1) m W (.slice a3 m a4) rfl HO.out w.heap.size 1 (fun p => [key, 2, 0].getD p 0) _ rfl HRW.out (by omega) (by simp; omega) ?_; intro ao1 cp1 w6 O6 G6 N6; have HH : Hid (_ ∧ _ ∧ _) := pln_writes H.out.2 O6 G6 N6; obtain ⟨⟨d0, d1, d2, d3, d4⟩, g0, g1, g2, g3, g4⟩ := HH.out.1; clear O6 G6 N6 c0 c1 c2 c3 c4 f0 f1 f2 f3 f4 HO HRW hlit)
  go_end0
  refine ⟨rfl, ?_⟩
  unfold StP
  rw [HQ.out]
  exact ⟨H.out.1.trans HH.out.2.2, _, _, HH.out.2.1⟩
theorem take_in {xs : List Int} {k : Nat} (hk : k < xs.length) (key : Int) : decide (key ∈ xs.take (k + 1)) = (decide (key ∈ xs.take k) || (xs[k] == key)) := by
  have e : key ∈ xs.take (k + 1) ↔ key ∈ xs.take k ∨ key = xs[k] := by rw [List.take_succ_eq_append_getElem hk, List.mem_append, List.mem_singleton]
  by_cases h1 : key ∈ xs.take k
  · rw [decide_eq_true (e.2 (Or.inl h1)), decide_eq_true h1]; rfl
  · by_cases h2 : xs[k] = key
    · rw [decide_eq_true (e.2 (Or.inr h2.symm)), decide_eq_false h1, beq_iff_eq.2 h2]; rfl
    · rw [decide_eq_false (fun q => (e.1 q).elim h1 (fun q => h2 q.symm)), decide_eq_false h1, beq_eq_false_iff_ne.2 h2]; rfl
set_option maxRecDepth 100000 in
set_option maxHeartbeats 4000000 in
theorem l13Read_is (key : Int) (Lp : Prs) (y : Value) (w0 w : World) (v : Int) (xs : List Int) (m : Nat) (W : List Int) (hv : Row w0 0 2 Lp.length (rowL Lp) y) (hn : Lp.length ≤ 1048576) (h : StP w0 w v xs m W) (hx : xs.length ≤ 1000) :
    Calls Tryz.prog 103 #[.pointer (some ⟨w0.heap.size, 0, none⟩), y, .int .i64 key] w fun e w' => e = .returned (.tuple #[.int .i64 (lookF Lp key).2, .bool (lookF Lp key).1]) ∧ StP w0 w' v (addR xs key) m W := by
  obtain ⟨hb, vr, vw, hP⟩ := h
  obtain ⟨⟨a1, a2, rfl⟩, ⟨a3, a4, rfl⟩⟩ := hP.2.form
  have H : Hid (Below w0.heap.size w0 w ∧ Pln w w0.heap.size v xs m W (.slice a1 xs.length a2) (.slice a3 m a4)) := ⟨hb, hP⟩
  obtain ⟨b, hbq⟩ : ∃ b, w0.heap.size = b := ⟨_, rfl⟩
  have HQ : Hid (w0.heap.size = b) := hbq
  have HV : Hid (∀ X, Below w0.heap.size w0 X → Row X 0 2 Lp.length (rowL Lp) y) := fun X hX => hv.later hX
  rw [hbq] at H HV ⊢
  obtain ⟨i0, hi, hz⟩ : ∃ i, Tryz.prog.info? 2 = some i ∧ (i.zero, i.size, i.bytes) = (some (.int .i64 0), 1, 8) := by
    have := info_i64L
    cases q : Tryz.prog.info? 2 with
    | none => rw [q] at this; cases this
    | some i => rw [q] at this; exact ⟨i, rfl, Option.some.inj this⟩
  simp only [Prod.mk.injEq] at hz
  obtain ⟨hz0, hz1, hz2⟩ := hz
  have hlit := fun w => run_lit1L key w
  have hlt : b < w.heap.size := H.out.2.1.lt
  obtain ⟨⟨c0, c1, c2, c3, c4⟩, f0, f1, f2, f3, f4⟩ := H.out.2.1
  have HO : Hid (OwnM (w.alloc (.cells #[.int .i64 key] 2)) (b + 1) 2 1 (.slice a1 xs.length a2) xs.length xs) := OwnM.later (show OwnM w (b + 1) 2 1 (.slice a1 xs.length a2) xs.length xs from H.out.2.2.1) (below_alloc _ _)
  have HRW : Hid (Row (w.alloc (.cells #[.int .i64 key] 2)) w.heap.size 1 1 (fun p => [key].getD p 0) (.slice (some ⟨w.heap.size, 0, none⟩) 1 1)) := row_lit1 w key
  clear hb hP hbq hv
  go_enter Tryz.func103, Tryz.ntmps103
  go_wp2
  go_loopw [8, 9] (fun sn i wr => ∃ k : Nat, k ≤ xs.length ∧ i = .int .i64 k ∧ (∃ t, Hid (decide (key ∈ xs.take k) = t) ∧ sn = .bool t) ∧ wr = w) (fun _ i _ => xs.length - (intOf i).toNat)
  case atStart => exact ⟨0, Nat.zero_le _, rfl, ⟨false, by unfold Hid; simp, rfl⟩, rfl⟩
  case round =>
    obtain ⟨k, hk, rfl, ⟨t, HT, rfl⟩, rfl⟩ := hrel
    by_cases hlt2 : k < xs.length
    · obtain ⟨g, rfl, _, hc, _⟩ := H.out.2.2.1.at hlt2
      cases t with
      | true =>
        have HT' : Hid (decide (key ∈ xs.take (k + 1)) = true) := by unfold Hid; rw [take_in hlt2, HT.out]; rfl
        clear HT
        go_wp2
        go_roundw
        case rel => exact ⟨k + 1, by omega, by go_num, ⟨true, HT', rfl⟩, trivial⟩
        case measure => simp [intOf]; omega
      | false =>
        obtain ⟨z, hz⟩ : ∃ z, xs[k] = z := ⟨_, rfl⟩
        have HT' : Hid (decide (key ∈ xs.take (k + 1)) = (z == key)) := by unfold Hid; rw [take_in hlt2, HT.out, hz]; rfl
        rw [hz] at hc
        clear HT hz
        go_wp2
        go_roundw
        case rel => exact ⟨k + 1, by omega, by go_num, ⟨_, HT', rfl⟩, trivial⟩
        case measure => simp [intOf]; omega
    · obtain rfl : k = xs.length := by omega
      rw [List.take_length] at HT
      cases t with
      | true =>
        have HA : Hid (addR xs key = xs) := if_pos (of_decide_eq_true HT.out)
        go_wp2_with fail
        refine (l11Value_any Lp y 0 key _ (HV.out _ H.out.1) hn).mono ?_
        rintro e w9 ⟨rfl, hw9⟩
        obtain rfl := hw9.symm
        go_wp2
        go_ret2
        refine ⟨rfl, ?_⟩
        unfold StP
        rw [HQ.out, HA.out]
        exact ⟨H.out.1, _, _, H.out.2⟩
      | false =>
        have HA : Hid (addR xs key = xs ++ [key]) := if_neg (of_decide_eq_false HT.out)
        go_wp2_with (first | (at_builtin; refine wpList_appL 2 i0 (.int .i64 0) 1 8 rfl _ _ 93 rfl Tryz.underlying93 hi hz0 hz1 hz2 rfl (by omega) (by omega) _ (b + 1) xs.length xs (.slice a1 xs.length a2) rfl HO.out wr.heap.size 1 (fun p => [key].getD p 0) _ rfl HRW.out (by omega) (by simp; omega) ?_; intro ao1 cp1 w6 O6 G6 N6; have HH : Hid (_ ∧ _ ∧ _) := pln_reads H.out.2 O6 G6 N6; obtain ⟨⟨d0, d1, d2, d3, d4⟩, g0, g1, g2, g3, g4⟩ := HH.out.1; clear O6 G6 N6 c0 c1 c2 c3 c4 f0 f1 f2 f3 f4 HO HRW hlit) | fail)
        refine (l11Value_any Lp y 0 key _ (HV.out _ (H.out.1.trans HH.out.2.2)) hn).mono ?_
        rintro e w9 ⟨rfl, hw9⟩
        obtain rfl := hw9.symm
        go_wp2
        go_ret2
        refine ⟨rfl, ?_⟩
        unfold StP
        rw [HQ.out, HA.out]
        exact ⟨H.out.1.trans HH.out.2.2, _, _, HH.out.2.1⟩
end Go.Proofs.YtbpppaolcgibnaaGreatDoor

namespace Go.Proofs.YtbpppaolcgibnaaGreatDoor
open Go.RowKit

theorem kE_ok {d m : Int} (hd : 0 ≤ d ∧ d ≤ 9) (hm : 0 ≤ m ∧ m ≤ 5) : faultOf (kE d m) = 0 := by
  obtain ⟨d', rfl⟩ := Int.eq_ofNat_of_zero_le hd.1
  obtain ⟨m', rfl⟩ := Int.eq_ofNat_of_zero_le hm.1
  have h1 : d' < 10 := by omega
  have h2 : m' < 6 := by omega
  have : ∀ a, a < 10 → ∀ b, b < 6 → faultOf (kE (a : Nat) (b : Nat)) = 0 := by decide
  exact this d' h1 m' h2
end Go.Proofs.YtbpppaolcgibnaaGreatDoor

namespace Go.Proofs.YtbpppaolcgibnaaGreatDoor
open Go.RowKit Go.Maps

theorem run_mapL (w : World) : (Instr.makeMap 92 none).run Tryz.prog w = .ok (.map (some w.heap.size)) (w.alloc (.map #[] 0)) := by
  first | kernel_rfl | rfl
set_option maxRecDepth 100000 in
set_option maxHeartbeats 2000000 in
theorem lookAt_is (L : Prs) (v : Value) (B : Nat) (w : World) (h : Row w B 2 L.length (rowL L) v) (hr : Rises L) (hn : L.length ≤ 800) :
    Calls Tryz.prog 16 #[v] w fun e w' => ∃ b rb mb, e = .returned (.pointer (some ⟨b, 0, none⟩)) ∧ Looks w' b rb mb L [] (.slice none 0 0) ∧ w.heap.size ≤ rb ∧ Below w.heap.size w w' := by
  have H : Hid (Row w B 2 L.length (rowL L) v ∧ Rises L) := ⟨h, hr⟩
  have hmk := fun w => run_mapL w
  clear h hr
  go_enter Tryz.func16, Tryz.ntmps16
  go_wp2_with fail
  refine (filled_any L v B _ H.out.1 H.out.2 hn).mono ?_
  rintro e w1 ⟨rb, rfl, hrb, hris, q1⟩
  have H1 : Hid (Ris w1 rb L ∧ w.heap.size ≤ rb ∧ Below w.heap.size w w1) := ⟨hris, hrb, q1⟩
  clear hris hrb q1 H
  go_wp2
  go_ret
  have hb2 : Below w1.heap.size w1 ((w1.alloc (.map #[] 0)).alloc (.cells #[.pointer (some ⟨rb, 0, none⟩), .map (some w1.heap.size), .slice none 0 0] 95)) := (below_alloc _ _).alloc (by simp) _
  have hz := Blk3.new (w1.alloc (.map #[] 0)) (.pointer (some ⟨rb, 0, none⟩)) (.map (some w1.heap.size)) (.slice none 0 0) 95
  rw [World.size_alloc] at hz
  obtain ⟨v0, r1, r2⟩ := H1.out.1
  refine ⟨w1.heap.size + 1, rb, w1.heap.size, rfl, ⟨hz, ⟨v0, r1.later hb2, r2.later hb2, fun k hk => (own_in r2 k hk).2⟩, ((SM.made w1).later (below_alloc _ _)).congr (fun x => rfl), Ints.nil _ _, r1.lt, Nat.lt_succ_self _⟩, H1.out.2.1, H1.out.2.2.trans (hb2.mono H1.out.2.2.size)⟩
/-- Whether an inode's value is that of a directory. -/
def dirB (L : Prs) (a : Int) : Bool := (lookF L (kI a)).2 == 1000
theorem field_sight1 (h : Bool) (v : Int) (w : World) : (Instr.field 103 (.agg #[.bool h, .int .i64 v]) 1).run Tryz.prog w = .ok (.int .i64 v) w := by kernel_rfl
theorem field_sight0 (h : Bool) (v : Int) (w : World) : (Instr.field 103 (.agg #[.bool h, .int .i64 v]) 0).run Tryz.prog w = .ok (.bool h) w := by kernel_rfl
set_option maxRecDepth 100000 in
set_option maxHeartbeats 2000000 in
theorem isDir_is (L : Prs) (b rb mb : Nat) (xs : List Int) (vr : Value) (a : Int) (w : World) (h : Looks w b rb mb L xs vr) (hrs : Rises L) (hn : L.length ≤ 1000) (ha : 0 ≤ a ∧ a ≤ 9) (hx : xs.length ≤ 1000) :
    Calls Tryz.prog 58 #[.pointer (some ⟨b, 0, none⟩), .int .i64 a] w fun e w' => e = .returned (.bool (dirB L a)) ∧ ∃ vr', Looks w' b rb mb L (addR xs (kI a)) vr' ∧ Keeps w w' b mb vr vr' := by
  have H : Hid (Looks w b rb mb L xs vr ∧ Rises L ∧ (0 ≤ a ∧ a ≤ 9)) := ⟨h, hrs, ha⟩
  have fs := fun h v w => field_sight1 h v w
  clear h hrs ha
  go_enter Tryz.func58, Tryz.ntmps58
  go_wp2_with fail
  refine (inodeKey_is a H.out.2.2 _).mono ?_
  rintro e w1 ⟨rfl, q1⟩
  have H1 : Hid (Looks w1 b rb mb L xs vr ∧ Keeps w w1 b mb vr vr) := ⟨H.out.1.later q1, Keeps.below _ _ _ q1⟩
  clear q1
  go_wp2_with fail
  refine (look_is L b rb mb xs vr (kI a) _ H1.out.1 H.out.2.1 hn (by have := H.out.2.2; unfold kI; omega) hx).mono ?_
  rintro e w2 ⟨rfl, vr', l2, k2⟩
  have H2 : Hid (Looks w2 b rb mb L (addR xs (kI a)) vr' ∧ Keeps w w2 b mb vr vr') := ⟨l2, H1.out.2.trans k2⟩
  clear l2 k2 H1
  go_wp2
  go_ret
  exact ⟨rfl, vr', H2.out.1, H2.out.2⟩
set_option maxRecDepth 100000 in
set_option maxHeartbeats 2000000 in
theorem l13Dir_is (L : Prs) (v : Value) (B : Nat) (a : Int) (w : World) (h : Row w B 2 L.length (rowL L) v) (hn : L.length ≤ 1048576) (ha : 0 ≤ a ∧ a ≤ 9) :
    Calls Tryz.prog 37 #[v, .int .i64 a] w fun e w' => e = .returned (.bool (dirB L a)) ∧ w' = w := by
  have H : Hid (Row w B 2 L.length (rowL L) v ∧ (0 ≤ a ∧ a ≤ 9)) := ⟨h, ha⟩
  obtain ⟨s, hs⟩ : ∃ s, lookF L (kI a) = s := ⟨_, rfl⟩
  obtain ⟨r, z⟩ := s
  have HS : Hid (lookF L (kI a) = (r, z)) := hs
  have HZ : Hid (r = false → z = 0) := fun e => by
    subst e
    unfold lookF at hs
    split at hs
    · simp at hs
    · simp at hs; exact hs.symm
  unfold dirB
  rw [hs]
  clear h ha hs
  go_enter Tryz.func37, Tryz.ntmps37
  go_wp2_with fail
  refine (ofI_is a H.out.2 _).mono ?_
  rintro e w9 ⟨rfl, hw9⟩
  obtain rfl := hw9.symm
  go_wp2_with fail
  refine (l11Value_any L v B (kI a) _ H.out.1 hn).mono ?_
  rintro e w9 ⟨rfl, hw9⟩
  obtain rfl := hw9.symm
  rw [HS.out]
  cases r with
  | true =>
    go_wp2
    go_ret
    exact ⟨rfl, rfl⟩
  | false =>
    obtain rfl := HZ.out rfl
    go_wp2
    go_ret
    exact ⟨rfl, rfl⟩
end Go.Proofs.YtbpppaolcgibnaaGreatDoor

namespace Go.Proofs.YtbpppaolcgibnaaGreatDoor
open Go.RowKit

/-- A reply, a value, what was read, what would be written (how many, and all their numbers). -/
abbrev PRf := Int × Int × List Int × Nat × List Int
def makeP (L : Prs) (kd d n : Int) (xs : List Int) : PRf :=
  if 1 ≤ (lookF L 0).2 ∧ (lookF L 0).2 ≤ 9 then (0, (lookF L 0).2, addR xs 0, 3, [0, 1, (lookF L 0).2 + 1, kI (lookF L 0).2, 1, if kd = 1 then 2001 else 1000, kE d n, 1, (lookF L 0).2]) else (2, 0, addR xs 0, 0, [])
def targetP (L : Prs) (td tn : Int) (xs : List Int) : Int × List Int :=
  if dirB L td = true then (if (lookF L (kE td tn)).1 = true then 6 else 0, addR (addR xs (kI td)) (kE td tn)) else (9, addR xs (kI td))
def emptyP (L : Prs) (c : Int) : Nat → Int → List Int → Bool × List Int
  | 0, _, xs => (true, xs)
  | j + 1, i, xs => if (lookF L (kE c i)).1 = true then (false, addR xs (kE c i)) else emptyP L c j (i + 1) (addR xs (kE c i))
def removeP (L : Prs) (d n c cv : Int) (xs : List Int) : PRf :=
  if cv = 1000 then (if (emptyP L c 6 0 xs).1 = true then (0, 0, (emptyP L c 6 0 xs).2, 2, [kE d n, 2, 0, kI c, 2, 0]) else (1, 0, (emptyP L c 6 0 xs).2, 0, []))
  else if 2001 < cv then (0, 0, xs, 2, [kE d n, 2, 0, kI c, 1, cv - 1]) else (0, 0, xs, 3, [kE d n, 2, 0, kI c, 2, 0, kB c, 2, 0])
def moveP (L : Prs) (d n td tn c cv : Int) (xs : List Int) : PRf :=
  if cv = 1000 ∧ td ≠ d then (10, 0, xs, 0, []) else if (targetP L td tn xs).1 = 0 then (0, 0, (targetP L td tn xs).2, 2, [kE d n, 2, 0, kE td tn, 1, c]) else ((targetP L td tn xs).1, 0, (targetP L td tn xs).2, 0, [])
def linkP (L : Prs) (td tn c cv : Int) (xs : List Int) : PRf :=
  if cv = 1000 then (9, 0, xs, 0, []) else if (targetP L td tn xs).1 = 0 then (if 2099 ≤ cv then (2, 0, (targetP L td tn xs).2, 0, []) else (0, 0, (targetP L td tn xs).2, 2, [kI c, 1, cv + 1, kE td tn, 1, c])) else ((targetP L td tn xs).1, 0, (targetP L td tn xs).2, 0, [])
def minC (ch : Int) : Int := if ch < 9 then ch else 9
def childP (L : Prs) (kd d n td tn vv ch : Int) (xs : List Int) : PRf :=
  if kd = 3 then removeP L d n (minC ch) (lookF L (kI (minC ch))).2 (addR xs (kI (minC ch)))
  else if kd = 4 then moveP L d n td tn (minC ch) (lookF L (kI (minC ch))).2 (addR xs (kI (minC ch)))
  else if kd = 5 then linkP L td tn (minC ch) (lookF L (kI (minC ch))).2 (addR xs (kI (minC ch)))
  else if kd = 8 then (0, (lookF L (kI (minC ch))).2, addR xs (kI (minC ch)), 0, [])
  else if (lookF L (kI (minC ch))).2 = 1000 then (9, 0, addR xs (kI (minC ch)), 0, [])
  else if kd = 6 then (0, 0, addR xs (kI (minC ch)), 1, [kB (minC ch), 1, vv])
  else (0, (lookF L (kB (minC ch))).2, addR (addR xs (kI (minC ch))) (kB (minC ch)), 0, [])
def replyP (L : Prs) (kd d n td tn vv : Int) : PRf :=
  if dirB L d = true then
    (if kd = 1 ∨ kd = 2 then (if (lookF L (kE d n)).1 = true then (6, 0, addR (addR [] (kI d)) (kE d n), 0, []) else makeP L kd d n (addR (addR [] (kI d)) (kE d n)))
    else if (lookF L (kE d n)).1 = true then childP L kd d n td tn vv (lookF L (kE d n)).2 (addR (addR [] (kI d)) (kE d n)) else (4, 0, addR (addR [] (kI d)) (kE d n), 0, []))
  else (9, 0, addR [] (kI d), 0, [])
/-- Six cells at a place of a block, none frozen. -/
def Blk6O (x : World) (b oo : Nat) (a0 a1 a2 a3 a4 a5 : Value) : Prop :=
  (x.cell? ⟨b, oo, none⟩ = some a0 ∧ x.cell? ⟨b, oo + 1, none⟩ = some a1 ∧ x.cell? ⟨b, oo + 2, none⟩ = some a2 ∧ x.cell? ⟨b, oo + 3, none⟩ = some a3 ∧ x.cell? ⟨b, oo + 4, none⟩ = some a4 ∧ x.cell? ⟨b, oo + 5, none⟩ = some a5) ∧ True
theorem Blk6O.lt {x : World} {b oo : Nat} {a0 a1 a2 a3 a4 a5 : Value} (h : Blk6O x b oo a0 a1 a2 a3 a4 a5) : b < x.heap.size := World.block_lt_of_cell? x _ h.1.1
theorem Blk6O.kept {x x' : World} {b oo : Nat} {a0 a1 a2 a3 a4 a5 : Value} (h : Blk6O x b oo a0 a1 a2 a3 a4 a5) (hb : x'.heap[b]? = x.heap[b]?) : Blk6O x' b oo a0 a1 a2 a3 a4 a5 := by
  obtain ⟨⟨h0, h1, h2, h3, h4, h5⟩, _⟩ := h
  exact ⟨⟨(World.cell?_of_block (w := x) (a := ⟨b, oo, none⟩) hb).trans h0, (World.cell?_of_block (w := x) (a := ⟨b, oo + 1, none⟩) hb).trans h1, (World.cell?_of_block (w := x) (a := ⟨b, oo + 2, none⟩) hb).trans h2, (World.cell?_of_block (w := x) (a := ⟨b, oo + 3, none⟩) hb).trans h3, (World.cell?_of_block (w := x) (a := ⟨b, oo + 4, none⟩) hb).trans h4, (World.cell?_of_block (w := x) (a := ⟨b, oo + 5, none⟩) hb).trans h5⟩, trivial⟩
theorem Blk6O.later {x x' : World} {b oo : Nat} {a0 a1 a2 a3 a4 a5 : Value} (h : Blk6O x b oo a0 a1 a2 a3 a4 a5) (hb : Below x.heap.size x x') : Blk6O x' b oo a0 a1 a2 a3 a4 a5 := h.kept (hb.block b h.lt)
theorem Blk6O.alloc {x : World} {b oo : Nat} {a0 a1 a2 a3 a4 a5 : Value} (h : Blk6O x b oo a0 a1 a2 a3 a4 a5) (o : Obj) : Blk6O (x.alloc o) b oo a0 a1 a2 a3 a4 a5 := h.later (below_alloc _ _)
theorem Blk6.toO {x : World} {b : Nat} {a0 a1 a2 a3 a4 a5 : Value} (h : Blk6 x b a0 a1 a2 a3 a4 a5) : Blk6O x b 0 a0 a1 a2 a3 a4 a5 := ⟨h.1, trivial⟩
/-- What stands while the model works on a plan: the view, the operation, all within their bounds. -/
def Ctx (w0 : World) (L : Prs) (y : Value) (bo oo : Nat) (kd d n td tn vv : Int) : Prop :=
  (Row w0 0 2 L.length (rowL L) y ∧ L.length ≤ 1000) ∧ Blk6O w0 bo oo (.int .i64 kd) (.int .i64 d) (.int .i64 n) (.int .i64 td) (.int .i64 tn) (.int .i64 vv) ∧ (∀ k, 0 ≤ (lookF L k).2 ∧ (lookF L k).2 ≤ 9999) ∧ (0 ≤ d ∧ d ≤ 9) ∧ (0 ≤ n ∧ n ≤ 5) ∧ (0 ≤ td ∧ td ≤ 9) ∧ (0 ≤ tn ∧ tn ≤ 5)
theorem Ctx.op {w0 w : World} {L : Prs} {y : Value} {bo oo : Nat} {kd d n td tn vv v : Int} {xs : List Int} {m : Nat} {W : List Int} (h : Ctx w0 L y bo oo kd d n td tn vv) (hs : StP w0 w v xs m W) : Blk6O w bo oo (.int .i64 kd) (.int .i64 d) (.int .i64 n) (.int .i64 td) (.int .i64 tn) (.int .i64 vv) := h.2.1.later hs.1
theorem addR_len (xs : List Int) (k : Int) : (addR xs k).length ≤ xs.length + 1 := by
  unfold addR
  split
  · omega
  · simp
theorem StP.value {w0 w : World} {v : Int} {xs : List Int} {m : Nat} {W : List Int} (h : StP w0 w v xs m W) (z : Int) : StP w0 (w.setCell ⟨w0.heap.size, 2, none⟩ (.int .i64 z)) z xs m W := by
  obtain ⟨h1, vr, vw, h2, h3⟩ := h
  have hi : OwnM w (w0.heap.size + 1) 2 1 vr xs.length xs := h3.1
  exact ⟨h1.setCell (Nat.le_refl _) _, vr, vw, h2.set2 _, OwnM.keptB hi (fun k hk => Below.heap_setCell w ⟨w0.heap.size, 2, none⟩ _ k (by have := (OwnM.block hi k hk).1; simp; omega)), OwnM.keptB h3.2.1 (fun k hk => Below.heap_setCell w ⟨w0.heap.size, 2, none⟩ _ k (by have := (OwnM.block h3.2.1 k hk).1; simp; omega)), h3.2.2⟩
abbrev opBO (x : World) (bo oo : Nat) (kd d n td tn vv : Int) : Prop := Blk6O x bo oo (.int .i64 kd) (.int .i64 d) (.int .i64 n) (.int .i64 td) (.int .i64 tn) (.int .i64 vv)
theorem StP.drew {w0 w : World} {v : Int} {xs : List Int} {m : Nat} {W : List Int} (h : StP w0 w v xs m W) : StP w0 w.drew v xs m W := h.later ⟨rfl, rfl, rfl, Nat.le_refl _, fun _ _ => rfl⟩
set_option maxRecDepth 100000 in
set_option maxHeartbeats 4000000 in
theorem l13Make_is (L : Prs) (y : Value) (bo oo : Nat) (kd d n td tn vv : Int) (w0 w : World) (xs : List Int) (hc : Ctx w0 L y bo oo kd d n td tn vv) (hs : StP w0 w 0 xs 0 []) (hx : xs.length ≤ 900) (r v : Int) (ys : List Int) (m : Nat) (W : List Int) (hp : makeP L kd d n xs = (r, v, ys, m, W)) :
    Calls Tryz.prog 104 #[.pointer (some ⟨w0.heap.size, 0, none⟩), y, .pointer (some ⟨bo, oo, none⟩)] w fun e w' => e = .returned (.int .i64 r) ∧ StP w0 w' v ys m W := by
  have HC : Hid (Ctx w0 L y bo oo kd d n td tn vv) := hc
  have HS : Hid (StP w0 w 0 xs 0 []) := hs
  have hl := hc.1.2
  obtain ⟨s, hsq⟩ : ∃ s, lookF L 0 = s := ⟨_, rfl⟩
  obtain ⟨sh, sz⟩ := s
  have HL : Hid (lookF L 0 = (sh, sz)) := hsq
  unfold makeP at hp
  rw [hsq] at hp
  clear hc hs hsq
  by_cases h1 : 1 ≤ sz ∧ sz ≤ 9
  case neg =>
    rw [if_neg h1] at hp
    simp only [Prod.mk.injEq] at hp
    obtain ⟨rfl, rfl, rfl, rfl, rfl⟩ := hp
    have D : Hid (decide (1 ≤ sz ∧ sz ≤ 9) = false) := decide_eq_false h1
    clear h1
    go_enter Tryz.func104, Tryz.ntmps104
    go_wp2_with fail
    refine (l13Read_is 0 L y w0 _ 0 xs 0 [] HC.out.1.1 (by omega) HS.out (by omega)).mono ?_
    rintro e w1 ⟨rfl, s1⟩
    have S1 : Hid (StP w0 w1 0 (addR xs 0) 0 []) := s1
    rw [HL.out]
    clear s1
    go_wp2_with fail
    refine (inT_is _ _ _ _ D.out _).mono ?_
    rintro e w9 ⟨rfl, hw9⟩
    obtain rfl := hw9.symm
    go_wp2
    go_ret
    exact ⟨rfl, S1.out⟩
  rw [if_pos h1] at hp
  simp only [Prod.mk.injEq] at hp
  obtain ⟨rfl, rfl, rfl, rfl, rfl⟩ := hp
  have D : Hid (decide (1 ≤ sz ∧ sz ≤ 9) = true) := decide_eq_true h1
  have hsz : Hid (0 ≤ sz ∧ sz ≤ 9) := ⟨by omega, h1.2⟩
  have h9 := h1.2
  have h8 := h1.1
  clear h1
  obtain ⟨kk, hkk⟩ : ∃ kk : Int, (if kd = 1 then (2001 : Int) else 1000) = kk := ⟨_, rfl⟩
  have HKK : Hid ((if kd = 1 then (2001 : Int) else 1000) = kk) := hkk
  rw [hkk]
  clear hkk
  go_enter Tryz.func104, Tryz.ntmps104
  go_wp2_with fail
  refine (l13Read_is 0 L y w0 _ 0 xs 0 [] HC.out.1.1 (by omega) HS.out (by omega)).mono ?_
  rintro e w1 ⟨rfl, s1⟩
  have S1 : Hid (StP w0 w1 0 (addR xs 0) 0 []) := s1
  rw [HL.out]
  obtain ⟨⟨o0, o1, o2, o3, o4, o5⟩, _⟩ := HC.out.op s1
  clear s1
  go_wp2_with fail
  refine (inT_is _ _ _ _ D.out _).mono ?_
  rintro e w9 ⟨rfl, hw9⟩
  obtain rfl := hw9.symm
  by_cases hk1 : kd = 1
  focus
    subst hk1
    obtain rfl : (2001 : Int) = kk := HKK.out
    clear HKK
  rotate_left
  focus
    have ek : (kd == 1) = false := beq_eq_false_iff_ne.2 hk1
    obtain rfl : (1000 : Int) = kk := (if_neg hk1).symm.trans HKK.out
    clear HKK hk1
  rotate_left
  all_goals
    go_wp2_with fail
    refine (l13Put_is 0 (sz + 1) w0 _ 0 (addR xs 0) 0 [] S1.out (by omega)).mono ?_
    rintro e w2 ⟨rfl, s2⟩
    have S2 : Hid (StP w0 w2 0 (addR xs 0) 1 [0, 1, sz + 1]) := s2
    clear s2 o0 o1 o2 o3 o4 o5
    go_wp2_with fail
    refine (ofI_is sz hsz.out _).mono ?_
    rintro e w9 ⟨rfl, hw9⟩
    obtain rfl := hw9.symm
    go_wp2_with fail
    refine (l13Put_is (kI sz) _ w0 _ 0 (addR xs 0) 1 _ S2.out (by omega)).mono ?_
    rintro e w3 ⟨rfl, s3⟩
    have S3 : Hid (StP w0 w3 0 (addR xs 0) 2 _) := s3
    clear s3
    go_upto_region 9 with fail
    refine wp_region_held_drew (S := fun X => opBO X bo oo _ d n td tn vv) (by kernel_rfl) (HC.out.op S3.out.drew) (fun hS => ?_)
    refine tkH 0 ?_ hS (fun wx hx => ?_) ?_; rotate_left
    · obtain ⟨⟨hx0, hx1, hx2, hx3, hx4, hx5⟩, _⟩ := hx; go_simp; try with_reducible rfl
    refine tkH 1 ?_ hS (fun wx hx => ?_) ?_; rotate_left
    · obtain ⟨⟨hx0, hx1, hx2, hx3, hx4, hx5⟩, _⟩ := hx; go_simp; try with_reducible rfl
    refine tkH 2 ?_ hS (fun wx hx => ?_) ?_; rotate_left
    · obtain ⟨⟨hx0, hx1, hx2, hx3, hx4, hx5⟩, _⟩ := hx; go_simp; try with_reducible rfl
    refine tkH 3 ?_ hS (fun wx hx => ?_) ?_; rotate_left
    · obtain ⟨⟨hx0, hx1, hx2, hx3, hx4, hx5⟩, _⟩ := hx; go_simp; try with_reducible rfl
    refine tkH 4 ?_ hS (fun wx hx => ?_) ?_; rotate_left
    · obtain ⟨⟨hx0, hx1, hx2, hx3, hx4, hx5⟩, _⟩ := hx; go_simp; try with_reducible rfl
    refine tkH 5 ?_ hS (fun wx hx => ?_) ?_; rotate_left
    · obtain ⟨⟨hx0, hx1, hx2, hx3, hx4, hx5⟩, _⟩ := hx; go_simp; try with_reducible rfl
    refine tkH 6 ?_ hS (fun wx hx => ?_) ?_; rotate_left
    · obtain ⟨⟨hx0, hx1, hx2, hx3, hx4, hx5⟩, _⟩ := hx; go_simp; try with_reducible rfl
    refine tkH 7 ?_ hS (fun wx hx => ?_) ?_; rotate_left
    · obtain ⟨⟨hx0, hx1, hx2, hx3, hx4, hx5⟩, _⟩ := hx; go_simp; try with_reducible rfl
    refine tkH 8 ?_ hS (fun wx hx => ?_) ?_; rotate_left
    · obtain ⟨⟨hx0, hx1, hx2, hx3, hx4, hx5⟩, _⟩ := hx; go_simp; try with_reducible rfl
    refine tkH 10 ?_ hS (fun wx hx => ?_) ?_; rotate_left
    · obtain ⟨⟨hx0, hx1, hx2, hx3, hx4, hx5⟩, _⟩ := hx; go_simp; try with_reducible rfl
    refine rdH 9 (fun K hK => ?_)
    go_simp
    go_wp2_with fail
    refine (ofE_is d n HC.out.2.2.2.1 HC.out.2.2.2.2.1 _).mono ?_
    rintro e w9 ⟨rfl, hw9⟩
    obtain rfl := hw9.symm
    go_wp2_with fail
    refine hK.out _ _ hS (fun hS => ?_)
    clear hK K
    refine rdH 11 (fun K hK => ?_)
    go_simp
    go_wp2_with fail
    refine (l13Put_is (kE d n) sz w0 _ 0 (addR xs 0) 2 _ (StP.drew S3.out) (by omega)).mono ?_
    rintro e w4 ⟨rfl, s4⟩
    have S4 : Hid (StP w0 w4 0 (addR xs 0) 3 _) := s4
    have hS4 := HC.out.op s4
    clear s4
    go_wp2_with fail
    refine hK.out _ _ hS4 (fun hS => ?_)
    clear hK K
    refine wpAnyH_done (by kernel_rfl) ?_ _
    go_simp
    obtain ⟨q0, vr, vw, ⟨⟨c0, c1, c2, c3, c4⟩, f0, f1, f2, f3, f4⟩, _⟩ := S4.out
    go_wp2
    go_ret
    exact ⟨rfl, S4.out.value sz⟩
end Go.Proofs.YtbpppaolcgibnaaGreatDoor

