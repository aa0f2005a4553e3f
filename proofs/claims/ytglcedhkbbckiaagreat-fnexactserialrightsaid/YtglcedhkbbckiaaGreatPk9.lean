/-
  Own text, merged of TxsB, OrcB, WldE, WldF, TxsC, WldM, AcmC, AtoA, AtoB, WldN, LivA, AtoC, PaiR, PaiH.
-/
import Derived.Test.YtglcedhkbbckiaaGreatPk8
namespace Go.Proofs.YtglcedhkbbckiaaGreat
open Go.RowKit

def sizeX (T : Nat → Tx) (i : Nat) : Nat := (T i).m
def SxAns (n : Nat) (T : Nat → Tx) (left r : Int) : Prop := r = -1 ∨ (0 ≤ r ∧ n ≤ 1048576 ∧ ((sumN (sizeX T) n : Nat) : Int) ≤ left ∧ ∀ i, i < n → (T i).m ≤ 1048576)
set_option maxRecDepth 100000 in
set_option maxHeartbeats 4000000 in
theorem szTxnS_any (n : Nat) (T : Nat → Tx) (V : Nat → Value) (v : Value) (B : Nat) (left : Int) (w : World) (h : Txs w B n T V v) (hn : n ≤ 9223372036854775807) (hs : ∀ i, i < n → (T i).m ≤ 9223372036854775807) (h0 : 0 ≤ left) (h2 : left ≤ 1048576) :
    Calls Tryz.prog 30 #[v, .int .i64 left] w fun e w' => ∃ r, e = .returned (.int .i64 r) ∧ SxAns n T left r ∧ Below w.heap.size w w' := by
  obtain ⟨ao, cp, rfl⟩ := h.form
  have H : Hid (Txs w B n T V (.slice ao n cp)) := h
  have HN : Hid (∀ i, i < n → (T i).m ≤ 9223372036854775807) := hs
  clear h hs
  by_cases hl : left < n
  · have d : decide (left - n < 0) = true := decide_eq_true (by omega)
    go_enter Tryz.func30, Tryz.ntmps30
    go_wp2
    go_ret
    exact ⟨-1, rfl, Or.inl rfl, Below.refl _ _⟩
  have d : decide (left - n < 0) = false := decide_eq_false (by omega)
  go_enter Tryz.func30, Tryz.ntmps30
  go_wp2
  go_loopw [1, 5] (fun j i wr => ∃ (k : Nat) (L : Int), k ≤ n ∧ j = .int .i64 L ∧ i = .int .i64 k ∧ Hid ((0 ≤ L ∧ L + (sumN (sizeX T) k : Nat) ≤ left) ∧ ∀ i, i < k → (T i).m ≤ 1048576) ∧ Hid (Below w.heap.size w wr)) (fun _ i _ => n - (intOf i).toNat)
  case atStart => exact ⟨0, left - n, Nat.zero_le _, rfl, rfl, ⟨by simp only [sumN]; omega, fun i hi => absurd hi (Nat.not_lt_zero i)⟩, Below.refl _ _⟩
  case round =>
    obtain ⟨k, L, hk, rfl, rfl, hL, hR⟩ := hrel
    by_cases hlt : k < n
    · obtain ⟨g, o, rfl, _, hg, ⟨c0, c1, c2, c3, c4, c5⟩, rk, _⟩ := H.out.at hlt
      have b0 := (hR.out.cell (p := ⟨g, o + k * 6, none⟩) hg).trans c0
      have b1 := (hR.out.cell (p := ⟨g, o + k * 6 + 1, none⟩) hg).trans c1
      have b2 := (hR.out.cell (p := ⟨g, o + k * 6 + 2, none⟩) hg).trans c2
      have b3 := (hR.out.cell (p := ⟨g, o + k * 6 + 3, none⟩) hg).trans c3
      have b4 := (hR.out.cell (p := ⟨g, o + k * 6 + 4, none⟩) hg).trans c4
      have b5 := (hR.out.cell (p := ⟨g, o + k * 6 + 5, none⟩) hg).trans c5
      obtain ⟨a1, d1, e1⟩ := rk.form
      rw [e1] at b5
      clear c0 c1 c2 c3 c4 c5 rk e1
      have hB : Hid ((T k).m ≤ 9223372036854775807) := HN.out k hlt
      obtain ⟨t0, ht⟩ : ∃ t, T k = t := ⟨_, rfl⟩
      have HK : Hid (T k = t0) := ht
      rw [ht] at b0 b1 b2 b3 b4 b5 hB
      obtain ⟨s', c', u', st', a', m', L'⟩ := t0
      clear ht
      by_cases hfit : (m' : Int) ≤ L
      · go_wp2_with fail
        refine (szTxn_ok _ _ _ _ _ _ _ _ _ _ hfit (by have := hL.out.1; omega)).mono ?_
        rintro e w1 ⟨rfl, q1⟩
        have HB : Hid (Below w.heap.size w w1) := hR.out.trans (q1.mono hR.out.size)
        have dd : decide (L - m' < 0) = false := decide_eq_false (by omega)
        clear q1 hR b0 b1 b2 b3 b4 b5
        go_wp2
        go_roundw
        case rel =>
          have hst : sumN (sizeX T) (k + 1) = sumN (sizeX T) k + m' := by show sumN (sizeX T) k + (T k).m = _; rw [HK.out]
          refine ⟨k + 1, L - m', by omega, by go_num, by go_num, ⟨by have := hL.out.1; rw [hst]; omega, fun i hi => ?_⟩, HB⟩
          by_cases q : i = k
          · subst q
            have h1 := hL.out.1
            rw [HK.out]
            show m' ≤ 1048576
            omega
          · exact hL.out.2 i (by omega)
        case measure => simp [intOf]; omega
      · go_wp2_with fail
        refine (szTxn_no _ _ _ _ _ _ _ _ _ _ (by omega) hL.out.1.1 (by have := hL.out.1; omega) hB.out).mono ?_
        rintro e w1 ⟨rfl, q1⟩
        have HB : Hid (Below w.heap.size w w1) := hR.out.trans (q1.mono hR.out.size)
        clear q1 hR b0 b1 b2 b3 b4 b5
        go_wp2
        go_ret
        exact ⟨-1, rfl, Or.inl rfl, HB.out⟩
    · obtain rfl : k = n := by omega
      go_wp2
      go_ret
      exact ⟨L, rfl, Or.inr ⟨hL.out.1.1, by omega, by have := hL.out.1; omega, hL.out.2⟩, hR.out⟩
/-- Two transactions at a place. -/
def Two6 (w : World) (g o g' o' k : Nat) (t : Tx) (u u' : Value) (x : World) : Prop :=
  Below w.heap.size w x ∧ (x.cell? ⟨g, o + k * 6, none⟩ = some (.int .i64 t.s) ∧ x.cell? ⟨g, o + k * 6 + 1, none⟩ = some (.int .i64 t.c) ∧ x.cell? ⟨g, o + k * 6 + 2, none⟩ = some (.int .i64 t.u) ∧ x.cell? ⟨g, o + k * 6 + 3, none⟩ = some (.int .i64 t.st) ∧ x.cell? ⟨g, o + k * 6 + 4, none⟩ = some (.int .i64 t.a) ∧ x.cell? ⟨g, o + k * 6 + 5, none⟩ = some u) ∧
    (x.cell? ⟨g', o' + k * 6, none⟩ = some (.int .i64 t.s) ∧ x.cell? ⟨g', o' + k * 6 + 1, none⟩ = some (.int .i64 t.c) ∧ x.cell? ⟨g', o' + k * 6 + 2, none⟩ = some (.int .i64 t.u) ∧ x.cell? ⟨g', o' + k * 6 + 3, none⟩ = some (.int .i64 t.st) ∧ x.cell? ⟨g', o' + k * 6 + 4, none⟩ = some (.int .i64 t.a) ∧ x.cell? ⟨g', o' + k * 6 + 5, none⟩ = some u') ∧ g < x.heap.size ∧ g' < x.heap.size
theorem Two6.later {w : World} {g o g' o' k : Nat} {t : Tx} {u u' : Value} {x x' : World} (h : Two6 w g o g' o' k t u u' x) (hb : Below x.heap.size x x') : Two6 w g o g' o' k t u u' x' := by
  obtain ⟨h0, ⟨a0, a1, a2, a3, a4, a5⟩, ⟨b0, b1, b2, b3, b4, b5⟩, hg, hg'⟩ := h
  have k1 : ∀ p, x'.cell? ⟨g, p, none⟩ = x.cell? ⟨g, p, none⟩ := fun p => hb.cell (p := ⟨g, p, none⟩) hg
  have k2 : ∀ p, x'.cell? ⟨g', p, none⟩ = x.cell? ⟨g', p, none⟩ := fun p => hb.cell (p := ⟨g', p, none⟩) hg'
  exact ⟨h0.trans (hb.mono h0.size), ⟨(k1 _).trans a0, (k1 _).trans a1, (k1 _).trans a2, (k1 _).trans a3, (k1 _).trans a4, (k1 _).trans a5⟩, ⟨(k2 _).trans b0, (k2 _).trans b1, (k2 _).trans b2, (k2 _).trans b3, (k2 _).trans b4, (k2 _).trans b5⟩, Nat.lt_of_lt_of_le hg hb.size, Nat.lt_of_lt_of_le hg' hb.size⟩
set_option maxRecDepth 100000 in
set_option maxHeartbeats 4000000 in
theorem eqTxnS_same (n : Nat) (T : Nat → Tx) (V U : Nat → Value) (va vb : Value) (Ba Bb : Nat) (w : World) (ha : Txs w Ba n T V va) (hb : Txs w Bb n T U vb) (hn : n ≤ 1048576) (hs : ∀ i, i < n → (T i).m ≤ 1048576) :
    Calls Tryz.prog 40 #[va, vb] w fun e w' => e = .returned (.bool true) ∧ Below w.heap.size w w' := by
  obtain ⟨ao, cp, rfl⟩ := ha.form
  obtain ⟨ao', cp', rfl⟩ := hb.form
  have H : Hid (Txs w Ba n T V (.slice ao n cp)) := ha
  have H' : Hid (Txs w Bb n T U (.slice ao' n cp')) := hb
  have HN : Hid (∀ i, i < n → (T i).m ≤ 1048576) := hs
  clear ha hb hs
  go_enter Tryz.func40, Tryz.ntmps40
  go_wp2
  go_loopw [5] (fun i wr => ∃ k : Nat, k ≤ n ∧ i = .int .i64 k ∧ Hid (Below w.heap.size w wr)) (fun i _ => n - (intOf i).toNat)
  case atStart => exact ⟨0, Nat.zero_le _, rfl, Below.refl _ _⟩
  case round =>
    obtain ⟨k, hk, rfl, hR⟩ := hrel
    by_cases hlt : k < n
    · obtain ⟨g, o, rfl, _, hg, hc, rk, _⟩ := (H.out.later hR.out).at hlt
      obtain ⟨g', o', rfl, _, hg', hc', rk', _⟩ := (H'.out.later hR.out).at hlt
      obtain ⟨a1, d1, e1⟩ := rk.form
      obtain ⟨a1', d1', e1'⟩ := rk'.form
      rw [e1] at hc rk
      rw [e1'] at hc' rk'
      have hN : Hid ((T k).m ≤ 1048576) := HN.out k hlt
      obtain ⟨t0, ht⟩ : ∃ t, T k = t := ⟨_, rfl⟩
      rw [ht] at hc hc' rk rk' hN
      have SK : Hid (Row wr Ba 3 t0.m t0.L (.slice a1 t0.m d1) ∧ Row wr Bb 3 t0.m t0.L (.slice a1' t0.m d1')) := ⟨rk, rk'⟩
      have TT : Hid (Two6 w g o g' o' k t0 (.slice a1 t0.m d1) (.slice a1' t0.m d1') wr) := ⟨hR.out, hc, hc', hg, hg'⟩
      obtain ⟨s', c', u', st', a', m', L'⟩ := t0
      clear ht rk rk' hc hc' hg hg' e1 e1'
      go_wp2_with fail
      refine wp_region_held_drew (S := Two6 w g o g' o' k ⟨s', c', u', st', a', m', L'⟩ (.slice a1 m' d1) (.slice a1' m' d1')) (by kernel_rfl) (TT.out.later (Below.drew (Below.refl _ _))) (fun hS => ?_)
      refine tkH 0 ?_ hS (fun wx hx => ?_) ?_; rotate_left
      · obtain ⟨_, ⟨hx0, hx1, hx2, hx3, hx4, hx5⟩, ⟨hy0, hy1, hy2, hy3, hy4, hy5⟩, _⟩ := hx; go_simp; try with_reducible rfl
      refine tkH 1 ?_ hS (fun wx hx => ?_) ?_; rotate_left
      · obtain ⟨_, ⟨hx0, hx1, hx2, hx3, hx4, hx5⟩, ⟨hy0, hy1, hy2, hy3, hy4, hy5⟩, _⟩ := hx; go_simp; try with_reducible rfl
      refine tkH 2 ?_ hS (fun wx hx => ?_) ?_; rotate_left
      · obtain ⟨_, ⟨hx0, hx1, hx2, hx3, hx4, hx5⟩, ⟨hy0, hy1, hy2, hy3, hy4, hy5⟩, _⟩ := hx; go_simp; try with_reducible rfl
      refine tkH 3 ?_ hS (fun wx hx => ?_) ?_; rotate_left
      · obtain ⟨_, ⟨hx0, hx1, hx2, hx3, hx4, hx5⟩, ⟨hy0, hy1, hy2, hy3, hy4, hy5⟩, _⟩ := hx; go_simp; try with_reducible rfl
      refine tkH 4 ?_ hS (fun wx hx => ?_) ?_; rotate_left
      · obtain ⟨_, ⟨hx0, hx1, hx2, hx3, hx4, hx5⟩, ⟨hy0, hy1, hy2, hy3, hy4, hy5⟩, _⟩ := hx; go_simp; try with_reducible rfl
      refine tkH 5 ?_ hS (fun wx hx => ?_) ?_; rotate_left
      · obtain ⟨_, ⟨hx0, hx1, hx2, hx3, hx4, hx5⟩, ⟨hy0, hy1, hy2, hy3, hy4, hy5⟩, _⟩ := hx; go_simp; try with_reducible rfl
      refine tkH 6 ?_ hS (fun wx hx => ?_) ?_; rotate_left
      · obtain ⟨_, ⟨hx0, hx1, hx2, hx3, hx4, hx5⟩, ⟨hy0, hy1, hy2, hy3, hy4, hy5⟩, _⟩ := hx; go_simp; try with_reducible rfl
      refine tkH 7 ?_ hS (fun wx hx => ?_) ?_; rotate_left
      · obtain ⟨_, ⟨hx0, hx1, hx2, hx3, hx4, hx5⟩, ⟨hy0, hy1, hy2, hy3, hy4, hy5⟩, _⟩ := hx; go_simp; try with_reducible rfl
      refine rdH 8 (fun K hK => ?_)
      go_simp
      go_wp2_with fail
      refine (eqTxn_same s' c' u' st' a' m' L' _ _ Ba Bb _ (SK.out.1.later (below_dr (Below.refl _ _) 1)) (SK.out.2.later (below_dr (Below.refl _ _) 1)) hN.out).mono ?_
      rintro e w1 ⟨rfl, q1⟩
      have hS' := hS.later q1
      clear q1
      go_wp2_with fail
      refine hK.out _ _ hS' (fun hS => ?_)
      clear hK K hS' TT
      refine tkH 9 ?_ hS (fun wx hx => ?_) ?_; rotate_left
      · obtain ⟨_, ⟨hx0, hx1, hx2, hx3, hx4, hx5⟩, ⟨hy0, hy1, hy2, hy3, hy4, hy5⟩, _⟩ := hx; go_simp; try with_reducible rfl
      refine wpAnyH_done (by kernel_rfl) ?_ _
      have HB : Hid (Below w.heap.size w w1) := hS.1
      clear hS hR SK
      go_simp
      go_wp2
      go_roundw
      case rel => exact ⟨k + 1, by omega, by go_num, HB⟩
      case measure => simp [intOf]; omega
    · obtain rfl : k = n := by omega
      go_wp2
      go_ret
      exact ⟨rfl, hR.out⟩
end Go.Proofs.YtglcedhkbbckiaaGreat

namespace Go.Proofs.YtglcedhkbbckiaaGreat
open Go.RowKit

theorem toOracle_any (a b : Int) (w : World) :
    Calls Tryz.prog 33 #[.agg #[.int .i64 a, .int .i64 b]] w fun e w' => e = .returned (.agg #[.int .i64 a, .int .i64 b]) ∧ Below w.heap.size w w' := by
  go_enter Tryz.func33, Tryz.ntmps33
  go_wp2
  exact bodyPost_ret (v := .agg #[.int .i64 a, .int .i64 b]) (by simp [results, Tryz.results33, go_sem]) rfl ⟨rfl, by repeat (first | exact Below.refl _ _ | refine Below.setCell ?_ (by first | omega | (simp <;> omega)) _ | refine Below.alloc ?_ (by first | omega | (simp <;> omega)) _)⟩
theorem eqOracle_same (a b : Int) (w : World) :
    Calls Tryz.prog 38 #[.agg #[.int .i64 a, .int .i64 b], .agg #[.int .i64 a, .int .i64 b]] w fun e w' => e = .returned (.bool true) ∧ w' = (w.alloc (.cells #[.int .i64 a, .int .i64 b] 35)).alloc (.cells #[.int .i64 a, .int .i64 b] 35) := by
  go_enter Tryz.func38, Tryz.ntmps38
  go_wp2
  go_ret
  exact ⟨rfl, rfl⟩
end Go.Proofs.YtglcedhkbbckiaaGreat

namespace Go.Proofs.YtglcedhkbbckiaaGreat
open Go.RowKit

theorem setCell_otherE {x : World} {b i j : Nat} {u v : Value} (hn : i ≠ j) (h : x.cell? ⟨b, i, none⟩ = some u) : (x.setCell ⟨b, j, none⟩ v).cell? ⟨b, i, none⟩ = some u := (World.cell?_setCell_other _ _ _ _ (fun e => hn (congrArg Addr.off e).symm)).trans h
theorem Blk6.put0 {x : World} {b : Nat} {a0 a1 a2 a3 a4 a5 : Value} (h : Blk6 x b a0 a1 a2 a3 a4 a5) (c0 : Value) : Blk6 (x.setCell ⟨b, 0, none⟩ c0) b c0 a1 a2 a3 a4 a5 := by
  obtain ⟨⟨h0, h1, h2, h3, h4, h5⟩, f0, f1, f2, f3, f4, f5⟩ := h
  refine ⟨⟨?_, ?_, ?_, ?_, ?_, ?_⟩, by simpa using f0, by simpa using f1, by simpa using f2, by simpa using f3, by simpa using f4, by simpa using f5⟩
  · exact World.cell?_setCell_same _ _ _ h0
  · exact setCell_otherE (by decide) h1
  · exact setCell_otherE (by decide) h2
  · exact setCell_otherE (by decide) h3
  · exact setCell_otherE (by decide) h4
  · exact setCell_otherE (by decide) h5
theorem Blk6.put12 {x : World} {b : Nat} {a0 a1 a2 a3 a4 a5 : Value} (h : Blk6 x b a0 a1 a2 a3 a4 a5) (c1 c2 : Value) : Blk6 ((x.setCell ⟨b, 1, none⟩ c1).setCell ⟨b, 2, none⟩ c2) b a0 c1 c2 a3 a4 a5 := by
  obtain ⟨⟨h0, h1, h2, h3, h4, h5⟩, f0, f1, f2, f3, f4, f5⟩ := h
  refine ⟨⟨?_, ?_, ?_, ?_, ?_, ?_⟩, by simpa using f0, by simpa using f1, by simpa using f2, by simpa using f3, by simpa using f4, by simpa using f5⟩
  · exact setCell_otherE (by decide) (setCell_otherE (by decide) h0)
  · exact setCell_otherE (by decide) (World.cell?_setCell_same _ _ _ h1)
  · exact World.cell?_setCell_same _ _ _ (setCell_otherE (by decide) h2)
  · exact setCell_otherE (by decide) (setCell_otherE (by decide) h3)
  · exact setCell_otherE (by decide) (setCell_otherE (by decide) h4)
  · exact setCell_otherE (by decide) (setCell_otherE (by decide) h5)
theorem Blk6.put34 {x : World} {b : Nat} {a0 a1 a2 a3 a4 a5 : Value} (h : Blk6 x b a0 a1 a2 a3 a4 a5) (c3 c4 : Value) : Blk6 ((x.setCell ⟨b, 3, none⟩ c3).setCell ⟨b, 4, none⟩ c4) b a0 a1 a2 c3 c4 a5 := by
  obtain ⟨⟨h0, h1, h2, h3, h4, h5⟩, f0, f1, f2, f3, f4, f5⟩ := h
  refine ⟨⟨?_, ?_, ?_, ?_, ?_, ?_⟩, by simpa using f0, by simpa using f1, by simpa using f2, by simpa using f3, by simpa using f4, by simpa using f5⟩
  · exact setCell_otherE (by decide) (setCell_otherE (by decide) h0)
  · exact setCell_otherE (by decide) (setCell_otherE (by decide) h1)
  · exact setCell_otherE (by decide) (setCell_otherE (by decide) h2)
  · exact setCell_otherE (by decide) (World.cell?_setCell_same _ _ _ h3)
  · exact World.cell?_setCell_same _ _ _ (setCell_otherE (by decide) h4)
  · exact setCell_otherE (by decide) (setCell_otherE (by decide) h5)
theorem Blk6.putAll {x : World} {b : Nat} {a0 a1 a2 a3 a4 a5 : Value} (h : Blk6 x b a0 a1 a2 a3 a4 a5) (c0 c1 c2 c3 c4 c5 : Value) : Blk6 ((((((x.setCell ⟨b, 0, none⟩ c0).setCell ⟨b, 1, none⟩ c1).setCell ⟨b, 2, none⟩ c2).setCell ⟨b, 3, none⟩ c3).setCell ⟨b, 4, none⟩ c4).setCell ⟨b, 5, none⟩ c5) b c0 c1 c2 c3 c4 c5 := by
  obtain ⟨⟨h0, h1, h2, h3, h4, h5⟩, f0, f1, f2, f3, f4, f5⟩ := h
  refine ⟨⟨?_, ?_, ?_, ?_, ?_, ?_⟩, by simpa using f0, by simpa using f1, by simpa using f2, by simpa using f3, by simpa using f4, by simpa using f5⟩
  · exact setCell_otherE (by decide) (setCell_otherE (by decide) (setCell_otherE (by decide) (setCell_otherE (by decide) (setCell_otherE (by decide) (World.cell?_setCell_same _ _ _ h0)))))
  · exact setCell_otherE (by decide) (setCell_otherE (by decide) (setCell_otherE (by decide) (setCell_otherE (by decide) (World.cell?_setCell_same _ _ _ (setCell_otherE (by decide) h1)))))
  · exact setCell_otherE (by decide) (setCell_otherE (by decide) (setCell_otherE (by decide) (World.cell?_setCell_same _ _ _ (setCell_otherE (by decide) (setCell_otherE (by decide) h2)))))
  · exact setCell_otherE (by decide) (setCell_otherE (by decide) (World.cell?_setCell_same _ _ _ (setCell_otherE (by decide) (setCell_otherE (by decide) (setCell_otherE (by decide) h3)))))
  · exact setCell_otherE (by decide) (World.cell?_setCell_same _ _ _ (setCell_otherE (by decide) (setCell_otherE (by decide) (setCell_otherE (by decide) (setCell_otherE (by decide) h4)))))
  · exact World.cell?_setCell_same _ _ _ (setCell_otherE (by decide) (setCell_otherE (by decide) (setCell_otherE (by decide) (setCell_otherE (by decide) (setCell_otherE (by decide) h5)))))

theorem Blk6.farE {x : World} {b : Nat} {a0 a1 a2 a3 a4 a5 : Value} (h : Blk6 x b a0 a1 a2 a3 a4 a5) {p : Addr} (hp : b ≠ p.block) (u : Value) : Blk6 (x.setCell p u) b a0 a1 a2 a3 a4 a5 := h.kept (Below.heap_setCell x p u b hp)
set_option maxRecDepth 100000 in
set_option maxHeartbeats 4000000 in
theorem eqWorldT_same (nw nx bd : Int) (nr : Nat) (F : Nat → Int) (n : Nat) (S : Nat → Sto) (V U : Nat → Nat → Value) (ra : Option Addr) (rc : Nat) (sa : Option Addr) (sc : Nat) (qa : Option Addr) (qc : Nat) (pa : Option Addr) (pc : Nat) (nt : Nat) (T : Nat → Tx) (X Y : Nat → Value) (ta : Option Addr) (tc : Nat) (ya : Option Addr) (yc : Nat) (B B' : Nat) (w : World) (h : Grs w B nr F n S V (.slice ra nr rc) (.slice sa n sc)) (h' : Grs w B' nr F n S U (.slice qa nr qc) (.slice pa n pc)) (ht : Txs w B nt T X (.slice ta nt tc)) (ht' : Txs w B' nt T Y (.slice ya nt yc)) (hs : nr ≤ 1048576 ∧ n ≤ 1048576 ∧ ∀ i, i < n → SmallS (S i)) (hx : nt ≤ 1048576 ∧ ∀ i, i < nt → (T i).m ≤ 1048576) :
    Calls Tryz.prog 13 #[.agg #[.int .i64 nw, .int .i64 nx, .int .i64 bd, .slice ra nr rc, .slice sa n sc, .slice ta nt tc], .agg #[.int .i64 nw, .int .i64 nx, .int .i64 bd, .slice qa nr qc, .slice pa n pc, .slice ya nt yc]] w fun e w' => e = .returned (.bool true) ∧ Below w.heap.size w w' := by
  have H : Hid (Grs w B nr F n S V (.slice ra nr rc) (.slice sa n sc) ∧ Grs w B' nr F n S U (.slice qa nr qc) (.slice pa n pc)) := ⟨h, h'⟩
  have HX : Hid (Txs w B nt T X (.slice ta nt tc) ∧ Txs w B' nt T Y (.slice ya nt yc)) := ⟨ht, ht'⟩
  have HN : Hid ((nr ≤ 1048576 ∧ n ≤ 1048576 ∧ ∀ i, i < n → SmallS (S i)) ∧ (nt ≤ 1048576 ∧ ∀ i, i < nt → (T i).m ≤ 1048576)) := ⟨hs, hx⟩
  clear h h' hs ht ht' hx
  go_enter Tryz.func13, Tryz.ntmps13
  go_wp2_with fail
  refine (eqOracle_same nx bd _).mono ?_
  rintro e w1 ⟨rfl, hw1⟩
  have q1 : Below w.heap.size w w1 := by
    rw [hw1]
    exact ((((Below.refl w.heap.size w).alloc (Nat.le_refl _) _).alloc (by simp) _).alloc (by simp; omega) _).alloc (by simp; omega) _
  have B0 : Hid (Blk6 w1 w.heap.size (.int .i64 nw) (.int .i64 nx) (.int .i64 bd) (.slice ra nr rc) (.slice sa n sc) (.slice ta nt tc) ∧ Blk6 w1 (w.heap.size + 1) (.int .i64 nw) (.int .i64 nx) (.int .i64 bd) (.slice qa nr qc) (.slice pa n pc) (.slice ya nt yc)) := by
    have k := Blk6.new w (.int .i64 nw) (.int .i64 nx) (.int .i64 bd) (.slice ra nr rc) (.slice sa n sc) (.slice ta nt tc) 42
    have k' := Blk6.new (w.alloc (.cells #[.int .i64 nw, .int .i64 nx, .int .i64 bd, .slice ra nr rc, .slice sa n sc, .slice ta nt tc] 42)) (.int .i64 nw) (.int .i64 nx) (.int .i64 bd) (.slice qa nr qc) (.slice pa n pc) (.slice ya nt yc) 42
    rw [World.size_alloc] at k'
    rw [hw1]
    exact ⟨((k.later (below_alloc _ _)).later (below_alloc _ _)).later (below_alloc _ _), (k'.later (below_alloc _ _)).later (below_alloc _ _)⟩
  have Q1 : Hid (Below w.heap.size w w1) := q1
  clear hw1 q1
  obtain ⟨⟨⟨s0, s1, s2, s3, s4, s5⟩, _⟩, ⟨t0, t1, t2, t3, t4, t5⟩, _⟩ := B0.out
  go_wp2_with fail
  refine (eqGroups_same nr F n S V U _ _ _ _ B B' _ (H.out.1.later Q1.out) (H.out.2.later Q1.out) HN.out.1.1 HN.out.1.2.1 HN.out.1.2.2).mono ?_
  rintro e w2 ⟨rfl, q2⟩
  have Q : Hid (Below w.heap.size w w2) := Q1.out.trans (q2.mono Q1.out.size)
  have B2 : Hid (Blk6 w2 w.heap.size (.int .i64 nw) (.int .i64 nx) (.int .i64 bd) (.slice ra nr rc) (.slice sa n sc) (.slice ta nt tc) ∧ Blk6 w2 (w.heap.size + 1) (.int .i64 nw) (.int .i64 nx) (.int .i64 bd) (.slice qa nr qc) (.slice pa n pc) (.slice ya nt yc)) := ⟨B0.out.1.later q2, B0.out.2.later q2⟩
  clear s0 s1 s2 s3 s4 s5 t0 t1 t2 t3 t4 t5 q2 Q1 B0
  obtain ⟨⟨⟨s0, s1, s2, s3, s4, s5⟩, _⟩, ⟨t0, t1, t2, t3, t4, t5⟩, _⟩ := B2.out
  go_wp2_with fail
  refine (eqTxnS_same nt T X Y _ _ B B' _ (HX.out.1.later Q.out) (HX.out.2.later Q.out) HN.out.2.1 HN.out.2.2).mono ?_
  rintro e w3 ⟨rfl, q3⟩
  have Q3 : Hid (Below w.heap.size w w3) := Q.out.trans (q3.mono Q.out.size)
  clear q3 Q s0 s1 s2 s3 s4 s5 t0 t1 t2 t3 t4 t5 B2
  go_wp2
  go_ret
  exact ⟨rfl, Q3.out⟩
/-- A world that a call has laid: groups and transactions, each in blocks of its own. -/
def NewWd (w : World) (nw nx bd : Int) (nr : Nat) (F : Nat → Int) (n : Nat) (S : Nat → Sto) (nt : Nat) (T : Nat → Tx) (e : Ending) (w' : World) : Prop :=
  ∃ ra rc g U z gt Y zt, e = .returned (.agg #[.int .i64 nw, .int .i64 nx, .int .i64 bd, .slice ra nr rc, .slice (some ⟨g, 0, none⟩) n n, .slice (some ⟨gt, 0, none⟩) nt nt]) ∧ FineG w' w.heap.size nr F n S ra rc g U z ∧ (z n ≤ gt ∧ gt < w'.heap.size ∧ FillT w' gt nt nt T Y ∧ FineT w' zt nt T Y ∧ zt 0 = gt + 1 ∧ (∀ i, i ≤ nt → gt < zt i) ∧ zt nt ≤ w'.heap.size) ∧ Below w.heap.size w w'
end Go.Proofs.YtglcedhkbbckiaaGreat

namespace Go.Proofs.YtglcedhkbbckiaaGreat
open Go.RowKit

/-- The three blocks of toWorld: the box, the answer, what is laid. -/
def ToW (w : World) (v0 v1 v2 v3 v4 v5 u0 u1 u2 u3 u4 u5 : Value) (x : World) : Prop :=
  Below w.heap.size w x ∧ Blk6 x w.heap.size v0 v1 v2 v3 v4 v5 ∧ Blk6 x (w.heap.size + 1) (.int .i64 0) (.int .i64 0) (.int .i64 0) (.slice none 0 0) (.slice none 0 0) (.slice none 0 0) ∧ Blk6 x (w.heap.size + 2) u0 u1 u2 u3 u4 u5
theorem ToW.later {w : World} {v0 v1 v2 v3 v4 v5 u0 u1 u2 u3 u4 u5 : Value} {x x' : World} (h : ToW w v0 v1 v2 v3 v4 v5 u0 u1 u2 u3 u4 u5 x) (hb : Below x.heap.size x x') : ToW w v0 v1 v2 v3 v4 v5 u0 u1 u2 u3 u4 u5 x' :=
  ⟨h.1.trans (hb.mono h.1.size), h.2.1.later hb, h.2.2.1.later hb, h.2.2.2.later hb⟩
theorem hid_mkE {p : Prop} (h : p) : Hid p := h
theorem size_set (x : World) (a : Addr) (u : Value) : (x.setCell a u).heap.size = x.heap.size := by simp [World.setCell]
theorem FineG.farE {w : World} {lo nr : Nat} {F : Nat → Int} {n : Nat} {S : Nat → Sto} {ra : Option Addr} {rc g : Nat} {U : Nat → Nat → Value} {z : Nat → Nat} (h : FineG w lo nr F n S ra rc g U z) {b j : Nat} (hb : b < lo) (u : Value) : FineG (w.setCell ⟨b, j, none⟩ u) lo nr F n S ra rc g U z := by
  obtain ⟨⟨h1, h2, h3⟩, h4, h5, h6, h7, h8, h9⟩ := h
  exact ⟨⟨h1.far (Or.inl (by show b < lo; exact hb)) _, h2.far _ _, h3⟩, h4, h5.far (by show g ≠ b; omega) _, h6.far (fun i hi => by show b < z i; have := h8 i (by omega); omega) _, h7, h8, by rw [size_set]; exact h9⟩
theorem FineG.monoE {w : World} {lo lo' nr : Nat} {F : Nat → Int} {n : Nat} {S : Nat → Sto} {ra : Option Addr} {rc g : Nat} {U : Nat → Nat → Value} {z : Nat → Nat} (h : FineG w lo nr F n S ra rc g U z) (hl : lo' ≤ lo) : FineG w lo' nr F n S ra rc g U z :=
  ⟨⟨h.1.1.mono hl, h.1.2⟩, Nat.le_trans hl h.2.1, h.2.2⟩
theorem FillT.farE {w : World} {g n k : Nat} {T : Nat → Tx} {U : Nat → Value} (h : FillT w g n k T U) {b j : Nat} (hb : g ≠ b) (u : Value) : FillT (w.setCell ⟨b, j, none⟩ u) g n k T U := by
  have hk : ∀ p, (w.setCell ⟨b, j, none⟩ u).cell? ⟨g, p, none⟩ = w.cell? ⟨g, p, none⟩ := fun p => World.cell?_of_block (w := w) (a := ⟨g, p, none⟩) (Below.heap_setCell w ⟨b, j, none⟩ u g hb)
  refine ⟨by rw [size_set]; exact h.1, fun p hp => ⟨⟨?_, by simp only [World.frozen?_setCell]; exact (h.2 p hp).1.2⟩, fun d => (hk p).trans ((h.2 p hp).2 d)⟩⟩
  obtain ⟨v, hv⟩ := (h.2 p hp).1.1
  exact ⟨v, (hk p).trans hv⟩
set_option maxRecDepth 100000 in
set_option maxHeartbeats 4000000 in
theorem toWorld_any (nw nx bd : Int) (nr : Nat) (F : Nat → Int) (n : Nat) (S : Nat → Sto) (V : Nat → Nat → Value) (vr vs : Value) (nt : Nat) (T : Nat → Tx) (X : Nat → Value) (vt : Value) (B : Nat) (w : World) (h : Grs w B nr F n S V vr vs) (ht : Txs w B nt T X vt) (hs : nr ≤ 1048576 ∧ n ≤ 1048576 ∧ ∀ i, i < n → SmallS (S i)) (hx : nt ≤ 1048576 ∧ ∀ i, i < nt → (T i).m ≤ 1048576) :
    Calls Tryz.prog 10 #[.agg #[.int .i64 nw, .int .i64 nx, .int .i64 bd, vr, vs, vt]] w (NewWd w nw nx bd nr F n S nt T) := by
  obtain ⟨a0, c0, a1, c1, rfl, rfl⟩ := h.form
  obtain ⟨at', ct, rfl⟩ := ht.form
  have H : Hid (Grs w B nr F n S V (.slice a0 nr c0) (.slice a1 n c1) ∧ Txs w B nt T X (.slice at' nt ct)) := ⟨h, ht⟩
  have HN : Hid ((nr ≤ 1048576 ∧ n ≤ 1048576 ∧ ∀ i, i < n → SmallS (S i)) ∧ nt ≤ 1048576 ∧ ∀ i, i < nt → (T i).m ≤ 1048576) := ⟨hs, hx⟩
  have W0 : Hid (ToW w (.int .i64 nw) (.int .i64 nx) (.int .i64 bd) (.slice a0 nr c0) (.slice a1 n c1) (.slice at' nt ct) (.int .i64 nw) (.int .i64 0) (.int .i64 0) (.slice none 0 0) (.slice none 0 0) (.slice none 0 0) (((w.alloc (.cells #[.int .i64 nw, .int .i64 nx, .int .i64 bd, .slice a0 nr c0, .slice a1 n c1, .slice at' nt ct] 30)).alloc (.cells #[.int .i64 0, .int .i64 0, .int .i64 0, .slice none 0 0, .slice none 0 0, .slice none 0 0] 42)).alloc (.cells #[.int .i64 nw, .int .i64 0, .int .i64 0, .slice none 0 0, .slice none 0 0, .slice none 0 0] 42))) := by
    have k1 := Blk6.new (w.alloc (.cells #[.int .i64 nw, .int .i64 nx, .int .i64 bd, .slice a0 nr c0, .slice a1 n c1, .slice at' nt ct] 30)) (.int .i64 0) (.int .i64 0) (.int .i64 0) (.slice none 0 0) (.slice none 0 0) (.slice none 0 0) 42
    have k2 := Blk6.new ((w.alloc (.cells #[.int .i64 nw, .int .i64 nx, .int .i64 bd, .slice a0 nr c0, .slice a1 n c1, .slice at' nt ct] 30)).alloc (.cells #[.int .i64 0, .int .i64 0, .int .i64 0, .slice none 0 0, .slice none 0 0, .slice none 0 0] 42)) (.int .i64 nw) (.int .i64 0) (.int .i64 0) (.slice none 0 0) (.slice none 0 0) (.slice none 0 0) 42
    rw [World.size_alloc] at k1
    rw [World.size_alloc, World.size_alloc] at k2
    exact ⟨((below_alloc _ _).alloc (by simp) _).alloc (by simp; omega) _, ((Blk6.new w _ _ _ _ _ _ _).alloc _).alloc _, k1.alloc _, k2⟩
  clear h ht hs hx
  go_enter Tryz.func10, Tryz.ntmps10
  go_wp2_with fail
  generalize ((w.alloc (.cells #[.int .i64 nw, .int .i64 nx, .int .i64 bd, .slice a0 nr c0, .slice a1 n c1, .slice at' nt ct] 30)).alloc (.cells #[.int .i64 0, .int .i64 0, .int .i64 0, .slice none 0 0, .slice none 0 0, .slice none 0 0] 42)).alloc (.cells #[.int .i64 nw, .int .i64 0, .int .i64 0, .slice none 0 0, .slice none 0 0, .slice none 0 0] 42) = x0 at W0 ⊢
  refine (toOracle_any nx bd _).mono ?_
  rintro e y1 ⟨rfl, q1⟩
  have W1 : Hid (ToW w (.int .i64 nw) (.int .i64 nx) (.int .i64 bd) (.slice a0 nr c0) (.slice a1 n c1) (.slice at' nt ct) (.int .i64 nw) (.int .i64 0) (.int .i64 0) (.slice none 0 0) (.slice none 0 0) (.slice none 0 0) y1) := W0.out.later q1
  have W1' : Hid (ToW w (.int .i64 nw) (.int .i64 nx) (.int .i64 bd) (.slice a0 nr c0) (.slice a1 n c1) (.slice at' nt ct) (.int .i64 nw) (.int .i64 nx) (.int .i64 bd) (.slice none 0 0) (.slice none 0 0) (.slice none 0 0) ((y1.setCell ⟨w.heap.size + 2, 1, none⟩ (.int .i64 nx)).setCell ⟨w.heap.size + 2, 2, none⟩ (.int .i64 bd))) := ⟨(W1.out.1.setCell (by show w.heap.size ≤ w.heap.size + 2; omega) _).setCell (by show w.heap.size ≤ w.heap.size + 2; omega) _, (W1.out.2.1.farE (by show w.heap.size ≠ w.heap.size + 2; omega) _).farE (by show w.heap.size ≠ w.heap.size + 2; omega) _, (W1.out.2.2.1.farE (by show w.heap.size + 1 ≠ w.heap.size + 2; omega) _).farE (by show w.heap.size + 1 ≠ w.heap.size + 2; omega) _, W1.out.2.2.2.put12 _ _⟩
  obtain ⟨_, ⟨⟨b0, b1, b2, b3, b4, b5⟩, _⟩, _, ⟨⟨o0, o1, o2, o3, o4, o5⟩, p0, p1, p2, p3, p4, p5⟩⟩ := W1.out
  clear q1 W0
  go_wp2_with fail
  clear b0 b1 b2 b3 b4 b5 o0 o1 o2 o3 o4 o5 p0 p1 p2 p3 p4 p5 W1
  generalize (y1.setCell ⟨w.heap.size + 2, 1, none⟩ (.int .i64 nx)).setCell ⟨w.heap.size + 2, 2, none⟩ (.int .i64 bd) = x1 at W1' ⊢
  refine (toGroups_any nr F n S V _ _ B _ (H.out.1.later W1'.out.1) HN.out.1.1 HN.out.1.2.1 HN.out.1.2.2).mono ?_
  rintro e y2 ⟨ra, rc, g, U, z, rfl, hg, q2⟩
  have W2 : Hid (ToW w (.int .i64 nw) (.int .i64 nx) (.int .i64 bd) (.slice a0 nr c0) (.slice a1 n c1) (.slice at' nt ct) (.int .i64 nw) (.int .i64 nx) (.int .i64 bd) (.slice none 0 0) (.slice none 0 0) (.slice none 0 0) y2) := W1'.out.later q2
  have lo : Hid (w.heap.size + 3 ≤ x1.heap.size) := W1'.out.2.2.2.lt
  have W2' : Hid (ToW w (.int .i64 nw) (.int .i64 nx) (.int .i64 bd) (.slice a0 nr c0) (.slice a1 n c1) (.slice at' nt ct) (.int .i64 nw) (.int .i64 nx) (.int .i64 bd) (.slice ra nr rc) (.slice (some ⟨g, 0, none⟩) n n) (.slice none 0 0) ((y2.setCell ⟨w.heap.size + 2, 3, none⟩ (.slice ra nr rc)).setCell ⟨w.heap.size + 2, 4, none⟩ (.slice (some ⟨g, 0, none⟩) n n))) := ⟨(W2.out.1.setCell (by show w.heap.size ≤ w.heap.size + 2; omega) _).setCell (by show w.heap.size ≤ w.heap.size + 2; omega) _, (W2.out.2.1.farE (by show w.heap.size ≠ w.heap.size + 2; omega) _).farE (by show w.heap.size ≠ w.heap.size + 2; omega) _, (W2.out.2.2.1.farE (by show w.heap.size + 1 ≠ w.heap.size + 2; omega) _).farE (by show w.heap.size + 1 ≠ w.heap.size + 2; omega) _, W2.out.2.2.2.put34 _ _⟩
  have G2 : Hid (FineG ((y2.setCell ⟨w.heap.size + 2, 3, none⟩ (.slice ra nr rc)).setCell ⟨w.heap.size + 2, 4, none⟩ (.slice (some ⟨g, 0, none⟩) n n)) x1.heap.size nr F n S ra rc g U z) := (hg.farE (by have := lo.out; omega) _).farE (by have := lo.out; omega) _
  obtain ⟨_, ⟨⟨b0, b1, b2, b3, b4, b5⟩, _⟩, _, ⟨⟨o0, o1, o2, o3, o4, o5⟩, p0, p1, p2, p3, p4, p5⟩⟩ := W2.out
  clear q2 hg W1'
  go_wp2_with fail
  clear b0 b1 b2 b3 b4 b5 o0 o1 o2 o3 o4 o5 p0 p1 p2 p3 p4 p5 W2
  generalize (y2.setCell ⟨w.heap.size + 2, 3, none⟩ (.slice ra nr rc)).setCell ⟨w.heap.size + 2, 4, none⟩ (.slice (some ⟨g, 0, none⟩) n n) = x2 at W2' G2 ⊢
  refine (toTxnS_any nt T X _ B _ (H.out.2.later W2'.out.1) HN.out.2.1 HN.out.2.2).mono ?_
  rintro e y3 ⟨gt, Y, zt, rfl, hgt, FT, ⟨fine, ft0, ft1, ft2⟩, q3⟩
  have W3 : Hid (ToW w (.int .i64 nw) (.int .i64 nx) (.int .i64 bd) (.slice a0 nr c0) (.slice a1 n c1) (.slice at' nt ct) (.int .i64 nw) (.int .i64 nx) (.int .i64 bd) (.slice ra nr rc) (.slice (some ⟨g, 0, none⟩) n n) (.slice none 0 0) y3) := W2'.out.later q3
  have G3 : Hid (FineG y3 x1.heap.size nr F n S ra rc g U z ∧ z n ≤ gt) := ⟨G2.out.later q3, Nat.le_trans G2.out.2.2.2.2.2.2 hgt.1⟩
  have TT : Hid ((gt < y3.heap.size ∧ FillT y3 gt nt nt T Y ∧ FineT y3 zt nt T Y ∧ zt 0 = gt + 1 ∧ (∀ i, i ≤ nt → gt < zt i) ∧ zt nt ≤ y3.heap.size) ∧ x1.heap.size ≤ gt) := ⟨⟨hgt.2, FT, fine, ft0, ft1, ft2⟩, by have := G2.out.2.1; have := G2.out.2.2.2.2.2.1 n (Nat.le_refl _); have := G3.out.2; omega⟩
  have KL := hid_mkE ((W3.out.2.2.1.farE (p := ⟨w.heap.size + 2, 5, none⟩) (by show w.heap.size + 1 ≠ w.heap.size + 2; omega) (.slice (some ⟨gt, 0, none⟩) nt nt)).putAll (.int .i64 nw) (.int .i64 nx) (.int .i64 bd) (.slice ra nr rc) (.slice (some ⟨g, 0, none⟩) n n) (.slice (some ⟨gt, 0, none⟩) nt nt))
  obtain ⟨_, _, ⟨⟨d0, d1, d2, d3, d4, d5⟩, e0, e1, e2, e3, e4, e5⟩, ⟨⟨o0, o1, o2, o3, o4, o5⟩, p0, p1, p2, p3, p4, p5⟩⟩ := W3.out
  clear q3 FT fine ft0 ft1 ft2 hgt W2' G2
  go_wp2
  obtain ⟨⟨k0, k1, k2, k3, k4, k5⟩, _⟩ := KL.out
  have hlo := lo.out
  have htl := TT.out.2
  refine bodyPost_ret (v := .agg #[.int .i64 nw, .int .i64 nx, .int .i64 bd, .slice ra nr rc, .slice (some ⟨g, 0, none⟩) n n, .slice (some ⟨gt, 0, none⟩) nt nt]) (by simp [results, Tryz.results10, go_sem, k0, k1, k2, k3, k4, k5]) rfl ⟨ra, rc, g, U, z, gt, Y, zt, rfl, ?_, ?_, ?_⟩
  · have s : ∀ {y : World} (b j : Nat) (u : Value), b < x1.heap.size → FineG y x1.heap.size nr F n S ra rc g U z → FineG (y.setCell ⟨b, j, none⟩ u) x1.heap.size nr F n S ra rc g U z := fun b j u hb q => q.farE hb u
    exact FineG.monoE (s _ _ _ (by omega) (s _ _ _ (by omega) (s _ _ _ (by omega) (s _ _ _ (by omega) (s _ _ _ (by omega) (s _ _ _ (by omega) (s _ _ _ (by omega) G3.out.1))))))) (by omega)
  · have s : ∀ {y : World} (b j : Nat) (u : Value), b < x1.heap.size → (gt < y.heap.size ∧ FillT y gt nt nt T Y ∧ FineT y zt nt T Y ∧ zt 0 = gt + 1 ∧ (∀ i, i ≤ nt → gt < zt i) ∧ zt nt ≤ y.heap.size) → (gt < (y.setCell ⟨b, j, none⟩ u).heap.size ∧ FillT (y.setCell ⟨b, j, none⟩ u) gt nt nt T Y ∧ FineT (y.setCell ⟨b, j, none⟩ u) zt nt T Y ∧ zt 0 = gt + 1 ∧ (∀ i, i ≤ nt → gt < zt i) ∧ zt nt ≤ (y.setCell ⟨b, j, none⟩ u).heap.size) := fun b j u hb q => ⟨by rw [size_set]; exact q.1, q.2.1.farE (by omega) _, q.2.2.1.far (fun i hi => by show b < zt i; have := q.2.2.2.2.1 i (by omega); omega) _, q.2.2.2.1, q.2.2.2.2.1, by rw [size_set]; exact q.2.2.2.2.2⟩
    exact ⟨G3.out.2, s _ _ _ (by omega) (s _ _ _ (by omega) (s _ _ _ (by omega) (s _ _ _ (by omega) (s _ _ _ (by omega) (s _ _ _ (by omega) (s _ _ _ (by omega) TT.out.1))))))⟩
  · have s : ∀ {y : World} (b j : Nat) (u : Value), w.heap.size ≤ b → Below w.heap.size w y → Below w.heap.size w (y.setCell ⟨b, j, none⟩ u) := fun b j u hb q => q.setCell (by show w.heap.size ≤ b; exact hb) u
    exact s _ _ _ (by omega) (s _ _ _ (by omega) (s _ _ _ (by omega) (s _ _ _ (by omega) (s _ _ _ (by omega) (s _ _ _ (by omega) (s _ _ _ (by omega) W3.out.1))))))
end Go.Proofs.YtglcedhkbbckiaaGreat

namespace Go.Proofs.YtglcedhkbbckiaaGreat
open Go.RowKit

set_option maxRecDepth 100000 in
set_option maxHeartbeats 4000000 in
theorem szStoreS_lim (n : Nat) (S : Nat → Sto) (V : Nat → Nat → Value) (v : Value) (B : Nat) (left : Int) (w : World) (h : Stos w B n S V v) (hn : n ≤ 9223372036854775807) (hs : ∀ i, i < n → BigS (S i)) (h0 : 0 ≤ left) (h2 : left ≤ 1048576) :
    Calls Tryz.prog 60 #[v, .int .i64 left] w fun e w' => ∃ r, e = .returned (.int .i64 r) ∧ (SzAns n S left r ∧ r ≤ left) ∧ Below w.heap.size w w' := by
  obtain ⟨ao, cp, rfl⟩ := h.form
  have H : Hid (Stos w B n S V (.slice ao n cp)) := h
  have HN : Hid (∀ i, i < n → BigS (S i)) := hs
  clear h hs
  by_cases hl : left < n
  · have d : decide (left - n < 0) = true := decide_eq_true (by omega)
    go_enter Tryz.func60, Tryz.ntmps60
    go_wp2
    go_ret
    exact ⟨-1, rfl, ⟨Or.inl rfl, by omega⟩, Below.refl _ _⟩
  have d : decide (left - n < 0) = false := decide_eq_false (by omega)
  go_enter Tryz.func60, Tryz.ntmps60
  go_wp2
  go_loopw [1, 5] (fun j i wr => ∃ (k : Nat) (L : Int), k ≤ n ∧ j = .int .i64 L ∧ i = .int .i64 k ∧ Hid ((0 ≤ L ∧ L + (sumN (sizeT S) k : Nat) ≤ left) ∧ ∀ i, i < k → SmallS (S i)) ∧ Hid (Below w.heap.size w wr)) (fun _ i _ => n - (intOf i).toNat)
  case atStart => exact ⟨0, left - n, Nat.zero_le _, rfl, rfl, ⟨by simp only [sumN]; omega, fun i hi => absurd hi (Nat.not_lt_zero i)⟩, Below.refl _ _⟩
  case round =>
    obtain ⟨k, L, hk, rfl, rfl, hL, hR⟩ := hrel
    by_cases hlt : k < n
    · obtain ⟨g, o, rfl, _, hg, ⟨c0, c1, c2⟩, sk⟩ := H.out.at hlt
      have b0 := hR.out.cell (p := ⟨g, o + k * 3, none⟩) hg
      rw [c0] at b0
      have b1 := hR.out.cell (p := ⟨g, o + k * 3 + 1, none⟩) hg
      rw [c1] at b1
      have b2 := hR.out.cell (p := ⟨g, o + k * 3 + 2, none⟩) hg
      rw [c2] at b2
      clear c0 c1 c2
      obtain ⟨a0, d0, a1, d1, a2, d2, e0, e1, e2⟩ := sk.form
      rw [e0] at b0
      rw [e1] at b1
      rw [e2] at b2
      clear sk e0 e1 e2
      obtain ⟨n0, hn0⟩ : ∃ x, (S k).nc = x := ⟨_, rfl⟩
      obtain ⟨n1, hn1⟩ : ∃ x, (S k).nl = x := ⟨_, rfl⟩
      obtain ⟨n2, hn2⟩ : ∃ x, (S k).nw = x := ⟨_, rfl⟩
      rw [hn0] at b0
      rw [hn1] at b1
      rw [hn2] at b2
      have hB : Hid (n0 ≤ 9223372036854775807 ∧ n1 ≤ 9223372036854775807 ∧ n2 ≤ 9223372036854775807) := by
        have := HN.out k hlt
        unfold BigS at this
        rw [hn0, hn1, hn2] at this
        exact this
      have hE : Hid ((S k).nc = n0 ∧ (S k).nl = n1 ∧ (S k).nw = n2) := ⟨hn0, hn1, hn2⟩
      clear hn0 hn1 hn2
      by_cases hfit : (n0 : Int) + n1 + n2 ≤ L
      · go_wp2_with fail
        refine (szStore_ok L _ _ _ _ _ _ _ _ _ _ hfit hL.out.1.1 (by have := hL.out.1; omega) hB.out.1 hB.out.2.1 hB.out.2.2).mono ?_
        rintro e w1 ⟨rfl, q1⟩
        have HB : Hid (Below w.heap.size w w1) := hR.out.trans (q1.mono hR.out.size)
        have dd : decide (L - n0 - n1 - n2 < 0) = false := decide_eq_false (by omega)
        clear q1 hR b0 b1 b2
        go_wp2
        go_roundw
        case rel =>
          have hst : sumN (sizeT S) (k + 1) = sumN (sizeT S) k + (n0 + n1 + n2) := by show sumN (sizeT S) k + ((S k).nc + (S k).nl + (S k).nw) = _; rw [hE.out.1, hE.out.2.1, hE.out.2.2]
          refine ⟨k + 1, L - n0 - n1 - n2, by omega, by go_num, by go_num, ⟨by have := hL.out.1; rw [hst]; omega, fun i hi => ?_⟩, HB⟩
          by_cases q : i = k
          · subst q
            have h1 := hL.out.1
            unfold SmallS
            rw [hE.out.1, hE.out.2.1, hE.out.2.2]
            omega
          · exact hL.out.2 i (by omega)
        case measure => simp [intOf]; omega
      · go_wp2_with fail
        refine (szStore_no L _ _ _ _ _ _ _ _ _ _ (by omega) hL.out.1.1 (by have := hL.out.1; omega) hB.out.1 hB.out.2.1 hB.out.2.2).mono ?_
        rintro e w1 ⟨rfl, q1⟩
        have HB : Hid (Below w.heap.size w w1) := hR.out.trans (q1.mono hR.out.size)
        clear q1 hR b0 b1 b2
        go_wp2
        go_ret
        exact ⟨-1, rfl, ⟨Or.inl rfl, by omega⟩, HB.out⟩
    · obtain rfl : k = n := by omega
      go_wp2
      go_ret
      exact ⟨L, rfl, ⟨Or.inr ⟨hL.out.1.1, by omega, by have := hL.out.1; omega, hL.out.2⟩, by have := hL.out.1; omega⟩, hR.out⟩

set_option maxHeartbeats 1000000 in
theorem szGroups_lim (nr : Nat) (F : Nat → Int) (n : Nat) (S : Nat → Sto) (V : Nat → Nat → Value) (vr vs : Value) (B : Nat) (w : World) (h : Grs w B nr F n S V vr vs) (hr : nr ≤ 9223372036854775807) (hn : n ≤ 9223372036854775807) (hs : ∀ i, i < n → BigS (S i)) :
    Calls Tryz.prog 29 #[.agg #[vr, vs], .int .i64 1048576] w fun e w' => ∃ r, e = .returned (.int .i64 r) ∧ (r = -1 ∨ (0 ≤ r ∧ nr ≤ 1048576 ∧ (n ≤ 1048576 ∧ sumN (sizeT S) n ≤ 1048576) ∧ ∀ i, i < n → SmallS (S i))) ∧ r ≤ 1048576 ∧ Below w.heap.size w w' := by
  obtain ⟨a0, c0, a1, c1, rfl, rfl⟩ := h.form
  have H : Hid (Grs w B nr F n S V (.slice a0 nr c0) (.slice a1 n c1)) := h
  have HN : Hid (∀ i, i < n → BigS (S i)) := hs
  clear h hs
  by_cases hl : (1048576 : Int) < nr
  · go_enter Tryz.func29, Tryz.ntmps29
    go_wp2_with fail
    refine (szRangeS_no _ _ _ 1048576 _ hl (by omega) (by omega) hr).mono ?_
    rintro e w1 ⟨rfl, rfl⟩
    go_wp2
    go_ret
    exact ⟨-1, rfl, Or.inl rfl, by omega, below_alloc _ _⟩
  go_enter Tryz.func29, Tryz.ntmps29
  go_wp2_with fail
  refine (szRangeS_ok _ _ _ 1048576 _ (by omega) (by omega)).mono ?_
  rintro e w1 ⟨rfl, hw1⟩
  have d : decide ((1048576 : Int) - nr < 0) = false := decide_eq_false (by omega)
  have k1 : Blk2 w1 w.heap.size (.slice a0 nr c0) (.slice a1 n c1) := by rw [hw1]; exact Blk2.new w _ _ _
  have B1 : Hid (Below w.heap.size w w1) := by rw [hw1]; exact below_alloc _ _
  clear hw1
  obtain ⟨⟨_, x1⟩, _⟩ := k1
  go_wp2_with fail
  refine (szStoreS_lim n S V _ B (1048576 - nr) _ (H.out.2.later B1.out) hn HN.out (by omega) (by omega)).mono ?_
  rintro e w2 ⟨r, rfl, ⟨hA, hle⟩, q2⟩
  have B2 : Hid (Below w.heap.size w w2) := B1.out.trans (q2.mono B1.out.size)
  clear q2 x1
  rcases hA with rfl | ⟨h1, h3, h2, h4⟩
  · go_wp2
    go_ret
    exact ⟨-1, rfl, Or.inl rfl, by omega, B2.out⟩
  · have dr : decide (r < 0) = false := decide_eq_false (by omega)
    have HA : Hid (∀ i, i < n → SmallS (S i)) := h4
    clear h4
    go_wp2
    go_ret
    exact ⟨r, rfl, Or.inr ⟨h1, by omega, ⟨h3, by omega⟩, HA.out⟩, by omega, B2.out⟩
set_option maxRecDepth 100000 in
set_option maxHeartbeats 2000000 in
theorem szWorld_any (nw nx bd : Int) (nr : Nat) (F : Nat → Int) (n : Nat) (S : Nat → Sto) (V : Nat → Nat → Value) (vr vs : Value) (nt : Nat) (T : Nat → Tx) (X : Nat → Value) (vt : Value) (B : Nat) (w : World) (h : Grs w B nr F n S V vr vs) (ht : Txs w B nt T X vt) (hr : nr ≤ 9223372036854775807) (hn : n ≤ 9223372036854775807) (hs : ∀ i, i < n → BigS (S i)) (hnt : nt ≤ 9223372036854775807) (hx : ∀ i, i < nt → (T i).m ≤ 9223372036854775807) :
    Calls Tryz.prog 8 #[.agg #[.int .i64 nw, .int .i64 nx, .int .i64 bd, vr, vs, vt], .int .i64 1048576] w fun e w' => ∃ r, e = .returned (.int .i64 r) ∧ (r = -1 ∨ (0 ≤ r ∧ (nr ≤ 1048576 ∧ n ≤ 1048576 ∧ sumN (sizeT S) n ≤ 1048576 ∧ ∀ i, i < n → SmallS (S i)) ∧ nt ≤ 1048576 ∧ sumN (sizeX T) nt ≤ 1048576 ∧ ∀ i, i < nt → (T i).m ≤ 1048576)) ∧ Below w.heap.size w w' := by
  obtain ⟨a0, c0, a1, c1, rfl, rfl⟩ := h.form
  obtain ⟨at', ct, rfl⟩ := ht.form
  have H : Hid (Grs w B nr F n S V (.slice a0 nr c0) (.slice a1 n c1) ∧ Txs w B nt T X (.slice at' nt ct)) := ⟨h, ht⟩
  have HN : Hid ((∀ i, i < n → BigS (S i)) ∧ ∀ i, i < nt → (T i).m ≤ 9223372036854775807) := ⟨hs, hx⟩
  have K0 : Hid (Blk6 (w.alloc (.cells #[.int .i64 nw, .int .i64 nx, .int .i64 bd, .slice a0 nr c0, .slice a1 n c1, .slice at' nt ct] 30)) w.heap.size (.int .i64 nw) (.int .i64 nx) (.int .i64 bd) (.slice a0 nr c0) (.slice a1 n c1) (.slice at' nt ct)) := Blk6.new w _ _ _ _ _ _ _
  clear h ht hs hx
  go_enter Tryz.func8, Tryz.ntmps8
  go_wp2_with fail
  refine (szGroups_lim nr F n S V _ _ B _ (H.out.1.later (below_alloc _ _)) hr hn HN.out.1).mono ?_
  rintro e w1 ⟨r, rfl, hA, hle, q1⟩
  have Q1 : Hid (Below w.heap.size w w1 ∧ Blk6 w1 w.heap.size (.int .i64 nw) (.int .i64 nx) (.int .i64 bd) (.slice a0 nr c0) (.slice a1 n c1) (.slice at' nt ct)) := ⟨(below_alloc _ _).trans (q1.mono (by simp)), K0.out.later q1⟩
  clear q1 K0
  rcases hA with rfl | ⟨h1, h2, h3, h4⟩
  · go_wp2
    go_ret
    exact ⟨-1, rfl, Or.inl rfl, Q1.out.1⟩
  have dr : decide (r < 0) = false := decide_eq_false (by omega)
  have HA : Hid ((nr ≤ 1048576 ∧ n ≤ 1048576 ∧ sumN (sizeT S) n ≤ 1048576 ∧ ∀ i, i < n → SmallS (S i))) := ⟨h2, h3.1, h3.2, h4⟩
  clear h2 h3 h4
  obtain ⟨⟨s0, s1, s2, s3, s4, s5⟩, _⟩ := Q1.out.2
  go_wp2_with fail
  refine (szTxnS_any nt T X _ B r _ (H.out.2.later Q1.out.1) hnt HN.out.2 h1 hle).mono ?_
  rintro e w2 ⟨r2, rfl, hB, q2⟩
  have Q2 : Hid (Below w.heap.size w w2) := Q1.out.1.trans (q2.mono Q1.out.1.size)
  clear q2 s0 s1 s2 s3 s4 s5 Q1
  rcases hB with rfl | ⟨g1, g2, g3, g4⟩
  · go_wp2
    go_ret
    exact ⟨-1, rfl, Or.inl rfl, Q2.out⟩
  have dr2 : decide (r2 < 0) = false := decide_eq_false (by omega)
  have HB : Hid (nt ≤ 1048576 ∧ sumN (sizeX T) nt ≤ 1048576 ∧ ∀ i, i < nt → (T i).m ≤ 1048576) := ⟨g2, by omega, g4⟩
  clear g2 g3 g4
  go_wp2
  go_ret
  exact ⟨r2, rfl, Or.inr ⟨g1, HA.out, HB.out⟩, Q2.out⟩
end Go.Proofs.YtglcedhkbbckiaaGreat

namespace Go.Proofs.YtglcedhkbbckiaaGreat
open Go.RowKit

set_option maxRecDepth 100000 in
set_option maxHeartbeats 8000000 in
theorem implWorldFault_any (nw nx bd : Int) (nr : Nat) (F : Nat → Int) (n : Nat) (S : Nat → Sto) (V : Nat → Nat → Value) (vr vs : Value) (nt : Nat) (T : Nat → Tx) (X : Nat → Value) (vt : Value) (B : Nat) (w : World) (h : Grs w B nr F n S V vr vs) (hx : Txs w B nt T X vt) (hr : nr ≤ 9223372036854775807) (hn : n ≤ 9223372036854775807) (ht : nt ≤ 9223372036854775807) :
    Calls Tryz.prog 36 #[.agg #[.int .i64 nw, .int .i64 nx, .int .i64 bd, vr, vs, vt]] w fun e w' => e = .returned (.int .i64 (worldF nw nx bd nr F n S nt T)) ∧ Below w.heap.size w w' := by
  obtain ⟨a0, c0, a1, c1, rfl, rfl⟩ := h.form
  obtain ⟨a2, c2, rfl⟩ := hx.form
  have H : Hid (LiesD (w.alloc (.cells #[.int .i64 nw, .int .i64 nx, .int .i64 bd, .slice a0 nr c0, .slice a1 n c1, .slice a2 nt c2] 42)) w.heap.size nw nx bd nr F n S V (.slice a0 nr c0) (.slice a1 n c1) nt T X (.slice a2 nt c2) ∧ Below w.heap.size w (w.alloc (.cells #[.int .i64 nw, .int .i64 nx, .int .i64 bd, .slice a0 nr c0, .slice a1 n c1, .slice a2 nt c2] 42))) := ⟨⟨Blk6.new w _ _ _ _ _ _ _, (h.mono (Nat.zero_le _)).alloc _, (hx.mono (Nat.zero_le _)).alloc _⟩, below_alloc _ _⟩
  clear h hx
  by_cases h0 : 0 ≤ nw ∧ nw ≤ 100000
  case neg =>
    have D0 : Hid (decide (0 ≤ nw ∧ nw ≤ 100000) = false) := decide_eq_false h0
    have E : Hid (worldF nw nx bd nr F n S nt T = 3) := worldF_now h0
    clear h0
    go_enter Tryz.func36, Tryz.ntmps36
    go_wp2_with fail
    refine (isNowW_is nw false D0.out _).mono ?_
    rintro e w1 ⟨rfl, hw1⟩
    obtain rfl := hw1.symm
    go_wp2
    go_ret
    exact ⟨by rw [E.out]; rfl, H.out.2⟩
  have D0 : Hid (decide (0 ≤ nw ∧ nw ≤ 100000) = true) := decide_eq_true h0
  have H0 : Hid (0 ≤ nw ∧ nw ≤ 100000) := h0
  clear h0
  obtain ⟨f1, hf1⟩ : ∃ f, oFault nx bd = f := ⟨_, rfl⟩
  have HF1 : Hid (oFault nx bd = f1) := hf1
  clear hf1
  go_enter Tryz.func36, Tryz.ntmps36
  go_wp2_with fail
  refine (isNowW_is nw true D0.out _).mono ?_
  rintro e w1 ⟨rfl, hw1⟩
  obtain rfl := hw1.symm
  go_wp2_with fail
  refine (implOracleFault_any nx bd _).mono ?_
  rw [HF1.out]
  rintro e w2 ⟨rfl, hw2⟩
  have H2 : Hid (LiesD w2 w.heap.size nw nx bd nr F n S V (.slice a0 nr c0) (.slice a1 n c1) nt T X (.slice a2 nt c2) ∧ Below w.heap.size w w2) := by
    rw [hw2]
    exact ⟨H.out.1.later (below_alloc _ _), H.out.2.alloc (by have := H.out.2.size; omega) _⟩
  clear hw2 H
  by_cases hz1 : f1 = 0
  case neg =>
    have d : (f1 != 0) = true := bne_iff_ne.2 hz1
    have E : Hid (worldF nw nx bd nr F n S nt T = f1) := (worldF_oracle H0.out (by rw [HF1.out]; exact hz1)).trans HF1.out
    clear hz1
    go_wp2
    go_ret
    exact ⟨by rw [E.out]; rfl, H2.out.2⟩
  subst hz1
  obtain ⟨f2, hf2⟩ : ∃ f, groupsF nr F n S = f := ⟨_, rfl⟩
  have HF2 : Hid (groupsF nr F n S = f2) := hf2
  clear hf2
  obtain ⟨⟨⟨p0, p1, p2, p3, p4, p5⟩, _⟩, _⟩ := H2.out.1
  go_wp2_with fail
  refine (implGroupsFault_any nr F n S V _ _ 0 _ H2.out.1.2.1 hr hn).mono ?_
  rw [HF2.out]
  rintro e w3 ⟨rfl, q3⟩
  have H3 : Hid (LiesD w3 w.heap.size nw nx bd nr F n S V (.slice a0 nr c0) (.slice a1 n c1) nt T X (.slice a2 nt c2) ∧ Below w.heap.size w w3) := ⟨H2.out.1.later q3, H2.out.2.trans (q3.mono H2.out.2.size)⟩
  clear q3 H2 p0 p1 p2 p3 p4 p5
  by_cases hz2 : f2 = 0
  case neg =>
    have d : (f2 != 0) = true := bne_iff_ne.2 hz2
    have E : Hid (worldF nw nx bd nr F n S nt T = f2) := (worldF_groups H0.out HF1.out (by rw [HF2.out]; exact hz2)).trans HF2.out
    clear hz2
    go_wp2
    go_ret
    exact ⟨by rw [E.out]; rfl, H3.out.2⟩
  subst hz2
  obtain ⟨⟨⟨p0, p1, p2, p3, p4, p5⟩, _⟩, _⟩ := H3.out.1
  by_cases h16 : 16 < nt
  · have d : decide ((nt : Int) > 16) = true := decide_eq_true (by omega)
    have E : Hid (worldF nw nx bd nr F n S nt T = 2) := worldF_many H0.out HF1.out HF2.out h16
    go_wp2
    go_ret
    exact ⟨by rw [E.out]; rfl, H3.out.2⟩
  have d : decide ((nt : Int) > 16) = false := decide_eq_false (by omega)
  have EW : Hid (worldF nw nx bd nr F n S nt T = scan (placeF nx T) nt) := worldF_txns H0.out HF1.out HF2.out h16
  have hn16 : nt ≤ 16 := by omega
  clear h16 HF1 HF2 H0 ht
  go_wp2
  clear p0 p1 p2 p3 p4 p5 d
  go_loopw [30] (fun i wr => ∃ k : Nat, k ≤ nt ∧ i = .int .i64 k ∧ Hid (scan (placeF nx T) k = 0) ∧ Hid (LiesD wr w.heap.size nw nx bd nr F n S V (.slice a0 nr c0) (.slice a1 n c1) nt T X (.slice a2 nt c2) ∧ Below w.heap.size w wr)) (fun i _ => nt - (intOf i).toNat)
  case atStart => exact ⟨0, Nat.zero_le _, rfl, rfl, H3⟩
  case round =>
    clear H3
    obtain ⟨k, hk, rfl, HS, HB⟩ := hrel
    by_cases hlt : k < nt
    case neg =>
      obtain rfl : k = nt := by omega
      have E : Hid (worldF nw nx bd nr F n S k T = 0) := EW.out.trans HS.out
      go_wp2
      go_ret
      exact ⟨by rw [E.out]; rfl, HB.out.2⟩
    obtain ⟨⟨⟨p0, p1, p2, p3, p4, p5⟩, _⟩, _⟩ := HB.out.1
    obtain ⟨f, hf⟩ : ∃ f, placeF nx T k = f := ⟨_, rfl⟩
    have HF : Hid (placeF nx T k = f) := hf
    clear hf
    go_wp2_with fail
    refine (implPlace_any nw nx bd _ _ nt T X _ k _ HB.out.1.2.2 hlt hn16).mono ?_
    rw [HF.out]
    rintro e w4 ⟨rfl, q4⟩
    have H4 : Hid (LiesD w4 w.heap.size nw nx bd nr F n S V (.slice a0 nr c0) (.slice a1 n c1) nt T X (.slice a2 nt c2) ∧ Below w.heap.size w w4) := ⟨HB.out.1.later q4, HB.out.2.trans (q4.mono HB.out.2.size)⟩
    clear q4 HB p0 p1 p2 p3 p4 p5
    by_cases hz : f = 0
    case neg =>
      have d' : (f != 0) = true := bne_iff_ne.2 hz
      have E : Hid (worldF nw nx bd nr F n S nt T = f) := EW.out.trans ((scan_stop HS.out (by rw [HF.out]; exact hz) hlt).trans HF.out)
      clear hz HF HS EW
      go_wp2
      go_ret
      exact ⟨by rw [E.out]; rfl, H4.out.2⟩
    subst hz
    have HS1 : Hid (scan (placeF nx T) (k + 1) = 0) := scan_go HS.out HF.out
    clear HS HF
    go_wp2
    go_roundw
    case rel => exact ⟨k + 1, by omega, by go_num, HS1, H4⟩
    case measure => simp [intOf]; omega
end Go.Proofs.YtglcedhkbbckiaaGreat

namespace Go.Proofs.YtglcedhkbbckiaaGreat
open Go.RowKit

theorem itemF_key {k kd v : Int} (h : itemF k kd v = 0) : faultOf k = 0 := by
  unfold itemF at h
  by_cases q : faultOf k = 0
  · exact q
  · rw [if_pos q] at h
    exact h
theorem itemsF_key {F : Nat → Int} {m : Nat} (hm : 0 < m) (h : itemsF F m 0 = 0) : faultOf (F 0) = 0 := by
  by_cases q : itemF (F (0 * 3)) (F (0 * 3 + 1)) (F (0 * 3 + 2)) = 0
  · rw [Nat.zero_mul] at q
    exact itemF_key q
  · exact absurd ((itemsF_bad hm rfl q).symm.trans h) q
/-- What a transaction without a fault keeps. -/
theorem txF_fine {t : Tx} (h : txF t = 0) : (1 ≤ t.m ∧ t.m ≤ 12) ∧ faultOf (t.L 0) = 0 := by
  unfold txF txnF at h
  split at h
  · omega
  split at h
  · omega
  rename_i h1
  split at h
  · rename_i h2; exact absurd h h2
  rename_i h2
  exact ⟨⟨by omega, by omega⟩, itemsF_key (by omega) (Decidable.not_not.1 h2)⟩
/-- What a world without a fault keeps. -/
theorem world_fine {nw nx bd : Int} {nr : Nat} {F : Nat → Int} {n : Nat} {S : Nat → Sto} {nt : Nat} {T : Nat → Tx} (h : worldF nw nx bd nr F n S nt T = 0) :
    groupsF nr F n S = 0 ∧ nt ≤ 16 ∧ ∀ i, i < nt → (1 ≤ (T i).m ∧ (T i).m ≤ 12) ∧ faultOf ((T i).L 0) = 0 := by
  unfold worldF at h
  split at h
  · omega
  split at h
  · rename_i q; exact absurd h q
  split at h
  · rename_i q; exact absurd h q
  rename_i h2
  split at h
  · omega
  rename_i h3
  refine ⟨Decidable.not_not.1 h2, by omega, fun i hi => txF_fine ?_⟩
  have := scan_zero h i hi
  unfold placeF at this
  split at this
  · rename_i q; exact absurd this q
  · rename_i q; exact Decidable.not_not.1 q
theorem DoneAt.get {nr : Nat} {F : Nat → Int} {S : Nat → Sto} (hG : Good nr F) {t : Tx} (hk : faultOf (t.L 0) = 0) : ∃ r, DoneAt nr F S t r := by
  obtain ⟨j, hj⟩ := hG.at (key := t.L 0) (faultOf_zero hk).2
  rcases firstW_or (S j).k (S j).nw (t.L 0) t.s with hno | ⟨i, hi⟩
  · exact ⟨none, j, hj, Or.inr ⟨fun i q => hno i q.1, rfl⟩⟩
  · by_cases e : (S j).k (i * 4 + 3) = 4
    · exact ⟨none, j, hj, Or.inr ⟨fun i' q => q.2 (by rw [firstW_one q.1 hi]; exact e), rfl⟩⟩
    · exact ⟨_, j, hj, Or.inl ⟨i, ⟨hi, e⟩, rfl⟩⟩
end Go.Proofs.YtglcedhkbbckiaaGreat

namespace Go.Proofs.YtglcedhkbbckiaaGreat
open Go.RowKit

/-- What became of item k of a transaction: its status, and its commit (0 where it is not done). -/
def FateAt (n : Nat) (F : Nat → Int) (S : Nat → Sto) (t : Tx) (k : Nat) (r c : Int) : Prop :=
  ∃ j, AtR n F (t.L (k * 3)) j ∧ StatIs (S j).nl (S j).l (S j).nw (S j).k (t.L (k * 3)) t.s r ∧
    ((r = 2 ∧ ∃ i, doneW (S j).k (S j).nw (t.L (k * 3)) t.s i ∧ c = (S j).k (i * 4 + 1) ∧ c ≠ 0) ∨ (r ≠ 2 ∧ (∀ i, ¬ doneW (S j).k (S j).nw (t.L (k * 3)) t.s i) ∧ c = 0))
theorem itemsF_at {F : Nat → Int} : ∀ {m k : Nat}, itemsF F m k = 0 → ∀ i, i < m → itemF (F ((k + i) * 3)) (F ((k + i) * 3 + 1)) (F ((k + i) * 3 + 2)) = 0
  | 0, _, _, _, hi => absurd hi (Nat.not_lt_zero _)
  | m + 1, k, h, i, hi => by
    rw [itemsF] at h
    split at h
    · rename_i q; exact absurd h q
    rename_i q
    split at h
    · exact absurd h (by decide)
    cases i with
    | zero => exact Decidable.not_not.1 q
    | succ i =>
      have := itemsF_at h i (by omega)
      rw [show k + (i + 1) = k + 1 + i from by omega]
      exact this
theorem txF_items {t : Tx} (h : txF t = 0) : ∀ k, k < t.m → faultOf (t.L (k * 3)) = 0 := fun k hk => by
  unfold txF txnF at h
  split at h
  · omega
  split at h
  · omega
  split at h
  · rename_i h2; exact absurd h h2
  rename_i h2
  have := itemsF_at (Decidable.not_not.1 h2) k hk
  rw [Nat.zero_add] at this
  exact itemF_key this
theorem write_pos {S : Sto} (h : storeF S = 0) {i : Nat} (hi : i < S.nw) : S.k (i * 4 + 1) ≠ 0 := by
  have := scan_zero (storeF_zero h).2.2.2.1 i hi
  unfold writeF at this
  split at this
  · rename_i q; exact absurd this q
  split at this
  · omega
  · omega
theorem FateAt.get {n : Nat} {F : Nat → Int} {S : Nat → Sto} (hG : Good n F) (hS : ∀ j, j < n → storeF (S j) = 0) {t : Tx} {k : Nat} (hk : faultOf (t.L (k * 3)) = 0) : ∃ r c, FateAt n F S t k r c := by
  obtain ⟨j, hj⟩ := hG.at (key := t.L (k * 3)) (faultOf_zero hk).2
  have hD : ∃ r, (∃ i, doneW (S j).k (S j).nw (t.L (k * 3)) t.s i ∧ r = some ((S j).k (i * 4 + 1))) ∨ ((∀ i, ¬ doneW (S j).k (S j).nw (t.L (k * 3)) t.s i) ∧ r = none) := by
    rcases firstW_or (S j).k (S j).nw (t.L (k * 3)) t.s with hno | ⟨i, hi⟩
    · exact ⟨none, Or.inr ⟨fun i q => hno i q.1, rfl⟩⟩
    · by_cases e : (S j).k (i * 4 + 3) = 4
      · exact ⟨none, Or.inr ⟨fun i' q => q.2 (by rw [firstW_one q.1 hi]; exact e), rfl⟩⟩
      · exact ⟨_, Or.inl ⟨i, ⟨hi, e⟩, rfl⟩⟩
  obtain ⟨r, hr⟩ := hD
  obtain ⟨st, hst, h⟩ := stat_done (nl := (S j).nl) (l := (S j).l) hr
  rcases hr with ⟨i, hi, rfl⟩ | ⟨hno, rfl⟩
  · rcases h with ⟨rfl, _⟩ | ⟨_, h⟩
    · exact ⟨2, _, j, hj, hst, Or.inl ⟨rfl, i, hi, rfl, write_pos (hS j hj.1) hi.1.1⟩⟩
    · exact absurd h (by simp)
  · rcases h with ⟨_, i, _, h⟩ | ⟨h2, _⟩
    · exact absurd h (by simp)
    · exact ⟨st, 0, j, hj, hst, Or.inr ⟨h2, hno, rfl⟩⟩
/-- Whether an item does not fit with the first one: by the model, by the program. -/
def badM (q0 q : Int × Int) : Bool := decide ((q0.1 = 2 ∧ (q.1 = 2 ∧ q.2 ≠ q0.2 ∨ q.1 ≠ 2 ∧ q.1 ≠ 1)) ∨ (q0.1 ≠ 2 ∧ q.1 = 2))
def allT (p : Nat → Bool) : Nat → Bool
  | 0 => true
  | k + 1 => allT p k && p k
theorem allT_go {p : Nat → Bool} {k : Nat} (h : allT p k = true) (h2 : p k = true) : allT p (k + 1) = true := by rw [allT, h, h2]; rfl
theorem allT_stop {p : Nat → Bool} {k : Nat} (h : p k = false) : ∀ {n : Nat}, k < n → allT p n = false
  | 0, q => absurd q (Nat.not_lt_zero _)
  | n + 1, q => by
    rw [allT]
    by_cases e : k = n
    · subst e; rw [h, Bool.and_false]
    · rw [allT_stop h (show k < n by omega), Bool.false_and]
theorem allT_congr {p q : Nat → Bool} : ∀ {n : Nat}, (∀ i, i < n → p i = q i) → allT p n = allT q n
  | 0, _ => rfl
  | n + 1, h => by rw [allT, allT, allT_congr (fun i hi => h i (by omega)), h n (by omega)]
/-- All or nothing: of a transaction, of all. -/
def okM (Q : Nat → Int × Int) (m : Nat) : Bool := allT (fun k => !badM (Q 0) (Q k)) m
def atomB (Q : Nat → Nat → Int × Int) (T : Nat → Tx) (nt : Nat) : Bool := allT (fun i => okM (Q i) (T i).m) nt
theorem badM_self {q : Int × Int} : badM q q = false := by unfold badM; rw [decide_eq_false_iff_not]; omega
/-- What stands while an item is looked at. -/
def ItmF (w : World) (gx q gy p : Nat) (y : Value) (s key : Int) (X : World) : Prop :=
  (X.cell? ⟨gx, q, none⟩ = some (.int .i64 s) ∧ X.cell? ⟨gx, q + 5, none⟩ = some y ∧ X.cell? ⟨gy, p, none⟩ = some (.int .i64 key)) ∧ Below w.heap.size w X
theorem ItmF.later {w X X' : World} {gx q gy p : Nat} {y : Value} {s key : Int} (h : ItmF w gx q gy p y s key X) (hb : Below X.heap.size X X') : ItmF w gx q gy p y s key X' :=
  ⟨⟨(hb.cell (lt_cell h.1.1)).trans h.1.1, (hb.cell (lt_cell h.1.2.1)).trans h.1.2.1, (hb.cell (lt_cell h.1.2.2)).trans h.1.2.2⟩, h.2.trans (hb.mono h.2.size)⟩
def ItmG (w : World) (gx q gy p gs os gw ow i : Nat) (y vw : Value) (s key c : Int) (X : World) : Prop :=
  ItmF w gx q gy p y s key X ∧ X.cell? ⟨gs, os + 2, none⟩ = some vw ∧ X.cell? ⟨gw, ow + i * 4 + 1, none⟩ = some (.int .i64 c)
set_option maxRecDepth 100000 in
set_option maxHeartbeats 8000000 in
theorem l12Fate_is (b : Nat) (nw nx bd : Int) (nr : Nat) (F : Nat → Int) (n : Nat) (S : Nat → Sto) (V : Nat → Nat → Value) (vr vs : Value) (nt : Nat) (T : Nat → Tx) (X : Nat → Value) (vt : Value) (w : World) (h : LiesD w b nw nx bd nr F n S V vr vs nt T X vt) (hr : nr ≤ 6) (hn : n = nr) (hs : ∀ i, i < n → (S i).nl ≤ 200 ∧ (S i).nw ≤ 200)
    (gx q : Nat) (t : Tx) (y : Value) (hX : LiesX w gx q t.s t.c t.u t.st t.a t.m t.L y) (k : Nat) (hk : k < t.m) (_ : t.m ≤ 12) (r c : Int) (hF : FateAt nr F S t k r c) :
    Calls Tryz.prog 41 #[.pointer (some ⟨b, 0, none⟩), .pointer (some ⟨gx, q, none⟩), .int .i64 k] w fun e w' => e = .returned (.tuple #[.int .i64 r, .int .i64 c]) ∧ Below w.heap.size w w' := by
  obtain ⟨a0, c0, a1, c1, rfl, rfl⟩ := h.2.1.form
  have H : Hid (LiesD w b nw nx bd nr F n S V (.slice a0 nr c0) (.slice a1 n c1) nt T X vt) := h
  have HS : Hid (∀ i, i < n → (S i).nl ≤ 200 ∧ (S i).nw ≤ 200) := hs
  obtain ⟨⟨x0, _, _, _, _, x5⟩, hrow, _⟩ := hX
  obtain ⟨yo, yc, rfl⟩ := hrow.form
  obtain ⟨gy, oy, hyo, _, hgy, k0, _, _⟩ := hrow.at3 hk
  subst hyo
  obtain ⟨j, hj, hst, hD⟩ := hF
  obtain ⟨m, hm⟩ : ∃ m, t.m = m := ⟨_, rfl⟩
  obtain ⟨s, hs'⟩ : ∃ s, t.s = s := ⟨_, rfl⟩
  obtain ⟨key, hkey⟩ : ∃ x, t.L (k * 3) = x := ⟨_, rfl⟩
  rw [hkey, hs'] at hst hD
  rw [hkey] at k0 hj
  rw [hs'] at x0
  rw [hm] at x5 hk
  have HJ : Hid (AtR nr F key j) := hj
  have HST : Hid (StatIs (S j).nl (S j).l (S j).nw (S j).k key s r) := hst
  have HD : Hid ((r = 2 ∧ ∃ i, doneW (S j).k (S j).nw key s i ∧ c = (S j).k (i * 4 + 1) ∧ c ≠ 0) ∨ (r ≠ 2 ∧ (∀ i, ¬ doneW (S j).k (S j).nw key s i) ∧ c = 0)) := hD
  have hjn : j < n := by rw [hn]; exact hj.1
  obtain ⟨gs, os, has, _, hgs, _, _⟩ := h.2.1.2.at hjn
  subst has
  have hkm : (k : Int) < (m : Int) := by omega
  have hS0 : ItmF w gx q gy (oy + k * 3) (.slice (some ⟨gy, oy, none⟩) m yc) s key w.drew := ⟨⟨x0, x5, k0⟩, (Below.refl _ w).drew⟩
  clear h hs hrow hj hst hD hkey hs' hm x0 x5 k0
  go_enter Tryz.func41, Tryz.ntmps41
  go_wp2_with fail
  refine wp_region_held_drew (S := ItmF w gx q gy (oy + k * 3) (.slice (some ⟨gy, oy, none⟩) m yc) s key) (by kernel_rfl) hS0 (fun hS => ?_)
  generalize w.drew = wa at hS ⊢
  clear hS0
  refine tkH 0 ?_ hS (fun wx hx => ?_) ?_; rotate_left
  · obtain ⟨⟨hx0, hx1, hx2⟩, _⟩ := hx; go_simp; try with_reducible rfl
  refine tkH 1 ?_ hS (fun wx hx => ?_) ?_; rotate_left
  · obtain ⟨⟨hx0, hx1, hx2⟩, _⟩ := hx; go_simp; try with_reducible rfl
  refine tkH 2 ?_ hS (fun wx hx => ?_) ?_; rotate_left
  · obtain ⟨⟨hx0, hx1, hx2⟩, _⟩ := hx; go_simp; try with_reducible rfl
  try simp only [Act.put, List.getElem_toArray, List.getElem_cons_zero, List.getElem_cons_succ, List.setIfInBounds_toArray, List.set_cons_succ, List.set_cons_zero]
  refine tkH 3 ?_ hS (fun wx hx => ?_) ?_; rotate_left
  · obtain ⟨⟨hx0, hx1, hx2⟩, _⟩ := hx; go_simp; try with_reducible rfl
  refine tkH 4 ?_ hS (fun wx hx => ?_) ?_; rotate_left
  · obtain ⟨⟨hx0, hx1, hx2⟩, _⟩ := hx; go_simp; try with_reducible rfl
  refine tkH 5 ?_ hS (fun wx hx => ?_) ?_; rotate_left
  · obtain ⟨⟨hx0, hx1, hx2⟩, _⟩ := hx; go_simp; try with_reducible rfl
  try simp only [Act.put, List.getElem_toArray, List.getElem_cons_zero, List.getElem_cons_succ, List.setIfInBounds_toArray, List.set_cons_succ, List.set_cons_zero]
  refine tkH 6 ?_ hS (fun wx hx => ?_) ?_; rotate_left
  · obtain ⟨⟨hx0, hx1, hx2⟩, _⟩ := hx; go_simp; try with_reducible rfl
  refine tkH 7 ?_ hS (fun wx hx => ?_) ?_; rotate_left
  · obtain ⟨⟨hx0, hx1, hx2⟩, _⟩ := hx; go_simp; try with_reducible rfl
  refine tkH 8 ?_ hS (fun wx hx => ?_) ?_; rotate_left
  · obtain ⟨⟨hx0, hx1, hx2⟩, _⟩ := hx; go_simp; try with_reducible rfl
  try simp only [Act.put, List.getElem_toArray, List.getElem_cons_zero, List.getElem_cons_succ, List.setIfInBounds_toArray, List.set_cons_succ, List.set_cons_zero]
  refine tkH 9 ?_ hS (fun wx hx => ?_) ?_; rotate_left
  · obtain ⟨⟨hx0, hx1, hx2⟩, _⟩ := hx; go_simp; try with_reducible rfl
  refine tkH 10 ?_ hS (fun wx hx => ?_) ?_; rotate_left
  · obtain ⟨⟨hx0, hx1, hx2⟩, _⟩ := hx; go_simp; try with_reducible rfl
  try simp only [Act.put, List.getElem_toArray, List.getElem_cons_zero, List.getElem_cons_succ, List.setIfInBounds_toArray, List.set_cons_succ, List.set_cons_zero]
  refine rdH 11 (fun K hK => ?_)
  go_simp
  go_wp2_with fail
  refine (l7For_at nr F n S V _ _ gs os c1 key j b _ (H.out.later hS.2).groups hr HJ.out hjn).mono ?_
  rintro e w1 ⟨rfl, hw1⟩
  have hS1 : ItmF w gx q gy (oy + k * 3) (.slice (some ⟨gy, oy, none⟩) m yc) s key w1 := by rw [hw1]; exact hS.later (Below.refl _ wa).drew
  clear hw1
  go_wp2_with fail
  refine hK.out _ _ hS1 (fun hS => ?_)
  clear hK K hS1
  refine tkH 12 ?_ hS (fun wx hx => ?_) ?_; rotate_left
  · obtain ⟨⟨hx0, hx1, hx2⟩, _⟩ := hx; go_simp; try with_reducible rfl
  refine wpAnyH_done (by kernel_rfl) ?_ _
  go_simp
  have HB1 : Hid (ItmF w gx q gy (oy + k * 3) (.slice (some ⟨gy, oy, none⟩) m yc) s key w1) := hS
  clear hS
  have L1 : Hid (LiesO w1 gs (os + j * 3) (S j) (V j 0) (V j 1) (V j 2)) := (H.out.2.1.2.later HB1.out.2).o hjn
  go_wp2_with fail
  have hS0 : ItmF w gx q gy (oy + k * 3) (.slice (some ⟨gy, oy, none⟩) m yc) s key w1.drew := HB1.out.later (Below.refl _ w1).drew
  have L2 : Hid (LiesO w1.drew gs (os + j * 3) (S j) (V j 0) (V j 1) (V j 2)) := L1.out.later (Below.refl _ w1).drew
  clear L1 HB1
  refine wp_region_held_drew (S := ItmF w gx q gy (oy + k * 3) (.slice (some ⟨gy, oy, none⟩) m yc) s key) (by kernel_rfl) hS0 (fun hS => ?_)
  generalize w1.drew = wb at hS L2 ⊢
  clear hS0
  refine tkH 0 ?_ hS (fun wx hx => ?_) ?_; rotate_left
  · obtain ⟨⟨hx0, hx1, hx2⟩, _⟩ := hx; go_simp; try with_reducible rfl
  refine tkH 1 ?_ hS (fun wx hx => ?_) ?_; rotate_left
  · obtain ⟨⟨hx0, hx1, hx2⟩, _⟩ := hx; go_simp; try with_reducible rfl
  refine tkH 2 ?_ hS (fun wx hx => ?_) ?_; rotate_left
  · obtain ⟨⟨hx0, hx1, hx2⟩, _⟩ := hx; go_simp; try with_reducible rfl
  try simp only [Act.put, List.getElem_toArray, List.getElem_cons_zero, List.getElem_cons_succ, List.setIfInBounds_toArray, List.set_cons_succ, List.set_cons_zero]
  refine tkH 3 ?_ hS (fun wx hx => ?_) ?_; rotate_left
  · obtain ⟨⟨hx0, hx1, hx2⟩, _⟩ := hx; go_simp; try with_reducible rfl
  refine tkH 4 ?_ hS (fun wx hx => ?_) ?_; rotate_left
  · obtain ⟨⟨hx0, hx1, hx2⟩, _⟩ := hx; go_simp; try with_reducible rfl
  refine tkH 5 ?_ hS (fun wx hx => ?_) ?_; rotate_left
  · obtain ⟨⟨hx0, hx1, hx2⟩, _⟩ := hx; go_simp; try with_reducible rfl
  try simp only [Act.put, List.getElem_toArray, List.getElem_cons_zero, List.getElem_cons_succ, List.setIfInBounds_toArray, List.set_cons_succ, List.set_cons_zero]
  refine tkH 6 ?_ hS (fun wx hx => ?_) ?_; rotate_left
  · obtain ⟨⟨hx0, hx1, hx2⟩, _⟩ := hx; go_simp; try with_reducible rfl
  refine tkH 7 ?_ hS (fun wx hx => ?_) ?_; rotate_left
  · obtain ⟨⟨hx0, hx1, hx2⟩, _⟩ := hx; go_simp; try with_reducible rfl
  refine tkH 8 ?_ hS (fun wx hx => ?_) ?_; rotate_left
  · obtain ⟨⟨hx0, hx1, hx2⟩, _⟩ := hx; go_simp; try with_reducible rfl
  try simp only [Act.put, List.getElem_toArray, List.getElem_cons_zero, List.getElem_cons_succ, List.setIfInBounds_toArray, List.set_cons_succ, List.set_cons_zero]
  refine tkH 9 ?_ hS (fun wx hx => ?_) ?_; rotate_left
  · obtain ⟨⟨hx0, hx1, hx2⟩, _⟩ := hx; go_simp; try with_reducible rfl
  refine tkH 10 ?_ hS (fun wx hx => ?_) ?_; rotate_left
  · obtain ⟨⟨hx0, hx1, hx2⟩, _⟩ := hx; go_simp; try with_reducible rfl
  refine tkH 11 ?_ hS (fun wx hx => ?_) ?_; rotate_left
  · obtain ⟨⟨hx0, hx1, hx2⟩, _⟩ := hx; go_simp; try with_reducible rfl
  try simp only [Act.put, List.getElem_toArray, List.getElem_cons_zero, List.getElem_cons_succ, List.setIfInBounds_toArray, List.set_cons_succ, List.set_cons_zero]
  refine tkH 12 ?_ hS (fun wx hx => ?_) ?_; rotate_left
  · obtain ⟨⟨hx0, hx1, hx2⟩, _⟩ := hx; go_simp; try with_reducible rfl
  try simp only [Act.put, List.getElem_toArray, List.getElem_cons_zero, List.getElem_cons_succ, List.setIfInBounds_toArray, List.set_cons_succ, List.set_cons_zero]
  refine rdH 13 (fun K hK => ?_)
  go_simp
  go_wp2_with fail
  refine (l4Status_isO (S j) gs (os + j * 3) _ _ _ key s r _ L2.out (HS.out j hjn).1 (HS.out j hjn).2 HST.out).mono ?_
  rintro e w2 ⟨rfl, hw2⟩
  obtain rfl := hw2.symm
  clear hw2
  go_wp2_with fail
  refine hK.out _ _ hS (fun hS => ?_)
  clear hK K
  refine tkH 14 ?_ hS (fun wx hx => ?_) ?_; rotate_left
  · obtain ⟨⟨hx0, hx1, hx2⟩, _⟩ := hx; go_simp; try with_reducible rfl
  refine wpAnyH_done (by kernel_rfl) ?_ _
  go_simp
  have HB2 : Hid (ItmF w gx q gy (oy + k * 3) (.slice (some ⟨gy, oy, none⟩) m yc) s key wb) := hS
  clear hS HST
  rcases HD.out with ⟨h2, i, hfi, hc, _⟩ | ⟨h2, _, hc⟩
  case inr =>
    have d2 : (r != 2) = true := bne_iff_ne.2 h2
    clear h2 HD
    go_wp2
    refine bodyPost_ret (v := .tuple #[.int .i64 r, .int .i64 0]) (by simp [results, Tryz.results41, go_sem]) rfl ?_
    exact ⟨by rw [hc], HB2.out.2⟩
  subst h2
  obtain ⟨f0, e0, f1, e1, f2, e2, v0, v1, v2⟩ := L2.out.2.form
  have p2 := L2.out.1.2.2
  rw [v2] at p2
  have R2 := L2.out.2.2.2
  rw [v2] at R2
  obtain ⟨gw, ow, rfl, _, hgw, _, y1, _, _⟩ := R2.at4 hfi.1.1
  rw [← hc] at y1
  have HFI : Hid (firstW (S j).k (S j).nw key s i) := hfi.1
  have hin : (i : Int) < ((S j).nw : Int) := by have := hfi.1.1; omega
  have hS0 : ItmG w gx q gy (oy + k * 3) gs (os + j * 3) gw ow i (.slice (some ⟨gy, oy, none⟩) m yc) (.slice (some ⟨gw, ow, none⟩) (S j).nw e2) s key c wb.drew := ⟨HB2.out.later (Below.refl _ wb).drew, p2, y1⟩
  have L3 : Hid (LiesO wb.drew gs (os + j * 3) (S j) (V j 0) (V j 1) (V j 2)) := L2.out.later (Below.refl _ wb).drew
  clear hfi hc HD v0 v1 v2 R2 L2 p2 y1 HB2
  go_wp2_with fail
  refine wp_region_held_drew (S := ItmG w gx q gy (oy + k * 3) gs (os + j * 3) gw ow i (.slice (some ⟨gy, oy, none⟩) m yc) (.slice (some ⟨gw, ow, none⟩) (S j).nw e2) s key c) (by kernel_rfl) hS0 (fun hS => ?_)
  generalize wb.drew = wc at hS L3 ⊢
  clear hS0
  refine tkH 0 ?_ hS (fun wx hx => ?_) ?_; rotate_left
  · obtain ⟨⟨⟨hx0, hx1, hx2⟩, _⟩, hx3, hx4⟩ := hx; go_simp; try with_reducible rfl
  refine tkH 1 ?_ hS (fun wx hx => ?_) ?_; rotate_left
  · obtain ⟨⟨⟨hx0, hx1, hx2⟩, _⟩, hx3, hx4⟩ := hx; go_simp; try with_reducible rfl
  refine tkH 2 ?_ hS (fun wx hx => ?_) ?_; rotate_left
  · obtain ⟨⟨⟨hx0, hx1, hx2⟩, _⟩, hx3, hx4⟩ := hx; go_simp; try with_reducible rfl
  try simp only [Act.put, List.getElem_toArray, List.getElem_cons_zero, List.getElem_cons_succ, List.setIfInBounds_toArray, List.set_cons_succ, List.set_cons_zero]
  refine tkH 3 ?_ hS (fun wx hx => ?_) ?_; rotate_left
  · obtain ⟨⟨⟨hx0, hx1, hx2⟩, _⟩, hx3, hx4⟩ := hx; go_simp; try with_reducible rfl
  refine tkH 4 ?_ hS (fun wx hx => ?_) ?_; rotate_left
  · obtain ⟨⟨⟨hx0, hx1, hx2⟩, _⟩, hx3, hx4⟩ := hx; go_simp; try with_reducible rfl
  refine tkH 5 ?_ hS (fun wx hx => ?_) ?_; rotate_left
  · obtain ⟨⟨⟨hx0, hx1, hx2⟩, _⟩, hx3, hx4⟩ := hx; go_simp; try with_reducible rfl
  try simp only [Act.put, List.getElem_toArray, List.getElem_cons_zero, List.getElem_cons_succ, List.setIfInBounds_toArray, List.set_cons_succ, List.set_cons_zero]
  refine tkH 6 ?_ hS (fun wx hx => ?_) ?_; rotate_left
  · obtain ⟨⟨⟨hx0, hx1, hx2⟩, _⟩, hx3, hx4⟩ := hx; go_simp; try with_reducible rfl
  refine tkH 7 ?_ hS (fun wx hx => ?_) ?_; rotate_left
  · obtain ⟨⟨⟨hx0, hx1, hx2⟩, _⟩, hx3, hx4⟩ := hx; go_simp; try with_reducible rfl
  refine tkH 8 ?_ hS (fun wx hx => ?_) ?_; rotate_left
  · obtain ⟨⟨⟨hx0, hx1, hx2⟩, _⟩, hx3, hx4⟩ := hx; go_simp; try with_reducible rfl
  try simp only [Act.put, List.getElem_toArray, List.getElem_cons_zero, List.getElem_cons_succ, List.setIfInBounds_toArray, List.set_cons_succ, List.set_cons_zero]
  refine tkH 9 ?_ hS (fun wx hx => ?_) ?_; rotate_left
  · obtain ⟨⟨⟨hx0, hx1, hx2⟩, _⟩, hx3, hx4⟩ := hx; go_simp; try with_reducible rfl
  refine tkH 10 ?_ hS (fun wx hx => ?_) ?_; rotate_left
  · obtain ⟨⟨⟨hx0, hx1, hx2⟩, _⟩, hx3, hx4⟩ := hx; go_simp; try with_reducible rfl
  refine tkH 11 ?_ hS (fun wx hx => ?_) ?_; rotate_left
  · obtain ⟨⟨⟨hx0, hx1, hx2⟩, _⟩, hx3, hx4⟩ := hx; go_simp; try with_reducible rfl
  try simp only [Act.put, List.getElem_toArray, List.getElem_cons_zero, List.getElem_cons_succ, List.setIfInBounds_toArray, List.set_cons_succ, List.set_cons_zero]
  refine tkH 12 ?_ hS (fun wx hx => ?_) ?_; rotate_left
  · obtain ⟨⟨⟨hx0, hx1, hx2⟩, _⟩, hx3, hx4⟩ := hx; go_simp; try with_reducible rfl
  refine tkH 13 ?_ hS (fun wx hx => ?_) ?_; rotate_left
  · obtain ⟨⟨⟨hx0, hx1, hx2⟩, _⟩, hx3, hx4⟩ := hx; go_simp; try with_reducible rfl
  refine tkH 14 ?_ hS (fun wx hx => ?_) ?_; rotate_left
  · obtain ⟨⟨⟨hx0, hx1, hx2⟩, _⟩, hx3, hx4⟩ := hx; go_simp; try with_reducible rfl
  try simp only [Act.put, List.getElem_toArray, List.getElem_cons_zero, List.getElem_cons_succ, List.setIfInBounds_toArray, List.set_cons_succ, List.set_cons_zero]
  refine tkH 15 ?_ hS (fun wx hx => ?_) ?_; rotate_left
  · obtain ⟨⟨⟨hx0, hx1, hx2⟩, _⟩, hx3, hx4⟩ := hx; go_simp; try with_reducible rfl
  refine tkH 16 ?_ hS (fun wx hx => ?_) ?_; rotate_left
  · obtain ⟨⟨⟨hx0, hx1, hx2⟩, _⟩, hx3, hx4⟩ := hx; go_simp; try with_reducible rfl
  refine tkH 17 ?_ hS (fun wx hx => ?_) ?_; rotate_left
  · obtain ⟨⟨⟨hx0, hx1, hx2⟩, _⟩, hx3, hx4⟩ := hx; go_simp; try with_reducible rfl
  try simp only [Act.put, List.getElem_toArray, List.getElem_cons_zero, List.getElem_cons_succ, List.setIfInBounds_toArray, List.set_cons_succ, List.set_cons_zero]
  refine rdH 18 (fun K hK => ?_)
  go_simp
  go_wp2_with fail
  refine (write_yesO (S j) gs (os + j * 3) _ _ _ key s i _ L3.out (HS.out j hjn).2 HFI.out).mono ?_
  rintro e w3 ⟨rfl, hw3⟩
  obtain rfl := hw3.symm
  clear hw3
  go_wp2_with fail
  refine hK.out _ _ hS (fun hS => ?_)
  clear hK K
  refine tkH 19 ?_ hS (fun wx hx => ?_) ?_; rotate_left
  · obtain ⟨⟨⟨hx0, hx1, hx2⟩, _⟩, hx3, hx4⟩ := hx; go_simp; try with_reducible rfl
  refine tkH 20 ?_ hS (fun wx hx => ?_) ?_; rotate_left
  · obtain ⟨⟨⟨hx0, hx1, hx2⟩, _⟩, hx3, hx4⟩ := hx; go_simp; try with_reducible rfl
  refine tkH 21 ?_ hS (fun wx hx => ?_) ?_; rotate_left
  · obtain ⟨⟨⟨hx0, hx1, hx2⟩, _⟩, hx3, hx4⟩ := hx; go_simp; try with_reducible rfl
  try simp only [Act.put, List.getElem_toArray, List.getElem_cons_zero, List.getElem_cons_succ, List.setIfInBounds_toArray, List.set_cons_succ, List.set_cons_zero]
  refine tkH 22 ?_ hS (fun wx hx => ?_) ?_; rotate_left
  · obtain ⟨⟨⟨hx0, hx1, hx2⟩, _⟩, hx3, hx4⟩ := hx; go_simp; try with_reducible rfl
  refine tkH 23 ?_ hS (fun wx hx => ?_) ?_; rotate_left
  · obtain ⟨⟨⟨hx0, hx1, hx2⟩, _⟩, hx3, hx4⟩ := hx; go_simp; try with_reducible rfl
  refine wpAnyH_done (by kernel_rfl) ?_ _
  go_simp
  have HB3 : Hid (Below w.heap.size w wc) := hS.1.2
  clear hS
  go_wp2
  refine bodyPost_ret (v := .tuple #[.int .i64 2, .int .i64 c]) (by simp [results, Tryz.results41, go_sem]) rfl ?_
  exact ⟨rfl, HB3.out⟩
end Go.Proofs.YtglcedhkbbckiaaGreat

namespace Go.Proofs.YtglcedhkbbckiaaGreat
open Go.RowKit

theorem doneC {k : Nat → Int} {nw : Nat} {key start : Int} {u : Value} {c : Int} (hT : Told (doneW k nw key start) k u) (hD : (∃ i, doneW k nw key start i ∧ c = k (i * 4 + 1)) ∨ ((∀ i, ¬ doneW k nw key start i) ∧ c = 0)) :
    ∃ (a0 a2 a3 : Int) (s : Bool), u = .tuple #[.agg #[.int .i64 a0, .int .i64 c, .int .i64 a2, .int .i64 a3], .bool s] := by
  rcases hT with ⟨i, hi, rfl⟩ | ⟨hno, rfl⟩
  · rcases hD with ⟨j, hj, rfl⟩ | ⟨hno, _⟩
    · obtain rfl := firstW_one hi.1 hj.1
      exact ⟨_, _, _, true, rfl⟩
    · exact absurd hi (hno i)
  · rcases hD with ⟨j, hj, _⟩ | ⟨_, rfl⟩
    · exact absurd hj (hno j)
    · exact ⟨0, 0, 0, false, rfl⟩
set_option maxRecDepth 100000 in
set_option maxHeartbeats 4000000 in
theorem commitOf_is (key s c : Int) (Bw n : Nat) (F : Nat → Int) (S : Nat → Sto) (g : Nat) (P : Nat → Nat) (j : Nat) (w : World) (hW : Work w Bw n F S (some ⟨g, 0, none⟩) P) (hj : AtR n F key j) (hn : n ≤ 12) (hD : (∃ i, doneW (S j).k (S j).nw key s i ∧ c = (S j).k (i * 4 + 1)) ∨ ((∀ i, ¬ doneW (S j).k (S j).nw key s i) ∧ c = 0)) :
    Calls Tryz.prog 124 #[.slice (some ⟨g, 0, none⟩) n n, .int .i64 key, .int .i64 s] w fun e w' => e = .returned (.int .i64 c) ∧ Below w.heap.size w w' := by
  have HW : Hid (Work w Bw n F S (some ⟨g, 0, none⟩) P) := hW
  have HJ : Hid (AtR n F key j) := hj
  have HD : Hid ((∃ i, doneW (S j).k (S j).nw key s i ∧ c = (S j).k (i * 4 + 1)) ∨ ((∀ i, ¬ doneW (S j).k (S j).nw key s i) ∧ c = 0)) := hD
  clear hW hj hD
  go_enter Tryz.func124, Tryz.ntmps124
  go_wp2_with fail
  refine (storeOf_is key Bw n F S _ n P j _ HW.out HJ.out hn).mono ?_
  rintro e w5 ⟨rfl, q5⟩
  have Q5 : Hid (Below w.heap.size w w5) := q5
  clear q5
  go_wp2_with fail
  obtain ⟨N, mm, gm, u1, u2, hNl, _, hRS⟩ := (HW.out.later Q5.out).2 j HJ.out.1
  refine (doneOf_anyO _ (P j) 3 N mm _ _ _ _ gm u1 u2 key s _ hRS.2.1 hNl.2.2).mono ?_
  rintro e w6 ⟨u, rfl, hTold, q6⟩
  obtain ⟨a0, a2, a3, sb, rfl⟩ := doneC hTold HD.out
  have Q6 : Hid (Below w.heap.size w w6) := Q5.out.trans (q6.mono Q5.out.size)
  clear hTold hRS hNl q6 Q5
  go_wp2
  go_ret
  exact ⟨rfl, Q6.out.alloc Q6.out.size _⟩
/-- What the program asks of an item. -/
def fitP (q0 q : Int × Int) : Bool := decide (q.1 = 1) || decide (q.2 = q0.2)
theorem fitP_model {n : Nat} {F : Nat → Int} {S : Nat → Sto} {t : Tx} {q0 q : Int × Int} {i k : Nat} (h0 : FateAt n F S t i q0.1 q0.2) (h : FateAt n F S t k q.1 q.2) : fitP q0 q = !badM q0 q := by
  obtain ⟨j0, _, _, h0⟩ := h0
  obtain ⟨j, _, _, h⟩ := h
  unfold fitP badM
  rcases h0 with ⟨e0, _, _, _, n0⟩ | ⟨e0, _, c0⟩ <;> rcases h with ⟨e, _, _, _, n1⟩ | ⟨e, _, c⟩
  · by_cases hc : q.2 = q0.2
    · rw [decide_eq_true hc, Bool.or_true, decide_eq_false (by omega)]; rfl
    · rw [decide_eq_false hc, Bool.or_false, decide_eq_false (by omega), decide_eq_true (by omega)]; rfl
  · by_cases h1 : q.1 = 1
    · rw [decide_eq_true h1, Bool.true_or, decide_eq_false (by omega)]; rfl
    · rw [decide_eq_false h1, Bool.false_or, decide_eq_false (by omega), decide_eq_true (by omega)]; rfl
  · rw [decide_eq_false (show ¬ q.1 = 1 by omega), Bool.false_or, decide_eq_false (by omega), decide_eq_true (by omega)]; rfl
  · rw [decide_eq_true (show q.2 = q0.2 by omega), Bool.or_true, decide_eq_false (by omega)]; rfl
/-- What stands while a transaction's items are looked at: the transaction in block z. -/
def AonE (w : World) (z : Nat) (t : Tx) (y : Value) (X : World) : Prop := Below w.heap.size w X ∧ Blk6 X z (.int .i64 t.s) (.int .i64 t.c) (.int .i64 t.u) (.int .i64 t.st) (.int .i64 t.a) y
theorem AonE.later {w : World} {z : Nat} {t : Tx} {y : Value} {X X' : World} (h : AonE w z t y X) (hb : Below X.heap.size X X') : AonE w z t y X' := ⟨h.1.trans (hb.mono h.1.size), h.2.later hb⟩
set_option maxRecDepth 100000 in
set_option maxHeartbeats 8000000 in
theorem allOrNothing_is (Bw n : Nat) (F : Nat → Int) (S : Nat → Sto) (g : Nat) (P : Nat → Nat) (t : Tx) (y : Value) (Q : Nat → Int × Int) (w : World) (hW : Work w Bw n F S (some ⟨g, 0, none⟩) P) (hn : n ≤ 12) (hrow : Row w 0 3 t.m t.L y) (hm : 1 ≤ t.m ∧ t.m ≤ 12) (hQ : ∀ k, k < t.m → FateAt n F S t k (Q k).1 (Q k).2) :
    Calls Tryz.prog 82 #[.slice (some ⟨g, 0, none⟩) n n, .agg #[.int .i64 t.s, .int .i64 t.c, .int .i64 t.u, .int .i64 t.st, .int .i64 t.a, y]] w fun e w' => e = .returned (.bool (okM Q t.m)) ∧ Below w.heap.size w w' := by
  have HW : Hid (Work w Bw n F S (some ⟨g, 0, none⟩) P) := hW
  have HQ : Hid (∀ k, k < t.m → FateAt n F S t k (Q k).1 (Q k).2) := hQ
  have HROW : Hid (Row w 0 3 t.m t.L y) := hrow
  have HOK : Hid (okM Q t.m = allT (fun k => fitP (Q 0) (Q k)) t.m) := allT_congr (fun i hi => (fitP_model (hQ 0 (by omega)) (hQ i hi)).symm)
  obtain ⟨yo, yc, rfl⟩ := hrow.form
  obtain ⟨gy, oy, hyo, _, hgy, k0, _, _⟩ := hrow.at3 (k := 0) (by omega)
  subst hyo
  simp only [Nat.zero_mul, Nat.add_zero] at k0
  obtain ⟨key, hkey⟩ : ∃ x, t.L 0 = x := ⟨_, rfl⟩
  rw [hkey] at k0
  obtain ⟨j, hj, _, hD⟩ := hQ 0 (by omega)
  rw [Nat.zero_mul, hkey] at hj hD
  obtain ⟨c0, hc0⟩ : ∃ c, (Q 0).2 = c := ⟨_, rfl⟩
  rw [hc0] at hD
  have HC0 : Hid ((Q 0).2 = c0) := hc0
  have HJ : Hid (AtR n F key j) := hj
  have HD : Hid ((∃ i, doneW (S j).k (S j).nw key t.s i ∧ c0 = (S j).k (i * 4 + 1)) ∨ ((∀ i, ¬ doneW (S j).k (S j).nw key t.s i) ∧ c0 = 0)) := by
    rcases hD with ⟨_, i, hi, e, _⟩ | ⟨_, hno, e⟩
    · exact Or.inl ⟨i, hi, e⟩
    · exact Or.inr ⟨hno, e⟩
  have hS0 : (fun X : World => AonE w w.heap.size t (.slice (some ⟨gy, oy, none⟩) t.m yc) X ∧ X.cell? ⟨gy, oy, none⟩ = some (.int .i64 key)) (w.alloc (.cells #[.int .i64 t.s, .int .i64 t.c, .int .i64 t.u, .int .i64 t.st, .int .i64 t.a, .slice (some ⟨gy, oy, none⟩) t.m yc] 77)).drew := ⟨⟨(below_alloc _ _).drew, Blk6.new w _ _ _ _ _ _ _⟩, ((below_alloc w _).cell (p := ⟨gy, oy, none⟩) hgy).trans k0⟩
  clear hW hQ hrow hj hD hkey hc0 k0
  go_enter Tryz.func82, Tryz.ntmps82
  go_wp2_with fail
  refine wp_region_held_drew (S := fun X : World => AonE w w.heap.size t (.slice (some ⟨gy, oy, none⟩) t.m yc) X ∧ X.cell? ⟨gy, oy, none⟩ = some (.int .i64 key)) (by kernel_rfl) hS0 (fun hS => ?_)
  generalize (w.alloc (.cells #[.int .i64 t.s, .int .i64 t.c, .int .i64 t.u, .int .i64 t.st, .int .i64 t.a, .slice (some ⟨gy, oy, none⟩) t.m yc] 77)).drew = wa at hS ⊢
  clear hS0
  have hm1 : 0 < t.m := hm.1
  refine tkH 0 ?_ hS (fun wx hx => ?_) ?_; rotate_left
  · obtain ⟨⟨hx0, hx1, hx2, hx3, hx4, hx5⟩, _⟩ := hx.1.2; have hx6 := hx.2; go_simp; try with_reducible rfl
  refine tkH 1 ?_ hS (fun wx hx => ?_) ?_; rotate_left
  · obtain ⟨⟨hx0, hx1, hx2, hx3, hx4, hx5⟩, _⟩ := hx.1.2; have hx6 := hx.2; go_simp; try with_reducible rfl
  refine tkH 2 ?_ hS (fun wx hx => ?_) ?_; rotate_left
  · obtain ⟨⟨hx0, hx1, hx2, hx3, hx4, hx5⟩, _⟩ := hx.1.2; have hx6 := hx.2; go_simp; try with_reducible rfl
  try simp only [Act.put, List.getElem_toArray, List.getElem_cons_zero, List.getElem_cons_succ, List.setIfInBounds_toArray, List.set_cons_succ, List.set_cons_zero]
  refine tkH 3 ?_ hS (fun wx hx => ?_) ?_; rotate_left
  · obtain ⟨⟨hx0, hx1, hx2, hx3, hx4, hx5⟩, _⟩ := hx.1.2; have hx6 := hx.2; go_simp; try with_reducible rfl
  refine tkH 4 ?_ hS (fun wx hx => ?_) ?_; rotate_left
  · obtain ⟨⟨hx0, hx1, hx2, hx3, hx4, hx5⟩, _⟩ := hx.1.2; have hx6 := hx.2; go_simp; try with_reducible rfl
  refine tkH 5 ?_ hS (fun wx hx => ?_) ?_; rotate_left
  · obtain ⟨⟨hx0, hx1, hx2, hx3, hx4, hx5⟩, _⟩ := hx.1.2; have hx6 := hx.2; go_simp; try with_reducible rfl
  try simp only [Act.put, List.getElem_toArray, List.getElem_cons_zero, List.getElem_cons_succ, List.setIfInBounds_toArray, List.set_cons_succ, List.set_cons_zero]
  refine tkH 6 ?_ hS (fun wx hx => ?_) ?_; rotate_left
  · obtain ⟨⟨hx0, hx1, hx2, hx3, hx4, hx5⟩, _⟩ := hx.1.2; have hx6 := hx.2; go_simp; try with_reducible rfl
  refine tkH 7 ?_ hS (fun wx hx => ?_) ?_; rotate_left
  · obtain ⟨⟨hx0, hx1, hx2, hx3, hx4, hx5⟩, _⟩ := hx.1.2; have hx6 := hx.2; go_simp; try with_reducible rfl
  try simp only [Act.put, List.getElem_toArray, List.getElem_cons_zero, List.getElem_cons_succ, List.setIfInBounds_toArray, List.set_cons_succ, List.set_cons_zero]
  refine rdH 8 (fun K hK => ?_)
  go_simp
  go_wp2_with fail
  refine (commitOf_is key t.s c0 Bw n F S g P j _ (HW.out.later hS.1.1) HJ.out hn HD.out).mono ?_
  rintro e w1 ⟨rfl, q1⟩
  have hS1 : AonE w w.heap.size t (.slice (some ⟨gy, oy, none⟩) t.m yc) w1 ∧ w1.cell? ⟨gy, oy, none⟩ = some (.int .i64 key) := ⟨hS.1.later q1, (q1.cell (lt_cell hS.2)).trans hS.2⟩
  clear q1
  go_wp2_with fail
  refine hK.out _ _ hS1 (fun hS => ?_)
  clear hK K hS1
  refine tkH 9 ?_ hS (fun wx hx => ?_) ?_; rotate_left
  · obtain ⟨⟨hx0, hx1, hx2, hx3, hx4, hx5⟩, _⟩ := hx.1.2; have hx6 := hx.2; go_simp; try with_reducible rfl
  refine wpAnyH_done (by kernel_rfl) ?_ _
  go_simp
  have H1 : Hid (AonE w w.heap.size t (.slice (some ⟨gy, oy, none⟩) t.m yc) w1) := hS.1
  clear hS HJ HD
  have hm12 : t.m ≤ 12 := hm.2
  obtain ⟨⟨p0, p1, p2, p3, p4, p5⟩, _⟩ := H1.out.2
  go_wp2
  clear p0 p1 p2 p3 p4 p5
  go_loopw [21] (fun i wr => ∃ k : Nat, k ≤ t.m ∧ i = .int .i64 k ∧ Hid (allT (fun k => fitP (Q 0) (Q k)) k = true) ∧ Hid (AonE w w.heap.size t (.slice (some ⟨gy, oy, none⟩) t.m yc) wr)) (fun i _ => t.m - (intOf i).toNat)
  case atStart => exact ⟨0, Nat.zero_le _, rfl, rfl, H1⟩
  case round =>
    clear H1
    obtain ⟨k, hk, rfl, HA, HB⟩ := hrel
    by_cases hlt : k < t.m
    case neg =>
      obtain rfl : k = t.m := by omega
      have E : Hid (okM Q t.m = true) := HOK.out.trans HA.out
      go_wp2
      go_ret
      exact ⟨by rw [E.out]; rfl, HB.out.1⟩
    obtain ⟨gz, oz, hzo, _, hgz, z0, z1, z2⟩ := (HROW.out.later HB.out.1).at3 hlt
    obtain ⟨rfl, rfl⟩ : gy = gz ∧ oy = oz := by simpa using hzo
    clear hzo
    obtain ⟨key', hkey⟩ : ∃ x, t.L (k * 3) = x := ⟨_, rfl⟩
    obtain ⟨kd, hkd⟩ : ∃ x, t.L (k * 3 + 1) = x := ⟨_, rfl⟩
    obtain ⟨vl, hvl⟩ : ∃ x, t.L (k * 3 + 2) = x := ⟨_, rfl⟩
    rw [hkey] at z0
    rw [hkd] at z1
    rw [hvl] at z2
    obtain ⟨j, hj, hst, hD⟩ := HQ.out k hlt
    rw [hkey] at hj hst hD
    obtain ⟨r, hr⟩ : ∃ r, (Q k).1 = r := ⟨_, rfl⟩
    obtain ⟨c, hc⟩ : ∃ c, (Q k).2 = c := ⟨_, rfl⟩
    rw [hr] at hst hD
    rw [hc] at hD
    have HR : Hid ((Q k).1 = r ∧ (Q k).2 = c) := ⟨hr, hc⟩
    have HJ : Hid (AtR n F key' j) := hj
    have HST : Hid (StatIs (S j).nl (S j).l (S j).nw (S j).k key' t.s r) := hst
    have HD : Hid ((∃ i, doneW (S j).k (S j).nw key' t.s i ∧ c = (S j).k (i * 4 + 1)) ∨ ((∀ i, ¬ doneW (S j).k (S j).nw key' t.s i) ∧ c = 0)) := by
      rcases hD with ⟨_, i, hi, e, _⟩ | ⟨_, hno, e⟩
      · exact Or.inl ⟨i, hi, e⟩
      · exact Or.inr ⟨hno, e⟩
    have hS0 : (fun X : World => AonE w w.heap.size t (.slice (some ⟨gy, oy, none⟩) t.m yc) X ∧ X.cell? ⟨wr.heap.size, 0, none⟩ = some (.int .i64 key')) (wr.alloc (.cells #[.int .i64 key', .int .i64 kd, .int .i64 vl] 90)).drew := ⟨⟨(HB.out.1.alloc HB.out.1.size _).drew, HB.out.2.later (below_alloc _ _).drew⟩, (Blk3.new wr _ _ _ _).1.1⟩
    clear hj hst hD hr hc hkey hkd hvl
    go_upto_region 5 with fail
    refine wp_region_held_drew (S := fun X : World => AonE w w.heap.size t (.slice (some ⟨gy, oy, none⟩) t.m yc) X ∧ X.cell? ⟨wr.heap.size, 0, none⟩ = some (.int .i64 key')) (by kernel_rfl) hS0 (fun hS => ?_)
    generalize (wr.alloc (.cells #[.int .i64 key', .int .i64 kd, .int .i64 vl] 90)).drew = wa at hS ⊢
    clear hS0 z0 z1 z2 HB
    refine tkH 0 ?_ hS (fun wx hx => ?_) ?_; rotate_left
    · obtain ⟨⟨hx0, hx1, hx2, hx3, hx4, hx5⟩, _⟩ := hx.1.2; have hx6 := hx.2; go_simp; try with_reducible rfl
    refine tkH 1 ?_ hS (fun wx hx => ?_) ?_; rotate_left
    · obtain ⟨⟨hx0, hx1, hx2, hx3, hx4, hx5⟩, _⟩ := hx.1.2; have hx6 := hx.2; go_simp; try with_reducible rfl
    refine tkH 2 ?_ hS (fun wx hx => ?_) ?_; rotate_left
    · obtain ⟨⟨hx0, hx1, hx2, hx3, hx4, hx5⟩, _⟩ := hx.1.2; have hx6 := hx.2; go_simp; try with_reducible rfl
    try simp only [Act.put, List.getElem_toArray, List.getElem_cons_zero, List.getElem_cons_succ, List.setIfInBounds_toArray, List.set_cons_succ, List.set_cons_zero]
    refine tkH 6 ?_ hS (fun wx hx => ?_) ?_; rotate_left
    · obtain ⟨⟨hx0, hx1, hx2, hx3, hx4, hx5⟩, _⟩ := hx.1.2; have hx6 := hx.2; go_simp; try with_reducible rfl
    refine tkH 7 ?_ hS (fun wx hx => ?_) ?_; rotate_left
    · obtain ⟨⟨hx0, hx1, hx2, hx3, hx4, hx5⟩, _⟩ := hx.1.2; have hx6 := hx.2; go_simp; try with_reducible rfl
    refine tkH 8 ?_ hS (fun wx hx => ?_) ?_; rotate_left
    · obtain ⟨⟨hx0, hx1, hx2, hx3, hx4, hx5⟩, _⟩ := hx.1.2; have hx6 := hx.2; go_simp; try with_reducible rfl
    try simp only [Act.put, List.getElem_toArray, List.getElem_cons_zero, List.getElem_cons_succ, List.setIfInBounds_toArray, List.set_cons_succ, List.set_cons_zero]
    refine tkH 9 ?_ hS (fun wx hx => ?_) ?_; rotate_left
    · obtain ⟨⟨hx0, hx1, hx2, hx3, hx4, hx5⟩, _⟩ := hx.1.2; have hx6 := hx.2; go_simp; try with_reducible rfl
    try simp only [Act.put, List.getElem_toArray, List.getElem_cons_zero, List.getElem_cons_succ, List.setIfInBounds_toArray, List.set_cons_succ, List.set_cons_zero]
    refine rdH 3 (fun K hK => ?_)
    go_simp
    go_wp2_with fail
    refine (storeOf_is key' Bw n F S _ n P j _ (HW.out.later hS.1.1) HJ.out hn).mono ?_
    rintro e w5 ⟨rfl, q5⟩
    have hS5 : AonE w w.heap.size t (.slice (some ⟨gy, oy, none⟩) t.m yc) w5 ∧ w5.cell? ⟨wr.heap.size, 0, none⟩ = some (.int .i64 key') := ⟨hS.1.later q5, (q5.cell (lt_cell hS.2)).trans hS.2⟩
    clear q5
    go_wp2_with fail
    refine hK.out _ _ hS5 (fun hS => ?_)
    clear hK K hS5
    refine tkH 4 ?_ hS (fun wx hx => ?_) ?_; rotate_left
    · obtain ⟨⟨hx0, hx1, hx2, hx3, hx4, hx5⟩, _⟩ := hx.1.2; have hx6 := hx.2; go_simp; try with_reducible rfl
    refine tkH 5 ?_ hS (fun wx hx => ?_) ?_; rotate_left
    · obtain ⟨⟨hx0, hx1, hx2, hx3, hx4, hx5⟩, _⟩ := hx.1.2; have hx6 := hx.2; go_simp; try with_reducible rfl
    try simp only [Act.put, List.getElem_toArray, List.getElem_cons_zero, List.getElem_cons_succ, List.setIfInBounds_toArray, List.set_cons_succ, List.set_cons_zero]
    refine rdH 10 (fun K hK => ?_)
    go_simp
    go_wp2_with fail
    obtain ⟨N, mm, gm, u1, u2, hNl, _, hRS⟩ := (HW.out.later hS.1.1).2 j HJ.out.1
    refine (status_isO _ (P j) 3 N mm _ _ _ _ gm u1 u2 key' t.s r _ hRS.2.1 hNl.2.1 hNl.2.2 HST.out).mono ?_
    rintro e w6 ⟨rfl, q6⟩
    have hS6 : AonE w w.heap.size t (.slice (some ⟨gy, oy, none⟩) t.m yc) w6 ∧ w6.cell? ⟨wr.heap.size, 0, none⟩ = some (.int .i64 key') := ⟨hS.1.later q6, (q6.cell (lt_cell hS.2)).trans hS.2⟩
    clear q6 hRS hNl
    go_wp2_with fail
    refine hK.out _ _ hS6 (fun hS => ?_)
    clear hK K hS6
    refine tkH 11 ?_ hS (fun wx hx => ?_) ?_; rotate_left
    · obtain ⟨⟨hx0, hx1, hx2, hx3, hx4, hx5⟩, _⟩ := hx.1.2; have hx6 := hx.2; go_simp; try with_reducible rfl
    refine tkH 12 ?_ hS (fun wx hx => ?_) ?_; rotate_left
    · obtain ⟨⟨hx0, hx1, hx2, hx3, hx4, hx5⟩, _⟩ := hx.1.2; have hx6 := hx.2; go_simp; try with_reducible rfl
    refine wpAnyH_done (by kernel_rfl) ?_ _
    go_simp
    have H6 : Hid (AonE w w.heap.size t (.slice (some ⟨gy, oy, none⟩) t.m yc) w6 ∧ w6.cell? ⟨wr.heap.size, 0, none⟩ = some (.int .i64 key')) := hS
    clear hS HST
    by_cases h1 : r = 1
    · subst h1
      have HA1 : Hid (allT (fun k => fitP (Q 0) (Q k)) (k + 1) = true) := allT_go HA.out (by simp [fitP, HR.out.1])
      have H7 : Hid (AonE w w.heap.size t (.slice (some ⟨gy, oy, none⟩) t.m yc) w6) := H6.out.1
      clear HA HR H6 HD HJ
      go_wp2
      go_roundw
      case rel => exact ⟨k + 1, by omega, by go_num, HA1, H7⟩
      case measure => simp [intOf]; omega
    have d1 : (r == 1) = false := beq_eq_false_iff_ne.2 h1
    have HR1 : Hid (r ≠ 1) := h1
    clear h1
    obtain ⟨⟨p0, _, _, _, _, _⟩, _⟩ := H6.out.1.2
    have p6 := H6.out.2
    go_wp2_with fail
    refine (commitOf_is key' t.s c Bw n F S g P j _ (HW.out.later H6.out.1.1) HJ.out hn HD.out).mono ?_
    rintro e w7 ⟨rfl, q7⟩
    have H7 : Hid (AonE w w.heap.size t (.slice (some ⟨gy, oy, none⟩) t.m yc) w7) := H6.out.1.later q7
    clear q7 H6 p0 p6
    by_cases hcc : c = c0
    · subst hcc
      have HA1 : Hid (allT (fun k => fitP (Q 0) (Q k)) (k + 1) = true) := allT_go HA.out (by simp [fitP, HR.out.2, HC0.out])
      clear HA HR HD HJ
      go_wp2
      go_roundw
      case rel => exact ⟨k + 1, by omega, by go_num, HA1, H7⟩
      case measure => simp [intOf]; omega
    · have d2 : (c != c0) = true := bne_iff_ne.2 hcc
      have E : Hid (okM Q t.m = false) := HOK.out.trans (allT_stop (k := k) (by simp [fitP, HR.out.1, HR.out.2, HC0.out, HR1.out, hcc]) hlt)
      clear hcc HA HR HD HJ
      go_wp2
      go_ret
      exact ⟨by rw [E.out]; rfl, H7.out.1⟩
set_option maxRecDepth 100000 in
set_option maxHeartbeats 8000000 in
theorem isAtomic_is (x0 : World) (b : Nat) (nw nx bd : Int) (n : Nat) (F : Nat → Int) (S : Nat → Sto) (g : Nat) (P : Nat → Nat) (Bw nt : Nat) (T : Nat → Tx) (Y : Nat → Value) (v : Value) (Q : Nat → Nat → Int × Int) (h : DonE x0 b nw nx bd n F S g P Bw nt T Y v x0) (hQ : ∀ i, i < nt → ∀ k, k < (T i).m → FateAt n F S (T i) k (Q i k).1 (Q i k).2) (hn : n ≤ 12) (hnt : nt ≤ 16) (hit : ∀ i, i < nt → 1 ≤ (T i).m ∧ (T i).m ≤ 12) :
    Calls Tryz.prog 43 #[.pointer (some ⟨b, 0, none⟩)] x0 fun e x' => e = .returned (.bool (atomB Q T nt)) ∧ Below x0.heap.size x0 x' := by
  obtain ⟨va, vc, rfl⟩ := h.txs.form
  have H0 : Hid (DonE x0 b nw nx bd n F S g P Bw nt T Y (.slice va nt vc) x0) := h
  have HQ : Hid ((∀ i, i < nt → ∀ k, k < (T i).m → FateAt n F S (T i) k (Q i k).1 (Q i k).2) ∧ ∀ i, i < nt → 1 ≤ (T i).m ∧ (T i).m ≤ 12) := ⟨hQ, hit⟩
  obtain ⟨⟨p0, p1, p2, p3, p4⟩, _⟩ := h.kb
  clear h hQ hit
  go_enter Tryz.func43, Tryz.ntmps43
  go_wp2
  clear p0 p1 p2 p3 p4
  go_loopw [10] (fun i wr => ∃ k : Nat, k ≤ nt ∧ i = .int .i64 k ∧ Hid (allT (fun i => okM (Q i) (T i).m) k = true) ∧ Hid (Below x0.heap.size x0 wr)) (fun i _ => nt - (intOf i).toNat)
  case atStart => exact ⟨0, Nat.zero_le _, rfl, rfl, Below.refl _ _⟩
  case round =>
    obtain ⟨k, hk, rfl, HA, HB⟩ := hrel
    by_cases hlt : k < nt
    case neg =>
      obtain rfl : k = nt := by omega
      have E : Hid (atomB Q T k = true) := HA.out
      go_wp2
      go_ret
      exact ⟨by rw [E.out]; rfl, HB.out⟩
    obtain ⟨gx, ox, hax, _, hgx, ⟨c0, c1, c2, c3, c4, c5⟩, hrow, _⟩ := (H0.out.txs.later HB.out).at hlt
    subst hax
    obtain ⟨t, ht⟩ : ∃ t, T k = t := ⟨_, rfl⟩
    have hmk := HQ.out.2 k hlt
    have hQk := HQ.out.1 k hlt
    rw [ht] at c0 c1 c2 c3 c4 hrow hmk hQk
    obtain ⟨y, hy⟩ : ∃ y, Y k = y := ⟨_, rfl⟩
    rw [hy] at c5 hrow
    have HT : Hid (T k = t) := ht
    have HQK : Hid ((1 ≤ t.m ∧ t.m ≤ 12) ∧ ∀ q, q < t.m → FateAt n F S t q (Q k q).1 (Q k q).2) := ⟨hmk, hQk⟩
    clear ht hy hmk hQk
    obtain ⟨yo, yc, rfl⟩ := hrow.form
    have HRW : Hid (Row wr 0 3 t.m t.L (.slice yo t.m yc)) := hrow
    have hS0 : AonE x0 wr.heap.size t (.slice yo t.m yc) (wr.alloc (.cells #[.int .i64 t.s, .int .i64 t.c, .int .i64 t.u, .int .i64 t.st, .int .i64 t.a, .slice yo t.m yc] 77)).drew ∧ Row (wr.alloc (.cells #[.int .i64 t.s, .int .i64 t.c, .int .i64 t.u, .int .i64 t.st, .int .i64 t.a, .slice yo t.m yc] 77)).drew 0 3 t.m t.L (.slice yo t.m yc) := ⟨⟨(HB.out.alloc HB.out.size _).drew, Blk6.new wr _ _ _ _ _ _ _⟩, HRW.out.later (below_alloc _ _).drew⟩
    have HR1 : Hid (Row (wr.alloc (.cells #[.int .i64 t.s, .int .i64 t.c, .int .i64 t.u, .int .i64 t.st, .int .i64 t.a, .slice yo t.m yc] 77)).drew 0 3 t.m t.L (.slice yo t.m yc)) := hS0.2
    have hS0 := hS0.1
    clear hrow HRW
    go_upto_region 4 with fail
    refine wp_region_held_drew (S := AonE x0 wr.heap.size t (.slice yo t.m yc)) (by kernel_rfl) hS0 (fun hS => ?_)
    generalize (wr.alloc (.cells #[.int .i64 t.s, .int .i64 t.c, .int .i64 t.u, .int .i64 t.st, .int .i64 t.a, .slice yo t.m yc] 77)).drew = wa at hS HR1 ⊢
    clear hS0 c0 c1 c2 c3 c4 c5 HB
    refine tkH 0 ?_ hS (fun wx hx => ?_) ?_; rotate_left
    · obtain ⟨⟨hx0, hx1, hx2, hx3, hx4⟩, _⟩ := H0.out.kb.later hx.1; obtain ⟨⟨hy0, hy1, hy2, hy3, hy4, hy5⟩, _⟩ := hx.2; go_simp; try with_reducible rfl
    refine tkH 1 ?_ hS (fun wx hx => ?_) ?_; rotate_left
    · obtain ⟨⟨hx0, hx1, hx2, hx3, hx4⟩, _⟩ := H0.out.kb.later hx.1; obtain ⟨⟨hy0, hy1, hy2, hy3, hy4, hy5⟩, _⟩ := hx.2; go_simp; try with_reducible rfl
    refine tkH 2 ?_ hS (fun wx hx => ?_) ?_; rotate_left
    · obtain ⟨⟨hx0, hx1, hx2, hx3, hx4⟩, _⟩ := H0.out.kb.later hx.1; obtain ⟨⟨hy0, hy1, hy2, hy3, hy4, hy5⟩, _⟩ := hx.2; go_simp; try with_reducible rfl
    try simp only [Act.put, List.getElem_toArray, List.getElem_cons_zero, List.getElem_cons_succ, List.setIfInBounds_toArray, List.set_cons_succ, List.set_cons_zero]
    refine tkH 3 ?_ hS (fun wx hx => ?_) ?_; rotate_left
    · obtain ⟨⟨hx0, hx1, hx2, hx3, hx4⟩, _⟩ := H0.out.kb.later hx.1; obtain ⟨⟨hy0, hy1, hy2, hy3, hy4, hy5⟩, _⟩ := hx.2; go_simp; try with_reducible rfl
    refine tkH 4 ?_ hS (fun wx hx => ?_) ?_; rotate_left
    · obtain ⟨⟨hx0, hx1, hx2, hx3, hx4⟩, _⟩ := H0.out.kb.later hx.1; obtain ⟨⟨hy0, hy1, hy2, hy3, hy4, hy5⟩, _⟩ := hx.2; go_simp; try with_reducible rfl
    try simp only [Act.put, List.getElem_toArray, List.getElem_cons_zero, List.getElem_cons_succ, List.setIfInBounds_toArray, List.set_cons_succ, List.set_cons_zero]
    refine rdH 5 (fun K hK => ?_)
    go_simp
    go_wp2_with fail
    refine (allOrNothing_is Bw n F S g P t _ (Q k) _ (H0.out.work.later hS.1) hn HR1.out HQK.out.1 HQK.out.2).mono ?_
    obtain ⟨ok, hok⟩ : ∃ ok, okM (Q k) t.m = ok := ⟨_, rfl⟩
    rw [hok]
    rintro e w1 ⟨rfl, q1⟩
    have HO : Hid (okM (Q k) (T k).m = ok) := by rw [HT.out]; exact hok
    have hS1 := hS.later q1
    clear q1 hok
    go_wp2_with fail
    refine hK.out _ _ hS1 (fun hS => ?_)
    clear hK K hS1
    refine tkH 6 ?_ hS (fun wx hx => ?_) ?_; rotate_left
    · obtain ⟨⟨hx0, hx1, hx2, hx3, hx4⟩, _⟩ := H0.out.kb.later hx.1; obtain ⟨⟨hy0, hy1, hy2, hy3, hy4, hy5⟩, _⟩ := hx.2; go_simp; try with_reducible rfl
    refine wpAnyH_done (by kernel_rfl) ?_ _
    go_simp
    have H1 : Hid (Below x0.heap.size x0 w1) := hS.1
    clear hS HR1 HQK HT
    cases ok
    · have E : Hid (atomB Q T nt = false) := allT_stop (k := k) HO.out hlt
      clear HO HA
      go_wp2
      go_ret
      exact ⟨by rw [E.out]; rfl, H1.out⟩
    · have HA1 : Hid (allT (fun i => okM (Q i) (T i).m) (k + 1) = true) := allT_go HA.out HO.out
      clear HO HA
      go_wp2
      go_roundw
      case rel => exact ⟨k + 1, by omega, by go_num, HA1, H1⟩
      case measure => simp [intOf]; omega
end Go.Proofs.YtglcedhkbbckiaaGreat

namespace Go.Proofs.YtglcedhkbbckiaaGreat
open Go.RowKit

/-- What the law's last region stands on: its argument, and the copy that the program was given. -/
def TwoD (w : World) (nw nx bd : Int) (vr vs vt : Value) (q : Nat) (ur us ut : Value) (x : World) : Prop := Below w.heap.size w x ∧ Blk6 x w.heap.size (.int .i64 nw) (.int .i64 nx) (.int .i64 bd) vr vs vt ∧ Blk6 x q (.int .i64 nw) (.int .i64 nx) (.int .i64 bd) ur us ut
theorem TwoD.later {w x x' : World} {nw nx bd : Int} {vr vs vt ur us ut : Value} {q : Nat} (h : TwoD w nw nx bd vr vs vt q ur us ut x) (hb : Below x.heap.size x x') : TwoD w nw nx bd vr vs vt q ur us ut x' := ⟨h.1.trans (hb.mono h.1.size), h.2.1.later hb, h.2.2.later hb⟩
theorem NewWd.rows {w w' : World} {nw nx bd : Int} {nr : Nat} {F : Nat → Int} {n : Nat} {S : Nat → Sto} {nt : Nat} {T : Nat → Tx} {e : Ending} (h : NewWd w nw nx bd nr F n S nt T e w') :
    ∃ ra rc g U gt Y, e = .returned (.agg #[.int .i64 nw, .int .i64 nx, .int .i64 bd, .slice ra nr rc, .slice (some ⟨g, 0, none⟩) n n, .slice (some ⟨gt, 0, none⟩) nt nt]) ∧ Grs w' 0 nr F n S U (.slice ra nr rc) (.slice (some ⟨g, 0, none⟩) n n) ∧ Txs w' 0 nt T Y (.slice (some ⟨gt, 0, none⟩) nt nt) ∧ Below w.heap.size w w' := by
  obtain ⟨ra, rc, g, U, z, gt, Y, zt, rfl, hF, ⟨_, hgt, hfil, hfin, _⟩, hb⟩ := h
  refine ⟨ra, rc, g, U, gt, Y, rfl, hF.grs.mono (Nat.zero_le _), ⟨⟨_, _, rfl, fun _ => ⟨gt, 0, rfl, Nat.zero_le _, hgt, fun i hi j hj => ?_⟩⟩, fun i hi => ⟨(hfin i hi).1.1.mono (Nat.zero_le _), (hfin i hi).1.2.2⟩⟩, hb⟩
  rw [Nat.zero_add]
  exact hfil.cell (Nat.le_refl _) hi hj
end Go.Proofs.YtglcedhkbbckiaaGreat

namespace Go.Proofs.YtglcedhkbbckiaaGreat
open Go.RowKit

theorem world_txF {nw nx bd : Int} {nr : Nat} {F : Nat → Int} {n : Nat} {S : Nat → Sto} {nt : Nat} {T : Nat → Tx} (h : worldF nw nx bd nr F n S nt T = 0) : ∀ i, i < nt → txF (T i) = 0 := fun i hi => by
  unfold worldF at h
  split at h
  · omega
  split at h
  · rename_i q; exact absurd h q
  split at h
  · rename_i q; exact absurd h q
  split at h
  · omega
  have := scan_zero h i hi
  unfold placeF at this
  split at this
  · rename_i q; exact absurd this q
  · rename_i q; exact Decidable.not_not.1 q
end Go.Proofs.YtglcedhkbbckiaaGreat

namespace Go.Proofs.YtglcedhkbbckiaaGreat
open Go.RowKit

/-- What AtomicRight answers. -/
def AtomAns (nw nx bd : Int) (nr : Nat) (F : Nat → Int) (n : Nat) (S : Nat → Sto) (nt : Nat) (T : Nat → Tx) (r : Bool) : Prop :=
  (worldF nw nx bd nr F n S nt T ≠ 0 ∧ r = false) ∨ (worldF nw nx bd nr F n S nt T = 0 ∧ ∃ Q : Nat → Nat → Int × Int, (∀ i, i < nt → ∀ k, k < (T i).m → FateAt nr F S (T i) k (Q i k).1 (Q i k).2) ∧ r = atomB Q T nt)
theorem AtomAns.get (nw nx bd : Int) (nr : Nat) (F : Nat → Int) (n : Nat) (S : Nat → Sto) (nt : Nat) (T : Nat → Tx) : ∃ r, AtomAns nw nx bd nr F n S nt T r := by
  by_cases h : worldF nw nx bd nr F n S nt T = 0
  · have Z := world_fine h
    have ZT := world_txF h
    have ZG := groupsF_zero Z.1
    have hall : ∀ i, ∃ f : Nat → Int × Int, i < nt → ∀ k, k < (T i).m → FateAt nr F S (T i) k (f k).1 (f k).2 := fun i => by
      by_cases hi : i < nt
      · have hk : ∀ k, ∃ q : Int × Int, k < (T i).m → FateAt nr F S (T i) k q.1 q.2 := fun k => by
          by_cases hk : k < (T i).m
          · obtain ⟨r, c, hr⟩ := FateAt.get (S := S) ZG.1 (fun j hj => (ZG.2.2.1 j (by rw [ZG.2.1]; exact hj)).1) (txF_items (ZT i hi) k hk)
            exact ⟨(r, c), fun _ => hr⟩
          · exact ⟨(0, 0), fun q => absurd q hk⟩
        obtain ⟨f, hf⟩ := Classical.axiomOfChoice hk
        exact ⟨f, fun _ => hf⟩
      · exact ⟨fun _ => (0, 0), fun q => absurd q hi⟩
    obtain ⟨Q, hQ⟩ := Classical.axiomOfChoice hall
    exact ⟨_, Or.inr ⟨h, Q, hQ, rfl⟩⟩
  · exact ⟨false, Or.inl ⟨h, rfl⟩⟩
set_option maxRecDepth 100000 in
set_option maxHeartbeats 8000000 in
theorem specAtomic_is (nw nx bd : Int) (nr : Nat) (F : Nat → Int) (n : Nat) (S : Nat → Sto) (V : Nat → Nat → Value) (vr vs : Value) (nt : Nat) (T : Nat → Tx) (X : Nat → Value) (vt : Value) (B : Nat) (r : Bool) (w : World) (h : Grs w B nr F n S V vr vs) (hx : Txs w B nt T X vt) (hr : nr ≤ 9223372036854775807) (hn : n ≤ 9223372036854775807) (ht : nt ≤ 9223372036854775807) (hm : ∀ i, i < nt → (T i).m ≤ 9223372036854775807) (hA : AtomAns nw nx bd nr F n S nt T r) :
    Calls Tryz.prog 14 #[.agg #[.int .i64 nw, .int .i64 nx, .int .i64 bd, vr, vs, vt]] w fun e w' => e = .returned (.bool r) ∧ Below w.heap.size w w' := by
  obtain ⟨a0, c0, a1, c1, rfl, rfl⟩ := h.form
  obtain ⟨a2, c2, rfl⟩ := hx.form
  have HM : Hid (∀ i, i < nt → (T i).m ≤ 9223372036854775807) := hm
  have H0 : Hid (LiesD (w.alloc (.cells #[.int .i64 nw, .int .i64 nx, .int .i64 bd, .slice a0 nr c0, .slice a1 n c1, .slice a2 nt c2] 42)) w.heap.size nw nx bd nr F n S V (.slice a0 nr c0) (.slice a1 n c1) nt T X (.slice a2 nt c2) ∧ Below w.heap.size w (w.alloc (.cells #[.int .i64 nw, .int .i64 nx, .int .i64 bd, .slice a0 nr c0, .slice a1 n c1, .slice a2 nt c2] 42))) := ⟨⟨Blk6.new w _ _ _ _ _ _ _, (h.mono (Nat.zero_le _)).alloc _, (hx.mono (Nat.zero_le _)).alloc _⟩, below_alloc _ _⟩
  clear h hx hm
  obtain ⟨f, E⟩ : ∃ f, Hid (worldF nw nx bd nr F n S nt T = f) := ⟨_, rfl⟩
  rcases hA with ⟨h1, rfl⟩ | ⟨h1, Q, hQ, rfl⟩
  · rw [E.out] at h1
    have d : (f != 0) = true := bne_iff_ne.2 h1
    clear h1
    go_enter Tryz.func14, Tryz.ntmps14
    go_wp2_with fail
    refine (l10Fault_any _ nw nx bd nr F n S V _ _ nt T X _ _ H0.out.1 hr hn ht HM.out).mono ?_
    rw [E.out]
    rintro e w1 ⟨rfl, q1⟩
    have HB : Hid (Below w.heap.size w w1) := H0.out.2.trans (q1.mono H0.out.2.size)
    clear q1 H0
    go_wp2
    go_ret
    exact ⟨rfl, HB.out⟩
  have Z := world_fine h1
  have ZG := groupsF_zero Z.1
  obtain rfl : f = 0 := E.out.symm.trans h1
  have HQ : Hid (∀ i, i < nt → ∀ k, k < (T i).m → FateAt nr F S (T i) k (Q i k).1 (Q i k).2) := hQ
  have HZ : Hid ((nr ≤ 6 ∧ n = nr) ∧ (∀ i, i < n → (S i).nl ≤ 200 ∧ (S i).nw ≤ 200) ∧ nt ≤ 16 ∧ ∀ i, i < nt → 1 ≤ (T i).m ∧ (T i).m ≤ 12) := ⟨⟨ZG.1.n6, ZG.2.1⟩, fun i hi => (storeF_zero (ZG.2.2.1 i hi).1).1.2, Z.2.1, fun i hi => (Z.2.2 i hi).1⟩
  clear hQ h1 Z ZG
  go_enter Tryz.func14, Tryz.ntmps14
  go_wp2_with fail
  refine (l10Fault_any _ nw nx bd nr F n S V _ _ nt T X _ _ H0.out.1 hr hn ht HM.out).mono ?_
  rw [E.out]
  rintro e w1 ⟨rfl, q1⟩
  have H1 : Hid (LiesD w1 w.heap.size nw nx bd nr F n S V (.slice a0 nr c0) (.slice a1 n c1) nt T X (.slice a2 nt c2) ∧ Below w.heap.size w w1) := ⟨H0.out.1.later q1, H0.out.2.trans (q1.mono H0.out.2.size)⟩
  have hnt16 : nt ≤ 16 := HZ.out.2.2.1
  clear q1 H0 HM E hr hn ht
  go_wp2
  go_loopw [3] (fun i wr => ∃ k : Nat, k ≤ nt ∧ i = .int .i64 k ∧ Hid (allT (fun i => okM (Q i) (T i).m) k = true) ∧ Hid (Below w1.heap.size w1 wr)) (fun i _ => nt - (intOf i).toNat)
  case atStart => exact ⟨0, Nat.zero_le _, rfl, rfl, Below.refl _ _⟩
  case round =>
    obtain ⟨i, hi, rfl, HA, HB⟩ := hrel
    obtain ⟨⟨⟨p0, p1, p2, p3, p4, p5⟩, _⟩, _⟩ := H1.out.1.later HB.out
    by_cases hlt : i < nt
    case neg =>
      obtain rfl : i = nt := by omega
      have EE : Hid (atomB Q T i = true) := HA.out
      go_wp2
      go_ret
      exact ⟨by rw [EE.out]; rfl, H1.out.2.trans (HB.out.mono H1.out.2.size)⟩
    obtain ⟨gx, ox, rfl, hgx, LX⟩ := H1.out.1.2.2.lies hlt
    obtain ⟨t, htt⟩ : ∃ t, T i = t := ⟨_, rfl⟩
    have hmk := HZ.out.2.2.2 i hlt
    have hQi := HQ.out i hlt
    rw [htt] at LX hmk hQi
    have HT : Hid (T i = t) := htt
    have LX : Hid (LiesX w1 gx (ox + i * 6) t.s t.c t.u t.st t.a t.m t.L (X i)) := LX
    have HQI : Hid ((1 ≤ t.m ∧ t.m ≤ 12) ∧ ∀ k, k < t.m → FateAt nr F S t k (Q i k).1 (Q i k).2) := ⟨hmk, hQi⟩
    obtain ⟨r0, cm0, hq0⟩ : ∃ r0 cm0, Q i 0 = (r0, cm0) := ⟨_, _, rfl⟩
    have HQ0 : Hid (Q i 0 = (r0, cm0)) := hq0
    have F0 : Hid (FateAt nr F S t 0 r0 cm0) := by have := hQi 0 (by omega); rw [hq0] at this; exact this
    clear htt hmk hQi hq0
    go_wp2_with fail
    refine (l12Fate_is _ nw nx bd nr F n S V _ _ nt T X _ _ (H1.out.1.later HB.out) HZ.out.1.1 HZ.out.1.2 HZ.out.2.1 gx (ox + i * 6) t (X i) (LX.out.later HB.out) 0 (by have := HQI.out.1; omega) HQI.out.1.2 r0 cm0 F0.out).mono ?_
    rintro e w2 ⟨rfl, q2⟩
    have H2 : Hid (Below w1.heap.size w1 w2) := HB.out.trans (q2.mono HB.out.size)
    clear q2 HB p0 p1 p2 p3 p4 p5
    have hm12 : t.m ≤ 12 := HQI.out.1.2
    go_wp2
    go_loopw [7] (fun x wr => ∃ k : Nat, 1 ≤ k ∧ k ≤ t.m ∧ x = .int .i64 k ∧ Hid (allT (fun k => !badM (Q i 0) (Q i k)) k = true) ∧ Hid (Below w1.heap.size w1 wr)) (fun x _ => t.m - (intOf x).toNat)
    case atStart => exact ⟨1, Nat.le_refl _, HQI.out.1.1, rfl, by show allT _ (0 + 1) = true; rw [allT, badM_self]; rfl, H2⟩
    case round =>
      clear H2
      obtain ⟨k, hk1, hk, rfl, HK, HB⟩ := hrel
      obtain ⟨⟨x0, x1, x2, x3, x4, x5⟩, hrow, _⟩ := LX.out.later HB.out
      obtain ⟨yo, yc, hy⟩ := hrow.form
      rw [hy] at x5
      by_cases hlk : k < t.m
      case neg =>
        obtain rfl : k = t.m := by omega
        have HA1 : Hid (allT (fun i => okM (Q i) (T i).m) (i + 1) = true) := allT_go HA.out (by show okM (Q i) (T i).m = true; rw [HT.out]; exact HK.out)
        clear HK HA
        go_wp2
        go_roundw
        case rel => exact ⟨i + 1, by omega, by go_num, HA1, HB⟩
        case measure => simp [intOf]; omega
      obtain ⟨r1, cm1, hq1⟩ : ∃ r1 cm1, Q i k = (r1, cm1) := ⟨_, _, rfl⟩
      have F1 : Hid (FateAt nr F S t k r1 cm1) := by have := HQI.out.2 k hlk; rw [hq1] at this; exact this
      have HQ1 : Hid (Q i k = (r1, cm1)) := hq1
      clear hq1
      go_wp2_with fail
      refine (l12Fate_is _ nw nx bd nr F n S V _ _ nt T X _ _ (H1.out.1.later HB.out) HZ.out.1.1 HZ.out.1.2 HZ.out.2.1 gx (ox + i * 6) t (X i) (LX.out.later HB.out) k hlk HQI.out.1.2 r1 cm1 F1.out).mono ?_
      rintro e w5 ⟨rfl, q5⟩
      have H5 : Hid (Below w1.heap.size w1 w5) := HB.out.trans (q5.mono HB.out.size)
      clear q5 HB x0 x1 x2 x3 x4 x5 hrow hy F1
      obtain ⟨bad, hbad⟩ : ∃ b, badM (Q i 0) (Q i k) = b := ⟨_, rfl⟩
      have HBD : Hid (badM (Q i 0) (Q i k) = bad) := hbad
      rw [HQ0.out, HQ1.out] at hbad
      unfold badM at hbad
      simp only at hbad
      by_cases e0 : r0 = 2
      · subst e0
        by_cases e1 : r1 = 2
        · subst e1
          by_cases ec : cm1 = cm0
          · obtain rfl : bad = false := by rw [← hbad, decide_eq_false_iff_not]; omega
            subst ec
            have HK1 : Hid (allT (fun k => !badM (Q i 0) (Q i k)) (k + 1) = true) := allT_go HK.out (by show (!badM (Q i 0) (Q i k)) = true; rw [HBD.out]; rfl)
            clear hbad HBD HK
            go_wp2
            go_roundw
            case rel => exact ⟨k + 1, by omega, by omega, by go_num, HK1, H5⟩
            case measure => simp [intOf]; omega
          · obtain rfl : bad = true := by rw [← hbad, decide_eq_true_eq]; omega
            have d1 : (cm1 != cm0) = true := bne_iff_ne.2 ec
            clear hbad ec
            have EE : Hid (atomB Q T nt = false) := allT_stop (k := i) (show okM (Q i) (T i).m = false by rw [HT.out]; exact allT_stop (k := k) (by show (!badM (Q i 0) (Q i k)) = false; rw [HBD.out]; rfl) hlk) hlt
            clear HBD HK HA
            go_wp2
            go_ret
            exact ⟨by rw [EE.out]; rfl, H1.out.2.trans (H5.out.mono H1.out.2.size)⟩
        · have d1 : (r1 == 2) = false := beq_eq_false_iff_ne.2 e1
          by_cases e2 : r1 = 1
          · obtain rfl : bad = false := by rw [← hbad, decide_eq_false_iff_not]; omega
            subst e2
            have HK1 : Hid (allT (fun k => !badM (Q i 0) (Q i k)) (k + 1) = true) := allT_go HK.out (by show (!badM (Q i 0) (Q i k)) = true; rw [HBD.out]; rfl)
            clear hbad HBD HK
            go_wp2
            go_roundw
            case rel => exact ⟨k + 1, by omega, by omega, by go_num, HK1, H5⟩
            case measure => simp [intOf]; omega
          · obtain rfl : bad = true := by rw [← hbad, decide_eq_true_eq]; omega
            have d2 : (r1 != 1) = true := bne_iff_ne.2 e2
            clear hbad e1 e2
            have EE : Hid (atomB Q T nt = false) := allT_stop (k := i) (show okM (Q i) (T i).m = false by rw [HT.out]; exact allT_stop (k := k) (by show (!badM (Q i 0) (Q i k)) = false; rw [HBD.out]; rfl) hlk) hlt
            clear HBD HK HA
            go_wp2
            go_ret
            exact ⟨by rw [EE.out]; rfl, H1.out.2.trans (H5.out.mono H1.out.2.size)⟩
      · have d0 : (r0 == 2) = false := beq_eq_false_iff_ne.2 e0
        have d0' : (r0 != 2) = true := bne_iff_ne.2 e0
        by_cases e1 : r1 = 2
        · obtain rfl : bad = true := by rw [← hbad, decide_eq_true_eq]; omega
          subst e1
          clear hbad e0
          have EE : Hid (atomB Q T nt = false) := allT_stop (k := i) (show okM (Q i) (T i).m = false by rw [HT.out]; exact allT_stop (k := k) (by show (!badM (Q i 0) (Q i k)) = false; rw [HBD.out]; rfl) hlk) hlt
          clear HBD HK HA
          go_wp2
          go_ret
          exact ⟨by rw [EE.out]; rfl, H1.out.2.trans (H5.out.mono H1.out.2.size)⟩
        · obtain rfl : bad = false := by rw [← hbad, decide_eq_false_iff_not]; omega
          have d1 : (r1 == 2) = false := beq_eq_false_iff_ne.2 e1
          clear e0 e1
          have HK1 : Hid (allT (fun k => !badM (Q i 0) (Q i k)) (k + 1) = true) := allT_go HK.out (by show (!badM (Q i 0) (Q i k)) = true; rw [HBD.out]; rfl)
          clear hbad HBD HK
          go_wp2
          go_roundw
          case rel => exact ⟨k + 1, by omega, by omega, by go_num, HK1, H5⟩
          case measure => simp [intOf]; omega
set_option maxRecDepth 100000 in
set_option maxHeartbeats 8000000 in
theorem implAtomic_is (nw nx bd : Int) (nr : Nat) (F : Nat → Int) (n : Nat) (S : Nat → Sto) (V : Nat → Nat → Value) (vr vs : Value) (nt : Nat) (T : Nat → Tx) (X : Nat → Value) (vt : Value) (B : Nat) (r : Bool) (w : World) (h : Grs w B nr F n S V vr vs) (hx : Txs w B nt T X vt) (hr : nr ≤ 9223372036854775807) (hn : n ≤ 9223372036854775807) (ht : nt ≤ 9223372036854775807) (hm : ∀ i, i < nt → (T i).m ≤ 9223372036854775807) (hA : AtomAns nw nx bd nr F n S nt T r) :
    Calls Tryz.prog 15 #[.agg #[.int .i64 nw, .int .i64 nx, .int .i64 bd, vr, vs, vt]] w fun e w' => e = .returned (.bool r) ∧ Below w.heap.size w w' := by
  obtain ⟨a0, c0, a1, c1, rfl, rfl⟩ := h.form
  obtain ⟨a2, c2, rfl⟩ := hx.form
  have HM : Hid (∀ i, i < nt → (T i).m ≤ 9223372036854775807) := hm
  have H0 : Hid (LiesD (w.alloc (.cells #[.int .i64 nw, .int .i64 nx, .int .i64 bd, .slice a0 nr c0, .slice a1 n c1, .slice a2 nt c2] 42)) w.heap.size nw nx bd nr F n S V (.slice a0 nr c0) (.slice a1 n c1) nt T X (.slice a2 nt c2) ∧ Below w.heap.size w (w.alloc (.cells #[.int .i64 nw, .int .i64 nx, .int .i64 bd, .slice a0 nr c0, .slice a1 n c1, .slice a2 nt c2] 42))) := ⟨⟨Blk6.new w _ _ _ _ _ _ _, (h.mono (Nat.zero_le _)).alloc _, (hx.mono (Nat.zero_le _)).alloc _⟩, below_alloc _ _⟩
  clear h hx hm
  obtain ⟨f, E⟩ : ∃ f, Hid (worldF nw nx bd nr F n S nt T = f) := ⟨_, rfl⟩
  obtain ⟨⟨k0, k1, k2, k3, k4, k5⟩, _⟩ := H0.out.1.1
  rcases hA with ⟨h1, rfl⟩ | ⟨h1, Q, hQ, rfl⟩
  · rw [E.out] at h1
    have d : (f == 0) = false := beq_eq_false_iff_ne.2 h1
    clear h1
    go_enter Tryz.func15, Tryz.ntmps15
    go_wp2_with fail
    refine (implWorldFault_any nw nx bd nr F n S V _ _ nt T X _ 0 _ H0.out.1.2.1 H0.out.1.2.2 hr hn ht).mono ?_
    rw [E.out]
    rintro e w1 ⟨rfl, q1⟩
    have HB : Hid (Below w.heap.size w w1) := H0.out.2.trans (q1.mono H0.out.2.size)
    clear q1 H0 k0 k1 k2 k3 k4 k5
    go_wp2
    go_ret
    exact ⟨rfl, HB.out⟩
  have Z := world_fine h1
  have ZG := groupsF_zero Z.1
  obtain rfl : f = 0 := E.out.symm.trans h1
  have HQ : Hid (∀ i, i < nt → ∀ k, k < (T i).m → FateAt n F S (T i) k (Q i k).1 (Q i k).2) := by rw [ZG.2.1]; exact hQ
  have HZ : Hid ((n = nr ∧ n ≤ 12) ∧ (∀ i, i < n → storeF (S i) = 0) ∧ nt ≤ 16 ∧ ∀ i, i < nt → 1 ≤ (T i).m ∧ (T i).m ≤ 12) := ⟨⟨ZG.2.1, by have := ZG.1.n6; have := ZG.2.1; omega⟩, fun i hi => (ZG.2.2.1 i hi).1, Z.2.1, fun i hi => (Z.2.2 i hi).1⟩
  clear hQ h1 Z ZG
  go_enter Tryz.func15, Tryz.ntmps15
  go_wp2_with fail
  refine (implWorldFault_any nw nx bd nr F n S V _ _ nt T X _ 0 _ H0.out.1.2.1 H0.out.1.2.2 hr hn ht).mono ?_
  rw [E.out]
  rintro e w1 ⟨rfl, q1⟩
  have H1 : Hid (LiesD w1 w.heap.size nw nx bd nr F n S V (.slice a0 nr c0) (.slice a1 n c1) nt T X (.slice a2 nt c2) ∧ Below w.heap.size w w1) := ⟨H0.out.1.later q1, H0.out.2.trans (q1.mono H0.out.2.size)⟩
  clear q1 H0 k0 k1 k2 k3 k4 k5
  obtain ⟨⟨k0, k1, k2, k3, k4, k5⟩, _⟩ := H1.out.1.1
  go_wp2_with fail
  refine (workOn_is nw nx bd nr F n S V _ _ nt T X _ 0 _ H1.out.1.2.1 H1.out.1.2.2 HZ.out.2.1 HZ.out.1.1 HZ.out.1.2 HZ.out.2.2.1 HZ.out.2.2.2).mono ?_
  rintro e w2 ⟨b, B2, g, P, Y, v, rfl, hW⟩
  have HD : Hid (DonE w2 b nw nx bd n F S g P w1.heap.size nt T Y v w2) := ⟨Below.refl _ _, hW.kb, hW.work, hW.txs.txs.mono (Nat.zero_le _)⟩
  have H2 : Hid (Below w.heap.size w w2) := H1.out.2.trans (hW.below.mono H1.out.2.size)
  clear hW H1 k0 k1 k2 k3 k4 k5
  go_wp2_with fail
  refine (isAtomic_is w2 b nw nx bd n F S g P w1.heap.size nt T Y v Q HD.out HQ.out HZ.out.1.2 HZ.out.2.2.1 HZ.out.2.2.2).mono ?_
  obtain ⟨rr, HR⟩ : ∃ rr, Hid (atomB Q T nt = rr) := ⟨_, rfl⟩
  rw [HR.out]
  rintro e w4 ⟨rfl, q4⟩
  have HB : Hid (Below w.heap.size w w4) := H2.out.trans (q4.mono H2.out.size)
  clear q4 H2 HD
  go_wp2
  go_ret
  exact ⟨by rw [HR.out]; rfl, HB.out⟩
set_option maxRecDepth 100000 in
set_option maxHeartbeats 8000000 in
theorem exactAtomicRight_walk (nw nx bd : Int) (nr : Nat) (F : Nat → Int) (n : Nat) (S : Nat → Sto) (V : Nat → Nat → Value) (vr vs : Value) (nt : Nat) (T : Nat → Tx) (X : Nat → Value) (vt : Value) (w : World) (h : Grs w 0 nr F n S V vr vs) (hx : Txs w 0 nt T X vt) (hr : nr ≤ 9223372036854775807) (hn : n ≤ 9223372036854775807) (hs : ∀ i, i < n → BigS (S i)) (hnt : nt ≤ 9223372036854775807) (hm : ∀ i, i < nt → (T i).m ≤ 9223372036854775807)
    (ans : ∃ r : Bool, ∀ (U : Nat → Nat → Value) (ur us : Value) (Y : Nat → Value) (ut : Value) (x : World), Grs x 0 nr F n S U ur us → Txs x 0 nt T Y ut → nr ≤ 1048576 → n ≤ 1048576 → nt ≤ 1048576 → (∀ i, i < nt → (T i).m ≤ 1048576) → Calls Tryz.prog 14 #[.agg #[.int .i64 nw, .int .i64 nx, .int .i64 bd, ur, us, ut]] x (fun e x' => e = .returned (.bool r) ∧ Below x.heap.size x x') ∧ Calls Tryz.prog 15 #[.agg #[.int .i64 nw, .int .i64 nx, .int .i64 bd, ur, us, ut]] x (fun e x' => e = .returned (.bool r) ∧ Below x.heap.size x x')) :
    Calls Tryz.prog 4 #[.agg #[.int .i64 nw, .int .i64 nx, .int .i64 bd, vr, vs, vt]] w fun e w' => e = .returned (.bool true) ∧ Below w.heap.size w w' := by
  obtain ⟨a0, c0, a1, c1, rfl, rfl⟩ := h.form
  obtain ⟨a2, c2, rfl⟩ := hx.form
  have HG : Hid (Grs w 0 nr F n S V (.slice a0 nr c0) (.slice a1 n c1) ∧ Txs w 0 nt T X (.slice a2 nt c2)) := ⟨h, hx⟩
  have HN : Hid ((∀ i, i < n → BigS (S i)) ∧ ∀ i, i < nt → (T i).m ≤ 9223372036854775807) := ⟨hs, hm⟩
  have H : Hid (Blk6 (w.alloc (.cells #[.int .i64 nw, .int .i64 nx, .int .i64 bd, .slice a0 nr c0, .slice a1 n c1, .slice a2 nt c2] 30)) w.heap.size (.int .i64 nw) (.int .i64 nx) (.int .i64 bd) (.slice a0 nr c0) (.slice a1 n c1) (.slice a2 nt c2) ∧ Below w.heap.size w (w.alloc (.cells #[.int .i64 nw, .int .i64 nx, .int .i64 bd, .slice a0 nr c0, .slice a1 n c1, .slice a2 nt c2] 30))) := ⟨Blk6.new w _ _ _ _ _ _ _, below_alloc _ _⟩
  clear h hx hs hm
  obtain ⟨r, hans⟩ := ans
  have HF : Hid (∀ (U : Nat → Nat → Value) (ur us : Value) (Y : Nat → Value) (ut : Value) (x : World), Grs x 0 nr F n S U ur us → Txs x 0 nt T Y ut → nr ≤ 1048576 → n ≤ 1048576 → nt ≤ 1048576 → (∀ i, i < nt → (T i).m ≤ 1048576) → Calls Tryz.prog 14 #[.agg #[.int .i64 nw, .int .i64 nx, .int .i64 bd, ur, us, ut]] x (fun e x' => e = .returned (.bool r) ∧ Below x.heap.size x x') ∧ Calls Tryz.prog 15 #[.agg #[.int .i64 nw, .int .i64 nx, .int .i64 bd, ur, us, ut]] x (fun e x' => e = .returned (.bool r) ∧ Below x.heap.size x x')) := hans
  clear hans
  go_enter Tryz.func4, Tryz.ntmps4
  go_wp2_with fail
  refine (szWorld_any nw nx bd nr F n S V _ _ nt T X _ 0 _ (HG.out.1.alloc _) (HG.out.2.alloc _) hr hn HN.out.1 hnt HN.out.2).mono ?_
  rintro e w1 ⟨rr, rfl, hA, q1⟩
  have H1 : Hid (Blk6 w1 w.heap.size (.int .i64 nw) (.int .i64 nx) (.int .i64 bd) (.slice a0 nr c0) (.slice a1 n c1) (.slice a2 nt c2) ∧ Below w.heap.size w w1) := ⟨H.out.1.later q1, H.out.2.trans (q1.mono H.out.2.size)⟩
  clear q1 H
  rcases hA with rfl | ⟨h1, ⟨h2, h3, _, h4⟩, h5, _, h6⟩
  · go_wp2
    go_ret
    exact ⟨rfl, H1.out.2⟩
  have HB : Hid ((nr ≤ 1048576 ∧ n ≤ 1048576 ∧ ∀ i, i < n → SmallS (S i)) ∧ nt ≤ 1048576 ∧ ∀ i, i < nt → (T i).m ≤ 1048576) := ⟨⟨h2, h3, h4⟩, h5, h6⟩
  have dr : decide (rr < 0) = false := decide_eq_false (by omega)
  clear h1 h2 h3 h4 h5 h6 hr hn HN hnt
  obtain ⟨⟨p0, p1, p2, p3, p4, p5⟩, _⟩ := H1.out.1
  go_wp2_with fail
  refine (toWorld_any nw nx bd nr F n S V _ _ nt T X _ 0 _ (HG.out.1.later H1.out.2) (HG.out.2.later H1.out.2) HB.out.1 HB.out.2).mono ?_
  intro e w2 hN2
  obtain ⟨ra, rc, g, U, gt, Y, rfl, g2, t2, q2⟩ := hN2.rows
  have H2 : Hid (Blk6 w2 w.heap.size (.int .i64 nw) (.int .i64 nx) (.int .i64 bd) (.slice a0 nr c0) (.slice a1 n c1) (.slice a2 nt c2) ∧ Below w.heap.size w w2) := ⟨H1.out.1.later q2, H1.out.2.trans (q2.mono H1.out.2.size)⟩
  have G2 := HF.out _ _ _ _ _ _ g2 t2 HB.out.1.1 HB.out.1.2.1 HB.out.2.1 HB.out.2.2
  clear q2 hN2 g2 t2 H1 p0 p1 p2 p3 p4 p5
  go_wp2_with fail
  refine G2.1.mono ?_
  clear G2
  rintro e w3 ⟨rfl, q3⟩
  have H3 : Hid (Blk6 w3 w.heap.size (.int .i64 nw) (.int .i64 nx) (.int .i64 bd) (.slice a0 nr c0) (.slice a1 n c1) (.slice a2 nt c2) ∧ Below w.heap.size w w3) := ⟨H2.out.1.later q3, H2.out.2.trans (q3.mono H2.out.2.size)⟩
  clear q3 H2
  obtain ⟨⟨p0, p1, p2, p3, p4, p5⟩, _⟩ := H3.out.1
  go_wp2_with fail
  refine (toWorld_any nw nx bd nr F n S V _ _ nt T X _ 0 _ (HG.out.1.later H3.out.2) (HG.out.2.later H3.out.2) HB.out.1 HB.out.2).mono ?_
  intro e w4 hN4
  obtain ⟨ra', rc', g', U', gt', Y', rfl, g4, t4, q4⟩ := hN4.rows
  have G4 : Hid (Grs (w4.alloc (.cells #[.int .i64 nw, .int .i64 nx, .int .i64 bd, .slice ra' nr rc', .slice (some ⟨g', 0, none⟩) n n, .slice (some ⟨gt', 0, none⟩) nt nt] 42)) 0 nr F n S U' (.slice ra' nr rc') (.slice (some ⟨g', 0, none⟩) n n) ∧ Txs (w4.alloc (.cells #[.int .i64 nw, .int .i64 nx, .int .i64 bd, .slice ra' nr rc', .slice (some ⟨g', 0, none⟩) n n, .slice (some ⟨gt', 0, none⟩) nt nt] 42)) 0 nt T Y' (.slice (some ⟨gt', 0, none⟩) nt nt)) := ⟨g4.alloc _, t4.alloc _⟩
  have T4 : Hid (TwoD w nw nx bd (.slice a0 nr c0) (.slice a1 n c1) (.slice a2 nt c2) w4.heap.size (.slice ra' nr rc') (.slice (some ⟨g', 0, none⟩) n n) (.slice (some ⟨gt', 0, none⟩) nt nt) (w4.alloc (.cells #[.int .i64 nw, .int .i64 nx, .int .i64 bd, .slice ra' nr rc', .slice (some ⟨g', 0, none⟩) n n, .slice (some ⟨gt', 0, none⟩) nt nt] 42))) := ⟨(H3.out.2.trans (q4.mono H3.out.2.size)).alloc (Nat.le_trans H3.out.2.size q4.size) _, (H3.out.1.later q4).alloc _, Blk6.new _ _ _ _ _ _ _ _⟩
  clear q4 hN4 g4 t4 H3 p0 p1 p2 p3 p4 p5
  go_wp2_with fail
  generalize w4.alloc (.cells #[.int .i64 nw, .int .i64 nx, .int .i64 bd, .slice ra' nr rc', .slice (some ⟨g', 0, none⟩) n n, .slice (some ⟨gt', 0, none⟩) nt nt] 42) = w5 at G4 T4 ⊢
  refine (HF.out _ _ _ _ _ _ G4.out.1 G4.out.2 HB.out.1.1 HB.out.1.2.1 HB.out.2.1 HB.out.2.2).2.mono ?_
  rintro e w6 ⟨rfl, q6⟩
  have G6 : Hid (Grs w6 0 nr F n S U' (.slice ra' nr rc') (.slice (some ⟨g', 0, none⟩) n n) ∧ Txs w6 0 nt T Y' (.slice (some ⟨gt', 0, none⟩) nt nt)) := ⟨G4.out.1.later q6, G4.out.2.later q6⟩
  have T6 : Hid (TwoD w nw nx bd (.slice a0 nr c0) (.slice a1 n c1) (.slice a2 nt c2) w4.heap.size (.slice ra' nr rc') (.slice (some ⟨g', 0, none⟩) n n) (.slice (some ⟨gt', 0, none⟩) nt nt) w6) := T4.out.later q6
  clear q6 G4 T4
  have dq : (r != r) = false := by cases r <;> rfl
  go_wp2_with fail
  refine wp_region_held_drew (S := TwoD w nw nx bd (.slice a0 nr c0) (.slice a1 n c1) (.slice a2 nt c2) w4.heap.size (.slice ra' nr rc') (.slice (some ⟨g', 0, none⟩) n n) (.slice (some ⟨gt', 0, none⟩) nt nt)) (by kernel_rfl) (T6.out.later (Below.drew (Below.refl _ _))) (fun hS => ?_)
  clear T6
  refine tkH 0 ?_ hS (fun wx hx => ?_) ?_; rotate_left
  · obtain ⟨_, ⟨⟨hx0, hx1, hx2, hx3, hx4, hx5⟩, _⟩, ⟨⟨hy0, hy1, hy2, hy3, hy4, hy5⟩, _⟩⟩ := hx; go_simp; try with_reducible rfl
  refine tkH 1 ?_ hS (fun wx hx => ?_) ?_; rotate_left
  · obtain ⟨_, ⟨⟨hx0, hx1, hx2, hx3, hx4, hx5⟩, _⟩, ⟨⟨hy0, hy1, hy2, hy3, hy4, hy5⟩, _⟩⟩ := hx; go_simp; try with_reducible rfl
  refine rdH 2 (fun K hK => ?_)
  go_simp
  go_wp2_with fail
  refine (toWorld_any nw nx bd nr F n S V _ _ nt T X _ 0 _ (HG.out.1.later hS.1) (HG.out.2.later hS.1) HB.out.1 HB.out.2).mono ?_
  intro e w7 hN7
  obtain ⟨rb, rd, g2, U2, gt2, Y2, rfl, g7, t7, q7⟩ := hN7.rows
  have q7' : Below w6.heap.size w6 w7 := ⟨q7.os, q7.tape, q7.output, q7.size, q7.block⟩
  have G7 : Hid ((Grs w7 0 nr F n S U' (.slice ra' nr rc') (.slice (some ⟨g', 0, none⟩) n n) ∧ Txs w7 0 nt T Y' (.slice (some ⟨gt', 0, none⟩) nt nt)) ∧ Grs w7 0 nr F n S U2 (.slice rb nr rd) (.slice (some ⟨g2, 0, none⟩) n n) ∧ Txs w7 0 nt T Y2 (.slice (some ⟨gt2, 0, none⟩) nt nt)) := ⟨⟨G6.out.1.later q7', G6.out.2.later q7'⟩, g7, t7⟩
  have hS' := hS.later q7
  clear q7 q7' hN7 g7 t7 G6
  go_wp2_with fail
  refine hK.out _ _ hS' (fun hS => ?_)
  clear hK K hS'
  refine rdH 3 (fun K hK => ?_)
  go_simp
  go_wp2_with fail
  refine (eqWorldT_same nw nx bd nr F n S U' U2 _ _ _ _ _ _ _ _ nt T Y' Y2 _ _ _ _ 0 0 _ G7.out.1.1 G7.out.2.1 G7.out.1.2 G7.out.2.2 HB.out.1 HB.out.2).mono ?_
  rintro e w8 ⟨rfl, q8⟩
  have hS' := hS.later q8
  clear q8 G7
  go_wp2_with fail
  refine hK.out _ _ hS' (fun hS => ?_)
  clear hK K hS'
  refine tkH 4 ?_ hS (fun wx hx => ?_) ?_; rotate_left
  · obtain ⟨_, ⟨⟨hx0, hx1, hx2, hx3, hx4, hx5⟩, _⟩, ⟨⟨hy0, hy1, hy2, hy3, hy4, hy5⟩, _⟩⟩ := hx; go_simp; try with_reducible rfl
  refine wpAnyH_done (by kernel_rfl) ?_ _
  have BB : Hid (Below w.heap.size w w8) := hS.1
  clear hS
  go_simp
  go_wp2
  go_ret
  exact ⟨rfl, BB.out⟩
theorem atomic_walk (nw nx bd : Int) (nr : Nat) (F : Nat → Int) (n : Nat) (S : Nat → Sto) (V : Nat → Nat → Value) (vr vs : Value) (nt : Nat) (T : Nat → Tx) (X : Nat → Value) (vt : Value) (w : World) (h : Grs w 0 nr F n S V vr vs) (hx : Txs w 0 nt T X vt) (hr : nr ≤ 9223372036854775807) (hn : n ≤ 9223372036854775807) (hs : ∀ i, i < n → BigS (S i)) (hnt : nt ≤ 9223372036854775807) (hm : ∀ i, i < nt → (T i).m ≤ 9223372036854775807) :
    Calls Tryz.prog 4 #[.agg #[.int .i64 nw, .int .i64 nx, .int .i64 bd, vr, vs, vt]] w fun e w' => e = .returned (.bool true) ∧ Below w.heap.size w w' := by
  obtain ⟨r, hA⟩ := AtomAns.get nw nx bd nr F n S nt T
  exact exactAtomicRight_walk nw nx bd nr F n S V vr vs nt T X vt w h hx hr hn hs hnt hm ⟨r, fun U ur us Y ut x q1 q2 b1 b2 b3 b4 =>
    ⟨specAtomic_is nw nx bd nr F n S U ur us nt T Y ut 0 r x q1 q2 (by omega) (by omega) (by omega) (fun i hi => by have := b4 i hi; omega) hA, implAtomic_is nw nx bd nr F n S U ur us nt T Y ut 0 r x q1 q2 (by omega) (by omega) (by omega) (fun i hi => by have := b4 i hi; omega) hA⟩⟩
end Go.Proofs.YtglcedhkbbckiaaGreat

namespace Go.Proofs.YtglcedhkbbckiaaGreat
open Go.RowKit

/-- The list stands in box b; its own memory lies from block lo on. -/
def RisL (w : World) (b lo : Nat) (L : Prs) : Prop := ∃ v, Blk2 w b v (.func (.func 96) #[] #[]) ∧ Own w lo 148 2 L.length (rowL L) v
theorem RisL.later {w w' : World} {b lo : Nat} {L : Prs} (h : RisL w b lo L) (hb : Below w.heap.size w w') : RisL w' b lo L := by
  obtain ⟨v, h1, h2⟩ := h
  exact ⟨v, h1.later hb, h2.later hb⟩
theorem RisL.lt {w : World} {b lo : Nat} {L : Prs} (h : RisL w b lo L) : b < w.heap.size := by
  obtain ⟨v, h1, _⟩ := h
  exact h1.lt
/-- All below block lo stands, but box b. -/
def OffB (b lo : Nat) (w w' : World) : Prop := Below b w w' ∧ ∀ i, i < lo → i ≠ b → w'.heap[i]? = w.heap[i]?
theorem OffB.refl (b lo : Nat) (w : World) : OffB b lo w w := ⟨Below.refl _ _, fun _ _ _ => rfl⟩
theorem OffB.trans {b lo : Nat} {w w' w'' : World} (h : OffB b lo w w') (h' : OffB b lo w' w'') : OffB b lo w w'' := ⟨h.1.trans h'.1, fun i hi q => (h'.2 i hi q).trans (h.2 i hi q)⟩
theorem OffB.later {b lo : Nat} {w w' w'' : World} (h : OffB b lo w w') (hlo : b < lo) (hlw : lo ≤ w.heap.size) (hb : Below w'.heap.size w' w'') : OffB b lo w w'' := ⟨h.1.trans (hb.mono (by have := h.1.size; omega)), fun i hi q => (hb.block i (Nat.lt_of_lt_of_le hi (Nat.le_trans hlw h.1.size))).trans (h.2 i hi q)⟩
theorem OffB.of {b lo : Nat} {v : Value} {w w' : World} (h : Below b w w') (hk : KeptBut b v w w') (hv : ∀ q, v.ownBlock = some q → lo ≤ q) (hlw : lo ≤ w.heap.size := by omega) : OffB b lo w w' := ⟨h, fun i hi q => hk.2 i (by omega) q (fun e => by have := hv i e; omega)⟩
theorem OffB.set {b lo k : Nat} {w w' : World} {u : Value} (h : OffB b lo w w') : OffB b lo w (w'.setCell ⟨b, k, none⟩ u) := ⟨h.1.setCell (Nat.le_refl _) _, fun i hi q => (Below.heap_setCell w' ⟨b, k, none⟩ u i q).trans (h.2 i hi q)⟩
theorem stored_lo {w : World} {b lo : Nat} (hlo : b < lo) {v v' : Value} {L : Prs} (hb : Blk2 w b v (.func (.func 96) #[] #[])) (ho : Own w lo 148 2 L.length (rowL L) v') : Blk2 (w.setCell ⟨b, 0, none⟩ v') b v' (.func (.func 96) #[] #[]) ∧ Own (w.setCell ⟨b, 0, none⟩ v') lo 148 2 L.length (rowL L) v' :=
  ⟨Blk2.set0P hb _, own_kept ho (fun j hj => Below.heap_setCell w ⟨b, 0, none⟩ _ j (fun e => by have := (own_in ho j hj).1; simp at e; omega))⟩
set_option maxRecDepth 100000 in
set_option maxHeartbeats 2000000 in
theorem drop_lo (L : Prs) (b lo : Nat) (hlo : b < lo) (v : Value) (k x : Int) (w : World) (hb : Blk2 w b v (.func (.func 96) #[] #[])) (ho : Own w lo 148 2 L.length (rowL L) v) (hr : Rises L) (hn : L.length ≤ 1000) :
    Calls Tryz.prog 140 #[.pointer (some ⟨b, 0, none⟩), .agg #[.int .i64 k, .int .i64 x]] w fun e w' => e = .returned (.tuple #[]) ∧ (∃ v', (Blk2 w' b v' (.func (.func 96) #[] #[]) ∧ Own w' lo 148 2 (gonePr L k).length (rowL (gonePr L k)) v') ∧ v'.ownBlock = v.ownBlock) ∧ Below b w w' ∧ KeptBut b v w w' := by
  obtain ⟨ao, cp, rfl⟩ := ho.form
  have HO : Hid (Own w lo 148 2 L.length (rowL L) (.slice ao L.length cp) ∧ Rises L ∧ Blk2 w b (.slice ao L.length cp) (.func (.func 96) #[] #[])) := ⟨ho, hr, hb⟩
  clear ho hr hb
  go_enter Tryz.func140, Tryz.ntmps140
  go_wp2_with fail
  refine (place_any L b lo _ k x _ (HO.out.2.2.alloc _) (HO.out.1.alloc _) HO.out.2.1 hn).mono ?_
  rintro e w1 ⟨r, rfl, hr, q1⟩
  have HR : Hid (r = true ↔ atKey L k) := hr
  have HB : Hid (Below w.heap.size w w1) := (below_alloc w _).trans (q1.mono (by simp))
  have hbw : Hid (b < w.heap.size) := HO.out.2.2.lt
  clear q1 hr
  by_cases hat : atKey L k
  · obtain rfl : r = true := HR.out.2 hat
    have HT : Hid (atKey L k) := hat
    have HE : Hid (gonePr L k = L.eraseIdx (aheadN L k)) := by
      unfold Hid
      rw [gone_is HO.out.2.1]; exact if_pos hat
    have O1 : Hid (Own w1 lo 148 2 L.length (rowL L) (.slice ao L.length cp) ∧ Blk2 w1 b (.slice ao L.length cp) (.func (.func 96) #[] #[])) := ⟨HO.out.1.later HB.out, HO.out.2.2.later HB.out⟩
    obtain ⟨⟨hb0, hb1⟩, _, _⟩ := O1.out.2
    have hlt := hat.1
    have ha : aheadN L k ≤ 1000 := Nat.le_trans (aheadN_le L k) hn
    obtain ⟨A, hA⟩ : ∃ A, aheadN L k = A := ⟨_, rfl⟩
    have HAA : Hid (aheadN L k = A) := hA
    rw [hA] at hlt ha
    rw [hA]
    clear hA HR hat
    go_wp2_with fail
    refine (delP_any _ lo L.length A (rowL L) _ O1.out.1 (by omega) hlt).mono ?_
    rintro e w2 ⟨v2, rfl, ho2, hg2, hob2⟩
    obtain ⟨e2, f2, rfl⟩ := ho2.form
    have HB2 : Hid (Blk2 w2 b (.slice ao L.length cp) (.func (.func 96) #[] #[])) := own_grown O1.out.2 O1.out.1 (by omega) hg2
    have HO2 : Hid (Own w2 lo 148 2 (gonePr L k).length (rowL (gonePr L k)) (.slice e2 (L.length - 1) f2)) := by
      unfold Hid
      rw [HE.out, HAA.out, List.length_eraseIdx_of_lt hlt]
      exact own_eqP ho2 (fun p _ => rowL_erase)
    have HD : Hid (Below b w w2) := (HB.out.mono (Nat.le_of_lt hbw.out)).trans (grown_belowP O1.out.1 (by omega) (by have := HB.out.size; have := hbw.out; omega) hg2)
    obtain ⟨⟨c0, c1⟩, c2, c3⟩ := HB2.out
    have HK : Hid (KeptBut b (.slice ao L.length cp) w w2) := (KeptBut.below HB.out).trans HB.out.size (KeptBut.grown hg2)
    have HOB : Hid ((Value.slice e2 (L.length - 1) f2).ownBlock = (Value.slice ao L.length cp).ownBlock) := hob2
    clear ho2 hg2 hob2
    go_wp2
    go_end0
    exact ⟨rfl, ⟨_, stored_lo hlo HB2.out HO2.out, HOB.out⟩, HD.out.setCell (Nat.le_refl _) _, HK.out.trans' (KeptBut.set _)⟩
  · obtain rfl : r = false := Bool.eq_false_iff.2 (fun q => hat (HR.out.1 q))
    have HE : Hid (gonePr L k = L) := by
      unfold Hid
      rw [gone_is HO.out.2.1]; exact if_neg hat
    clear hat HR
    go_wp2
    go_end0
    rw [HE.out]
    exact ⟨rfl, ⟨_, ⟨HO.out.2.2.later HB.out, HO.out.1.later HB.out⟩, rfl⟩, HB.out.mono (Nat.le_of_lt hbw.out), KeptBut.below HB.out⟩
set_option maxRecDepth 100000 in
set_option maxHeartbeats 2000000 in
theorem put_lo (L : Prs) (b lo : Nat) (hlo : b < lo) (k x : Int) (w : World) (h : RisL w b lo L) (hlw : lo ≤ w.heap.size) (hr : Rises L) (hn : L.length ≤ 900) :
    Calls Tryz.prog 139 #[.pointer (some ⟨b, 0, none⟩), .agg #[.int .i64 k, .int .i64 x]] w fun e w' => e = .returned (.tuple #[]) ∧ RisL w' b lo (putPr L k x) ∧ OffB b lo w w' := by
  obtain ⟨v, hb, ho⟩ := h
  have HO : Hid (Blk2 w b v (.func (.func 96) #[] #[]) ∧ Own w lo 148 2 L.length (rowL L) v ∧ Rises L) := ⟨hb, ho, hr⟩
  have hbw : b < w.heap.size := hb.lt
  obtain ⟨G, hG⟩ : ∃ G, gonePr L k = G := ⟨_, rfl⟩
  have hGn : G.length ≤ 900 := by rw [← hG]; exact Nat.le_trans (List.length_filter_le _ _) hn
  have HGR : Hid (Rises G ∧ putPr L k x = G.insertIdx (aheadN G k) (k, x)) := by
    unfold Hid
    rw [← hG]
    exact ⟨gonePr_rises hr k, put_is hr k x⟩
  have HG : Hid (gonePr L k = G) := hG
  clear hb ho hr hG
  go_enter Tryz.func139, Tryz.ntmps139
  go_wp2_with fail
  refine (drop_lo L b lo hlo v k x _ (HO.out.1.alloc _) (HO.out.2.1.alloc _) HO.out.2.2 (by omega)).mono ?_
  rintro e w1 ⟨rfl, h1, q1, hk1⟩
  rw [HG.out] at h1
  obtain ⟨v1, ⟨hb1, ho1⟩, hv1⟩ := h1
  obtain ⟨ao, cp, rfl⟩ := ho1.form
  have HX1 : Blk2 w1 w.heap.size (.int .i64 k) (.int .i64 x) := (Blk2.new w _ _ 148).kept (hk1.2 _ (by simp) (by omega) (fun e => by have := (own_in HO.out.2.1 _ e).2; omega))
  have R1 : Hid (Blk2 w1 b (.slice ao G.length cp) (.func (.func 96) #[] #[]) ∧ Own w1 lo 148 2 G.length (rowL G) (.slice ao G.length cp) ∧ Blk2 w1 w.heap.size (.int .i64 k) (.int .i64 x) ∧ Below b w w1) := ⟨hb1, ho1, HX1, ((below_alloc w _).mono (Nat.le_of_lt hbw)).trans q1⟩
  obtain ⟨⟨c0, c1⟩, _, _⟩ := HX1
  have HVB : Hid (∀ q, (Value.slice ao G.length cp).ownBlock = some q → lo ≤ q ∧ q < w.heap.size) := fun q hq => own_in HO.out.2.1 q (hv1 ▸ hq)
  have HK1 : Hid (KeptBut b (.slice ao G.length cp) w w1) := (KeptBut.below (below_alloc w _)).trans' ⟨hk1.1, fun i hi h1 h2 => hk1.2 i hi h1 (fun e => h2 (hv1.trans e))⟩
  clear hv1 hb1 ho1 q1 hk1 HO
  go_wp2_with fail
  refine (place_any G b lo _ k x _ R1.out.1 R1.out.2.1 HGR.out.1 (by omega)).mono ?_
  rintro e w2 ⟨r, rfl, _, q2⟩
  have R2 : Hid (Blk2 w2 b (.slice ao G.length cp) (.func (.func 96) #[] #[]) ∧ Own w2 lo 148 2 G.length (rowL G) (.slice ao G.length cp) ∧ Blk2 w2 w.heap.size (.int .i64 k) (.int .i64 x) ∧ Below b w w2) := ⟨R1.out.1.later q2, R1.out.2.1.later q2, R1.out.2.2.1.later q2, R1.out.2.2.2.trans (q2.mono (by have := R1.out.2.2.2.size; omega))⟩
  have HK2 : Hid (KeptBut b (.slice ao G.length cp) w w2) := HK1.out.trans' (KeptBut.below q2)
  have hlw2 : lo ≤ w2.heap.size := Nat.le_trans hlw HK2.out.1
  clear HK1
  have hle : aheadN G k ≤ G.length := aheadN_le G k
  obtain ⟨A, hA⟩ : ∃ A, aheadN G k = A := ⟨_, rfl⟩
  have HAA : Hid (putPr L k x = G.insertIdx A (k, x)) := by unfold Hid; rw [← hA]; exact HGR.out.2
  rw [hA] at hle
  rw [hA]
  clear hA q2 R1 c0 c1
  have hw2 : b < w2.heap.size := R2.out.1.lt
  have hc2 : w.heap.size < w2.heap.size := R2.out.2.2.1.lt
  have HI : Hid (Calls Tryz.prog 183 #[.slice ao G.length cp, .int .i64 A, .slice (some ⟨w2.heap.size, 0, none⟩) 1 1] (w2.drew.alloc (.cells #[.int .i64 k, .int .i64 x] 148)) (InsP (w2.drew.alloc (.cells #[.int .i64 k, .int .i64 x] 148)) lo G.length A (rowL G) [k, x] (.slice ao G.length cp))) :=
    insP_any _ lo G.length A w2.heap.size 1 (rowL G) [k, x] _ rfl (R2.out.2.1.later ((Below.drew (Below.refl _ _)).trans ((below_alloc _ _).mono (Nat.le_refl _)))) (by simp; omega) (by omega) hle (fun e => by have := (own_in R2.out.2.1 _ e).2; omega) (Blkk.made w2.drew _ _ _ rfl) (fun p hp => by
      rw [World.cell?_alloc_at (w := w2.drew) _ _ w2.heap.size p rfl]
      obtain rfl | rfl : p = 0 ∨ p = 1 := by omega
      all_goals rfl)
  have HYB : Hid (Below w2.heap.size w2 (w2.drew.alloc (.cells #[.int .i64 k, .int .i64 x] 148))) := (Below.drew (Below.refl _ _)).trans ((below_alloc _ _).mono (Nat.le_refl _))
  have HKK : Hid (KeptBut b (.slice ao G.length cp) w (w2.drew.alloc (.cells #[.int .i64 k, .int .i64 x] 148))) := HK2.out.trans' (KeptBut.below HYB.out)
  have SY : Hid (Blk2 (w2.drew.alloc (.cells #[.int .i64 k, .int .i64 x] 148)) b (.slice ao G.length cp) (.func (.func 96) #[] #[]) ∧ Blk2 (w2.drew.alloc (.cells #[.int .i64 k, .int .i64 x] 148)) w.heap.size (.int .i64 k) (.int .i64 x)) := ⟨R2.out.1.later HYB.out, R2.out.2.2.1.later HYB.out⟩
  have HOY : Hid (Own (w2.drew.alloc (.cells #[.int .i64 k, .int .i64 x] 148)) lo 148 2 G.length (rowL G) (.slice ao G.length cp) ∧ Below b w (w2.drew.alloc (.cells #[.int .i64 k, .int .i64 x] 148))) := ⟨R2.out.2.1.later HYB.out, R2.out.2.2.2.trans (HYB.out.mono (by omega))⟩
  obtain ⟨⟨p0, p1⟩, _, _⟩ := R2.out.1
  have hS0 : (fun X : World => Blk2 X w.heap.size (.int .i64 k) (.int .i64 x)) w2.drew := R2.out.2.2.1
  clear R2
  go_upto_region 3 with fail
  refine wp_region_held_drew (S := (fun X : World => Blk2 X w.heap.size (.int .i64 k) (.int .i64 x))) (by kernel_rfl) hS0 (fun hS => ?_)
  clear hS0
  refine tkH 0 ?_ hS (fun wx hx => ?_) ?_; rotate_left
  · obtain ⟨⟨hx2, hx3⟩, hx6, hx7⟩ := hx; go_simp; try with_reducible rfl
  refine tkH 1 ?_ hS (fun wx hx => ?_) ?_; rotate_left
  · obtain ⟨⟨hx2, hx3⟩, hx6, hx7⟩ := hx; go_simp; try with_reducible rfl
  refine tkH 2 ?_ hS (fun wx hx => ?_) ?_; rotate_left
  · obtain ⟨⟨hx2, hx3⟩, hx6, hx7⟩ := hx; go_simp; try with_reducible rfl
  refine tkH 3 ?_ hS (fun wx hx => ?_) ?_; rotate_left
  · obtain ⟨⟨hx2, hx3⟩, hx6, hx7⟩ := hx; go_simp; try with_reducible rfl
  refine tkH 5 ?_ hS (fun wx hx => ?_) ?_; rotate_left
  · obtain ⟨⟨hx2, hx3⟩, hx6, hx7⟩ := hx; go_simp; try with_reducible rfl
  refine tkH 6 ?_ hS (fun wx hx => ?_) ?_; rotate_left
  · obtain ⟨⟨hx2, hx3⟩, hx6, hx7⟩ := hx; go_simp; try with_reducible rfl
  refine wpAnyH_ready (rs := [4, 7]) (by kernel_rfl) (by simp) ?_
  refine AllReadyH.cons rfl (fun K hK => ?_) (AllReadyH.cons rfl (fun K hK => ?_) AllReadyH.nil)
  focus
    go_simp
    refine hK.out _ _ hS (fun hS => ?_)
    clear hK K p0 p1
    refine rdH 7 (fun K hK => ?_)
    go_simp
    refine hK.out _ _ SY.out.2 (fun hS => ?_)
    clear hK K
  rotate_left
  focus
    go_simp
    refine hK.out _ _ SY.out.2 (fun hS => ?_)
    clear hK K
    refine rdH 4 (fun K hK => ?_)
    go_simp
    refine hK.out _ _ hS (fun hS => ?_)
    clear hK K p0 p1
  rotate_left
  all_goals
    refine rdH 8 (fun K hK => ?_)
    go_simp
    go_wp2_with fail
    refine HI.out.mono ?_
    rintro e w3 ⟨a3, c3, rfl, ho3, hg3, _⟩
    have HB3 : Hid (Blk2 w3 b (.slice ao G.length cp) (.func (.func 96) #[] #[])) := own_grown SY.out.1 HOY.out.1 (by omega) hg3
    have hS3 : Blk2 w3 w.heap.size (.int .i64 k) (.int .i64 x) := SY.out.2.kept (hg3.block _ (by simp; omega) (fun e => by have := HVB.out _ e.symm; omega))
    have HO3 : Hid (Own w3 lo 148 2 (putPr L k x).length (rowL (putPr L k x)) (.slice a3 (G.length + 1) c3)) := by
      unfold Hid
      rw [HAA.out, List.length_insertIdx_of_le_length hle]
      exact own_eqP ho3 (fun p hp => rowL_insert hle hp)
    have HD3 : Hid (Below b w w3) := HOY.out.2.trans (grown_belowP HOY.out.1 (by omega) (by simp; omega) hg3)
    have HQ3 : Hid (OffB b lo w w3) := OffB.of HD3.out (HKK.out.trans' (KeptBut.grown hg3)) (fun q hq => (HVB.out q hq).1)
    clear ho3 hg3
    go_wp2_with fail
    refine hK.out _ _ hS3 (fun hS => ?_)
    clear hK K hS3
    refine tkH 9 ?_ hS (fun wx hx => ?_) ?_; rotate_left
    · obtain ⟨⟨hx2, hx3⟩, hx6, hx7⟩ := hx; go_simp; try with_reducible rfl
    refine tkH 10 ?_ hS (fun wx hx => ?_) ?_; rotate_left
    · obtain ⟨⟨hx2, hx3⟩, hx6, hx7⟩ := hx; go_simp; try with_reducible rfl
    refine rdH 11 (fun K hK => ?_)
    obtain ⟨⟨x0, x1⟩, x2, x3⟩ := HB3.out
    go_simp
    refine hK.out _ _ (hS.kept (Below.heap_setCell _ ⟨b, 0, none⟩ _ _ (by simp; omega))) (fun hS => ?_)
    clear hK K x0 x1 x2 x3
    refine wpAnyH_done (by kernel_rfl) ?_ _
    go_simp
    go_end0
    exact ⟨rfl, ⟨_, stored_lo hlo HB3.out HO3.out⟩, HQ3.out.set⟩
set_option maxRecDepth 100000 in
set_option maxHeartbeats 2000000 in
theorem applyTo_lo (L : Prs) (F : Nat → Int) (n b lo : Nat) (hlo : b < lo) (y : Value) (B : Nat) (w0 w : World) (hi : Row w0 B 3 n F y) (h0 : Below w0.heap.size w0 w) (hb : w0.heap.size ≤ b) (h : RisL w b lo L) (hlw : lo ≤ w.heap.size) (hr : Rises L) (hL : L.length ≤ 800) (hn : n ≤ 12) :
    Calls Tryz.prog 97 #[.pointer (some ⟨b, 0, none⟩), y] w fun e w' => e = .returned (.tuple #[]) ∧ RisL w' b lo (applyN L F n) ∧ OffB b lo w w' := by
  obtain ⟨ao, cp, rfl⟩ := hi.form
  have H : Hid (Row w0 B 3 n F (.slice ao n cp) ∧ Rises L) := ⟨hi, hr⟩
  have HB : Hid (RisL w b lo L ∧ OffB b lo w w) := ⟨h, OffB.refl b lo w⟩
  have HW0 : Hid (Below w0.heap.size w0 w) := h0
  clear hi hr h h0
  go_enter Tryz.func97, Tryz.ntmps97
  go_wp2
  go_loopw [8] (fun i wr => ∃ k : Nat, k ≤ n ∧ i = .int .i64 k ∧ Hid (RisL wr b lo (applyN L F k) ∧ OffB b lo w wr)) (fun i _ => n - (intOf i).toNat)
  case atStart => exact ⟨0, Nat.zero_le _, rfl, HB.out⟩
  case round =>
    obtain ⟨k, hk, rfl, HS⟩ := hrel
    by_cases hlt : k < n
    case neg =>
      obtain rfl : k = n := by omega
      go_wp2
      go_end0
      exact ⟨rfl, HS.out.1, HS.out.2⟩
    obtain ⟨g, o, hao, _, hg, y0, y1, y2⟩ := (H.out.1.later (HW0.out.trans (HS.out.2.1.mono hb))).at3 hlt
    subst hao
    obtain ⟨n0, N0⟩ : ∃ x, F (k * 3) = x := ⟨_, rfl⟩
    rw [N0] at y0
    obtain ⟨n1, N1⟩ : ∃ x, F (k * 3 + 1) = x := ⟨_, rfl⟩
    rw [N1] at y1
    obtain ⟨n2, N2⟩ : ∃ x, F (k * 3 + 2) = x := ⟨_, rfl⟩
    rw [N2] at y2
    have HP : Hid (applyN L F (k + 1) = stepA (applyN L F k) n0 n1 n2) := by
      unfold Hid
      rw [← N0, ← N1, ← N2]
      rfl
    clear N0 N1 N2
    have hln : (applyN L F k).length ≤ 812 := Nat.le_trans (applyN_len L F k) (by omega)
    have HR : Hid (Rises (applyN L F k)) := applyN_rises H.out.2 F k
    have hz : Hid (b < wr.heap.size) := HS.out.1.lt
    by_cases k1 : n1 = 1
    · subst k1
      have HE : Hid (applyN L F (k + 1) = putPr (applyN L F k) n0 n2) := by unfold Hid; rw [HP.out, stepA, if_pos rfl]
      clear HP
      go_wp2_with fail
      refine (put_lo (applyN L F k) b lo hlo n0 n2 _ (HS.out.1.later ?_) (Nat.le_trans hlw (HS.out.2.later hlo hlw (below_alloc _ _)).1.size) HR.out (by omega)).mono ?_
      · exact below_alloc _ _
      rintro e w1 ⟨rfl, h1, q1⟩
      rw [← HE.out] at h1
      have H1 : Hid (RisL w1 b lo (applyN L F (k + 1)) ∧ OffB b lo w w1) := ⟨h1, (HS.out.2.later hlo hlw (below_alloc _ _)).trans q1⟩
      clear h1 q1 HS y0 y1 y2
      go_wp2
      go_roundw
      case rel => exact ⟨k + 1, by omega, by go_num, H1⟩
      case measure => simp [intOf]; omega
    have d1 : (n1 == 1) = false := beq_eq_false_iff_ne.2 k1
    by_cases k2 : n1 = 2
    · have HE : Hid (applyN L F (k + 1) = gonePr (applyN L F k) n0) := by unfold Hid; rw [HP.out, stepA, if_neg k1, if_pos k2]
      subst k2
      clear HP k1 d1
      go_wp2_with fail
      obtain ⟨v, hb1, ho1⟩ := HS.out.1
      have HVB : Hid (∀ q, v.ownBlock = some q → lo ≤ q) := fun q hq => (own_in ho1 q hq).1
      refine (drop_lo (applyN L F k) b lo hlo v n0 0 _ (hb1.alloc _) (ho1.alloc _) HR.out (by omega)).mono ?_
      rintro e w1 ⟨rfl, ⟨v1, h1, _⟩, q1, q1'⟩
      rw [← HE.out] at h1
      have H1 : Hid (RisL w1 b lo (applyN L F (k + 1)) ∧ OffB b lo w w1) := ⟨⟨v1, h1⟩, (HS.out.2.later hlo hlw (below_alloc _ _)).trans (OffB.of q1 q1' HVB.out (Nat.le_trans hlw (HS.out.2.later hlo hlw (below_alloc _ _)).1.size))⟩
      clear h1 q1 q1' HVB HS y0 y1 y2 hb1 ho1
      go_wp2
      go_roundw
      case rel => exact ⟨k + 1, by omega, by go_num, H1⟩
      case measure => simp [intOf]; omega
    have d2 : (n1 == 2) = false := beq_eq_false_iff_ne.2 k2
    have HE : Hid (applyN L F (k + 1) = applyN L F k) := by unfold Hid; rw [HP.out, stepA, if_neg k1, if_neg k2]
    clear k1 k2 HP
    have H1 : Hid (∀ o : Obj, RisL (wr.alloc o) b lo (applyN L F (k + 1)) ∧ OffB b lo w (wr.alloc o)) := fun o => by
      rw [HE.out]
      exact ⟨HS.out.1.later (below_alloc _ _), HS.out.2.later hlo hlw (below_alloc _ _)⟩
    go_wp2
    go_roundw
    case rel => exact ⟨k + 1, by omega, by go_num, H1.out _⟩
    case measure => simp [intOf]; omega
set_option maxRecDepth 100000 in
set_option maxHeartbeats 1000000 in
theorem filledP_nil (w : World) : Calls Tryz.prog 95 #[(.func (.func 96) #[] #[]), .slice none 0 0] w fun e w' => e = .returned (.pointer (some ⟨w.heap.size, 0, none⟩)) ∧ Blk2 w' w.heap.size (.slice none 0 0) (.func (.func 96) #[] #[]) ∧ Below w.heap.size w w' := by
  have HR : Hid (Blk2 (w.alloc (.cells #[.slice none 0 0, (.func (.func 96) #[] #[])] 99)) w.heap.size (.slice none 0 0) (.func (.func 96) #[] #[])) := Blk2.new w _ _ _
  go_enter Tryz.func95, Tryz.ntmps95
  go_wp2
  go_loopw [13] (fun i wr => i = .int .i64 0 ∧ wr = w.alloc (.cells #[.slice none 0 0, (.func (.func 96) #[] #[])] 99)) (fun _ _ => 0)
  case atStart => exact ⟨rfl, rfl⟩
  case round =>
    obtain ⟨rfl, rfl⟩ := hrel
    go_wp2
    go_ret
    exact ⟨rfl, HR.out, below_alloc _ _⟩
end Go.Proofs.YtglcedhkbbckiaaGreat

namespace Go.Proofs.YtglcedhkbbckiaaGreat
open Go.RowKit

/-- Whether a key has a pair, and its value. -/
def lookF (L : Prs) (k : Int) : Bool × Int := match L.find? (fun e => e.1 == k) with
  | some e => (true, e.2)
  | none => (false, 0)
theorem lookF_at {L : Prs} {k : Int} {i : Nat} (hi : i < L.length) (h : ∀ j, j < i → (L.getD j (0, 0)).1 ≠ k) (h1 : (L.getD i (0, 0)).1 = k) : lookF L k = (true, (L.getD i (0, 0)).2) := by
  unfold lookF
  have hf : L.find? (fun e => e.1 == k) = some (L.getD i (0, 0)) := by
    induction L generalizing i with
    | nil => simp at hi
    | cons e t ih =>
      cases i with
      | zero =>
        have : e.1 = k := by simpa using h1
        simp [this]
      | succ i =>
        have h0 := h 0 (by omega)
        have : ¬ e.1 = k := by simpa using h0
        rw [List.find?_cons_of_neg (by simpa using this), List.getD_cons_succ]
        exact ih (by simpa using hi) (fun j hj => by have := h (j + 1) (by omega); simpa using this) (by simpa using h1)
  rw [hf]
theorem lookF_no {L : Prs} {k : Int} (h : ∀ j, j < L.length → (L.getD j (0, 0)).1 ≠ k) : lookF L k = (false, 0) := by
  unfold lookF
  have hf : L.find? (fun e => e.1 == k) = none := by
    refine List.find?_eq_none.2 fun e he => ?_
    obtain ⟨i, hi, rfl⟩ := List.getElem_of_mem he
    have := h i hi
    simp only [List.getD_eq_getElem?_getD, List.getElem?_eq_getElem hi, Option.getD_some] at this
    simpa using this
  rw [hf]
set_option maxRecDepth 100000 in
set_option maxHeartbeats 2000000 in
theorem l11Value_any (L : Prs) (v : Value) (B : Nat) (key : Int) (w : World) (h : Row w B 2 L.length (rowL L) v) (hn : L.length ≤ 1048576) :
    Calls Tryz.prog 46 #[v, .int .i64 key] w fun e w' => e = .returned (.tuple #[.int .i64 (lookF L key).2, .bool (lookF L key).1]) ∧ w' = w := by
  obtain ⟨ao, cp, rfl⟩ := h.form
  have H : Hid (Row w B 2 L.length (rowL L) (.slice ao L.length cp)) := h
  clear h
  obtain ⟨r, hr⟩ : ∃ r, lookF L key = r := ⟨_, rfl⟩
  have HR : Hid (lookF L key = r) := hr
  rw [hr]
  clear hr
  obtain ⟨r1, r2⟩ := r
  go_enter Tryz.func46, Tryz.ntmps46
  go_wp2
  go_loopw [6] (fun i wr => ∃ k : Nat, k ≤ L.length ∧ i = .int .i64 k ∧ Hid (∀ j, j < k → (L.getD j (0, 0)).1 ≠ key) ∧ wr = w) (fun i _ => L.length - (intOf i).toNat)
  case atStart => exact ⟨0, Nat.zero_le _, rfl, fun j hj => absurd hj (Nat.not_lt_zero j), rfl⟩
  case round =>
    obtain ⟨k, hk, rfl, HS, rfl⟩ := hrel
    by_cases hlt : k < L.length
    case neg =>
      have HE : Hid (r1 = false ∧ r2 = 0) := by
        have := HR.out.symm.trans (lookF_no fun j hj => HS.out j (by omega))
        exact (by simpa using this : r1 = false ∧ r2 = 0)
      clear HS HR
      go_wp2
      go_ret2
      rw [HE.out.1, HE.out.2]
      exact ⟨rfl, rfl⟩
    obtain ⟨g, o, hao, _, hg, y0, y1⟩ := H.out.at2 hlt
    subst hao
    rw [rowL_key] at y0
    rw [rowL_val] at y1
    obtain ⟨n0, N0⟩ : ∃ x, (L.getD k (0, 0)).1 = x := ⟨_, rfl⟩
    rw [N0] at y0
    obtain ⟨n1, N1⟩ : ∃ x, (L.getD k (0, 0)).2 = x := ⟨_, rfl⟩
    rw [N1] at y1
    have NN : Hid ((L.getD k (0, 0)).1 = n0 ∧ (L.getD k (0, 0)).2 = n1) := ⟨N0, N1⟩
    clear N0 N1
    by_cases he : n0 = key
    · have HE : Hid (r1 = true ∧ r2 = n1) := by
        have := HR.out.symm.trans (lookF_at hlt HS.out (NN.out.1.trans he))
        rw [NN.out.2] at this
        exact (by simpa using this : r1 = true ∧ r2 = n1)
      subst he
      clear HS HR NN
      go_wp2
      go_ret2
      rw [HE.out.1, HE.out.2]
      exact ⟨rfl, rfl⟩
    · have HS1 : Hid (∀ j, j < k + 1 → (L.getD j (0, 0)).1 ≠ key) := fun j hj => by
        rcases Nat.eq_or_lt_of_le (Nat.lt_succ_iff.1 hj) with rfl | q
        · rw [NN.out.1]; exact he
        · exact HS.out j q
      have d : (n0 == key) = false := beq_eq_false_iff_ne.2 he
      clear he HS HR NN
      go_wp2
      go_roundw
      case rel => exact ⟨k + 1, by omega, by go_num, HS1, trivial⟩
      case measure => simp [intOf]; omega
end Go.Proofs.YtglcedhkbbckiaaGreat

