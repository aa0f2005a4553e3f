/-
  Own text, merged of TxsB, OrcB, WldE, WldF, TxsC, WldM, AcmC, DonF, TxsD, TxsE, AcmD, WldN, TxnJ, LivA.
-/
import Derived.Test.YtglcedhkbbckiaaGreatPk8
namespace Go.Proofs.YtglcedhkbbckiaaGreat
open Go.RowKit

def sizeX (T : Nat → Tx) (i : Nat) : Nat := (T i).m
def SxAns (n : Nat) (T : Nat → Tx) (left r : Int) : Prop := r = -1 ∨ (0 ≤ r ∧ n ≤ 1048576 ∧ ((sumN (sizeX T) n : Nat) : Int) ≤ left ∧ ∀ i, i < n → (T i).m ≤ 1048576)
set_option maxRecDepth 100000 in
set_option maxHeartbeats 4000000 in
theorem szTxnS_any (n : Nat) (T : Nat → Tx) (V : Nat → Value) (v : Value) (B : Nat) (left : Int) (w : World) (h : Txs w B n T V v) (hn : n ≤ 9223372036854775807) (hs : ∀ i, i < n → (T i).m ≤ 9223372036854775807) (h0 : 0 ≤ left) (h2 : left ≤ 1048576) :
    Calls Tryz.prog 30 #[v, .int .i64 left] w fun e w' => ∃ r, e = .returned (.int .i64 r) ∧ SxAns n T left r ∧ Below w.heap.size w w' := by
  obtain ⟨ao, cp, rfl⟩ := h.form
  have H : Hid (Txs w B n T V (.slice ao n cp)) := h
  have HN : Hid (∀ i, i < n → (T i).m ≤ 9223372036854775807) := hs
  clear h hs
  by_cases hl : left < n
  · have d : decide (left - n < 0) = true := decide_eq_true (by omega)
    go_enter Tryz.func30, Tryz.ntmps30
    go_wp2
    go_ret
    exact ⟨-1, rfl, Or.inl rfl, Below.refl _ _⟩
  have d : decide (left - n < 0) = false := decide_eq_false (by omega)
  go_enter Tryz.func30, Tryz.ntmps30
  go_wp2
  go_loopw [1, 5] (fun j i wr => ∃ (k : Nat) (L : Int), k ≤ n ∧ j = .int .i64 L ∧ i = .int .i64 k ∧ Hid ((0 ≤ L ∧ L + (sumN (sizeX T) k : Nat) ≤ left) ∧ ∀ i, i < k → (T i).m ≤ 1048576) ∧ Hid (Below w.heap.size w wr)) (fun _ i _ => n - (intOf i).toNat)
  case atStart => exact ⟨0, left - n, Nat.zero_le _, rfl, rfl, ⟨by simp only [sumN]; omega, fun i hi => absurd hi (Nat.not_lt_zero i)⟩, Below.refl _ _⟩
  case round =>
    obtain ⟨k, L, hk, rfl, rfl, hL, hR⟩ := hrel
    by_cases hlt : k < n
    · obtain ⟨g, o, rfl, _, hg, ⟨c0, c1, c2, c3, c4, c5⟩, rk, _⟩ := H.out.at hlt
      have b0 := (hR.out.cell (p := ⟨g, o + k * 6, none⟩) hg).trans c0
      have b1 := (hR.out.cell (p := ⟨g, o + k * 6 + 1, none⟩) hg).trans c1
      have b2 := (hR.out.cell (p := ⟨g, o + k * 6 + 2, none⟩) hg).trans c2
      have b3 := (hR.out.cell (p := ⟨g, o + k * 6 + 3, none⟩) hg).trans c3
      have b4 := (hR.out.cell (p := ⟨g, o + k * 6 + 4, none⟩) hg).trans c4
      have b5 := (hR.out.cell (p := ⟨g, o + k * 6 + 5, none⟩) hg).trans c5
      obtain ⟨a1, d1, e1⟩ := rk.form
      rw [e1] at b5
      clear c0 c1 c2 c3 c4 c5 rk e1
      have hB : Hid ((T k).m ≤ 9223372036854775807) := HN.out k hlt
      obtain ⟨t0, ht⟩ : ∃ t, T k = t := ⟨_, rfl⟩
      have HK : Hid (T k = t0) := ht
      rw [ht] at b0 b1 b2 b3 b4 b5 hB
      obtain ⟨s', c', u', st', a', m', L'⟩ := t0
      clear ht
      by_cases hfit : (m' : Int) ≤ L
      · go_wp2_with fail
        refine (szTxn_ok _ _ _ _ _ _ _ _ _ _ hfit (by have := hL.out.1; omega)).mono ?_
        rintro e w1 ⟨rfl, q1⟩
        have HB : Hid (Below w.heap.size w w1) := hR.out.trans (q1.mono hR.out.size)
        have dd : decide (L - m' < 0) = false := decide_eq_false (by omega)
        clear q1 hR b0 b1 b2 b3 b4 b5
        go_wp2
        go_roundw
        case rel =>
          have hst : sumN (sizeX T) (k + 1) = sumN (sizeX T) k + m' := by show sumN (sizeX T) k + (T k).m = _; rw [HK.out]
          refine ⟨k + 1, L - m', by omega, by go_num, by go_num, ⟨by have := hL.out.1; rw [hst]; omega, fun i hi => ?_⟩, HB⟩
          by_cases q : i = k
          · subst q
            have h1 := hL.out.1
            rw [HK.out]
            show m' ≤ 1048576
            omega
          · exact hL.out.2 i (by omega)
        case measure => simp [intOf]; omega
      · go_wp2_with fail
        refine (szTxn_no _ _ _ _ _ _ _ _ _ _ (by omega) hL.out.1.1 (by have := hL.out.1; omega) hB.out).mono ?_
        rintro e w1 ⟨rfl, q1⟩
        have HB : Hid (Below w.heap.size w w1) := hR.out.trans (q1.mono hR.out.size)
        clear q1 hR b0 b1 b2 b3 b4 b5
        go_wp2
        go_ret
        exact ⟨-1, rfl, Or.inl rfl, HB.out⟩
    · obtain rfl : k = n := by omega
      go_wp2
      go_ret
      exact ⟨L, rfl, Or.inr ⟨hL.out.1.1, by omega, by have := hL.out.1; omega, hL.out.2⟩, hR.out⟩
/-- Two transactions at a place. -/
def Two6 (w : World) (g o g' o' k : Nat) (t : Tx) (u u' : Value) (x : World) : Prop :=
  Below w.heap.size w x ∧ (x.cell? ⟨g, o + k * 6, none⟩ = some (.int .i64 t.s) ∧ x.cell? ⟨g, o + k * 6 + 1, none⟩ = some (.int .i64 t.c) ∧ x.cell? ⟨g, o + k * 6 + 2, none⟩ = some (.int .i64 t.u) ∧ x.cell? ⟨g, o + k * 6 + 3, none⟩ = some (.int .i64 t.st) ∧ x.cell? ⟨g, o + k * 6 + 4, none⟩ = some (.int .i64 t.a) ∧ x.cell? ⟨g, o + k * 6 + 5, none⟩ = some u) ∧
    (x.cell? ⟨g', o' + k * 6, none⟩ = some (.int .i64 t.s) ∧ x.cell? ⟨g', o' + k * 6 + 1, none⟩ = some (.int .i64 t.c) ∧ x.cell? ⟨g', o' + k * 6 + 2, none⟩ = some (.int .i64 t.u) ∧ x.cell? ⟨g', o' + k * 6 + 3, none⟩ = some (.int .i64 t.st) ∧ x.cell? ⟨g', o' + k * 6 + 4, none⟩ = some (.int .i64 t.a) ∧ x.cell? ⟨g', o' + k * 6 + 5, none⟩ = some u') ∧ g < x.heap.size ∧ g' < x.heap.size
theorem Two6.later {w : World} {g o g' o' k : Nat} {t : Tx} {u u' : Value} {x x' : World} (h : Two6 w g o g' o' k t u u' x) (hb : Below x.heap.size x x') : Two6 w g o g' o' k t u u' x' := by
  obtain ⟨h0, ⟨a0, a1, a2, a3, a4, a5⟩, ⟨b0, b1, b2, b3, b4, b5⟩, hg, hg'⟩ := h
  have k1 : ∀ p, x'.cell? ⟨g, p, none⟩ = x.cell? ⟨g, p, none⟩ := fun p => hb.cell (p := ⟨g, p, none⟩) hg
  have k2 : ∀ p, x'.cell? ⟨g', p, none⟩ = x.cell? ⟨g', p, none⟩ := fun p => hb.cell (p := ⟨g', p, none⟩) hg'
  exact ⟨h0.trans (hb.mono h0.size), ⟨(k1 _).trans a0, (k1 _).trans a1, (k1 _).trans a2, (k1 _).trans a3, (k1 _).trans a4, (k1 _).trans a5⟩, ⟨(k2 _).trans b0, (k2 _).trans b1, (k2 _).trans b2, (k2 _).trans b3, (k2 _).trans b4, (k2 _).trans b5⟩, Nat.lt_of_lt_of_le hg hb.size, Nat.lt_of_lt_of_le hg' hb.size⟩
set_option maxRecDepth 100000 in
set_option maxHeartbeats 4000000 in
theorem eqTxnS_same (n : Nat) (T : Nat → Tx) (V U : Nat → Value) (va vb : Value) (Ba Bb : Nat) (w : World) (ha : Txs w Ba n T V va) (hb : Txs w Bb n T U vb) (hn : n ≤ 1048576) (hs : ∀ i, i < n → (T i).m ≤ 1048576) :
    Calls Tryz.prog 40 #[va, vb] w fun e w' => e = .returned (.bool true) ∧ Below w.heap.size w w' := by
  obtain ⟨ao, cp, rfl⟩ := ha.form
  obtain ⟨ao', cp', rfl⟩ := hb.form
  have H : Hid (Txs w Ba n T V (.slice ao n cp)) := ha
  have H' : Hid (Txs w Bb n T U (.slice ao' n cp')) := hb
  have HN : Hid (∀ i, i < n → (T i).m ≤ 1048576) := hs
  clear ha hb hs
  go_enter Tryz.func40, Tryz.ntmps40
  go_wp2
  go_loopw [5] (fun i wr => ∃ k : Nat, k ≤ n ∧ i = .int .i64 k ∧ Hid (Below w.heap.size w wr)) (fun i _ => n - (intOf i).toNat)
  case atStart => exact ⟨0, Nat.zero_le _, rfl, Below.refl _ _⟩
  case round =>
    obtain ⟨k, hk, rfl, hR⟩ := hrel
    by_cases hlt : k < n
    · obtain ⟨g, o, rfl, _, hg, hc, rk, _⟩ := (H.out.later hR.out).at hlt
      obtain ⟨g', o', rfl, _, hg', hc', rk', _⟩ := (H'.out.later hR.out).at hlt
      obtain ⟨a1, d1, e1⟩ := rk.form
      obtain ⟨a1', d1', e1'⟩ := rk'.form
      rw [e1] at hc rk
      rw [e1'] at hc' rk'
      have hN : Hid ((T k).m ≤ 1048576) := HN.out k hlt
      obtain ⟨t0, ht⟩ : ∃ t, T k = t := ⟨_, rfl⟩
      rw [ht] at hc hc' rk rk' hN
      have SK : Hid (Row wr Ba 3 t0.m t0.L (.slice a1 t0.m d1) ∧ Row wr Bb 3 t0.m t0.L (.slice a1' t0.m d1')) := ⟨rk, rk'⟩
      have TT : Hid (Two6 w g o g' o' k t0 (.slice a1 t0.m d1) (.slice a1' t0.m d1') wr) := ⟨hR.out, hc, hc', hg, hg'⟩
      obtain ⟨s', c', u', st', a', m', L'⟩ := t0
      clear ht rk rk' hc hc' hg hg' e1 e1'
      go_wp2_with fail
      refine wp_region_held_drew (S := Two6 w g o g' o' k ⟨s', c', u', st', a', m', L'⟩ (.slice a1 m' d1) (.slice a1' m' d1')) (by kernel_rfl) (TT.out.later (Below.drew (Below.refl _ _))) (fun hS => ?_)
      refine tkH 0 ?_ hS (fun wx hx => ?_) ?_; rotate_left
      · obtain ⟨_, ⟨hx0, hx1, hx2, hx3, hx4, hx5⟩, ⟨hy0, hy1, hy2, hy3, hy4, hy5⟩, _⟩ := hx; go_simp; try with_reducible rfl
      refine tkH 1 ?_ hS (fun wx hx => ?_) ?_; rotate_left
      · obtain ⟨_, ⟨hx0, hx1, hx2, hx3, hx4, hx5⟩, ⟨hy0, hy1, hy2, hy3, hy4, hy5⟩, _⟩ := hx; go_simp; try with_reducible rfl
      refine tkH 2 ?_ hS (fun wx hx => ?_) ?_; rotate_left
      · obtain ⟨_, ⟨hx0, hx1, hx2, hx3, hx4, hx5⟩, ⟨hy0, hy1, hy2, hy3, hy4, hy5⟩, _⟩ := hx; go_simp; try with_reducible rfl
      refine tkH 3 ?_ hS (fun wx hx => ?_) ?_; rotate_left
      · obtain ⟨_, ⟨hx0, hx1, hx2, hx3, hx4, hx5⟩, ⟨hy0, hy1, hy2, hy3, hy4, hy5⟩, _⟩ := hx; go_simp; try with_reducible rfl
      refine tkH 4 ?_ hS (fun wx hx => ?_) ?_; rotate_left
      · obtain ⟨_, ⟨hx0, hx1, hx2, hx3, hx4, hx5⟩, ⟨hy0, hy1, hy2, hy3, hy4, hy5⟩, _⟩ := hx; go_simp; try with_reducible rfl
      refine tkH 5 ?_ hS (fun wx hx => ?_) ?_; rotate_left
      · obtain ⟨_, ⟨hx0, hx1, hx2, hx3, hx4, hx5⟩, ⟨hy0, hy1, hy2, hy3, hy4, hy5⟩, _⟩ := hx; go_simp; try with_reducible rfl
      refine tkH 6 ?_ hS (fun wx hx => ?_) ?_; rotate_left
      · obtain ⟨_, ⟨hx0, hx1, hx2, hx3, hx4, hx5⟩, ⟨hy0, hy1, hy2, hy3, hy4, hy5⟩, _⟩ := hx; go_simp; try with_reducible rfl
      refine tkH 7 ?_ hS (fun wx hx => ?_) ?_; rotate_left
      · obtain ⟨_, ⟨hx0, hx1, hx2, hx3, hx4, hx5⟩, ⟨hy0, hy1, hy2, hy3, hy4, hy5⟩, _⟩ := hx; go_simp; try with_reducible rfl
      refine rdH 8 (fun K hK => ?_)
      go_simp
      go_wp2_with fail
      refine (eqTxn_same s' c' u' st' a' m' L' _ _ Ba Bb _ (SK.out.1.later (below_dr (Below.refl _ _) 1)) (SK.out.2.later (below_dr (Below.refl _ _) 1)) hN.out).mono ?_
      rintro e w1 ⟨rfl, q1⟩
      have hS' := hS.later q1
      clear q1
      go_wp2_with fail
      refine hK.out _ _ hS' (fun hS => ?_)
      clear hK K hS' TT
      refine tkH 9 ?_ hS (fun wx hx => ?_) ?_; rotate_left
      · obtain ⟨_, ⟨hx0, hx1, hx2, hx3, hx4, hx5⟩, ⟨hy0, hy1, hy2, hy3, hy4, hy5⟩, _⟩ := hx; go_simp; try with_reducible rfl
      refine wpAnyH_done (by kernel_rfl) ?_ _
      have HB : Hid (Below w.heap.size w w1) := hS.1
      clear hS hR SK
      go_simp
      go_wp2
      go_roundw
      case rel => exact ⟨k + 1, by omega, by go_num, HB⟩
      case measure => simp [intOf]; omega
    · obtain rfl : k = n := by omega
      go_wp2
      go_ret
      exact ⟨rfl, hR.out⟩
end Go.Proofs.YtglcedhkbbckiaaGreat

namespace Go.Proofs.YtglcedhkbbckiaaGreat
open Go.RowKit

theorem toOracle_any (a b : Int) (w : World) :
    Calls Tryz.prog 33 #[.agg #[.int .i64 a, .int .i64 b]] w fun e w' => e = .returned (.agg #[.int .i64 a, .int .i64 b]) ∧ Below w.heap.size w w' := by
  go_enter Tryz.func33, Tryz.ntmps33
  go_wp2
  exact bodyPost_ret (v := .agg #[.int .i64 a, .int .i64 b]) (by simp [results, Tryz.results33, go_sem]) rfl ⟨rfl, by repeat (first | exact Below.refl _ _ | refine Below.setCell ?_ (by first | omega | (simp <;> omega)) _ | refine Below.alloc ?_ (by first | omega | (simp <;> omega)) _)⟩
theorem eqOracle_same (a b : Int) (w : World) :
    Calls Tryz.prog 38 #[.agg #[.int .i64 a, .int .i64 b], .agg #[.int .i64 a, .int .i64 b]] w fun e w' => e = .returned (.bool true) ∧ w' = (w.alloc (.cells #[.int .i64 a, .int .i64 b] 35)).alloc (.cells #[.int .i64 a, .int .i64 b] 35) := by
  go_enter Tryz.func38, Tryz.ntmps38
  go_wp2
  go_ret
  exact ⟨rfl, rfl⟩
end Go.Proofs.YtglcedhkbbckiaaGreat

namespace Go.Proofs.YtglcedhkbbckiaaGreat
open Go.RowKit

theorem setCell_otherE {x : World} {b i j : Nat} {u v : Value} (hn : i ≠ j) (h : x.cell? ⟨b, i, none⟩ = some u) : (x.setCell ⟨b, j, none⟩ v).cell? ⟨b, i, none⟩ = some u := (World.cell?_setCell_other _ _ _ _ (fun e => hn (congrArg Addr.off e).symm)).trans h
theorem Blk6.put0 {x : World} {b : Nat} {a0 a1 a2 a3 a4 a5 : Value} (h : Blk6 x b a0 a1 a2 a3 a4 a5) (c0 : Value) : Blk6 (x.setCell ⟨b, 0, none⟩ c0) b c0 a1 a2 a3 a4 a5 := by
  obtain ⟨⟨h0, h1, h2, h3, h4, h5⟩, f0, f1, f2, f3, f4, f5⟩ := h
  refine ⟨⟨?_, ?_, ?_, ?_, ?_, ?_⟩, by simpa using f0, by simpa using f1, by simpa using f2, by simpa using f3, by simpa using f4, by simpa using f5⟩
  · exact World.cell?_setCell_same _ _ _ h0
  · exact setCell_otherE (by decide) h1
  · exact setCell_otherE (by decide) h2
  · exact setCell_otherE (by decide) h3
  · exact setCell_otherE (by decide) h4
  · exact setCell_otherE (by decide) h5
theorem Blk6.put12 {x : World} {b : Nat} {a0 a1 a2 a3 a4 a5 : Value} (h : Blk6 x b a0 a1 a2 a3 a4 a5) (c1 c2 : Value) : Blk6 ((x.setCell ⟨b, 1, none⟩ c1).setCell ⟨b, 2, none⟩ c2) b a0 c1 c2 a3 a4 a5 := by
  obtain ⟨⟨h0, h1, h2, h3, h4, h5⟩, f0, f1, f2, f3, f4, f5⟩ := h
  refine ⟨⟨?_, ?_, ?_, ?_, ?_, ?_⟩, by simpa using f0, by simpa using f1, by simpa using f2, by simpa using f3, by simpa using f4, by simpa using f5⟩
  · exact setCell_otherE (by decide) (setCell_otherE (by decide) h0)
  · exact setCell_otherE (by decide) (World.cell?_setCell_same _ _ _ h1)
  · exact World.cell?_setCell_same _ _ _ (setCell_otherE (by decide) h2)
  · exact setCell_otherE (by decide) (setCell_otherE (by decide) h3)
  · exact setCell_otherE (by decide) (setCell_otherE (by decide) h4)
  · exact setCell_otherE (by decide) (setCell_otherE (by decide) h5)
theorem Blk6.put34 {x : World} {b : Nat} {a0 a1 a2 a3 a4 a5 : Value} (h : Blk6 x b a0 a1 a2 a3 a4 a5) (c3 c4 : Value) : Blk6 ((x.setCell ⟨b, 3, none⟩ c3).setCell ⟨b, 4, none⟩ c4) b a0 a1 a2 c3 c4 a5 := by
  obtain ⟨⟨h0, h1, h2, h3, h4, h5⟩, f0, f1, f2, f3, f4, f5⟩ := h
  refine ⟨⟨?_, ?_, ?_, ?_, ?_, ?_⟩, by simpa using f0, by simpa using f1, by simpa using f2, by simpa using f3, by simpa using f4, by simpa using f5⟩
  · exact setCell_otherE (by decide) (setCell_otherE (by decide) h0)
  · exact setCell_otherE (by decide) (setCell_otherE (by decide) h1)
  · exact setCell_otherE (by decide) (setCell_otherE (by decide) h2)
  · exact setCell_otherE (by decide) (World.cell?_setCell_same _ _ _ h3)
  · exact World.cell?_setCell_same _ _ _ (setCell_otherE (by decide) h4)
  · exact setCell_otherE (by decide) (setCell_otherE (by decide) h5)
theorem Blk6.putAll {x : World} {b : Nat} {a0 a1 a2 a3 a4 a5 : Value} (h : Blk6 x b a0 a1 a2 a3 a4 a5) (c0 c1 c2 c3 c4 c5 : Value) : Blk6 ((((((x.setCell ⟨b, 0, none⟩ c0).setCell ⟨b, 1, none⟩ c1).setCell ⟨b, 2, none⟩ c2).setCell ⟨b, 3, none⟩ c3).setCell ⟨b, 4, none⟩ c4).setCell ⟨b, 5, none⟩ c5) b c0 c1 c2 c3 c4 c5 := by
  obtain ⟨⟨h0, h1, h2, h3, h4, h5⟩, f0, f1, f2, f3, f4, f5⟩ := h
  refine ⟨⟨?_, ?_, ?_, ?_, ?_, ?_⟩, by simpa using f0, by simpa using f1, by simpa using f2, by simpa using f3, by simpa using f4, by simpa using f5⟩
  · exact setCell_otherE (by decide) (setCell_otherE (by decide) (setCell_otherE (by decide) (setCell_otherE (by decide) (setCell_otherE (by decide) (World.cell?_setCell_same _ _ _ h0)))))
  · exact setCell_otherE (by decide) (setCell_otherE (by decide) (setCell_otherE (by decide) (setCell_otherE (by decide) (World.cell?_setCell_same _ _ _ (setCell_otherE (by decide) h1)))))
  · exact setCell_otherE (by decide) (setCell_otherE (by decide) (setCell_otherE (by decide) (World.cell?_setCell_same _ _ _ (setCell_otherE (by decide) (setCell_otherE (by decide) h2)))))
  · exact setCell_otherE (by decide) (setCell_otherE (by decide) (World.cell?_setCell_same _ _ _ (setCell_otherE (by decide) (setCell_otherE (by decide) (setCell_otherE (by decide) h3)))))
  · exact setCell_otherE (by decide) (World.cell?_setCell_same _ _ _ (setCell_otherE (by decide) (setCell_otherE (by decide) (setCell_otherE (by decide) (setCell_otherE (by decide) h4)))))
  · exact World.cell?_setCell_same _ _ _ (setCell_otherE (by decide) (setCell_otherE (by decide) (setCell_otherE (by decide) (setCell_otherE (by decide) (setCell_otherE (by decide) h5)))))

theorem Blk6.farE {x : World} {b : Nat} {a0 a1 a2 a3 a4 a5 : Value} (h : Blk6 x b a0 a1 a2 a3 a4 a5) {p : Addr} (hp : b ≠ p.block) (u : Value) : Blk6 (x.setCell p u) b a0 a1 a2 a3 a4 a5 := h.kept (Below.heap_setCell x p u b hp)
set_option maxRecDepth 100000 in
set_option maxHeartbeats 4000000 in
theorem eqWorldT_same (nw nx bd : Int) (nr : Nat) (F : Nat → Int) (n : Nat) (S : Nat → Sto) (V U : Nat → Nat → Value) (ra : Option Addr) (rc : Nat) (sa : Option Addr) (sc : Nat) (qa : Option Addr) (qc : Nat) (pa : Option Addr) (pc : Nat) (nt : Nat) (T : Nat → Tx) (X Y : Nat → Value) (ta : Option Addr) (tc : Nat) (ya : Option Addr) (yc : Nat) (B B' : Nat) (w : World) (h : Grs w B nr F n S V (.slice ra nr rc) (.slice sa n sc)) (h' : Grs w B' nr F n S U (.slice qa nr qc) (.slice pa n pc)) (ht : Txs w B nt T X (.slice ta nt tc)) (ht' : Txs w B' nt T Y (.slice ya nt yc)) (hs : nr ≤ 1048576 ∧ n ≤ 1048576 ∧ ∀ i, i < n → SmallS (S i)) (hx : nt ≤ 1048576 ∧ ∀ i, i < nt → (T i).m ≤ 1048576) :
    Calls Tryz.prog 13 #[.agg #[.int .i64 nw, .int .i64 nx, .int .i64 bd, .slice ra nr rc, .slice sa n sc, .slice ta nt tc], .agg #[.int .i64 nw, .int .i64 nx, .int .i64 bd, .slice qa nr qc, .slice pa n pc, .slice ya nt yc]] w fun e w' => e = .returned (.bool true) ∧ Below w.heap.size w w' := by
  have H : Hid (Grs w B nr F n S V (.slice ra nr rc) (.slice sa n sc) ∧ Grs w B' nr F n S U (.slice qa nr qc) (.slice pa n pc)) := ⟨h, h'⟩
  have HX : Hid (Txs w B nt T X (.slice ta nt tc) ∧ Txs w B' nt T Y (.slice ya nt yc)) := ⟨ht, ht'⟩
  have HN : Hid ((nr ≤ 1048576 ∧ n ≤ 1048576 ∧ ∀ i, i < n → SmallS (S i)) ∧ (nt ≤ 1048576 ∧ ∀ i, i < nt → (T i).m ≤ 1048576)) := ⟨hs, hx⟩
  clear h h' hs ht ht' hx
  go_enter Tryz.func13, Tryz.ntmps13
  go_wp2_with fail
  refine (eqOracle_same nx bd _).mono ?_
  rintro e w1 ⟨rfl, hw1⟩
  have q1 : Below w.heap.size w w1 := by
    rw [hw1]
    exact ((((Below.refl w.heap.size w).alloc (Nat.le_refl _) _).alloc (by simp) _).alloc (by simp; omega) _).alloc (by simp; omega) _
  have B0 : Hid (Blk6 w1 w.heap.size (.int .i64 nw) (.int .i64 nx) (.int .i64 bd) (.slice ra nr rc) (.slice sa n sc) (.slice ta nt tc) ∧ Blk6 w1 (w.heap.size + 1) (.int .i64 nw) (.int .i64 nx) (.int .i64 bd) (.slice qa nr qc) (.slice pa n pc) (.slice ya nt yc)) := by
    have k := Blk6.new w (.int .i64 nw) (.int .i64 nx) (.int .i64 bd) (.slice ra nr rc) (.slice sa n sc) (.slice ta nt tc) 42
    have k' := Blk6.new (w.alloc (.cells #[.int .i64 nw, .int .i64 nx, .int .i64 bd, .slice ra nr rc, .slice sa n sc, .slice ta nt tc] 42)) (.int .i64 nw) (.int .i64 nx) (.int .i64 bd) (.slice qa nr qc) (.slice pa n pc) (.slice ya nt yc) 42
    rw [World.size_alloc] at k'
    rw [hw1]
    exact ⟨((k.later (below_alloc _ _)).later (below_alloc _ _)).later (below_alloc _ _), (k'.later (below_alloc _ _)).later (below_alloc _ _)⟩
  have Q1 : Hid (Below w.heap.size w w1) := q1
  clear hw1 q1
  obtain ⟨⟨⟨s0, s1, s2, s3, s4, s5⟩, _⟩, ⟨t0, t1, t2, t3, t4, t5⟩, _⟩ := B0.out
  go_wp2_with fail
  refine (eqGroups_same nr F n S V U _ _ _ _ B B' _ (H.out.1.later Q1.out) (H.out.2.later Q1.out) HN.out.1.1 HN.out.1.2.1 HN.out.1.2.2).mono ?_
  rintro e w2 ⟨rfl, q2⟩
  have Q : Hid (Below w.heap.size w w2) := Q1.out.trans (q2.mono Q1.out.size)
  have B2 : Hid (Blk6 w2 w.heap.size (.int .i64 nw) (.int .i64 nx) (.int .i64 bd) (.slice ra nr rc) (.slice sa n sc) (.slice ta nt tc) ∧ Blk6 w2 (w.heap.size + 1) (.int .i64 nw) (.int .i64 nx) (.int .i64 bd) (.slice qa nr qc) (.slice pa n pc) (.slice ya nt yc)) := ⟨B0.out.1.later q2, B0.out.2.later q2⟩
  clear s0 s1 s2 s3 s4 s5 t0 t1 t2 t3 t4 t5 q2 Q1 B0
  obtain ⟨⟨⟨s0, s1, s2, s3, s4, s5⟩, _⟩, ⟨t0, t1, t2, t3, t4, t5⟩, _⟩ := B2.out
  go_wp2_with fail
  refine (eqTxnS_same nt T X Y _ _ B B' _ (HX.out.1.later Q.out) (HX.out.2.later Q.out) HN.out.2.1 HN.out.2.2).mono ?_
  rintro e w3 ⟨rfl, q3⟩
  have Q3 : Hid (Below w.heap.size w w3) := Q.out.trans (q3.mono Q.out.size)
  clear q3 Q s0 s1 s2 s3 s4 s5 t0 t1 t2 t3 t4 t5 B2
  go_wp2
  go_ret
  exact ⟨rfl, Q3.out⟩
/-- A world that a call has laid: groups and transactions, each in blocks of its own. -/
def NewWd (w : World) (nw nx bd : Int) (nr : Nat) (F : Nat → Int) (n : Nat) (S : Nat → Sto) (nt : Nat) (T : Nat → Tx) (e : Ending) (w' : World) : Prop :=
  ∃ ra rc g U z gt Y zt, e = .returned (.agg #[.int .i64 nw, .int .i64 nx, .int .i64 bd, .slice ra nr rc, .slice (some ⟨g, 0, none⟩) n n, .slice (some ⟨gt, 0, none⟩) nt nt]) ∧ FineG w' w.heap.size nr F n S ra rc g U z ∧ (z n ≤ gt ∧ gt < w'.heap.size ∧ FillT w' gt nt nt T Y ∧ FineT w' zt nt T Y ∧ zt 0 = gt + 1 ∧ (∀ i, i ≤ nt → gt < zt i) ∧ zt nt ≤ w'.heap.size) ∧ Below w.heap.size w w'
end Go.Proofs.YtglcedhkbbckiaaGreat

namespace Go.Proofs.YtglcedhkbbckiaaGreat
open Go.RowKit

/-- The three blocks of toWorld: the box, the answer, what is laid. -/
def ToW (w : World) (v0 v1 v2 v3 v4 v5 u0 u1 u2 u3 u4 u5 : Value) (x : World) : Prop :=
  Below w.heap.size w x ∧ Blk6 x w.heap.size v0 v1 v2 v3 v4 v5 ∧ Blk6 x (w.heap.size + 1) (.int .i64 0) (.int .i64 0) (.int .i64 0) (.slice none 0 0) (.slice none 0 0) (.slice none 0 0) ∧ Blk6 x (w.heap.size + 2) u0 u1 u2 u3 u4 u5
theorem ToW.later {w : World} {v0 v1 v2 v3 v4 v5 u0 u1 u2 u3 u4 u5 : Value} {x x' : World} (h : ToW w v0 v1 v2 v3 v4 v5 u0 u1 u2 u3 u4 u5 x) (hb : Below x.heap.size x x') : ToW w v0 v1 v2 v3 v4 v5 u0 u1 u2 u3 u4 u5 x' :=
  ⟨h.1.trans (hb.mono h.1.size), h.2.1.later hb, h.2.2.1.later hb, h.2.2.2.later hb⟩
theorem hid_mkE {p : Prop} (h : p) : Hid p := h
theorem size_set (x : World) (a : Addr) (u : Value) : (x.setCell a u).heap.size = x.heap.size := by simp [World.setCell]
theorem FineG.farE {w : World} {lo nr : Nat} {F : Nat → Int} {n : Nat} {S : Nat → Sto} {ra : Option Addr} {rc g : Nat} {U : Nat → Nat → Value} {z : Nat → Nat} (h : FineG w lo nr F n S ra rc g U z) {b j : Nat} (hb : b < lo) (u : Value) : FineG (w.setCell ⟨b, j, none⟩ u) lo nr F n S ra rc g U z := by
  obtain ⟨⟨h1, h2, h3⟩, h4, h5, h6, h7, h8, h9⟩ := h
  exact ⟨⟨h1.far (Or.inl (by show b < lo; exact hb)) _, h2.far _ _, h3⟩, h4, h5.far (by show g ≠ b; omega) _, h6.far (fun i hi => by show b < z i; have := h8 i (by omega); omega) _, h7, h8, by rw [size_set]; exact h9⟩
theorem FineG.monoE {w : World} {lo lo' nr : Nat} {F : Nat → Int} {n : Nat} {S : Nat → Sto} {ra : Option Addr} {rc g : Nat} {U : Nat → Nat → Value} {z : Nat → Nat} (h : FineG w lo nr F n S ra rc g U z) (hl : lo' ≤ lo) : FineG w lo' nr F n S ra rc g U z :=
  ⟨⟨h.1.1.mono hl, h.1.2⟩, Nat.le_trans hl h.2.1, h.2.2⟩
theorem FillT.farE {w : World} {g n k : Nat} {T : Nat → Tx} {U : Nat → Value} (h : FillT w g n k T U) {b j : Nat} (hb : g ≠ b) (u : Value) : FillT (w.setCell ⟨b, j, none⟩ u) g n k T U := by
  have hk : ∀ p, (w.setCell ⟨b, j, none⟩ u).cell? ⟨g, p, none⟩ = w.cell? ⟨g, p, none⟩ := fun p => World.cell?_of_block (w := w) (a := ⟨g, p, none⟩) (Below.heap_setCell w ⟨b, j, none⟩ u g hb)
  refine ⟨by rw [size_set]; exact h.1, fun p hp => ⟨⟨?_, by simp only [World.frozen?_setCell]; exact (h.2 p hp).1.2⟩, fun d => (hk p).trans ((h.2 p hp).2 d)⟩⟩
  obtain ⟨v, hv⟩ := (h.2 p hp).1.1
  exact ⟨v, (hk p).trans hv⟩
set_option maxRecDepth 100000 in
set_option maxHeartbeats 4000000 in
theorem toWorld_any (nw nx bd : Int) (nr : Nat) (F : Nat → Int) (n : Nat) (S : Nat → Sto) (V : Nat → Nat → Value) (vr vs : Value) (nt : Nat) (T : Nat → Tx) (X : Nat → Value) (vt : Value) (B : Nat) (w : World) (h : Grs w B nr F n S V vr vs) (ht : Txs w B nt T X vt) (hs : nr ≤ 1048576 ∧ n ≤ 1048576 ∧ ∀ i, i < n → SmallS (S i)) (hx : nt ≤ 1048576 ∧ ∀ i, i < nt → (T i).m ≤ 1048576) :
    Calls Tryz.prog 10 #[.agg #[.int .i64 nw, .int .i64 nx, .int .i64 bd, vr, vs, vt]] w (NewWd w nw nx bd nr F n S nt T) := by
  obtain ⟨a0, c0, a1, c1, rfl, rfl⟩ := h.form
  obtain ⟨at', ct, rfl⟩ := ht.form
  have H : Hid (Grs w B nr F n S V (.slice a0 nr c0) (.slice a1 n c1) ∧ Txs w B nt T X (.slice at' nt ct)) := ⟨h, ht⟩
  have HN : Hid ((nr ≤ 1048576 ∧ n ≤ 1048576 ∧ ∀ i, i < n → SmallS (S i)) ∧ nt ≤ 1048576 ∧ ∀ i, i < nt → (T i).m ≤ 1048576) := ⟨hs, hx⟩
  have W0 : Hid (ToW w (.int .i64 nw) (.int .i64 nx) (.int .i64 bd) (.slice a0 nr c0) (.slice a1 n c1) (.slice at' nt ct) (.int .i64 nw) (.int .i64 0) (.int .i64 0) (.slice none 0 0) (.slice none 0 0) (.slice none 0 0) (((w.alloc (.cells #[.int .i64 nw, .int .i64 nx, .int .i64 bd, .slice a0 nr c0, .slice a1 n c1, .slice at' nt ct] 30)).alloc (.cells #[.int .i64 0, .int .i64 0, .int .i64 0, .slice none 0 0, .slice none 0 0, .slice none 0 0] 42)).alloc (.cells #[.int .i64 nw, .int .i64 0, .int .i64 0, .slice none 0 0, .slice none 0 0, .slice none 0 0] 42))) := by
    have k1 := Blk6.new (w.alloc (.cells #[.int .i64 nw, .int .i64 nx, .int .i64 bd, .slice a0 nr c0, .slice a1 n c1, .slice at' nt ct] 30)) (.int .i64 0) (.int .i64 0) (.int .i64 0) (.slice none 0 0) (.slice none 0 0) (.slice none 0 0) 42
    have k2 := Blk6.new ((w.alloc (.cells #[.int .i64 nw, .int .i64 nx, .int .i64 bd, .slice a0 nr c0, .slice a1 n c1, .slice at' nt ct] 30)).alloc (.cells #[.int .i64 0, .int .i64 0, .int .i64 0, .slice none 0 0, .slice none 0 0, .slice none 0 0] 42)) (.int .i64 nw) (.int .i64 0) (.int .i64 0) (.slice none 0 0) (.slice none 0 0) (.slice none 0 0) 42
    rw [World.size_alloc] at k1
    rw [World.size_alloc, World.size_alloc] at k2
    exact ⟨((below_alloc _ _).alloc (by simp) _).alloc (by simp; omega) _, ((Blk6.new w _ _ _ _ _ _ _).alloc _).alloc _, k1.alloc _, k2⟩
  clear h ht hs hx
  go_enter Tryz.func10, Tryz.ntmps10
  go_wp2_with fail
  generalize ((w.alloc (.cells #[.int .i64 nw, .int .i64 nx, .int .i64 bd, .slice a0 nr c0, .slice a1 n c1, .slice at' nt ct] 30)).alloc (.cells #[.int .i64 0, .int .i64 0, .int .i64 0, .slice none 0 0, .slice none 0 0, .slice none 0 0] 42)).alloc (.cells #[.int .i64 nw, .int .i64 0, .int .i64 0, .slice none 0 0, .slice none 0 0, .slice none 0 0] 42) = x0 at W0 ⊢
  refine (toOracle_any nx bd _).mono ?_
  rintro e y1 ⟨rfl, q1⟩
  have W1 : Hid (ToW w (.int .i64 nw) (.int .i64 nx) (.int .i64 bd) (.slice a0 nr c0) (.slice a1 n c1) (.slice at' nt ct) (.int .i64 nw) (.int .i64 0) (.int .i64 0) (.slice none 0 0) (.slice none 0 0) (.slice none 0 0) y1) := W0.out.later q1
  have W1' : Hid (ToW w (.int .i64 nw) (.int .i64 nx) (.int .i64 bd) (.slice a0 nr c0) (.slice a1 n c1) (.slice at' nt ct) (.int .i64 nw) (.int .i64 nx) (.int .i64 bd) (.slice none 0 0) (.slice none 0 0) (.slice none 0 0) ((y1.setCell ⟨w.heap.size + 2, 1, none⟩ (.int .i64 nx)).setCell ⟨w.heap.size + 2, 2, none⟩ (.int .i64 bd))) := ⟨(W1.out.1.setCell (by show w.heap.size ≤ w.heap.size + 2; omega) _).setCell (by show w.heap.size ≤ w.heap.size + 2; omega) _, (W1.out.2.1.farE (by show w.heap.size ≠ w.heap.size + 2; omega) _).farE (by show w.heap.size ≠ w.heap.size + 2; omega) _, (W1.out.2.2.1.farE (by show w.heap.size + 1 ≠ w.heap.size + 2; omega) _).farE (by show w.heap.size + 1 ≠ w.heap.size + 2; omega) _, W1.out.2.2.2.put12 _ _⟩
  obtain ⟨_, ⟨⟨b0, b1, b2, b3, b4, b5⟩, _⟩, _, ⟨⟨o0, o1, o2, o3, o4, o5⟩, p0, p1, p2, p3, p4, p5⟩⟩ := W1.out
  clear q1 W0
  go_wp2_with fail
  clear b0 b1 b2 b3 b4 b5 o0 o1 o2 o3 o4 o5 p0 p1 p2 p3 p4 p5 W1
  generalize (y1.setCell ⟨w.heap.size + 2, 1, none⟩ (.int .i64 nx)).setCell ⟨w.heap.size + 2, 2, none⟩ (.int .i64 bd) = x1 at W1' ⊢
  refine (toGroups_any nr F n S V _ _ B _ (H.out.1.later W1'.out.1) HN.out.1.1 HN.out.1.2.1 HN.out.1.2.2).mono ?_
  rintro e y2 ⟨ra, rc, g, U, z, rfl, hg, q2⟩
  have W2 : Hid (ToW w (.int .i64 nw) (.int .i64 nx) (.int .i64 bd) (.slice a0 nr c0) (.slice a1 n c1) (.slice at' nt ct) (.int .i64 nw) (.int .i64 nx) (.int .i64 bd) (.slice none 0 0) (.slice none 0 0) (.slice none 0 0) y2) := W1'.out.later q2
  have lo : Hid (w.heap.size + 3 ≤ x1.heap.size) := W1'.out.2.2.2.lt
  have W2' : Hid (ToW w (.int .i64 nw) (.int .i64 nx) (.int .i64 bd) (.slice a0 nr c0) (.slice a1 n c1) (.slice at' nt ct) (.int .i64 nw) (.int .i64 nx) (.int .i64 bd) (.slice ra nr rc) (.slice (some ⟨g, 0, none⟩) n n) (.slice none 0 0) ((y2.setCell ⟨w.heap.size + 2, 3, none⟩ (.slice ra nr rc)).setCell ⟨w.heap.size + 2, 4, none⟩ (.slice (some ⟨g, 0, none⟩) n n))) := ⟨(W2.out.1.setCell (by show w.heap.size ≤ w.heap.size + 2; omega) _).setCell (by show w.heap.size ≤ w.heap.size + 2; omega) _, (W2.out.2.1.farE (by show w.heap.size ≠ w.heap.size + 2; omega) _).farE (by show w.heap.size ≠ w.heap.size + 2; omega) _, (W2.out.2.2.1.farE (by show w.heap.size + 1 ≠ w.heap.size + 2; omega) _).farE (by show w.heap.size + 1 ≠ w.heap.size + 2; omega) _, W2.out.2.2.2.put34 _ _⟩
  have G2 : Hid (FineG ((y2.setCell ⟨w.heap.size + 2, 3, none⟩ (.slice ra nr rc)).setCell ⟨w.heap.size + 2, 4, none⟩ (.slice (some ⟨g, 0, none⟩) n n)) x1.heap.size nr F n S ra rc g U z) := (hg.farE (by have := lo.out; omega) _).farE (by have := lo.out; omega) _
  obtain ⟨_, ⟨⟨b0, b1, b2, b3, b4, b5⟩, _⟩, _, ⟨⟨o0, o1, o2, o3, o4, o5⟩, p0, p1, p2, p3, p4, p5⟩⟩ := W2.out
  clear q2 hg W1'
  go_wp2_with fail
  clear b0 b1 b2 b3 b4 b5 o0 o1 o2 o3 o4 o5 p0 p1 p2 p3 p4 p5 W2
  generalize (y2.setCell ⟨w.heap.size + 2, 3, none⟩ (.slice ra nr rc)).setCell ⟨w.heap.size + 2, 4, none⟩ (.slice (some ⟨g, 0, none⟩) n n) = x2 at W2' G2 ⊢
  refine (toTxnS_any nt T X _ B _ (H.out.2.later W2'.out.1) HN.out.2.1 HN.out.2.2).mono ?_
  rintro e y3 ⟨gt, Y, zt, rfl, hgt, FT, ⟨fine, ft0, ft1, ft2⟩, q3⟩
  have W3 : Hid (ToW w (.int .i64 nw) (.int .i64 nx) (.int .i64 bd) (.slice a0 nr c0) (.slice a1 n c1) (.slice at' nt ct) (.int .i64 nw) (.int .i64 nx) (.int .i64 bd) (.slice ra nr rc) (.slice (some ⟨g, 0, none⟩) n n) (.slice none 0 0) y3) := W2'.out.later q3
  have G3 : Hid (FineG y3 x1.heap.size nr F n S ra rc g U z ∧ z n ≤ gt) := ⟨G2.out.later q3, Nat.le_trans G2.out.2.2.2.2.2.2 hgt.1⟩
  have TT : Hid ((gt < y3.heap.size ∧ FillT y3 gt nt nt T Y ∧ FineT y3 zt nt T Y ∧ zt 0 = gt + 1 ∧ (∀ i, i ≤ nt → gt < zt i) ∧ zt nt ≤ y3.heap.size) ∧ x1.heap.size ≤ gt) := ⟨⟨hgt.2, FT, fine, ft0, ft1, ft2⟩, by have := G2.out.2.1; have := G2.out.2.2.2.2.2.1 n (Nat.le_refl _); have := G3.out.2; omega⟩
  have KL := hid_mkE ((W3.out.2.2.1.farE (p := ⟨w.heap.size + 2, 5, none⟩) (by show w.heap.size + 1 ≠ w.heap.size + 2; omega) (.slice (some ⟨gt, 0, none⟩) nt nt)).putAll (.int .i64 nw) (.int .i64 nx) (.int .i64 bd) (.slice ra nr rc) (.slice (some ⟨g, 0, none⟩) n n) (.slice (some ⟨gt, 0, none⟩) nt nt))
  obtain ⟨_, _, ⟨⟨d0, d1, d2, d3, d4, d5⟩, e0, e1, e2, e3, e4, e5⟩, ⟨⟨o0, o1, o2, o3, o4, o5⟩, p0, p1, p2, p3, p4, p5⟩⟩ := W3.out
  clear q3 FT fine ft0 ft1 ft2 hgt W2' G2
  go_wp2
  obtain ⟨⟨k0, k1, k2, k3, k4, k5⟩, _⟩ := KL.out
  have hlo := lo.out
  have htl := TT.out.2
  refine bodyPost_ret (v := .agg #[.int .i64 nw, .int .i64 nx, .int .i64 bd, .slice ra nr rc, .slice (some ⟨g, 0, none⟩) n n, .slice (some ⟨gt, 0, none⟩) nt nt]) (by simp [results, Tryz.results10, go_sem, k0, k1, k2, k3, k4, k5]) rfl ⟨ra, rc, g, U, z, gt, Y, zt, rfl, ?_, ?_, ?_⟩
  · have s : ∀ {y : World} (b j : Nat) (u : Value), b < x1.heap.size → FineG y x1.heap.size nr F n S ra rc g U z → FineG (y.setCell ⟨b, j, none⟩ u) x1.heap.size nr F n S ra rc g U z := fun b j u hb q => q.farE hb u
    exact FineG.monoE (s _ _ _ (by omega) (s _ _ _ (by omega) (s _ _ _ (by omega) (s _ _ _ (by omega) (s _ _ _ (by omega) (s _ _ _ (by omega) (s _ _ _ (by omega) G3.out.1))))))) (by omega)
  · have s : ∀ {y : World} (b j : Nat) (u : Value), b < x1.heap.size → (gt < y.heap.size ∧ FillT y gt nt nt T Y ∧ FineT y zt nt T Y ∧ zt 0 = gt + 1 ∧ (∀ i, i ≤ nt → gt < zt i) ∧ zt nt ≤ y.heap.size) → (gt < (y.setCell ⟨b, j, none⟩ u).heap.size ∧ FillT (y.setCell ⟨b, j, none⟩ u) gt nt nt T Y ∧ FineT (y.setCell ⟨b, j, none⟩ u) zt nt T Y ∧ zt 0 = gt + 1 ∧ (∀ i, i ≤ nt → gt < zt i) ∧ zt nt ≤ (y.setCell ⟨b, j, none⟩ u).heap.size) := fun b j u hb q => ⟨by rw [size_set]; exact q.1, q.2.1.farE (by omega) _, q.2.2.1.far (fun i hi => by show b < zt i; have := q.2.2.2.2.1 i (by omega); omega) _, q.2.2.2.1, q.2.2.2.2.1, by rw [size_set]; exact q.2.2.2.2.2⟩
    exact ⟨G3.out.2, s _ _ _ (by omega) (s _ _ _ (by omega) (s _ _ _ (by omega) (s _ _ _ (by omega) (s _ _ _ (by omega) (s _ _ _ (by omega) (s _ _ _ (by omega) TT.out.1))))))⟩
  · have s : ∀ {y : World} (b j : Nat) (u : Value), w.heap.size ≤ b → Below w.heap.size w y → Below w.heap.size w (y.setCell ⟨b, j, none⟩ u) := fun b j u hb q => q.setCell (by show w.heap.size ≤ b; exact hb) u
    exact s _ _ _ (by omega) (s _ _ _ (by omega) (s _ _ _ (by omega) (s _ _ _ (by omega) (s _ _ _ (by omega) (s _ _ _ (by omega) (s _ _ _ (by omega) W3.out.1))))))
end Go.Proofs.YtglcedhkbbckiaaGreat

namespace Go.Proofs.YtglcedhkbbckiaaGreat
open Go.RowKit

set_option maxRecDepth 100000 in
set_option maxHeartbeats 4000000 in
theorem szStoreS_lim (n : Nat) (S : Nat → Sto) (V : Nat → Nat → Value) (v : Value) (B : Nat) (left : Int) (w : World) (h : Stos w B n S V v) (hn : n ≤ 9223372036854775807) (hs : ∀ i, i < n → BigS (S i)) (h0 : 0 ≤ left) (h2 : left ≤ 1048576) :
    Calls Tryz.prog 60 #[v, .int .i64 left] w fun e w' => ∃ r, e = .returned (.int .i64 r) ∧ (SzAns n S left r ∧ r ≤ left) ∧ Below w.heap.size w w' := by
  obtain ⟨ao, cp, rfl⟩ := h.form
  have H : Hid (Stos w B n S V (.slice ao n cp)) := h
  have HN : Hid (∀ i, i < n → BigS (S i)) := hs
  clear h hs
  by_cases hl : left < n
  · have d : decide (left - n < 0) = true := decide_eq_true (by omega)
    go_enter Tryz.func60, Tryz.ntmps60
    go_wp2
    go_ret
    exact ⟨-1, rfl, ⟨Or.inl rfl, by omega⟩, Below.refl _ _⟩
  have d : decide (left - n < 0) = false := decide_eq_false (by omega)
  go_enter Tryz.func60, Tryz.ntmps60
  go_wp2
  go_loopw [1, 5] (fun j i wr => ∃ (k : Nat) (L : Int), k ≤ n ∧ j = .int .i64 L ∧ i = .int .i64 k ∧ Hid ((0 ≤ L ∧ L + (sumN (sizeT S) k : Nat) ≤ left) ∧ ∀ i, i < k → SmallS (S i)) ∧ Hid (Below w.heap.size w wr)) (fun _ i _ => n - (intOf i).toNat)
  case atStart => exact ⟨0, left - n, Nat.zero_le _, rfl, rfl, ⟨by simp only [sumN]; omega, fun i hi => absurd hi (Nat.not_lt_zero i)⟩, Below.refl _ _⟩
  case round =>
    obtain ⟨k, L, hk, rfl, rfl, hL, hR⟩ := hrel
    by_cases hlt : k < n
    · obtain ⟨g, o, rfl, _, hg, ⟨c0, c1, c2⟩, sk⟩ := H.out.at hlt
      have b0 := hR.out.cell (p := ⟨g, o + k * 3, none⟩) hg
      rw [c0] at b0
      have b1 := hR.out.cell (p := ⟨g, o + k * 3 + 1, none⟩) hg
      rw [c1] at b1
      have b2 := hR.out.cell (p := ⟨g, o + k * 3 + 2, none⟩) hg
      rw [c2] at b2
      clear c0 c1 c2
      obtain ⟨a0, d0, a1, d1, a2, d2, e0, e1, e2⟩ := sk.form
      rw [e0] at b0
      rw [e1] at b1
      rw [e2] at b2
      clear sk e0 e1 e2
      obtain ⟨n0, hn0⟩ : ∃ x, (S k).nc = x := ⟨_, rfl⟩
      obtain ⟨n1, hn1⟩ : ∃ x, (S k).nl = x := ⟨_, rfl⟩
      obtain ⟨n2, hn2⟩ : ∃ x, (S k).nw = x := ⟨_, rfl⟩
      rw [hn0] at b0
      rw [hn1] at b1
      rw [hn2] at b2
      have hB : Hid (n0 ≤ 9223372036854775807 ∧ n1 ≤ 9223372036854775807 ∧ n2 ≤ 9223372036854775807) := by
        have := HN.out k hlt
        unfold BigS at this
        rw [hn0, hn1, hn2] at this
        exact this
      have hE : Hid ((S k).nc = n0 ∧ (S k).nl = n1 ∧ (S k).nw = n2) := ⟨hn0, hn1, hn2⟩
      clear hn0 hn1 hn2
      by_cases hfit : (n0 : Int) + n1 + n2 ≤ L
      · go_wp2_with fail
        refine (szStore_ok L _ _ _ _ _ _ _ _ _ _ hfit hL.out.1.1 (by have := hL.out.1; omega) hB.out.1 hB.out.2.1 hB.out.2.2).mono ?_
        rintro e w1 ⟨rfl, q1⟩
        have HB : Hid (Below w.heap.size w w1) := hR.out.trans (q1.mono hR.out.size)
        have dd : decide (L - n0 - n1 - n2 < 0) = false := decide_eq_false (by omega)
        clear q1 hR b0 b1 b2
        go_wp2
        go_roundw
        case rel =>
          have hst : sumN (sizeT S) (k + 1) = sumN (sizeT S) k + (n0 + n1 + n2) := by show sumN (sizeT S) k + ((S k).nc + (S k).nl + (S k).nw) = _; rw [hE.out.1, hE.out.2.1, hE.out.2.2]
          refine ⟨k + 1, L - n0 - n1 - n2, by omega, by go_num, by go_num, ⟨by have := hL.out.1; rw [hst]; omega, fun i hi => ?_⟩, HB⟩
          by_cases q : i = k
          · subst q
            have h1 := hL.out.1
            unfold SmallS
            rw [hE.out.1, hE.out.2.1, hE.out.2.2]
            omega
          · exact hL.out.2 i (by omega)
        case measure => simp [intOf]; omega
      · go_wp2_with fail
        refine (szStore_no L _ _ _ _ _ _ _ _ _ _ (by omega) hL.out.1.1 (by have := hL.out.1; omega) hB.out.1 hB.out.2.1 hB.out.2.2).mono ?_
        rintro e w1 ⟨rfl, q1⟩
        have HB : Hid (Below w.heap.size w w1) := hR.out.trans (q1.mono hR.out.size)
        clear q1 hR b0 b1 b2
        go_wp2
        go_ret
        exact ⟨-1, rfl, ⟨Or.inl rfl, by omega⟩, HB.out⟩
    · obtain rfl : k = n := by omega
      go_wp2
      go_ret
      exact ⟨L, rfl, ⟨Or.inr ⟨hL.out.1.1, by omega, by have := hL.out.1; omega, hL.out.2⟩, by have := hL.out.1; omega⟩, hR.out⟩

set_option maxHeartbeats 1000000 in
theorem szGroups_lim (nr : Nat) (F : Nat → Int) (n : Nat) (S : Nat → Sto) (V : Nat → Nat → Value) (vr vs : Value) (B : Nat) (w : World) (h : Grs w B nr F n S V vr vs) (hr : nr ≤ 9223372036854775807) (hn : n ≤ 9223372036854775807) (hs : ∀ i, i < n → BigS (S i)) :
    Calls Tryz.prog 29 #[.agg #[vr, vs], .int .i64 1048576] w fun e w' => ∃ r, e = .returned (.int .i64 r) ∧ (r = -1 ∨ (0 ≤ r ∧ nr ≤ 1048576 ∧ (n ≤ 1048576 ∧ sumN (sizeT S) n ≤ 1048576) ∧ ∀ i, i < n → SmallS (S i))) ∧ r ≤ 1048576 ∧ Below w.heap.size w w' := by
  obtain ⟨a0, c0, a1, c1, rfl, rfl⟩ := h.form
  have H : Hid (Grs w B nr F n S V (.slice a0 nr c0) (.slice a1 n c1)) := h
  have HN : Hid (∀ i, i < n → BigS (S i)) := hs
  clear h hs
  by_cases hl : (1048576 : Int) < nr
  · go_enter Tryz.func29, Tryz.ntmps29
    go_wp2_with fail
    refine (szRangeS_no _ _ _ 1048576 _ hl (by omega) (by omega) hr).mono ?_
    rintro e w1 ⟨rfl, rfl⟩
    go_wp2
    go_ret
    exact ⟨-1, rfl, Or.inl rfl, by omega, below_alloc _ _⟩
  go_enter Tryz.func29, Tryz.ntmps29
  go_wp2_with fail
  refine (szRangeS_ok _ _ _ 1048576 _ (by omega) (by omega)).mono ?_
  rintro e w1 ⟨rfl, hw1⟩
  have d : decide ((1048576 : Int) - nr < 0) = false := decide_eq_false (by omega)
  have k1 : Blk2 w1 w.heap.size (.slice a0 nr c0) (.slice a1 n c1) := by rw [hw1]; exact Blk2.new w _ _ _
  have B1 : Hid (Below w.heap.size w w1) := by rw [hw1]; exact below_alloc _ _
  clear hw1
  obtain ⟨⟨_, x1⟩, _⟩ := k1
  go_wp2_with fail
  refine (szStoreS_lim n S V _ B (1048576 - nr) _ (H.out.2.later B1.out) hn HN.out (by omega) (by omega)).mono ?_
  rintro e w2 ⟨r, rfl, ⟨hA, hle⟩, q2⟩
  have B2 : Hid (Below w.heap.size w w2) := B1.out.trans (q2.mono B1.out.size)
  clear q2 x1
  rcases hA with rfl | ⟨h1, h3, h2, h4⟩
  · go_wp2
    go_ret
    exact ⟨-1, rfl, Or.inl rfl, by omega, B2.out⟩
  · have dr : decide (r < 0) = false := decide_eq_false (by omega)
    have HA : Hid (∀ i, i < n → SmallS (S i)) := h4
    clear h4
    go_wp2
    go_ret
    exact ⟨r, rfl, Or.inr ⟨h1, by omega, ⟨h3, by omega⟩, HA.out⟩, by omega, B2.out⟩
set_option maxRecDepth 100000 in
set_option maxHeartbeats 2000000 in
theorem szWorld_any (nw nx bd : Int) (nr : Nat) (F : Nat → Int) (n : Nat) (S : Nat → Sto) (V : Nat → Nat → Value) (vr vs : Value) (nt : Nat) (T : Nat → Tx) (X : Nat → Value) (vt : Value) (B : Nat) (w : World) (h : Grs w B nr F n S V vr vs) (ht : Txs w B nt T X vt) (hr : nr ≤ 9223372036854775807) (hn : n ≤ 9223372036854775807) (hs : ∀ i, i < n → BigS (S i)) (hnt : nt ≤ 9223372036854775807) (hx : ∀ i, i < nt → (T i).m ≤ 9223372036854775807) :
    Calls Tryz.prog 8 #[.agg #[.int .i64 nw, .int .i64 nx, .int .i64 bd, vr, vs, vt], .int .i64 1048576] w fun e w' => ∃ r, e = .returned (.int .i64 r) ∧ (r = -1 ∨ (0 ≤ r ∧ (nr ≤ 1048576 ∧ n ≤ 1048576 ∧ sumN (sizeT S) n ≤ 1048576 ∧ ∀ i, i < n → SmallS (S i)) ∧ nt ≤ 1048576 ∧ sumN (sizeX T) nt ≤ 1048576 ∧ ∀ i, i < nt → (T i).m ≤ 1048576)) ∧ Below w.heap.size w w' := by
  obtain ⟨a0, c0, a1, c1, rfl, rfl⟩ := h.form
  obtain ⟨at', ct, rfl⟩ := ht.form
  have H : Hid (Grs w B nr F n S V (.slice a0 nr c0) (.slice a1 n c1) ∧ Txs w B nt T X (.slice at' nt ct)) := ⟨h, ht⟩
  have HN : Hid ((∀ i, i < n → BigS (S i)) ∧ ∀ i, i < nt → (T i).m ≤ 9223372036854775807) := ⟨hs, hx⟩
  have K0 : Hid (Blk6 (w.alloc (.cells #[.int .i64 nw, .int .i64 nx, .int .i64 bd, .slice a0 nr c0, .slice a1 n c1, .slice at' nt ct] 30)) w.heap.size (.int .i64 nw) (.int .i64 nx) (.int .i64 bd) (.slice a0 nr c0) (.slice a1 n c1) (.slice at' nt ct)) := Blk6.new w _ _ _ _ _ _ _
  clear h ht hs hx
  go_enter Tryz.func8, Tryz.ntmps8
  go_wp2_with fail
  refine (szGroups_lim nr F n S V _ _ B _ (H.out.1.later (below_alloc _ _)) hr hn HN.out.1).mono ?_
  rintro e w1 ⟨r, rfl, hA, hle, q1⟩
  have Q1 : Hid (Below w.heap.size w w1 ∧ Blk6 w1 w.heap.size (.int .i64 nw) (.int .i64 nx) (.int .i64 bd) (.slice a0 nr c0) (.slice a1 n c1) (.slice at' nt ct)) := ⟨(below_alloc _ _).trans (q1.mono (by simp)), K0.out.later q1⟩
  clear q1 K0
  rcases hA with rfl | ⟨h1, h2, h3, h4⟩
  · go_wp2
    go_ret
    exact ⟨-1, rfl, Or.inl rfl, Q1.out.1⟩
  have dr : decide (r < 0) = false := decide_eq_false (by omega)
  have HA : Hid ((nr ≤ 1048576 ∧ n ≤ 1048576 ∧ sumN (sizeT S) n ≤ 1048576 ∧ ∀ i, i < n → SmallS (S i))) := ⟨h2, h3.1, h3.2, h4⟩
  clear h2 h3 h4
  obtain ⟨⟨s0, s1, s2, s3, s4, s5⟩, _⟩ := Q1.out.2
  go_wp2_with fail
  refine (szTxnS_any nt T X _ B r _ (H.out.2.later Q1.out.1) hnt HN.out.2 h1 hle).mono ?_
  rintro e w2 ⟨r2, rfl, hB, q2⟩
  have Q2 : Hid (Below w.heap.size w w2) := Q1.out.1.trans (q2.mono Q1.out.1.size)
  clear q2 s0 s1 s2 s3 s4 s5 Q1
  rcases hB with rfl | ⟨g1, g2, g3, g4⟩
  · go_wp2
    go_ret
    exact ⟨-1, rfl, Or.inl rfl, Q2.out⟩
  have dr2 : decide (r2 < 0) = false := decide_eq_false (by omega)
  have HB : Hid (nt ≤ 1048576 ∧ sumN (sizeX T) nt ≤ 1048576 ∧ ∀ i, i < nt → (T i).m ≤ 1048576) := ⟨g2, by omega, g4⟩
  clear g2 g3 g4
  go_wp2
  go_ret
  exact ⟨r2, rfl, Or.inr ⟨g1, HA.out, HB.out⟩, Q2.out⟩
end Go.Proofs.YtglcedhkbbckiaaGreat

namespace Go.Proofs.YtglcedhkbbckiaaGreat
open Go.RowKit

set_option maxRecDepth 100000 in
set_option maxHeartbeats 8000000 in
theorem implWorldFault_any (nw nx bd : Int) (nr : Nat) (F : Nat → Int) (n : Nat) (S : Nat → Sto) (V : Nat → Nat → Value) (vr vs : Value) (nt : Nat) (T : Nat → Tx) (X : Nat → Value) (vt : Value) (B : Nat) (w : World) (h : Grs w B nr F n S V vr vs) (hx : Txs w B nt T X vt) (hr : nr ≤ 9223372036854775807) (hn : n ≤ 9223372036854775807) (ht : nt ≤ 9223372036854775807) :
    Calls Tryz.prog 36 #[.agg #[.int .i64 nw, .int .i64 nx, .int .i64 bd, vr, vs, vt]] w fun e w' => e = .returned (.int .i64 (worldF nw nx bd nr F n S nt T)) ∧ Below w.heap.size w w' := by
  obtain ⟨a0, c0, a1, c1, rfl, rfl⟩ := h.form
  obtain ⟨a2, c2, rfl⟩ := hx.form
  have H : Hid (LiesD (w.alloc (.cells #[.int .i64 nw, .int .i64 nx, .int .i64 bd, .slice a0 nr c0, .slice a1 n c1, .slice a2 nt c2] 42)) w.heap.size nw nx bd nr F n S V (.slice a0 nr c0) (.slice a1 n c1) nt T X (.slice a2 nt c2) ∧ Below w.heap.size w (w.alloc (.cells #[.int .i64 nw, .int .i64 nx, .int .i64 bd, .slice a0 nr c0, .slice a1 n c1, .slice a2 nt c2] 42))) := ⟨⟨Blk6.new w _ _ _ _ _ _ _, (h.mono (Nat.zero_le _)).alloc _, (hx.mono (Nat.zero_le _)).alloc _⟩, below_alloc _ _⟩
  clear h hx
  by_cases h0 : 0 ≤ nw ∧ nw ≤ 100000
  case neg =>
    have D0 : Hid (decide (0 ≤ nw ∧ nw ≤ 100000) = false) := decide_eq_false h0
    have E : Hid (worldF nw nx bd nr F n S nt T = 3) := worldF_now h0
    clear h0
    go_enter Tryz.func36, Tryz.ntmps36
    go_wp2_with fail
    refine (isNowW_is nw false D0.out _).mono ?_
    rintro e w1 ⟨rfl, hw1⟩
    obtain rfl := hw1.symm
    go_wp2
    go_ret
    exact ⟨by rw [E.out]; rfl, H.out.2⟩
  have D0 : Hid (decide (0 ≤ nw ∧ nw ≤ 100000) = true) := decide_eq_true h0
  have H0 : Hid (0 ≤ nw ∧ nw ≤ 100000) := h0
  clear h0
  obtain ⟨f1, hf1⟩ : ∃ f, oFault nx bd = f := ⟨_, rfl⟩
  have HF1 : Hid (oFault nx bd = f1) := hf1
  clear hf1
  go_enter Tryz.func36, Tryz.ntmps36
  go_wp2_with fail
  refine (isNowW_is nw true D0.out _).mono ?_
  rintro e w1 ⟨rfl, hw1⟩
  obtain rfl := hw1.symm
  go_wp2_with fail
  refine (implOracleFault_any nx bd _).mono ?_
  rw [HF1.out]
  rintro e w2 ⟨rfl, hw2⟩
  have H2 : Hid (LiesD w2 w.heap.size nw nx bd nr F n S V (.slice a0 nr c0) (.slice a1 n c1) nt T X (.slice a2 nt c2) ∧ Below w.heap.size w w2) := by
    rw [hw2]
    exact ⟨H.out.1.later (below_alloc _ _), H.out.2.alloc (by have := H.out.2.size; omega) _⟩
  clear hw2 H
  by_cases hz1 : f1 = 0
  case neg =>
    have d : (f1 != 0) = true := bne_iff_ne.2 hz1
    have E : Hid (worldF nw nx bd nr F n S nt T = f1) := (worldF_oracle H0.out (by rw [HF1.out]; exact hz1)).trans HF1.out
    clear hz1
    go_wp2
    go_ret
    exact ⟨by rw [E.out]; rfl, H2.out.2⟩
  subst hz1
  obtain ⟨f2, hf2⟩ : ∃ f, groupsF nr F n S = f := ⟨_, rfl⟩
  have HF2 : Hid (groupsF nr F n S = f2) := hf2
  clear hf2
  obtain ⟨⟨⟨p0, p1, p2, p3, p4, p5⟩, _⟩, _⟩ := H2.out.1
  go_wp2_with fail
  refine (implGroupsFault_any nr F n S V _ _ 0 _ H2.out.1.2.1 hr hn).mono ?_
  rw [HF2.out]
  rintro e w3 ⟨rfl, q3⟩
  have H3 : Hid (LiesD w3 w.heap.size nw nx bd nr F n S V (.slice a0 nr c0) (.slice a1 n c1) nt T X (.slice a2 nt c2) ∧ Below w.heap.size w w3) := ⟨H2.out.1.later q3, H2.out.2.trans (q3.mono H2.out.2.size)⟩
  clear q3 H2 p0 p1 p2 p3 p4 p5
  by_cases hz2 : f2 = 0
  case neg =>
    have d : (f2 != 0) = true := bne_iff_ne.2 hz2
    have E : Hid (worldF nw nx bd nr F n S nt T = f2) := (worldF_groups H0.out HF1.out (by rw [HF2.out]; exact hz2)).trans HF2.out
    clear hz2
    go_wp2
    go_ret
    exact ⟨by rw [E.out]; rfl, H3.out.2⟩
  subst hz2
  obtain ⟨⟨⟨p0, p1, p2, p3, p4, p5⟩, _⟩, _⟩ := H3.out.1
  by_cases h16 : 16 < nt
  · have d : decide ((nt : Int) > 16) = true := decide_eq_true (by omega)
    have E : Hid (worldF nw nx bd nr F n S nt T = 2) := worldF_many H0.out HF1.out HF2.out h16
    go_wp2
    go_ret
    exact ⟨by rw [E.out]; rfl, H3.out.2⟩
  have d : decide ((nt : Int) > 16) = false := decide_eq_false (by omega)
  have EW : Hid (worldF nw nx bd nr F n S nt T = scan (placeF nx T) nt) := worldF_txns H0.out HF1.out HF2.out h16
  have hn16 : nt ≤ 16 := by omega
  clear h16 HF1 HF2 H0 ht
  go_wp2
  clear p0 p1 p2 p3 p4 p5 d
  go_loopw [30] (fun i wr => ∃ k : Nat, k ≤ nt ∧ i = .int .i64 k ∧ Hid (scan (placeF nx T) k = 0) ∧ Hid (LiesD wr w.heap.size nw nx bd nr F n S V (.slice a0 nr c0) (.slice a1 n c1) nt T X (.slice a2 nt c2) ∧ Below w.heap.size w wr)) (fun i _ => nt - (intOf i).toNat)
  case atStart => exact ⟨0, Nat.zero_le _, rfl, rfl, H3⟩
  case round =>
    clear H3
    obtain ⟨k, hk, rfl, HS, HB⟩ := hrel
    by_cases hlt : k < nt
    case neg =>
      obtain rfl : k = nt := by omega
      have E : Hid (worldF nw nx bd nr F n S k T = 0) := EW.out.trans HS.out
      go_wp2
      go_ret
      exact ⟨by rw [E.out]; rfl, HB.out.2⟩
    obtain ⟨⟨⟨p0, p1, p2, p3, p4, p5⟩, _⟩, _⟩ := HB.out.1
    obtain ⟨f, hf⟩ : ∃ f, placeF nx T k = f := ⟨_, rfl⟩
    have HF : Hid (placeF nx T k = f) := hf
    clear hf
    go_wp2_with fail
    refine (implPlace_any nw nx bd _ _ nt T X _ k _ HB.out.1.2.2 hlt hn16).mono ?_
    rw [HF.out]
    rintro e w4 ⟨rfl, q4⟩
    have H4 : Hid (LiesD w4 w.heap.size nw nx bd nr F n S V (.slice a0 nr c0) (.slice a1 n c1) nt T X (.slice a2 nt c2) ∧ Below w.heap.size w w4) := ⟨HB.out.1.later q4, HB.out.2.trans (q4.mono HB.out.2.size)⟩
    clear q4 HB p0 p1 p2 p3 p4 p5
    by_cases hz : f = 0
    case neg =>
      have d' : (f != 0) = true := bne_iff_ne.2 hz
      have E : Hid (worldF nw nx bd nr F n S nt T = f) := EW.out.trans ((scan_stop HS.out (by rw [HF.out]; exact hz) hlt).trans HF.out)
      clear hz HF HS EW
      go_wp2
      go_ret
      exact ⟨by rw [E.out]; rfl, H4.out.2⟩
    subst hz
    have HS1 : Hid (scan (placeF nx T) (k + 1) = 0) := scan_go HS.out HF.out
    clear HS HF
    go_wp2
    go_roundw
    case rel => exact ⟨k + 1, by omega, by go_num, HS1, H4⟩
    case measure => simp [intOf]; omega
end Go.Proofs.YtglcedhkbbckiaaGreat

namespace Go.Proofs.YtglcedhkbbckiaaGreat
open Go.RowKit

theorem itemF_key {k kd v : Int} (h : itemF k kd v = 0) : faultOf k = 0 := by
  unfold itemF at h
  by_cases q : faultOf k = 0
  · exact q
  · rw [if_pos q] at h
    exact h
theorem itemsF_key {F : Nat → Int} {m : Nat} (hm : 0 < m) (h : itemsF F m 0 = 0) : faultOf (F 0) = 0 := by
  by_cases q : itemF (F (0 * 3)) (F (0 * 3 + 1)) (F (0 * 3 + 2)) = 0
  · rw [Nat.zero_mul] at q
    exact itemF_key q
  · exact absurd ((itemsF_bad hm rfl q).symm.trans h) q
/-- What a transaction without a fault keeps. -/
theorem txF_fine {t : Tx} (h : txF t = 0) : (1 ≤ t.m ∧ t.m ≤ 12) ∧ faultOf (t.L 0) = 0 := by
  unfold txF txnF at h
  split at h
  · omega
  split at h
  · omega
  rename_i h1
  split at h
  · rename_i h2; exact absurd h h2
  rename_i h2
  exact ⟨⟨by omega, by omega⟩, itemsF_key (by omega) (Decidable.not_not.1 h2)⟩
/-- What a world without a fault keeps. -/
theorem world_fine {nw nx bd : Int} {nr : Nat} {F : Nat → Int} {n : Nat} {S : Nat → Sto} {nt : Nat} {T : Nat → Tx} (h : worldF nw nx bd nr F n S nt T = 0) :
    groupsF nr F n S = 0 ∧ nt ≤ 16 ∧ ∀ i, i < nt → (1 ≤ (T i).m ∧ (T i).m ≤ 12) ∧ faultOf ((T i).L 0) = 0 := by
  unfold worldF at h
  split at h
  · omega
  split at h
  · rename_i q; exact absurd h q
  split at h
  · rename_i q; exact absurd h q
  rename_i h2
  split at h
  · omega
  rename_i h3
  refine ⟨Decidable.not_not.1 h2, by omega, fun i hi => txF_fine ?_⟩
  have := scan_zero h i hi
  unfold placeF at this
  split at this
  · rename_i q; exact absurd this q
  · rename_i q; exact Decidable.not_not.1 q
theorem DoneAt.get {nr : Nat} {F : Nat → Int} {S : Nat → Sto} (hG : Good nr F) {t : Tx} (hk : faultOf (t.L 0) = 0) : ∃ r, DoneAt nr F S t r := by
  obtain ⟨j, hj⟩ := hG.at (key := t.L 0) (faultOf_zero hk).2
  rcases firstW_or (S j).k (S j).nw (t.L 0) t.s with hno | ⟨i, hi⟩
  · exact ⟨none, j, hj, Or.inr ⟨fun i q => hno i q.1, rfl⟩⟩
  · by_cases e : (S j).k (i * 4 + 3) = 4
    · exact ⟨none, j, hj, Or.inr ⟨fun i' q => q.2 (by rw [firstW_one q.1 hi]; exact e), rfl⟩⟩
    · exact ⟨_, j, hj, Or.inl ⟨i, ⟨hi, e⟩, rfl⟩⟩
/-- What CommittedOf answers: a code and a list. -/
def CmAns (nw nx bd : Int) (nr : Nat) (F : Nat → Int) (n : Nat) (S : Nat → Sto) (nt : Nat) (T : Nat → Tx) (c : Int) (L : Prs) : Prop :=
  (worldF nw nx bd nr F n S nt T ≠ 0 ∧ c = worldF nw nx bd nr F n S nt T ∧ L = []) ∨
  (worldF nw nx bd nr F n S nt T = 0 ∧ c = 0 ∧ ∃ R, (∀ i, i < nt → DoneAt nr F S (T i) (R i)) ∧ L = donesL R nt)
theorem CmAns.get (nw nx bd : Int) (nr : Nat) (F : Nat → Int) (n : Nat) (S : Nat → Sto) (nt : Nat) (T : Nat → Tx) : ∃ c L, L.length ≤ 16 ∧ CmAns nw nx bd nr F n S nt T c L := by
  by_cases h : worldF nw nx bd nr F n S nt T = 0
  · have Z := world_fine h
    have hall : ∀ i, ∃ r, i < nt → DoneAt nr F S (T i) r := fun i => by
      by_cases hi : i < nt
      · obtain ⟨r, hr⟩ := DoneAt.get (S := S) (groupsF_zero Z.1).1 (Z.2.2 i hi).2
        exact ⟨r, fun _ => hr⟩
      · exact ⟨none, fun q => absurd q hi⟩
    obtain ⟨R, hR⟩ := Classical.axiomOfChoice hall
    exact ⟨0, donesL R nt, Nat.le_trans (donesL_len R nt) Z.2.1, Or.inr ⟨h, rfl, R, hR, rfl⟩⟩
  · exact ⟨_, [], by simp, Or.inl ⟨h, rfl, rfl⟩⟩
theorem res_noneD {w w' : World} {c : Int} {e : Ending} (he : e = .returned (.agg #[.int .i64 c, .slice none 0 0])) (hb : Below w.heap.size w w') : ResRow 2 w c ([] : Prs).length (rowL []) e w' :=
  ⟨none, 0, he, ⟨_, _, rfl, fun q => absurd q (Nat.lt_irrefl 0)⟩, by rw [show ([] : Prs).length * 2 = 0 from rfl]; exact Free.of0 _ _, hb⟩
set_option maxRecDepth 100000 in
set_option maxHeartbeats 4000000 in
theorem specCommitted_is (nw nx bd : Int) (nr : Nat) (F : Nat → Int) (n : Nat) (S : Nat → Sto) (V : Nat → Nat → Value) (vr vs : Value) (nt : Nat) (T : Nat → Tx) (X : Nat → Value) (vt : Value) (B : Nat) (c : Int) (L : Prs) (w : World) (h : Grs w B nr F n S V vr vs) (hx : Txs w B nt T X vt) (hr : nr ≤ 9223372036854775807) (hn : n ≤ 9223372036854775807) (ht : nt ≤ 9223372036854775807) (hm : ∀ i, i < nt → (T i).m ≤ 9223372036854775807) (hA : CmAns nw nx bd nr F n S nt T c L) :
    Calls Tryz.prog 18 #[.agg #[.int .i64 nw, .int .i64 nx, .int .i64 bd, vr, vs, vt]] w (ResRow 2 w c L.length (rowL L)) := by
  obtain ⟨a0, c0, a1, c1, rfl, rfl⟩ := h.form
  obtain ⟨a2, c2, rfl⟩ := hx.form
  have HG : Hid (Grs w 0 nr F n S V (.slice a0 nr c0) (.slice a1 n c1) ∧ Txs w 0 nt T X (.slice a2 nt c2)) := ⟨h.mono (Nat.zero_le _), hx.mono (Nat.zero_le _)⟩
  have HM : Hid (∀ i, i < nt → (T i).m ≤ 9223372036854775807) := hm
  have H0 : Hid (LiesD ((w.alloc (.cells #[.int .i64 nw, .int .i64 nx, .int .i64 bd, .slice a0 nr c0, .slice a1 n c1, .slice a2 nt c2] 42)).alloc (.cells #[.int .i64 0, .slice none 0 0] 50)) w.heap.size nw nx bd nr F n S V (.slice a0 nr c0) (.slice a1 n c1) nt T X (.slice a2 nt c2) ∧ Blk2 ((w.alloc (.cells #[.int .i64 nw, .int .i64 nx, .int .i64 bd, .slice a0 nr c0, .slice a1 n c1, .slice a2 nt c2] 42)).alloc (.cells #[.int .i64 0, .slice none 0 0] 50)) (w.heap.size + 1) (.int .i64 0) (.slice none 0 0) ∧ Below w.heap.size w ((w.alloc (.cells #[.int .i64 nw, .int .i64 nx, .int .i64 bd, .slice a0 nr c0, .slice a1 n c1, .slice a2 nt c2] 42)).alloc (.cells #[.int .i64 0, .slice none 0 0] 50))) := ⟨⟨(Blk6.new w _ _ _ _ _ _ _).alloc _, ((h.mono (Nat.zero_le _)).alloc _).alloc _, ((hx.mono (Nat.zero_le _)).alloc _).alloc _⟩, by have := Blk2.new (w.alloc (.cells #[.int .i64 nw, .int .i64 nx, .int .i64 bd, .slice a0 nr c0, .slice a1 n c1, .slice a2 nt c2] 42)) (.int .i64 0) (.slice none 0 0) 50; simpa using this, (below_alloc _ _).alloc (by simp) _⟩
  clear h hx hm
  obtain ⟨f, E⟩ : ∃ f, Hid (worldF nw nx bd nr F n S nt T = f) := ⟨_, rfl⟩
  rcases hA with ⟨h1, rfl, rfl⟩ | ⟨h1, rfl, R, hR, rfl⟩
  · rw [E.out] at h1
    have d : (f != 0) = true := bne_iff_ne.2 h1
    rw [E.out]
    clear h1
    go_enter Tryz.func18, Tryz.ntmps18
    go_wp2_with fail
    refine (l10Fault_any _ nw nx bd nr F n S V _ _ nt T X _ _ H0.out.1 hr hn ht HM.out).mono ?_
    rw [E.out]
    rintro e w1 ⟨rfl, q1⟩
    have hb := H0.out.2.1.later q1
    have HB : Hid (Below w.heap.size w w1) := H0.out.2.2.trans (q1.mono (by simp; omega))
    obtain ⟨⟨b0, b1⟩, y0, y1⟩ := hb
    clear q1 H0
    go_wp2
    refine bodyPost_ret (v := .agg #[.int .i64 f, .slice none 0 0]) (by simp [results, Tryz.results18, go_sem, b0, b1]) rfl ?_
    exact res_noneD rfl ((HB.out.setCell (by simp) _).setCell (by simp) _)
  · have Z := world_fine h1
    have ZG := groupsF_zero Z.1
    obtain rfl : f = 0 := E.out.symm.trans h1
    have HR : Hid (∀ i, i < nt → DoneAt nr F S (T i) (R i)) := hR
    have HZ : Hid ((nr ≤ 6 ∧ n = nr) ∧ (∀ i, i < n → (S i).nl ≤ 200 ∧ (S i).nw ≤ 200) ∧ nt ≤ 16 ∧ ∀ i, i < nt → 1 ≤ (T i).m) := ⟨⟨ZG.1.n6, ZG.2.1⟩, fun i hi => (storeF_zero (ZG.2.2.1 i hi).1).1.2, Z.2.1, fun i hi => (Z.2.2 i hi).1.1⟩
    clear hR h1 Z ZG
    go_enter Tryz.func18, Tryz.ntmps18
    go_wp2_with fail
    refine (l10Fault_any _ nw nx bd nr F n S V _ _ nt T X _ _ H0.out.1 hr hn ht HM.out).mono ?_
    rw [E.out]
    rintro e w1 ⟨rfl, q1⟩
    have H1 : Hid (LiesD w1 w.heap.size nw nx bd nr F n S V (.slice a0 nr c0) (.slice a1 n c1) nt T X (.slice a2 nt c2) ∧ Blk2 w1 (w.heap.size + 1) (.int .i64 0) (.slice none 0 0) ∧ Below w.heap.size w w1) := ⟨H0.out.1.later q1, H0.out.2.1.later q1, H0.out.2.2.trans (q1.mono (by simp; omega))⟩
    clear q1 H0
    go_wp2_with fail
    refine (l11Committed_is _ nw nx bd nr F n S V _ _ nt T X _ R _ H1.out.1 HZ.out.1.1 HZ.out.1.2 HZ.out.2.1 HZ.out.2.2.1 HZ.out.2.2.2 HR.out).mono ?_
    rintro e w4 ⟨ro, rc, rfl, hr2, q4⟩
    have HO : Hid (Own w4 w1.heap.size 85 2 (donesL R nt).length (rowL (donesL R nt)) (.slice ro (donesL R nt).length rc) ∧ Below w.heap.size w w4) := ⟨hr2, H1.out.2.2.trans (q4.mono H1.out.2.2.size)⟩
    have hbw : w.heap.size + 1 < w1.heap.size := H1.out.2.1.lt
    obtain ⟨⟨x0, x1⟩, z0, z1⟩ := H1.out.2.1.later q4
    clear hr2 q4
    obtain ⟨A, hA⟩ : ∃ A, donesL R nt = A := ⟨_, rfl⟩
    have HAA : Hid (donesL R nt = A) := hA
    rw [hA] at HO ⊢
    clear hA
    go_wp2
    refine bodyPost_ret (v := .agg #[.int .i64 0, .slice ro A.length rc]) (by simp [results, Tryz.results18, go_sem, x0, x1]) rfl ?_
    rw [HAA.out]
    refine ⟨ro, rc, rfl, ?_, ?_, ?_⟩
    · exact ((HO.out.1.row.1.far (Or.inl (by simp; omega)) _).far (Or.inl (by simp; omega)) _).mono (by omega)
    · exact (HO.out.1.row.2.far _ _).far _ _
    · exact (HO.out.2.setCell (by simp) _).setCell (by simp) _
set_option maxRecDepth 100000 in
set_option maxHeartbeats 4000000 in
theorem implCommitted_is (nw nx bd : Int) (nr : Nat) (F : Nat → Int) (n : Nat) (S : Nat → Sto) (V : Nat → Nat → Value) (vr vs : Value) (nt : Nat) (T : Nat → Tx) (X : Nat → Value) (vt : Value) (B : Nat) (c : Int) (L : Prs) (w : World) (h : Grs w B nr F n S V vr vs) (hx : Txs w B nt T X vt) (hr : nr ≤ 9223372036854775807) (hn : n ≤ 9223372036854775807) (ht : nt ≤ 9223372036854775807) (hm : ∀ i, i < nt → (T i).m ≤ 9223372036854775807) (hA : CmAns nw nx bd nr F n S nt T c L) :
    Calls Tryz.prog 19 #[.agg #[.int .i64 nw, .int .i64 nx, .int .i64 bd, vr, vs, vt]] w (ResRow 2 w c L.length (rowL L)) := by
  obtain ⟨a0, c0, a1, c1, rfl, rfl⟩ := h.form
  obtain ⟨a2, c2, rfl⟩ := hx.form
  have HG : Hid (Grs w 0 nr F n S V (.slice a0 nr c0) (.slice a1 n c1) ∧ Txs w 0 nt T X (.slice a2 nt c2)) := ⟨h.mono (Nat.zero_le _), hx.mono (Nat.zero_le _)⟩
  have HM : Hid (∀ i, i < nt → (T i).m ≤ 9223372036854775807) := hm
  have H0 : Hid (LiesD ((w.alloc (.cells #[.int .i64 nw, .int .i64 nx, .int .i64 bd, .slice a0 nr c0, .slice a1 n c1, .slice a2 nt c2] 42)).alloc (.cells #[.int .i64 0, .slice none 0 0] 50)) w.heap.size nw nx bd nr F n S V (.slice a0 nr c0) (.slice a1 n c1) nt T X (.slice a2 nt c2) ∧ Blk2 ((w.alloc (.cells #[.int .i64 nw, .int .i64 nx, .int .i64 bd, .slice a0 nr c0, .slice a1 n c1, .slice a2 nt c2] 42)).alloc (.cells #[.int .i64 0, .slice none 0 0] 50)) (w.heap.size + 1) (.int .i64 0) (.slice none 0 0) ∧ Below w.heap.size w ((w.alloc (.cells #[.int .i64 nw, .int .i64 nx, .int .i64 bd, .slice a0 nr c0, .slice a1 n c1, .slice a2 nt c2] 42)).alloc (.cells #[.int .i64 0, .slice none 0 0] 50))) := ⟨⟨(Blk6.new w _ _ _ _ _ _ _).alloc _, ((h.mono (Nat.zero_le _)).alloc _).alloc _, ((hx.mono (Nat.zero_le _)).alloc _).alloc _⟩, by have := Blk2.new (w.alloc (.cells #[.int .i64 nw, .int .i64 nx, .int .i64 bd, .slice a0 nr c0, .slice a1 n c1, .slice a2 nt c2] 42)) (.int .i64 0) (.slice none 0 0) 50; simpa using this, (below_alloc _ _).alloc (by simp) _⟩
  clear h hx hm
  obtain ⟨f, E⟩ : ∃ f, Hid (worldF nw nx bd nr F n S nt T = f) := ⟨_, rfl⟩
  obtain ⟨⟨k0, k1, k2, k3, k4, k5⟩, _⟩ := H0.out.1.1
  rcases hA with ⟨h1, rfl, rfl⟩ | ⟨h1, rfl, R, hR, rfl⟩
  · rw [E.out] at h1
    have d : (f != 0) = true := bne_iff_ne.2 h1
    rw [E.out]
    clear h1
    go_enter Tryz.func19, Tryz.ntmps19
    go_wp2_with fail
    refine (implWorldFault_any nw nx bd nr F n S V _ _ nt T X _ 0 _ H0.out.1.2.1 H0.out.1.2.2 hr hn ht).mono ?_
    rw [E.out]
    rintro e w1 ⟨rfl, q1⟩
    have hb := H0.out.2.1.later q1
    have HB : Hid (Below w.heap.size w w1) := H0.out.2.2.trans (q1.mono (by simp; omega))
    obtain ⟨⟨b0, b1⟩, y0, y1⟩ := hb
    clear q1 H0 k0 k1 k2 k3 k4 k5
    go_wp2
    refine bodyPost_ret (v := .agg #[.int .i64 f, .slice none 0 0]) (by simp [results, Tryz.results19, go_sem, b0, b1]) rfl ?_
    exact res_noneD rfl ((HB.out.setCell (by simp) _).setCell (by simp) _)
  · have Z := world_fine h1
    have ZG := groupsF_zero Z.1
    obtain rfl : f = 0 := E.out.symm.trans h1
    have HR : Hid (∀ i, i < nt → DoneAt n F S (T i) (R i)) := by rw [ZG.2.1]; exact hR
    have HZ : Hid ((n = nr ∧ n ≤ 12) ∧ (∀ i, i < n → storeF (S i) = 0) ∧ nt ≤ 16 ∧ ∀ i, i < nt → 1 ≤ (T i).m ∧ (T i).m ≤ 12) := ⟨⟨ZG.2.1, by have := ZG.1.n6; have := ZG.2.1; omega⟩, fun i hi => (ZG.2.2.1 i hi).1, Z.2.1, fun i hi => (Z.2.2 i hi).1⟩
    clear hR h1 Z ZG
    go_enter Tryz.func19, Tryz.ntmps19
    go_wp2_with fail
    refine (implWorldFault_any nw nx bd nr F n S V _ _ nt T X _ 0 _ H0.out.1.2.1 H0.out.1.2.2 hr hn ht).mono ?_
    rw [E.out]
    rintro e w1 ⟨rfl, q1⟩
    have H1 : Hid (LiesD w1 w.heap.size nw nx bd nr F n S V (.slice a0 nr c0) (.slice a1 n c1) nt T X (.slice a2 nt c2) ∧ Blk2 w1 (w.heap.size + 1) (.int .i64 0) (.slice none 0 0) ∧ Below w.heap.size w w1) := ⟨H0.out.1.later q1, H0.out.2.1.later q1, H0.out.2.2.trans (q1.mono (by simp; omega))⟩
    clear q1 H0 k0 k1 k2 k3 k4 k5
    obtain ⟨⟨k0, k1, k2, k3, k4, k5⟩, _⟩ := H1.out.1.1
    go_wp2_with fail
    refine (workOn_is nw nx bd nr F n S V _ _ nt T X _ 0 _ H1.out.1.2.1 H1.out.1.2.2 HZ.out.2.1 HZ.out.1.1 HZ.out.1.2 HZ.out.2.2.1 HZ.out.2.2.2).mono ?_
    rintro e w2 ⟨b, B2, g, P, Y, v, rfl, hW⟩
    have HD : Hid (DonE w2 b nw nx bd n F S g P w1.heap.size nt T Y v w2) := ⟨Below.refl _ _, hW.kb, hW.work, hW.txs.txs.mono (Nat.zero_le _)⟩
    have H2 : Hid (Blk2 w2 (w.heap.size + 1) (.int .i64 0) (.slice none 0 0) ∧ Below w.heap.size w w2) := ⟨H1.out.2.1.later hW.below, H1.out.2.2.trans (hW.below.mono H1.out.2.2.size)⟩
    clear hW H1 k0 k1 k2 k3 k4 k5
    go_wp2_with fail
    refine (dones_is w2 b nw nx bd n F S g P w1.heap.size nt T Y v R HD.out HR.out HZ.out.1.2 HZ.out.2.2.1 (fun i hi => (HZ.out.2.2.2 i hi).1)).mono ?_
    rintro e w4 ⟨ro, rc, rfl, hr2, q4⟩
    have HO : Hid (Own w4 w2.heap.size 85 2 (donesL R nt).length (rowL (donesL R nt)) (.slice ro (donesL R nt).length rc) ∧ Below w.heap.size w w4) := ⟨hr2, H2.out.2.trans (q4.mono H2.out.2.size)⟩
    have hbw : w.heap.size + 1 < w2.heap.size := H2.out.1.lt
    obtain ⟨⟨x0, x1⟩, z0, z1⟩ := H2.out.1.later q4
    clear hr2 q4
    obtain ⟨A, hA⟩ : ∃ A, donesL R nt = A := ⟨_, rfl⟩
    have HAA : Hid (donesL R nt = A) := hA
    rw [hA] at HO ⊢
    clear hA
    go_wp2
    refine bodyPost_ret (v := .agg #[.int .i64 0, .slice ro A.length rc]) (by simp [results, Tryz.results19, go_sem, x0, x1]) rfl ?_
    rw [HAA.out]
    refine ⟨ro, rc, rfl, ?_, ?_, ?_⟩
    · exact ((HO.out.1.row.1.far (Or.inl (by simp; omega)) _).far (Or.inl (by simp; omega)) _).mono (by omega)
    · exact (HO.out.1.row.2.far _ _).far _ _
    · exact (HO.out.2.setCell (by simp) _).setCell (by simp) _
end Go.Proofs.YtglcedhkbbckiaaGreat

namespace Go.Proofs.YtglcedhkbbckiaaGreat
open Go.RowKit

set_option maxHeartbeats 400000 in
theorem eqDone_same (x0 x1 : Int) (w : World) :
    Calls Tryz.prog 90 #[.agg #[.int .i64 x0, .int .i64 x1], .agg #[.int .i64 x0, .int .i64 x1]] w fun e w' => e = .returned (.bool true) ∧ Below w.heap.size w w' := by
  go_enter Tryz.func90, Tryz.ntmps90
  go_wp2
  go_ret
  exact ⟨rfl, ((Below.refl _ _).alloc (Nat.le_refl _) _).alloc (by simp) _⟩
def TwoDone (w : World) (g o g' o' k : Nat) (F : Nat → Int) (x : World) : Prop := (x.cell? ⟨g, o + k * 2, none⟩ = some (.int .i64 (F (k * 2))) ∧ x.cell? ⟨g, o + k * 2 + 1, none⟩ = some (.int .i64 (F (k * 2 + 1))) ∧ x.cell? ⟨g', o' + k * 2, none⟩ = some (.int .i64 (F (k * 2))) ∧ x.cell? ⟨g', o' + k * 2 + 1, none⟩ = some (.int .i64 (F (k * 2 + 1)))) ∧ Below w.heap.size w x
theorem TwoDone.later {w x x' : World} {g o g' o' k : Nat} {F : Nat → Int} (h : TwoDone w g o g' o' k F x) (hg : g < w.heap.size) (hg' : g' < w.heap.size) (hb : Below x.heap.size x x') : TwoDone w g o g' o' k F x' := by
  obtain ⟨⟨hx0, hx1, hx2, hx3⟩, hy⟩ := h
  exact ⟨⟨(hb.cell (Nat.lt_of_lt_of_le hg hy.size)).trans hx0, (hb.cell (Nat.lt_of_lt_of_le hg hy.size)).trans hx1, (hb.cell (Nat.lt_of_lt_of_le hg' hy.size)).trans hx2, (hb.cell (Nat.lt_of_lt_of_le hg' hy.size)).trans hx3⟩, hy.trans (hb.mono hy.size)⟩
set_option maxRecDepth 100000 in
set_option maxHeartbeats 1000000 in
theorem eqDoneS_same (va vb : Value) (Ba Bb n : Nat) (F : Nat → Int) (w : World) (ha : Row w Ba 2 n F va) (hb : Row w Bb 2 n F vb) (hn : n ≤ 1048576) :
    Calls Tryz.prog 49 #[va, vb] w fun e w' => e = .returned (.bool true) ∧ Below w.heap.size w w' := by
  obtain ⟨ao, ca, rfl⟩ := ha.form
  obtain ⟨bo, cb, rfl⟩ := hb.form
  have HA : Hid (Row w Ba 2 n F (.slice ao n ca)) := ha
  have HB : Hid (Row w Bb 2 n F (.slice bo n cb)) := hb
  clear ha hb
  go_enter Tryz.func49, Tryz.ntmps49
  go_wp2
  go_loopw [5] (fun i wr => ∃ k : Nat, k ≤ n ∧ i = .int .i64 k ∧ Below w.heap.size w wr) (fun i _ => n - (intOf i).toNat)
  case atStart => exact ⟨0, Nat.zero_le _, rfl, Below.refl _ _⟩
  case round =>
    obtain ⟨k, hk, rfl, hbw⟩ := hrel
    by_cases hlt : k < n
    · obtain ⟨g, o, rfl, _, hg, c0, c1⟩ := HA.out.at2 hlt
      obtain ⟨g', o', rfl, _, hg', d0, d1⟩ := HB.out.at2 hlt
      have h0 : TwoDone w g o g' o' k F wr.drew := ⟨⟨(hbw.cell (p := ⟨g, o + k * 2, none⟩) hg).trans c0, (hbw.cell (p := ⟨g, o + k * 2 + 1, none⟩) hg).trans c1, (hbw.cell (p := ⟨g', o' + k * 2, none⟩) hg').trans d0, (hbw.cell (p := ⟨g', o' + k * 2 + 1, none⟩) hg').trans d1⟩, hbw.drew⟩
      clear c0 d0 c1 d1 hbw
      go_wp2_with fail
      refine wp_region_held_drew (S := TwoDone w g o g' o' k F) (by kernel_rfl) h0 (fun hS => ?_)
      clear h0
      refine tkH 0 ?_ hS (fun wx hx => ?_) ?_; rotate_left
      · obtain ⟨⟨hx0, hx1, hx2, hx3⟩, _⟩ := hx; go_simp; try with_reducible rfl
      refine tkH 1 ?_ hS (fun wx hx => ?_) ?_; rotate_left
      · obtain ⟨⟨hx0, hx1, hx2, hx3⟩, _⟩ := hx; go_simp; try with_reducible rfl
      refine tkH 2 ?_ hS (fun wx hx => ?_) ?_; rotate_left
      · obtain ⟨⟨hx0, hx1, hx2, hx3⟩, _⟩ := hx; go_simp; try with_reducible rfl
      refine tkH 3 ?_ hS (fun wx hx => ?_) ?_; rotate_left
      · obtain ⟨⟨hx0, hx1, hx2, hx3⟩, _⟩ := hx; go_simp; try with_reducible rfl
      refine tkH 4 ?_ hS (fun wx hx => ?_) ?_; rotate_left
      · obtain ⟨⟨hx0, hx1, hx2, hx3⟩, _⟩ := hx; go_simp; try with_reducible rfl
      refine tkH 5 ?_ hS (fun wx hx => ?_) ?_; rotate_left
      · obtain ⟨⟨hx0, hx1, hx2, hx3⟩, _⟩ := hx; go_simp; try with_reducible rfl
      refine tkH 6 ?_ hS (fun wx hx => ?_) ?_; rotate_left
      · obtain ⟨⟨hx0, hx1, hx2, hx3⟩, _⟩ := hx; go_simp; try with_reducible rfl
      refine tkH 7 ?_ hS (fun wx hx => ?_) ?_; rotate_left
      · obtain ⟨⟨hx0, hx1, hx2, hx3⟩, _⟩ := hx; go_simp; try with_reducible rfl
      refine rdH 8 (fun K hK => ?_)
      go_simp
      go_wp2_with fail
      refine (eqDone_same _ _ _).mono ?_
      rintro e w' ⟨rfl, hb⟩
      go_wp2_with fail
      refine hK.out _ _ (hS.later hg hg' hb) (fun hS => ?_)
      clear hK K
      refine tkH 9 ?_ hS (fun wx hx => ?_) ?_; rotate_left
      · obtain ⟨⟨hx0, hx1, hx2, hx3⟩, _⟩ := hx; go_simp; try with_reducible rfl
      refine wpAnyH_done (by kernel_rfl) ?_ _
      go_simp
      go_wp2
      go_roundw
      case rel => exact ⟨k + 1, by omega, by go_num, hS.2⟩
      case measure => simp [intOf]; omega
    · go_wp2
      go_ret
      exact ⟨rfl, hbw⟩
set_option maxRecDepth 100000 in
set_option maxHeartbeats 2000000 in
theorem markDoneS_any (v : Value) (B n : Nat) (F : Nat → Int) (k0 : Int) (w : World) (h : Row w B 2 n F v) (hf : Free w (n * 2) v) (hn : n ≤ 1048576) (hk0 : 0 ≤ k0) (hk1 : k0 ≤ 100000000) :
    Calls Tryz.prog 52 #[v, .int .i64 k0] w fun e w' => e = .returned (.int .i64 (k0 + n * 2)) ∧ Row w' B 2 n (fun p => k0 + (p : Nat)) v ∧ Free w' (n * 2) v ∧ w.grownBy w' v.ownBlock := by
  obtain ⟨ao, cp, rfl⟩ := h.form
  have H0 : Hid (Marked w w B 2 n 0 k0 ao cp) := Marked.start h hf k0
  clear h hf
  go_enter Tryz.func52, Tryz.ntmps52
  go_wp2
  go_loopw [1, 5] (fun k i wr => ∃ j : Nat, j ≤ n ∧ i = .int .i64 j ∧ k = .int .i64 (k0 + j * 2) ∧ Hid (Marked w wr B 2 n j k0 ao cp)) (fun _ i _ => n - (intOf i).toNat)
  case atStart => exact ⟨0, Nat.zero_le _, rfl, by go_num, H0⟩
  case round =>
    obtain ⟨j, hj, rfl, rfl, hM⟩ := hrel
    by_cases hlt : j < n
    · obtain ⟨g, o, rfl, hB, hF⟩ := hM.out.1 (by omega)
      obtain ⟨u0, c0, e0⟩ := hF.at (p := j * 2) (by omega)
      obtain ⟨u1, c1, e1⟩ := hF.at (p := j * 2 + 1) (by omega)
      simp only [← Nat.add_assoc] at c0 e0 c1 e1
      have HF : Hid (Fill wr g o (n * 2) (j * 2) (fun p => k0 + (p : Nat)) ∧ w.grownBy wr (some g)) := ⟨hF, hM.out.2⟩
      clear hF hM H0
      go_wp2
      go_roundw
      case rel => exact ⟨j + 1, by omega, by go_num, by go_num, fun _ => ⟨g, o, rfl, hB, by rw [Nat.succ_mul]; exact ((HF.out.1.step (by omega) (by omega) (by omega)).step (by omega) (by omega) (by omega))⟩, (grownBy_set (grownBy_set HF.out.2 _ _) _ _)⟩
      case measure => simp [intOf]; omega
    · obtain rfl : j = n := by omega
      go_wp2
      go_ret
      exact ⟨rfl, hM.out.done.1, hM.out.done.2, hM.out.2⟩
set_option maxHeartbeats 2000000 in
theorem heldDoneS_any (v : Value) (B n : Nat) (k0 : Int) (w : World) (h : Row w B 2 n (fun p => k0 + (p : Nat)) v) (hn : n ≤ 1048576) (hk0 : 0 ≤ k0) (hk1 : k0 ≤ 100000000) :
    Calls Tryz.prog 53 #[v, .int .i64 k0] w fun e w' => e = .returned (.int .i64 (k0 + n * 2)) ∧ w' = w := by
  obtain ⟨ao, cp, rfl⟩ := h.form
  have H0 : Hid (Row w B 2 n (fun p => k0 + (p : Nat)) (.slice ao n cp)) := h
  clear h
  go_enter Tryz.func53, Tryz.ntmps53
  go_wp2
  go_loop [1, 5] (fun k i => ∃ j : Nat, j ≤ n ∧ i = .int .i64 j ∧ k = .int .i64 (k0 + j * 2)) (fun _ i => n - (intOf i).toNat)
  case atStart => exact ⟨0, Nat.zero_le _, rfl, by go_num⟩
  case round =>
    obtain ⟨j, hj, rfl, rfl⟩ := hrel
    by_cases hlt : j < n
    · obtain ⟨g, o, rfl, _, _, c0, c1⟩ := H0.out.at2 hlt
      rw [show k0 + ((j * 2 : Nat) : Int) = k0 + j * 2 from by omega] at c0
      rw [show k0 + ((j * 2 + 1 : Nat) : Int) = k0 + j * 2 + 1 from by omega] at c1
      go_wp2
      go_round
      case rel => exact ⟨j + 1, by omega, by go_num, by go_num⟩
      case measure => simp [intOf]; omega
    · obtain rfl : j = n := by omega
      go_wp2
      go_ret
      exact ⟨rfl, rfl⟩
set_option maxHeartbeats 1000000 in
theorem markDoneS_none (ao : Option Addr) (cp : Nat) (k0 : Int) (w : World) :
    Calls Tryz.prog 52 #[.slice ao 0 cp, .int .i64 k0] w fun e w' => e = .returned (.int .i64 k0) ∧ w' = w := by
  go_enter Tryz.func52, Tryz.ntmps52
  go_wp2
  go_loop [1, 5] (fun k i => i = .int .i64 0 ∧ k = .int .i64 k0) (fun _ i => 1 - (intOf i).toNat)
  case atStart => exact ⟨rfl, rfl⟩
  case round =>
    obtain ⟨rfl, rfl⟩ := hrel
    go_wp2
    go_ret
    exact ⟨rfl, rfl⟩
theorem markDoneS_turn (v : Value) (B n : Nat) (F : Nat → Int) (k0 : Int) (w : World) (h : Row w B 2 n F v) (hf : Free w (n * 2) v) (hn : n ≤ 1048576) (hk0 : 0 ≤ k0) (hk1 : k0 ≤ 100000000) :
    Calls Tryz.prog 52 #[v, .int .i64 k0] w fun e w' => e = .returned (.int .i64 (k0 + n * 2)) ∧ Row w' B 2 n (fun p => k0 + (p : Nat)) v ∧ Free w' (n * 2) v ∧ w.grownBy w' (turn n v) := by
  rcases Nat.eq_zero_or_pos n with e | e
  · subst e
    obtain ⟨ao, cp, rfl⟩ := h.form
    refine (markDoneS_none ao cp k0 w).mono fun e w' ⟨he, hw⟩ => ?_
    subst hw
    exact ⟨by rw [he]; simp, ⟨_, _, rfl, fun q => absurd q (Nat.lt_irrefl 0)⟩, hf, rfl, rfl, rfl, Nat.le_refl _, fun _ _ _ => rfl⟩
  · refine (markDoneS_any v B n F k0 w h hf hn hk0 hk1).mono fun e' w' ⟨he, h1, h2, h3⟩ => ⟨he, h1, h2, ?_⟩
    unfold turn
    rw [if_neg (by omega)]
    exact h3
set_option maxHeartbeats 1000000 in
theorem eqDonesResult_same (c : Int) (n : Nat) (a b : Option Addr) (p q : Nat) (Ba Bb : Nat) (F : Nat → Int) (w : World) (ha : Row w Ba 2 n F (.slice a n p)) (hb : Row w Bb 2 n F (.slice b n q)) (hn : n ≤ 1048576) :
    Calls Tryz.prog 20 #[.agg #[.int .i64 c, .slice a n p], .agg #[.int .i64 c, .slice b n q]] w fun e w' => e = .returned (.bool true) ∧ Below w.heap.size w w' := by
  have HA : Hid (Row w Ba 2 n F (.slice a n p) ∧ Row w Bb 2 n F (.slice b n q)) := ⟨ha, hb⟩
  clear ha hb
  go_enter Tryz.func20, Tryz.ntmps20
  go_wp2_with fail
  refine (eqDoneS_same _ _ Ba Bb n F _ ((HA.out.1.alloc _).alloc _) ((HA.out.2.alloc _).alloc _) hn).mono ?_
  rintro e w1 ⟨rfl, q1⟩
  have Q : Hid (Below w.heap.size w w1) := ((below_alloc _ _).alloc (by simp) _).trans (q1.mono (by simp; omega))
  clear q1
  go_wp2
  go_ret
  exact ⟨rfl, Q.out⟩
set_option maxHeartbeats 1000000 in
theorem markDonesResult_any (c : Int) (n : Nat) (a : Option Addr) (p : Nat) (B : Nat) (F : Nat → Int) (w : World) (h : Row w B 2 n F (.slice a n p)) (hf : Free w (n * 2) (.slice a n p)) (hn : n ≤ 1048576) :
    Calls Tryz.prog 22 #[.agg #[.int .i64 c, .slice a n p], .int .i64 1] w fun e w' => e = .returned (.int .i64 (1 + n * 2)) ∧ Row w' B 2 n (fun p => 1 + (p : Nat)) (.slice a n p) ∧ w.grownBy w' (turn n (.slice a n p)) := by
  have HA : Hid (Row w B 2 n F (.slice a n p) ∧ Free w (n * 2) (.slice a n p)) := ⟨h, hf⟩
  clear h hf
  go_enter Tryz.func22, Tryz.ntmps22
  go_wp2_with fail
  refine (markDoneS_turn _ B n F 1 _ (HA.out.1.alloc _) (HA.out.2.ofRow HA.out.1 (below_alloc _ _)) hn (by omega) (by omega)).mono ?_
  rintro e w1 ⟨rfl, r1, _, g1⟩
  have Q : Hid (w.grownBy w1 (turn n (.slice a n p))) := ⟨g1.os, g1.tape, g1.output, Nat.le_trans (by simp) g1.size, fun k hk hne => (g1.block k (by simp; omega) hne).trans ((below_alloc w _).block k hk)⟩
  have R : Hid (Row w1 B 2 n (fun p => 1 + (p : Nat)) (.slice a n p)) := r1
  clear r1 g1
  go_wp2
  go_ret
  exact ⟨rfl, R.out, Q.out⟩
set_option maxHeartbeats 1000000 in
theorem heldDonesResult_any (c : Int) (n : Nat) (a : Option Addr) (p : Nat) (B : Nat) (w : World) (h : Row w B 2 n (fun p => 1 + (p : Nat)) (.slice a n p)) (hn : n ≤ 1048576) :
    Calls Tryz.prog 23 #[.agg #[.int .i64 c, .slice a n p], .int .i64 1] w fun e w' => e = .returned (.int .i64 (1 + n * 2)) ∧ Below w.heap.size w w' := by
  have HA : Hid (Row w B 2 n (fun p => 1 + (p : Nat)) (.slice a n p)) := h
  clear h
  go_enter Tryz.func23, Tryz.ntmps23
  go_wp2_with fail
  refine (heldDoneS_any _ B n 1 _ (HA.out.alloc _) hn (by omega) (by omega)).mono ?_
  rintro e w1 ⟨rfl, rfl⟩
  have hnn : decide ((1 : Int) + n * 2 < 0) = false := decide_eq_false (by omega)
  go_wp2
  go_ret
  exact ⟨rfl, below_alloc _ _⟩
end Go.Proofs.YtglcedhkbbckiaaGreat

namespace Go.Proofs.YtglcedhkbbckiaaGreat
open Go.RowKit

def markX (T : Nat → Tx) (i : Nat) : Nat := 5 + (T i).m * 3
theorem markX_le (T : Nat → Tx) : ∀ n, sumN (markX T) n ≤ 5 * n + 3 * sumN (sizeX T) n
  | 0 => by simp [sumN]
  | n + 1 => by
    have := markX_le T n
    show sumN (markX T) n + markX T n ≤ 5 * (n + 1) + 3 * (sumN (sizeX T) n + sizeX T n)
    unfold markX sizeX at *
    omega
theorem Fil.over {w : World} {g N : Nat} {X : Nat → Value} {D : Nat → Prop} (h : Fil w g N X D) {p : Nat} (hp : p < N) (hd : ¬ D p) (v : Value) : Fil (w.setCell ⟨g, p, none⟩ v) g N X D := by
  obtain ⟨u, hu⟩ := (h.2 p hp).1.1
  have same : (w.setCell ⟨g, p, none⟩ v).cell? ⟨g, p, none⟩ = some v := World.cell?_setCell_same _ _ _ hu
  have other : ∀ q, q ≠ p → (w.setCell ⟨g, p, none⟩ v).cell? ⟨g, q, none⟩ = w.cell? ⟨g, q, none⟩ := fun q hq => World.cell?_setCell_other _ _ _ _ (fun e => hq (congrArg Addr.off e).symm)
  refine ⟨by simpa [World.setCell] using h.1, fun q hq => ⟨⟨?_, by simp only [World.frozen?_setCell]; exact (h.2 q hq).1.2⟩, fun d => ?_⟩⟩
  · by_cases e : q = p
    · subst e; exact ⟨_, same⟩
    · rw [other q e]; exact (h.2 q hq).1.1
  · by_cases e : q = p
    · subst e; exact absurd d hd
    · rw [other q e]; exact (h.2 q hq).2 d
theorem Fil.within {w w' : World} {g N B E : Nat} {X : Nat → Value} {D : Nat → Prop} (h : Fil w g N X D) (hw : Within B E w w') (hg : g < B ∨ E ≤ g) : Fil w' g N X D := by
  have hb := hw.block g h.1 hg
  refine ⟨Nat.lt_of_lt_of_le h.1 hw.size, fun p hp => ?_⟩
  rw [World.cell?_of_block (w := w) (a := ⟨g, p, none⟩) hb, World.frozen?_of_block (w := w) (a := ⟨g, p, none⟩) hb]
  exact h.2 p hp
theorem FineT.up {w : World} {z : Nat → Nat} {n : Nat} {T : Nat → Tx} {U : Nat → Value} (h : FineT w z n T U) : ∀ j, j ≤ n → ∀ i, i ≤ j → z i ≤ z j
  | 0, _, i, hi => by obtain rfl : i = 0 := by omega
                      exact Nat.le_refl _
  | j + 1, hj, i, hi => by
    by_cases q : i = j + 1
    · subst q; exact Nat.le_refl _
    · exact Nat.le_trans (h.up j (by omega) i (by omega)) (h j (by omega)).2.2
/-- What stands while transactions are numbered: the items of those from k on, and where they lie. -/
def MarkE (w : World) (g n : Nat) (T : Nat → Tx) (U : Nat → Value) (z : Nat → Nat) (k : Nat) (x : World) : Prop :=
  Fil x g (n * 6) (fun p => U (p / 6)) (fun p => p % 6 = 5) ∧ (∀ i, k ≤ i → i < n → Row x (z i) 3 (T i).m (T i).L (U i) ∧ Free x ((T i).m * 3) (U i)) ∧ Within g (z n) w x
theorem MarkE.over {w x : World} {g n : Nat} {T : Nat → Tx} {U : Nat → Value} {z : Nat → Nat} {k : Nat} (h : MarkE w g n T U z k x) (hz : ∀ i, i ≤ n → g < z i) {p : Nat} (hp : p < n * 6) (hd : p % 6 ≠ 5) (v : Value) : MarkE w g n T U z k (x.setCell ⟨g, p, none⟩ v) := by
  refine ⟨h.1.over hp hd v, fun i hi hn => ⟨(h.2.1 i hi hn).1.far (Or.inl (hz i (by omega))) v, (h.2.1 i hi hn).2.far _ _⟩, h.2.2.trans ⟨rfl, rfl, rfl, by simp [World.setCell], fun q hq ho => Below.heap_setCell x _ v q ?_⟩⟩
  have := hz n (Nat.le_refl _)
  show q ≠ g
  omega
theorem MarkE.over5 {w x : World} {g n : Nat} {T : Nat → Tx} {U : Nat → Value} {z : Nat → Nat} {k : Nat} (h : MarkE w g n T U z k x) (hz : ∀ i, i ≤ n → g < z i) (hk : k < n) (v0 v1 v2 v3 v4 : Value) :
    MarkE w g n T U z k (((((x.setCell ⟨g, k * 6, none⟩ v0).setCell ⟨g, k * 6 + 1, none⟩ v1).setCell ⟨g, k * 6 + 2, none⟩ v2).setCell ⟨g, k * 6 + 3, none⟩ v3).setCell ⟨g, k * 6 + 4, none⟩ v4) :=
  ((((h.over hz (by omega) (by omega) v0).over hz (by omega) (by omega) v1).over hz (by omega) (by omega) v2).over hz (by omega) (by omega) v3).over hz (by omega) (by omega) v4
theorem MarkE.next {w x x1 : World} {g n : Nat} {T : Nat → Tx} {U : Nat → Value} {z : Nat → Nat} {k : Nat} (h : MarkE w g n T U z k x) (hz : ∀ i, i ≤ n → g < z i) (hf : FineT w z n T U) (hk : k < n) (hw : Within (z k) (z (k + 1)) x x1) : MarkE w g n T U z (k + 1) x1 := by
  refine ⟨h.1.within hw (Or.inl (hz k (by omega))), fun i hi hn => ?_, h.2.2.trans (hw.mono (Nat.le_of_lt (hz k (by omega))) (hf.up n (Nat.le_refl _) (k + 1) hk))⟩
  have ho : 0 < (T i).m → ∀ q, (U i).ownBlock = some q → q < z k ∨ z (k + 1) ≤ q := fun h0 q hq => Or.inr (by
    have h1 := (hf i hn).2.1 h0 q hq
    have h2 := hf.up i (by omega) (k + 1) hi
    omega)
  exact ⟨(h.2.1 i (by omega) hn).1.within hw ho, (h.2.1 i (by omega) hn).2.within (h.2.1 i (by omega) hn).1 hw ho⟩
set_option maxRecDepth 100000 in
set_option maxHeartbeats 8000000 in
theorem markTxnS_any (n cp g : Nat) (T : Nat → Tx) (U : Nat → Value) (z : Nat → Nat) (k0 : Int) (w : World) (hF : FillT w g n n T U) (hf : FineT w z n T U) (hz : ∀ i, i ≤ n → g < z i) (hs : ∀ i, i < n → (T i).m ≤ 1048576) (ht : sumN (sizeX T) n ≤ 1048576) (h0 : 0 ≤ k0) (h1 : k0 ≤ 20000000) (hn : n ≤ 1048576) :
    Calls Tryz.prog 51 #[.slice (some ⟨g, 0, none⟩) n cp, .int .i64 k0] w fun e w' => e = .returned (.int .i64 (k0 + (sumN (markX T) n : Nat))) ∧ Within g (z n) w w' := by
  have HZ : Hid ((∀ i, i ≤ n → g < z i) ∧ FineT w z n T U) := ⟨hz, hf⟩
  have HN : Hid ((∀ i, i < n → (T i).m ≤ 1048576) ∧ ∀ k, k ≤ n → sumN (markX T) k ≤ 8388608) := ⟨hs, fun k hk => by have := sum_mono (markX T) hk; have := markX_le T n; omega⟩
  have HM : Hid (MarkE w g n T U z 0 w) := ⟨Fil.congr hF (fun p hp d => ⟨by omega, by
    show txV (T (p / 6)) (U (p / 6)) (p % 6) = U (p / 6)
    rw [d]
    rfl⟩), fun i _ hi => ⟨(hf i hi).1.1, (hf i hi).1.2.1⟩, Within.refl _ _ _⟩
  clear hF hf hz hs ht
  go_enter Tryz.func51, Tryz.ntmps51
  go_wp2
  go_loopw [1, 5] (fun j i wr => ∃ (k c : Nat), k ≤ n ∧ j = .int .i64 (k0 + (c : Nat)) ∧ i = .int .i64 k ∧ Hid (c = sumN (markX T) k) ∧ Hid (MarkE w g n T U z k wr)) (fun _ i _ => n - (intOf i).toNat)
  case atStart => exact ⟨0, 0, Nat.zero_le _, by simp, rfl, rfl, HM⟩
  case round =>
    clear HM
    obtain ⟨k, c, hk, rfl, rfl, HC, HR⟩ := hrel
    have hcb : c ≤ 8388608 := by rw [HC.out]; exact HN.out.2 k hk
    by_cases hlt : k < n
    · obtain ⟨⟨⟨x0, y0⟩, f0⟩, _⟩ := HR.out.1.2 (k * 6) (by omega)
      obtain ⟨⟨⟨x1, y1⟩, f1⟩, _⟩ := HR.out.1.2 (k * 6 + 1) (by omega)
      obtain ⟨⟨⟨x2, y2⟩, f2⟩, _⟩ := HR.out.1.2 (k * 6 + 2) (by omega)
      obtain ⟨⟨⟨x3, y3⟩, f3⟩, _⟩ := HR.out.1.2 (k * 6 + 3) (by omega)
      obtain ⟨⟨⟨x4, y4⟩, f4⟩, _⟩ := HR.out.1.2 (k * 6 + 4) (by omega)
      have y5 := (HR.out.1.2 (k * 6 + 5) (by omega)).2 (by omega)
      simp only [show (k * 6 + 5) / 6 = k by omega] at y5
      obtain ⟨uo, uc, hU⟩ := (HR.out.2.1 k (Nat.le_refl _) hlt).1.form
      have hm := HN.out.1 k hlt
      obtain ⟨m, hmm⟩ : ∃ m, (T k).m = m := ⟨_, rfl⟩
      rw [hU, hmm] at y5
      rw [hmm] at hm
      have HU : Hid (U k = .slice uo m uc ∧ (T k).m = m) := ⟨by rw [hU, hmm], hmm⟩
      clear hU hmm
      have HM5 : Hid (∀ v0 v1 v2 v3 v4, MarkE w g n T U z k (((((wr.setCell ⟨g, k * 6, none⟩ v0).setCell ⟨g, k * 6 + 1, none⟩ v1).setCell ⟨g, k * 6 + 2, none⟩ v2).setCell ⟨g, k * 6 + 3, none⟩ v3).setCell ⟨g, k * 6 + 4, none⟩ v4)) := fun v0 v1 v2 v3 v4 => HR.out.over5 HZ.out.1 hlt v0 v1 v2 v3 v4
      have HIT : Hid (∀ v0 v1 v2 v3 v4, Row (((((wr.setCell ⟨g, k * 6, none⟩ v0).setCell ⟨g, k * 6 + 1, none⟩ v1).setCell ⟨g, k * 6 + 2, none⟩ v2).setCell ⟨g, k * 6 + 3, none⟩ v3).setCell ⟨g, k * 6 + 4, none⟩ v4) (z k) 3 m (T k).L (.slice uo m uc) ∧ Free (((((wr.setCell ⟨g, k * 6, none⟩ v0).setCell ⟨g, k * 6 + 1, none⟩ v1).setCell ⟨g, k * 6 + 2, none⟩ v2).setCell ⟨g, k * 6 + 3, none⟩ v3).setCell ⟨g, k * 6 + 4, none⟩ v4) (m * 3) (.slice uo m uc)) := fun v0 v1 v2 v3 v4 => by
        have := (HM5.out v0 v1 v2 v3 v4).2.1 k (Nat.le_refl _) hlt
        rw [HU.out.1, HU.out.2] at this
        exact this
      have HOW : Hid (0 < m → ∀ q, (Value.slice uo m uc).ownBlock = some q → z k ≤ q ∧ q < z (k + 1)) := by
        have := (HZ.out.2 k hlt).2.1
        rw [HU.out.1, HU.out.2] at this
        exact this
      have HC1 : Hid (c + 5 + m * 3 = sumN (markX T) (k + 1)) := by
        unfold Hid
        show _ = sumN (markX T) k + (5 + (T k).m * 3)
        rw [HC.out, HU.out.2]
        omega
      go_wp2_with fail
      refine (markItemS_turn _ (z k) m (T k).L _ _ (HIT.out _ _ _ _ _).1 (HIT.out _ _ _ _ _).2 hm (by omega) (by omega)).mono ?_
      rintro e w1 ⟨rfl, _, _, g1⟩
      have HM1 : Hid (MarkE w g n T U z (k + 1) w1) := (HM5.out _ _ _ _ _).next HZ.out.1 HZ.out.2 hlt (Within.of g1 (fun b q => by obtain ⟨h0, h1⟩ := turn_eq q; exact HOW.out h0 b h1))
      clear g1 HIT HM5 HR y0 y1 y2 y3 y4 y5 f0 f1 f2 f3 f4
      go_wp2
      go_roundw
      case rel => exact ⟨k + 1, c + 5 + m * 3, by omega, by congr 1; push_cast; omega, by go_num, HC1, HM1⟩
      case measure => simp [intOf]; omega
    · obtain rfl : k = n := by omega
      go_wp2
      go_ret
      exact ⟨by rw [HC.out]; rfl, HR.out.2.2⟩
end Go.Proofs.YtglcedhkbbckiaaGreat

namespace Go.Proofs.YtglcedhkbbckiaaGreat
open Go.RowKit

set_option maxHeartbeats 2000000 in
theorem markGroups_lim (nr : Nat) (F : Nat → Int) (n : Nat) (S : Nat → Sto) (ra : Option Addr) (rc g : Nat) (U : Nat → Nat → Value) (z : Nat → Nat) (lo : Nat) (w : World) (h : FineG w lo nr F n S ra rc g U z) (hr : nr ≤ 1048576) (hn : n ≤ 1048576) (hs : ∀ i, i < n → SmallS (S i)) (ht : sumN (sizeT S) n ≤ 1048576) :
    Calls Tryz.prog 50 #[.agg #[.slice ra nr rc, .slice (some ⟨g, 0, none⟩) n n], .int .i64 1] w fun e w' => ∃ k : Int, (0 ≤ k ∧ k ≤ 20000000) ∧ e = .returned (.int .i64 k) ∧ Within lo (z n) w w' := by
  have H : Hid (FineG w lo nr F n S ra rc g U z) := h
  have HN : Hid ((∀ i, i < n → SmallS (S i)) ∧ sumN (sizeT S) n ≤ 1048576) := ⟨hs, ht⟩
  clear h hs ht
  have hb2 := Blk2.new w (.slice ra nr rc) (.slice (some ⟨g, 0, none⟩) n n) 39
  have HB : Hid (Blk2 (w.alloc (.cells #[.slice ra nr rc, .slice (some ⟨g, 0, none⟩) n n] 39)) w.heap.size (.slice ra nr rc) (.slice (some ⟨g, 0, none⟩) n n)) := hb2
  clear hb2
  go_enter Tryz.func50, Tryz.ntmps50
  go_wp2_with fail
  refine (markRangeS_turn _ lo nr F 1 _ (H.out.1.1.alloc _) (H.out.1.2.1.ofRow H.out.1.1 (below_alloc _ _)) hr (by omega) (by omega)).mono ?_
  rintro e w1 ⟨rfl, _, _, g1⟩
  have hzn : g < z n := H.out.2.2.2.2.2.1 n (Nat.le_refl _)
  have hz0 : z 0 = g + 1 := H.out.2.2.2.2.1
  have hzs : z n ≤ w.heap.size := H.out.2.2.2.2.2.2
  have W1 : Hid (Within lo (g + 1) (w.alloc (.cells #[.slice ra nr rc, .slice (some ⟨g, 0, none⟩) n n] 39)) w1) := Within.of g1 (fun b q => by obtain ⟨h0, h1⟩ := turn_eq q; exact ⟨(H.out.1.1.lt h0 b h1).1, by have := H.out.1.2.2 h0 b h1; omega⟩)
  have g1b := g1.block w.heap.size (by simp) (fun q => by obtain ⟨h0, h1⟩ := turn_eq q.symm; have := (H.out.1.1.lt h0 _ h1).2; omega)
  have HB1 : Hid (Blk2 w1 w.heap.size (.slice ra nr rc) (.slice (some ⟨g, 0, none⟩) n n)) := HB.out.kept g1b
  have gg : w1.heap[g]? = w.heap[g]? := by
    have h1 := g1.block g (by have := H.out.2.2.1.1; simp; omega) (fun q => by obtain ⟨h0, h1⟩ := turn_eq q.symm; have := H.out.1.2.2 h0 _ h1; omega)
    exact h1.trans ((below_alloc w _).block g H.out.2.2.1.1)
  have FL : Hid (FillS w1 g n n U) := H.out.2.2.1.kept (Nat.le_trans (by simp) g1.size) gg
  have FI : Hid (Fine w1 z n S U) := fun i hi => by
    obtain ⟨⟨x1, x2, x3⟩, x4, x5⟩ := (H.out.2.2.2.1.later (below_alloc w (.cells #[.slice ra nr rc, .slice (some ⟨g, 0, none⟩) n n] 39))) i hi
    have ho : OwnIn (S i) (U i 0) (U i 1) (U i 2) (fun j => j < lo ∨ g + 1 ≤ j) := x4.mono (fun j hj => Or.inr (by have := H.out.2.2.2.1.up i (by omega) 0 (Nat.zero_le _); omega))
    exact ⟨⟨x1.within W1.out ho, x2.within x1 W1.out ho, x3⟩, x4, x5⟩
  have hs1 : z n ≤ w1.heap.size := Nat.le_trans hzs (Nat.le_trans (by simp) g1.size)
  clear g1 g1b gg
  obtain ⟨⟨p0, p1⟩, _⟩ := HB1.out
  go_wp2_with fail
  refine (markStoreS_any n n g S U z (1 + nr * 3) _ FL.out FI.out (by omega) hs1 HN.out.1 HN.out.2 (by omega) (by omega) hn).mono ?_
  rintro e w2 ⟨rfl, _, W2⟩
  have hlo : lo ≤ g := H.out.2.1
  have WW : Hid (Within lo (z n) w w2) := ((Within.grow (below_alloc w _)).trans (W1.out.mono (Nat.le_refl _) (by omega))).trans (W2.mono (by omega) (Nat.le_refl _))
  clear W2 W1 FL FI HB1 HB p0 p1
  go_wp2
  go_ret
  exact ⟨1 + nr * 3 + (sumN (markT S) n : Nat), ⟨by omega, by have := markT_le S n; have := HN.out.2; omega⟩, rfl, WW.out⟩
theorem FillT.withinW {w w' : World} {g n k B E : Nat} {T : Nat → Tx} {U : Nat → Value} (h : FillT w g n k T U) (hw : Within B E w w') (hg : g < B ∨ E ≤ g) : FillT w' g n k T U := Fil.within h hw hg
theorem FineT.withinW {w w' : World} {z : Nat → Nat} {n B E : Nat} {T : Nat → Tx} {U : Nat → Value} (h : FineT w z n T U) (hw : Within B E w w') (hz : ∀ i, i ≤ n → E ≤ z i) : FineT w' z n T U := fun i hi => by
  obtain ⟨⟨h1, h2, h3⟩, h4, h5⟩ := h i hi
  have ho : 0 < (T i).m → ∀ q, (U i).ownBlock = some q → q < B ∨ E ≤ q := fun h0 q hq => Or.inr (by have := (h4 h0 q hq).1; have := hz i (by omega); omega)
  exact ⟨⟨h1.within hw ho, h2.within h1 hw ho, h3⟩, h4, h5⟩
/-- A world of its own: its groups, then its transactions, block behind block. -/
def OwnW (w : World) (lo nr : Nat) (F : Nat → Int) (n : Nat) (S : Nat → Sto) (ra : Option Addr) (rc g : Nat) (U : Nat → Nat → Value) (z : Nat → Nat) (nt : Nat) (T : Nat → Tx) (gt : Nat) (Y : Nat → Value) (zt : Nat → Nat) : Prop :=
  FineG w lo nr F n S ra rc g U z ∧ (z n ≤ gt ∧ gt < w.heap.size ∧ FillT w gt nt nt T Y ∧ FineT w zt nt T Y ∧ zt 0 = gt + 1 ∧ (∀ i, i ≤ nt → gt < zt i) ∧ zt nt ≤ w.heap.size)
theorem OwnW.later {w w' : World} {lo nr : Nat} {F : Nat → Int} {n : Nat} {S : Nat → Sto} {ra : Option Addr} {rc g : Nat} {U : Nat → Nat → Value} {z : Nat → Nat} {nt : Nat} {T : Nat → Tx} {gt : Nat} {Y : Nat → Value} {zt : Nat → Nat} (h : OwnW w lo nr F n S ra rc g U z nt T gt Y zt) (hb : Below w.heap.size w w') : OwnW w' lo nr F n S ra rc g U z nt T gt Y zt :=
  ⟨h.1.later hb, h.2.1, Nat.lt_of_lt_of_le h.2.2.1 hb.size, Fil.later h.2.2.2.1 hb, h.2.2.2.2.1.later hb, h.2.2.2.2.2.1, h.2.2.2.2.2.2.1, Nat.le_trans h.2.2.2.2.2.2.2 hb.size⟩
set_option maxRecDepth 100000 in
set_option maxHeartbeats 4000000 in
theorem markWorld_any (nw nx bd : Int) (lo nr : Nat) (F : Nat → Int) (n : Nat) (S : Nat → Sto) (ra : Option Addr) (rc g : Nat) (U : Nat → Nat → Value) (z : Nat → Nat) (nt : Nat) (T : Nat → Tx) (gt : Nat) (Y : Nat → Value) (zt : Nat → Nat) (w : World) (h : OwnW w lo nr F n S ra rc g U z nt T gt Y zt) (hs : (nr ≤ 1048576 ∧ n ≤ 1048576 ∧ ∀ i, i < n → SmallS (S i)) ∧ nt ≤ 1048576 ∧ ∀ i, i < nt → (T i).m ≤ 1048576) (ht : sumN (sizeT S) n ≤ 1048576 ∧ sumN (sizeX T) nt ≤ 1048576) :
    Calls Tryz.prog 21 #[.agg #[.int .i64 nw, .int .i64 nx, .int .i64 bd, .slice ra nr rc, .slice (some ⟨g, 0, none⟩) n n, .slice (some ⟨gt, 0, none⟩) nt nt], .int .i64 1] w fun e w' => ∃ k : Int, 0 ≤ k ∧ e = .returned (.int .i64 k) ∧ Within lo (zt nt) w w' := by
  have H : Hid (OwnW (w.alloc (.cells #[.int .i64 nw, .int .i64 nx, .int .i64 bd, .slice ra nr rc, .slice (some ⟨g, 0, none⟩) n n, .slice (some ⟨gt, 0, none⟩) nt nt] 42)) lo nr F n S ra rc g U z nt T gt Y zt) := h.later (below_alloc _ _)
  have HB : Hid (Blk6 (w.alloc (.cells #[.int .i64 nw, .int .i64 nx, .int .i64 bd, .slice ra nr rc, .slice (some ⟨g, 0, none⟩) n n, .slice (some ⟨gt, 0, none⟩) nt nt] 42)) w.heap.size (.int .i64 nw) (.int .i64 nx) (.int .i64 bd) (.slice ra nr rc) (.slice (some ⟨g, 0, none⟩) n n) (.slice (some ⟨gt, 0, none⟩) nt nt)) := Blk6.new w _ _ _ _ _ _ _
  have hzt : zt nt ≤ w.heap.size := h.2.2.2.2.2.2.2
  have HN : Hid (((nr ≤ 1048576 ∧ n ≤ 1048576 ∧ ∀ i, i < n → SmallS (S i)) ∧ nt ≤ 1048576 ∧ ∀ i, i < nt → (T i).m ≤ 1048576) ∧ sumN (sizeT S) n ≤ 1048576 ∧ sumN (sizeX T) nt ≤ 1048576) := ⟨hs, ht⟩
  clear h hs ht
  go_enter Tryz.func21, Tryz.ntmps21
  go_wp2_with fail
  refine (markGroups_lim nr F n S ra rc g U z lo _ H.out.1 HN.out.1.1.1 HN.out.1.1.2.1 HN.out.1.1.2.2 HN.out.2.1).mono ?_
  rintro e w1 ⟨k, hk, rfl, W1⟩
  have hgt : zt 0 = gt + 1 := H.out.2.2.2.2.2.1
  have hzz := H.out.2.2.2.2.1.up nt (Nat.le_refl _) 0 (Nat.zero_le _)
  have hzg := H.out.2.1
  have HK : Hid (Blk6 w1 w.heap.size (.int .i64 nw) (.int .i64 nx) (.int .i64 bd) (.slice ra nr rc) (.slice (some ⟨g, 0, none⟩) n n) (.slice (some ⟨gt, 0, none⟩) nt nt)) := HB.out.kept (W1.block _ (by simp) (Or.inr (by omega)))
  have HT : Hid (FillT w1 gt nt nt T Y ∧ FineT w1 zt nt T Y ∧ ∀ i, i ≤ nt → gt < zt i) := ⟨H.out.2.2.2.1.withinW W1 (Or.inr hzg), H.out.2.2.2.2.1.withinW W1 (fun i hi => by have := H.out.2.2.2.2.2.2.1 i hi; omega), H.out.2.2.2.2.2.2.1⟩
  have HW1 : Hid (Within lo (zt nt) w w1) := (Within.grow (below_alloc w _)).trans (W1.mono (Nat.le_refl _) (by omega))
  have hlo : lo ≤ gt := by have := H.out.1.2.1; have := H.out.1.2.2.2.2.2.1 n (Nat.le_refl _); omega
  clear W1 H HB
  obtain ⟨⟨p0, p1, p2, p3, p4, p5⟩, _⟩ := HK.out
  go_wp2_with fail
  refine (markTxnS_any nt nt gt T Y zt k _ HT.out.1 HT.out.2.1 HT.out.2.2 HN.out.1.2.2 HN.out.2.2 hk.1 hk.2 HN.out.1.2.1).mono ?_
  rintro e w2 ⟨rfl, W2⟩
  have HW2 : Hid (Within lo (zt nt) w w2) := HW1.out.trans (W2.mono hlo (Nat.le_refl _))
  clear W2 HW1 HT HK p0 p1 p2 p3 p4 p5
  go_wp2
  go_ret
  exact ⟨_, by omega, rfl, HW2.out⟩
end Go.Proofs.YtglcedhkbbckiaaGreat

namespace Go.Proofs.YtglcedhkbbckiaaGreat
open Go.RowKit

/-- What the law stands on: its argument (block w.heap.size), what the model answered (block W), the program's copy (block q, its lists its own), what the program answered (block G). -/
structure EnvC (w : World) (nw nx bd : Int) (vr vs vt : Value) (W : Nat) (c : Int) (vw : Value) (q : Nat) (ur us ut : Value) (G : Nat) (vg : Value) (m : Nat) (R : Nat → Int) (lg : Nat) (x : World) : Prop where
  below : Below w.heap.size w x
  arg : Blk6 x w.heap.size (.int .i64 nw) (.int .i64 nx) (.int .i64 bd) vr vs vt
  want : Blk2 x W (.int .i64 c) vw
  copy : Blk6 x q (.int .i64 nw) (.int .i64 nx) (.int .i64 bd) ur us ut
  got : Blk2 x G (.int .i64 c) vg
  rw : Row x w.heap.size 2 m R vw
  rg : Row x lg 2 m R vg
  fg : Free x (m * 2) vg
theorem EnvC.later {w : World} {nw nx bd : Int} {vr vs vt : Value} {W : Nat} {c : Int} {vw : Value} {q : Nat} {ur us ut : Value} {G : Nat} {vg : Value} {m : Nat} {R : Nat → Int} {lg : Nat} {x x' : World} (h : EnvC w nw nx bd vr vs vt W c vw q ur us ut G vg m R lg x) (hb : Below x.heap.size x x') : EnvC w nw nx bd vr vs vt W c vw q ur us ut G vg m R lg x' :=
  ⟨h.below.trans (hb.mono h.below.size), h.arg.later hb, h.want.later hb, h.copy.later hb, h.got.later hb, h.rw.later hb, h.rg.later hb, h.fg.ofRow h.rg hb⟩
theorem EnvC.within {w : World} {nw nx bd : Int} {vr vs vt : Value} {W : Nat} {c : Int} {vw : Value} {q : Nat} {ur us ut : Value} {G : Nat} {vg : Value} {m : Nat} {R : Nat → Int} {lg : Nat} {x x' : World} {B E : Nat} (h : EnvC w nw nx bd vr vs vt W c vw q ur us ut G vg m R lg x) (hw : Within B E x x') (hB : w.heap.size < B) (hW : W < B) (hq : E ≤ q) (hG : E ≤ G) (ow : 0 < m → ∀ k, vw.ownBlock = some k → k < B) (og : 0 < m → ∀ k, vg.ownBlock = some k → E ≤ k) : EnvC w nw nx bd vr vs vt W c vw q ur us ut G vg m R lg x' :=
  ⟨hw.below h.below (Nat.le_of_lt hB), h.arg.kept (hw.block _ h.arg.lt (Or.inl hB)), h.want.kept (hw.block _ h.want.lt (Or.inl hW)), h.copy.kept (hw.block _ h.copy.lt (Or.inr hq)), h.got.kept (hw.block _ h.got.lt (Or.inr hG)), h.rw.within hw (fun h0 k hk => Or.inl (ow h0 k hk)), h.rg.within hw (fun h0 k hk => Or.inr (og h0 k hk)), h.fg.within h.rg hw (fun h0 k hk => Or.inr (og h0 k hk))⟩
theorem OwnW.grs {w : World} {lo nr : Nat} {F : Nat → Int} {n : Nat} {S : Nat → Sto} {ra : Option Addr} {rc g : Nat} {U : Nat → Nat → Value} {z : Nat → Nat} {nt : Nat} {T : Nat → Tx} {gt : Nat} {Y : Nat → Value} {zt : Nat → Nat} (h : OwnW w lo nr F n S ra rc g U z nt T gt Y zt) : Grs w 0 nr F n S U (.slice ra nr rc) (.slice (some ⟨g, 0, none⟩) n n) ∧ Txs w 0 nt T Y (.slice (some ⟨gt, 0, none⟩) nt nt) := by
  obtain ⟨hF, _, hgt, hfil, hfin, _⟩ := h
  refine ⟨hF.grs.mono (Nat.zero_le _), ⟨⟨_, _, rfl, fun _ => ⟨gt, 0, rfl, Nat.zero_le _, hgt, fun i hi j hj => ?_⟩⟩, fun i hi => ⟨(hfin i hi).1.1.mono (Nat.zero_le _), (hfin i hi).1.2.2⟩⟩⟩
  rw [Nat.zero_add]
  exact hfil.cell (Nat.le_refl _) hi hj
theorem NewWd.own {w w' : World} {nw nx bd : Int} {nr : Nat} {F : Nat → Int} {n : Nat} {S : Nat → Sto} {nt : Nat} {T : Nat → Tx} {e : Ending} (h : NewWd w nw nx bd nr F n S nt T e w') :
    ∃ ra rc g U z gt Y zt, e = .returned (.agg #[.int .i64 nw, .int .i64 nx, .int .i64 bd, .slice ra nr rc, .slice (some ⟨g, 0, none⟩) n n, .slice (some ⟨gt, 0, none⟩) nt nt]) ∧ OwnW w' w.heap.size nr F n S ra rc g U z nt T gt Y zt ∧ Below w.heap.size w w' := by
  obtain ⟨ra, rc, g, U, z, gt, Y, zt, he, hF, hT, hb⟩ := h
  exact ⟨ra, rc, g, U, z, gt, Y, zt, he, ⟨hF, hT⟩, hb⟩
set_option maxRecDepth 100000 in
set_option maxHeartbeats 8000000 in
theorem committed_walk (nw nx bd : Int) (nr : Nat) (F : Nat → Int) (n : Nat) (S : Nat → Sto) (V : Nat → Nat → Value) (vr vs : Value) (nt : Nat) (T : Nat → Tx) (X : Nat → Value) (vt : Value) (w : World) (h : Grs w 0 nr F n S V vr vs) (hx : Txs w 0 nt T X vt) (hr : nr ≤ 9223372036854775807) (hn : n ≤ 9223372036854775807) (hs : ∀ i, i < n → BigS (S i)) (hnt : nt ≤ 9223372036854775807) (hm : ∀ i, i < nt → (T i).m ≤ 9223372036854775807) :
    Calls Tryz.prog 6 #[.agg #[.int .i64 nw, .int .i64 nx, .int .i64 bd, vr, vs, vt]] w fun e w' => e = .returned (.bool true) ∧ Below w.heap.size w w' := by
  obtain ⟨a0, c0, a1, c1, rfl, rfl⟩ := h.form
  obtain ⟨a2, c2, rfl⟩ := hx.form
  have HG : Hid (Grs w 0 nr F n S V (.slice a0 nr c0) (.slice a1 n c1) ∧ Txs w 0 nt T X (.slice a2 nt c2)) := ⟨h, hx⟩
  have HN : Hid ((∀ i, i < n → BigS (S i)) ∧ ∀ i, i < nt → (T i).m ≤ 9223372036854775807) := ⟨hs, hm⟩
  have H : Hid (Blk6 (w.alloc (.cells #[.int .i64 nw, .int .i64 nx, .int .i64 bd, .slice a0 nr c0, .slice a1 n c1, .slice a2 nt c2] 30)) w.heap.size (.int .i64 nw) (.int .i64 nx) (.int .i64 bd) (.slice a0 nr c0) (.slice a1 n c1) (.slice a2 nt c2) ∧ Below w.heap.size w (w.alloc (.cells #[.int .i64 nw, .int .i64 nx, .int .i64 bd, .slice a0 nr c0, .slice a1 n c1, .slice a2 nt c2] 30))) := ⟨Blk6.new w _ _ _ _ _ _ _, below_alloc _ _⟩
  clear h hx hs hm
  obtain ⟨c, L, hL16, hans⟩ := CmAns.get nw nx bd nr F n S nt T
  obtain ⟨G, hG⟩ : ∃ G, rowL L = G := ⟨_, rfl⟩
  obtain ⟨m, hmm⟩ : ∃ m, L.length = m := ⟨_, rfl⟩
  rw [hmm] at hL16
  have hm : m ≤ 1048576 := by omega
  have hnn : decide ((1 : Int) + m * 2 < 0) = false := decide_eq_false (by omega)
  have HF : Hid (∀ (U : Nat → Nat → Value) (ur us : Value) (Y : Nat → Value) (ut : Value) (x : World), Grs x 0 nr F n S U ur us → Txs x 0 nt T Y ut → nr ≤ 1048576 → n ≤ 1048576 → nt ≤ 1048576 → (∀ i, i < nt → (T i).m ≤ 1048576) → Calls Tryz.prog 18 #[.agg #[.int .i64 nw, .int .i64 nx, .int .i64 bd, ur, us, ut]] x (ResRow 2 x c m G) ∧ Calls Tryz.prog 19 #[.agg #[.int .i64 nw, .int .i64 nx, .int .i64 bd, ur, us, ut]] x (ResRow 2 x c m G)) := fun U ur us Y ut x q1 q2 b1 b2 b3 b4 => by
    rw [← hG, ← hmm]
    exact ⟨specCommitted_is nw nx bd nr F n S U ur us nt T Y ut 0 c L x q1 q2 (by omega) (by omega) (by omega) (fun i hi => by have := b4 i hi; omega) hans, implCommitted_is nw nx bd nr F n S U ur us nt T Y ut 0 c L x q1 q2 (by omega) (by omega) (by omega) (fun i hi => by have := b4 i hi; omega) hans⟩
  clear hans hG hmm hL16
  go_enter Tryz.func6, Tryz.ntmps6
  go_wp2_with fail
  refine (szWorld_any nw nx bd nr F n S V _ _ nt T X _ 0 _ (HG.out.1.alloc _) (HG.out.2.alloc _) hr hn HN.out.1 hnt HN.out.2).mono ?_
  rintro e w1 ⟨r, rfl, hA, q1⟩
  have H1 : Hid (Blk6 w1 w.heap.size (.int .i64 nw) (.int .i64 nx) (.int .i64 bd) (.slice a0 nr c0) (.slice a1 n c1) (.slice a2 nt c2) ∧ Below w.heap.size w w1) := ⟨H.out.1.later q1, H.out.2.trans (q1.mono H.out.2.size)⟩
  clear q1 H
  rcases hA with rfl | ⟨h1, ⟨h2, h3, hsum, h4⟩, h5, hsux, h6⟩
  · go_wp2
    go_ret
    exact ⟨rfl, H1.out.2⟩
  have HB : Hid ((nr ≤ 1048576 ∧ n ≤ 1048576 ∧ ∀ i, i < n → SmallS (S i)) ∧ nt ≤ 1048576 ∧ ∀ i, i < nt → (T i).m ≤ 1048576) := ⟨⟨h2, h3, h4⟩, h5, h6⟩
  have HSU : Hid (sumN (sizeT S) n ≤ 1048576 ∧ sumN (sizeX T) nt ≤ 1048576) := ⟨hsum, hsux⟩
  have dr : decide (r < 0) = false := decide_eq_false (by omega)
  clear h1 h2 h3 h4 h5 h6 hr hn HN hnt hsum hsux
  obtain ⟨⟨p0, p1, p2, p3, p4, p5⟩, _⟩ := H1.out.1
  go_wp2_with fail
  refine (toWorld_any nw nx bd nr F n S V _ _ nt T X _ 0 _ (HG.out.1.later H1.out.2) (HG.out.2.later H1.out.2) HB.out.1 HB.out.2).mono ?_
  intro e w2 hN2
  obtain ⟨ra, rc, g, U, z, gt, Y, zt, rfl, o2, q2⟩ := hN2.own
  have H2 : Hid (Blk6 w2 w.heap.size (.int .i64 nw) (.int .i64 nx) (.int .i64 bd) (.slice a0 nr c0) (.slice a1 n c1) (.slice a2 nt c2) ∧ Below w.heap.size w w2) := ⟨H1.out.1.later q2, H1.out.2.trans (q2.mono H1.out.2.size)⟩
  have G2 := HF.out _ _ _ _ _ _ o2.grs.1 o2.grs.2 HB.out.1.1 HB.out.1.2.1 HB.out.2.1 HB.out.2.2
  clear q2 hN2 o2 H1 p0 p1 p2 p3 p4 p5
  go_wp2_with fail
  refine G2.1.mono ?_
  clear G2
  rintro e w3 ⟨ow, pw, rfl, rw3, _, q3⟩
  have H3 : Hid (Blk6 w3 w.heap.size (.int .i64 nw) (.int .i64 nx) (.int .i64 bd) (.slice a0 nr c0) (.slice a1 n c1) (.slice a2 nt c2) ∧ Below w.heap.size w w3) := ⟨H2.out.1.later q3, H2.out.2.trans (q3.mono H2.out.2.size)⟩
  have P3 : Hid (((Blk6 (w3.alloc (.cells #[.int .i64 c, .slice ow m pw] 50)) w.heap.size (.int .i64 nw) (.int .i64 nx) (.int .i64 bd) (.slice a0 nr c0) (.slice a1 n c1) (.slice a2 nt c2) ∧ Below w.heap.size w (w3.alloc (.cells #[.int .i64 c, .slice ow m pw] 50))) ∧ Blk2 (w3.alloc (.cells #[.int .i64 c, .slice ow m pw] 50)) w3.heap.size (.int .i64 c) (.slice ow m pw)) ∧ Row (w3.alloc (.cells #[.int .i64 c, .slice ow m pw] 50)) w.heap.size 2 m G (.slice ow m pw)) := ⟨⟨⟨H3.out.1.alloc _, H3.out.2.alloc H3.out.2.size _⟩, Blk2.new w3 _ _ _⟩, (rw3.mono H2.out.2.size).alloc _⟩
  have LW : Hid (0 < m → ∀ k, (Value.slice ow m pw).ownBlock = some k → k < w3.heap.size) := fun h0 k hk => (rw3.lt h0 k hk).2
  have z3 : Hid (w.heap.size < w3.heap.size) := H3.out.1.lt
  clear q3 rw3 H2 H3
  obtain ⟨⟨p0, p1, p2, p3, p4, p5⟩, _⟩ := P3.out.1.1.1
  go_wp2_with fail
  refine (toWorld_any nw nx bd nr F n S V _ _ nt T X _ 0 _ (HG.out.1.later P3.out.1.1.2) (HG.out.2.later P3.out.1.1.2) HB.out.1 HB.out.2).mono ?_
  intro e w4 hN4
  obtain ⟨rb, rd, g4, U4, z4, gt4, Y4, zt4, rfl, o4, q4⟩ := hN4.own
  have zs4 : Hid (w3.heap.size + 1 ≤ w4.heap.size ∧ zt4 nt ≤ w4.heap.size) := ⟨by have := q4.size; simp at this; omega, o4.2.2.2.2.2.2.2⟩
  have O4 : Hid (OwnW (w4.alloc (.cells #[.int .i64 nw, .int .i64 nx, .int .i64 bd, .slice rb nr rd, .slice (some ⟨g4, 0, none⟩) n n, .slice (some ⟨gt4, 0, none⟩) nt nt] 42)) (w3.heap.size + 1) nr F n S rb rd g4 U4 z4 nt T gt4 Y4 zt4) := by
    rw [World.size_alloc] at o4
    exact o4.later (below_alloc _ _)
  have P4 : Hid ((((Blk6 (w4.alloc (.cells #[.int .i64 nw, .int .i64 nx, .int .i64 bd, .slice rb nr rd, .slice (some ⟨g4, 0, none⟩) n n, .slice (some ⟨gt4, 0, none⟩) nt nt] 42)) w.heap.size (.int .i64 nw) (.int .i64 nx) (.int .i64 bd) (.slice a0 nr c0) (.slice a1 n c1) (.slice a2 nt c2) ∧ Below w.heap.size w (w4.alloc (.cells #[.int .i64 nw, .int .i64 nx, .int .i64 bd, .slice rb nr rd, .slice (some ⟨g4, 0, none⟩) n n, .slice (some ⟨gt4, 0, none⟩) nt nt] 42))) ∧ Blk2 (w4.alloc (.cells #[.int .i64 nw, .int .i64 nx, .int .i64 bd, .slice rb nr rd, .slice (some ⟨g4, 0, none⟩) n n, .slice (some ⟨gt4, 0, none⟩) nt nt] 42)) w3.heap.size (.int .i64 c) (.slice ow m pw)) ∧ Row (w4.alloc (.cells #[.int .i64 nw, .int .i64 nx, .int .i64 bd, .slice rb nr rd, .slice (some ⟨g4, 0, none⟩) n n, .slice (some ⟨gt4, 0, none⟩) nt nt] 42)) w.heap.size 2 m G (.slice ow m pw)) ∧ Blk6 (w4.alloc (.cells #[.int .i64 nw, .int .i64 nx, .int .i64 bd, .slice rb nr rd, .slice (some ⟨g4, 0, none⟩) n n, .slice (some ⟨gt4, 0, none⟩) nt nt] 42)) w4.heap.size (.int .i64 nw) (.int .i64 nx) (.int .i64 bd) (.slice rb nr rd) (.slice (some ⟨g4, 0, none⟩) n n) (.slice (some ⟨gt4, 0, none⟩) nt nt)) :=
    ⟨⟨⟨⟨(P3.out.1.1.1.later q4).alloc _, (P3.out.1.1.2.trans (q4.mono P3.out.1.1.2.size)).alloc (Nat.le_trans P3.out.1.1.2.size q4.size) _⟩, (P3.out.1.2.later q4).alloc _⟩, (P3.out.2.later q4).alloc _⟩, Blk6.new _ _ _ _ _ _ _ _⟩
  have s5 : Hid (w4.heap.size < (w4.alloc (.cells #[.int .i64 nw, .int .i64 nx, .int .i64 bd, .slice rb nr rd, .slice (some ⟨g4, 0, none⟩) n n, .slice (some ⟨gt4, 0, none⟩) nt nt] 42)).heap.size) := by unfold Hid; simp
  clear q4 hN4 o4 P3 p0 p1 p2 p3 p4 p5
  go_wp2_with fail
  generalize w4.alloc (.cells #[.int .i64 nw, .int .i64 nx, .int .i64 bd, .slice rb nr rd, .slice (some ⟨g4, 0, none⟩) n n, .slice (some ⟨gt4, 0, none⟩) nt nt] 42) = w5 at O4 P4 s5 ⊢
  refine (HF.out _ _ _ _ _ _ O4.out.grs.1 O4.out.grs.2 HB.out.1.1 HB.out.1.2.1 HB.out.2.1 HB.out.2.2).2.mono ?_
  rintro e w6 ⟨og, pg, rfl, rg6, fg6, q6⟩
  have E6 : Hid (EnvC w nw nx bd (.slice a0 nr c0) (.slice a1 n c1) (.slice a2 nt c2) w3.heap.size c (.slice ow m pw) w4.heap.size (.slice rb nr rd) (.slice (some ⟨g4, 0, none⟩) n n) (.slice (some ⟨gt4, 0, none⟩) nt nt) w6.heap.size (.slice og m pg) m G w5.heap.size (w6.alloc (.cells #[.int .i64 c, .slice og m pg] 50))) :=
    ⟨(P4.out.1.1.1.2.trans (q6.mono P4.out.1.1.1.2.size)).alloc (Nat.le_trans P4.out.1.1.1.2.size q6.size) _, (P4.out.1.1.1.1.later q6).alloc _, (P4.out.1.1.2.later q6).alloc _, (P4.out.2.later q6).alloc _, Blk2.new _ _ _ _, (P4.out.1.2.later q6).alloc _, rg6.alloc _, fg6.ofRow rg6 (below_alloc _ _)⟩
  have O6 : Hid (OwnW (w6.alloc (.cells #[.int .i64 c, .slice og m pg] 50)) (w3.heap.size + 1) nr F n S rb rd g4 U4 z4 nt T gt4 Y4 zt4) := (O4.out.later q6).later (below_alloc _ _)
  have LG : Hid ((0 < m → ∀ k, (Value.slice og m pg).ownBlock = some k → w5.heap.size ≤ k ∧ k < w6.heap.size) ∧ w5.heap.size ≤ w6.heap.size) := ⟨fun h0 k hk => rg6.lt h0 k hk, q6.size⟩
  obtain ⟨⟨t0, t1⟩, _⟩ := P4.out.1.1.2.later q6
  have hl := (P4.out.1.1.2.later q6).lt
  clear q6 rg6 fg6 O4 P4
  go_wp2_with fail
  refine (eqDonesResult_same c m _ _ _ _ _ _ G _ E6.out.rg E6.out.rw hm).mono ?_
  rintro e w7 ⟨rfl, q7⟩
  have E7 : Hid (EnvC w nw nx bd (.slice a0 nr c0) (.slice a1 n c1) (.slice a2 nt c2) w3.heap.size c (.slice ow m pw) w4.heap.size (.slice rb nr rd) (.slice (some ⟨g4, 0, none⟩) n n) (.slice (some ⟨gt4, 0, none⟩) nt nt) w6.heap.size (.slice og m pg) m G w5.heap.size w7) := E6.out.later q7
  have O7 : Hid (OwnW w7 (w3.heap.size + 1) nr F n S rb rd g4 U4 z4 nt T gt4 Y4 zt4) := O6.out.later q7
  clear q7 E6 O6 t0 t1 hl
  go_wp2_with fail
  refine wp_region_held_drew (S := fun x : World => (EnvC w nw nx bd (.slice a0 nr c0) (.slice a1 n c1) (.slice a2 nt c2) w3.heap.size c (.slice ow m pw) w4.heap.size (.slice rb nr rd) (.slice (some ⟨g4, 0, none⟩) n n) (.slice (some ⟨gt4, 0, none⟩) nt nt) w6.heap.size (.slice og m pg) m G w5.heap.size x) ∧ OwnW x (w3.heap.size + 1) nr F n S rb rd g4 U4 z4 nt T gt4 Y4 zt4) (by kernel_rfl) ⟨E7.out.later (Below.drew (Below.refl _ _)), O7.out.later (Below.drew (Below.refl _ _))⟩ (fun hS => ?_)
  clear E7 O7
  refine tkH 0 ?_ hS (fun wx hx => ?_) ?_; rotate_left
  · obtain ⟨⟨hx0, hx1, hx2, hx3, hx4, hx5⟩, _⟩ := hx.1.arg; obtain ⟨⟨hy0, hy1, hy2, hy3, hy4, hy5⟩, _⟩ := hx.1.copy; go_simp; try with_reducible rfl
  refine tkH 1 ?_ hS (fun wx hx => ?_) ?_; rotate_left
  · obtain ⟨⟨hx0, hx1, hx2, hx3, hx4, hx5⟩, _⟩ := hx.1.arg; obtain ⟨⟨hy0, hy1, hy2, hy3, hy4, hy5⟩, _⟩ := hx.1.copy; go_simp; try with_reducible rfl
  refine rdH 2 (fun K hK => ?_)
  go_simp
  go_wp2_with fail
  refine (toWorld_any nw nx bd nr F n S V _ _ nt T X _ 0 _ (HG.out.1.later hS.1.below) (HG.out.2.later hS.1.below) HB.out.1 HB.out.2).mono ?_
  intro e w8 hN8
  obtain ⟨re, rf, g8, U8, z8, gt8, Y8, zt8, rfl, o8, q8⟩ := hN8.own
  have G8 : Hid (Grs w8 0 nr F n S U8 (.slice re nr rf) (.slice (some ⟨g8, 0, none⟩) n n) ∧ Txs w8 0 nt T Y8 (.slice (some ⟨gt8, 0, none⟩) nt nt)) := o8.grs
  have hS' := (show _ ∧ _ from ⟨hS.1.later q8, hS.2.later q8⟩)
  clear q8 hN8 o8
  go_wp2_with fail
  refine hK.out _ _ hS' (fun hS => ?_)
  clear hK K hS'
  refine rdH 3 (fun K hK => ?_)
  go_simp
  go_wp2_with fail
  refine (eqWorldT_same nw nx bd nr F n S U4 U8 _ _ _ _ _ _ _ _ nt T Y4 Y8 _ _ _ _ 0 0 _ hS.2.grs.1 G8.out.1 hS.2.grs.2 G8.out.2 HB.out.1 HB.out.2).mono ?_
  rintro e w9 ⟨rfl, q9⟩
  have hS' := (show _ ∧ _ from ⟨hS.1.later q9, hS.2.later q9⟩)
  clear q9 G8
  go_wp2_with fail
  refine hK.out _ _ hS' (fun hS => ?_)
  clear hK K hS'
  refine tkH 4 ?_ hS (fun wx hx => ?_) ?_; rotate_left
  · obtain ⟨⟨hx0, hx1, hx2, hx3, hx4, hx5⟩, _⟩ := hx.1.arg; obtain ⟨⟨hy0, hy1, hy2, hy3, hy4, hy5⟩, _⟩ := hx.1.copy; go_simp; try with_reducible rfl
  refine wpAnyH_done (by kernel_rfl) ?_ _
  have E9 : Hid (EnvC w nw nx bd (.slice a0 nr c0) (.slice a1 n c1) (.slice a2 nt c2) w3.heap.size c (.slice ow m pw) w4.heap.size (.slice rb nr rd) (.slice (some ⟨g4, 0, none⟩) n n) (.slice (some ⟨gt4, 0, none⟩) nt nt) w6.heap.size (.slice og m pg) m G w5.heap.size w9) := hS.1
  have O9 : Hid (OwnW w9 (w3.heap.size + 1) nr F n S rb rd g4 U4 z4 nt T gt4 Y4 zt4) := hS.2
  clear hS
  go_simp
  obtain ⟨⟨p0, p1, p2, p3, p4, p5⟩, _⟩ := E9.out.copy
  go_wp2_with fail
  refine (markWorld_any nw nx bd _ nr F n S rb rd g4 U4 z4 nt T gt4 Y4 zt4 _ O9.out HB.out HSU.out).mono ?_
  rintro e wA ⟨kA, hkA, rfl, WA⟩
  have dk : decide (kA < 0) = false := decide_eq_false (by omega)
  have EA : Hid (EnvC w nw nx bd (.slice a0 nr c0) (.slice a1 n c1) (.slice a2 nt c2) w3.heap.size c (.slice ow m pw) w4.heap.size (.slice rb nr rd) (.slice (some ⟨g4, 0, none⟩) n n) (.slice (some ⟨gt4, 0, none⟩) nt nt) w6.heap.size (.slice og m pg) m G w5.heap.size wA) := E9.out.within WA (by have := z3.out; omega) (by omega) (by have := zs4.out.2; omega) (by have := zs4.out.2; have := s5.out; have := LG.out.2; omega) (fun h0 k hk => by have := LW.out h0 k hk; omega) (fun h0 k hk => by have := (LG.out.1 h0 k hk).1; have := zs4.out.2; have := s5.out; omega)
  clear WA hkA E9 O9 p0 p1 p2 p3 p4 p5
  obtain ⟨⟨t0, t1⟩, _⟩ := EA.out.want
  obtain ⟨⟨g0, g1⟩, _⟩ := EA.out.got
  go_wp2_with fail
  refine (eqDonesResult_same c m _ _ _ _ _ _ G _ EA.out.rg EA.out.rw hm).mono ?_
  rintro e wB ⟨rfl, qB⟩
  have EB : Hid (EnvC w nw nx bd (.slice a0 nr c0) (.slice a1 n c1) (.slice a2 nt c2) w3.heap.size c (.slice ow m pw) w4.heap.size (.slice rb nr rd) (.slice (some ⟨g4, 0, none⟩) n n) (.slice (some ⟨gt4, 0, none⟩) nt nt) w6.heap.size (.slice og m pg) m G w5.heap.size wB) := EA.out.later qB
  clear qB EA t0 t1 g0 g1
  obtain ⟨⟨g0, g1⟩, _⟩ := EB.out.got
  go_wp2_with fail
  refine (markDonesResult_any c m _ _ _ G _ EB.out.rg EB.out.fg hm).mono ?_
  rintro e wC ⟨rfl, mC, gC⟩
  have WC : Within w5.heap.size w6.heap.size wB wC := Within.of gC (turn_off LG.out.1)
  have EC : Hid ((Below w.heap.size w wC ∧ Blk6 wC w.heap.size (.int .i64 nw) (.int .i64 nx) (.int .i64 bd) (.slice a0 nr c0) (.slice a1 n c1) (.slice a2 nt c2)) ∧ (Blk2 wC w3.heap.size (.int .i64 c) (.slice ow m pw) ∧ Row wC w.heap.size 2 m G (.slice ow m pw)) ∧ Blk2 wC w6.heap.size (.int .i64 c) (.slice og m pg) ∧ Row wC w5.heap.size 2 m (fun p => 1 + (p : Nat)) (.slice og m pg)) := by
    have a1 := z3.out
    have a2 := zs4.out.1
    have a3 := s5.out
    exact ⟨⟨WC.below EB.out.below (by omega), EB.out.arg.kept (WC.block _ EB.out.arg.lt (Or.inl (by omega)))⟩, ⟨EB.out.want.kept (WC.block _ EB.out.want.lt (Or.inl (by omega))), EB.out.rw.within WC (fun h0 k hk => Or.inl (by have := LW.out h0 k hk; omega))⟩, EB.out.got.kept (WC.block _ EB.out.got.lt (Or.inr (Nat.le_refl _))), mC⟩
  clear WC gC mC EB g0 g1
  obtain ⟨⟨g0, g1⟩, _⟩ := EC.out.2.2.1
  go_wp2_with fail
  refine (heldDonesResult_any c m _ _ _ _ EC.out.2.2.2 hm).mono ?_
  rintro e wD ⟨rfl, qD⟩
  have ED : Hid ((Below w.heap.size w wD ∧ Blk6 wD w.heap.size (.int .i64 nw) (.int .i64 nx) (.int .i64 bd) (.slice a0 nr c0) (.slice a1 n c1) (.slice a2 nt c2)) ∧ (Blk2 wD w3.heap.size (.int .i64 c) (.slice ow m pw) ∧ Row wD w.heap.size 2 m G (.slice ow m pw)) ∧ Blk2 wD w6.heap.size (.int .i64 c) (.slice og m pg) ∧ Row wD w5.heap.size 2 m (fun p => 1 + (p : Nat)) (.slice og m pg)) := ⟨⟨EC.out.1.1.trans (qD.mono EC.out.1.1.size), EC.out.1.2.later qD⟩, ⟨EC.out.2.1.1.later qD, EC.out.2.1.2.later qD⟩, EC.out.2.2.1.later qD, EC.out.2.2.2.later qD⟩
  clear qD EC g0 g1
  obtain ⟨⟨p0, p1, p2, p3, p4, p5⟩, _⟩ := ED.out.1.2
  go_wp2_with fail
  refine (toWorld_any nw nx bd nr F n S V _ _ nt T X _ 0 _ (HG.out.1.later ED.out.1.1) (HG.out.2.later ED.out.1.1) HB.out.1 HB.out.2).mono ?_
  intro e wE hNE
  obtain ⟨rg, rh, gE, UE, zE, gtE, YE, ztE, rfl, oE, qE⟩ := hNE.own
  have EE : Hid (Below w.heap.size w wE ∧ (Blk2 wE w3.heap.size (.int .i64 c) (.slice ow m pw) ∧ Row wE w.heap.size 2 m G (.slice ow m pw)) ∧ Blk2 wE w6.heap.size (.int .i64 c) (.slice og m pg) ∧ Row wE w5.heap.size 2 m (fun p => 1 + (p : Nat)) (.slice og m pg)) := ⟨ED.out.1.1.trans (qE.mono ED.out.1.1.size), ⟨ED.out.2.1.1.later qE, ED.out.2.1.2.later qE⟩, ED.out.2.2.1.later qE, ED.out.2.2.2.later qE⟩
  have GE := HF.out _ _ _ _ _ _ oE.grs.1 oE.grs.2 HB.out.1.1 HB.out.1.2.1 HB.out.2.1 HB.out.2.2
  clear qE hNE oE ED p0 p1 p2 p3 p4 p5
  go_wp2_with fail
  refine GE.2.mono ?_
  clear GE
  rintro e wF ⟨oh, ph, rfl, rhF, _, qF⟩
  have EF : Hid (Below w.heap.size w (wF.alloc (.cells #[.int .i64 c, .slice oh m ph] 50)) ∧ Row (wF.alloc (.cells #[.int .i64 c, .slice oh m ph] 50)) w.heap.size 2 m G (.slice ow m pw) ∧ Blk2 (wF.alloc (.cells #[.int .i64 c, .slice oh m ph] 50)) w6.heap.size (.int .i64 c) (.slice og m pg) ∧ Row (wF.alloc (.cells #[.int .i64 c, .slice oh m ph] 50)) w5.heap.size 2 m (fun p => 1 + (p : Nat)) (.slice og m pg) ∧ Row (wF.alloc (.cells #[.int .i64 c, .slice oh m ph] 50)) 0 2 m G (.slice oh m ph)) := ⟨(EE.out.1.trans (qF.mono EE.out.1.size)).alloc (Nat.le_trans EE.out.1.size qF.size) _, (EE.out.2.1.2.later qF).alloc _, (EE.out.2.2.1.later qF).alloc _, (EE.out.2.2.2.later qF).alloc _, (rhF.mono (Nat.zero_le _)).alloc _⟩
  obtain ⟨⟨t0, t1⟩, _⟩ := EE.out.2.1.1.later qF
  have hl := (EE.out.2.1.1.later qF).lt
  clear qF rhF EE
  go_wp2_with fail
  refine (eqDonesResult_same c m _ _ _ _ _ _ G _ EF.out.2.2.2.2 EF.out.2.1 hm).mono ?_
  rintro e wG ⟨rfl, qG⟩
  have EG : Hid (Below w.heap.size w wG ∧ Blk2 wG w6.heap.size (.int .i64 c) (.slice og m pg) ∧ Row wG w5.heap.size 2 m (fun p => 1 + (p : Nat)) (.slice og m pg)) := ⟨EF.out.1.trans (qG.mono EF.out.1.size), EF.out.2.2.1.later qG, EF.out.2.2.2.1.later qG⟩
  clear qG EF t0 t1 hl
  obtain ⟨⟨g0, g1⟩, _⟩ := EG.out.2.1
  go_wp2_with fail
  refine (heldDonesResult_any c m _ _ _ _ EG.out.2.2 hm).mono ?_
  rintro e wH ⟨rfl, qH⟩
  have EH : Hid (Below w.heap.size w wH) := EG.out.1.trans (qH.mono EG.out.1.size)
  clear qH EG g0 g1
  go_wp2
  go_ret
  exact ⟨rfl, EH.out⟩
end Go.Proofs.YtglcedhkbbckiaaGreat

namespace Go.Proofs.YtglcedhkbbckiaaGreat
open Go.RowKit

/-- What the law's last region stands on: its argument, and the copy that the program was given. -/
def TwoD (w : World) (nw nx bd : Int) (vr vs vt : Value) (q : Nat) (ur us ut : Value) (x : World) : Prop := Below w.heap.size w x ∧ Blk6 x w.heap.size (.int .i64 nw) (.int .i64 nx) (.int .i64 bd) vr vs vt ∧ Blk6 x q (.int .i64 nw) (.int .i64 nx) (.int .i64 bd) ur us ut
theorem TwoD.later {w x x' : World} {nw nx bd : Int} {vr vs vt ur us ut : Value} {q : Nat} (h : TwoD w nw nx bd vr vs vt q ur us ut x) (hb : Below x.heap.size x x') : TwoD w nw nx bd vr vs vt q ur us ut x' := ⟨h.1.trans (hb.mono h.1.size), h.2.1.later hb, h.2.2.later hb⟩
theorem NewWd.rows {w w' : World} {nw nx bd : Int} {nr : Nat} {F : Nat → Int} {n : Nat} {S : Nat → Sto} {nt : Nat} {T : Nat → Tx} {e : Ending} (h : NewWd w nw nx bd nr F n S nt T e w') :
    ∃ ra rc g U gt Y, e = .returned (.agg #[.int .i64 nw, .int .i64 nx, .int .i64 bd, .slice ra nr rc, .slice (some ⟨g, 0, none⟩) n n, .slice (some ⟨gt, 0, none⟩) nt nt]) ∧ Grs w' 0 nr F n S U (.slice ra nr rc) (.slice (some ⟨g, 0, none⟩) n n) ∧ Txs w' 0 nt T Y (.slice (some ⟨gt, 0, none⟩) nt nt) ∧ Below w.heap.size w w' := by
  obtain ⟨ra, rc, g, U, z, gt, Y, zt, rfl, hF, ⟨_, hgt, hfil, hfin, _⟩, hb⟩ := h
  refine ⟨ra, rc, g, U, gt, Y, rfl, hF.grs.mono (Nat.zero_le _), ⟨⟨_, _, rfl, fun _ => ⟨gt, 0, rfl, Nat.zero_le _, hgt, fun i hi j hj => ?_⟩⟩, fun i hi => ⟨(hfin i hi).1.1.mono (Nat.zero_le _), (hfin i hi).1.2.2⟩⟩, hb⟩
  rw [Nat.zero_add]
  exact hfil.cell (Nat.le_refl _) hi hj
end Go.Proofs.YtglcedhkbbckiaaGreat

namespace Go.Proofs.YtglcedhkbbckiaaGreat
open Go.RowKit

theorem txnF_zero {s c u st a : Int} {n : Nat} {F : Nat → Int} (h : txnF s c u st a n F = 0) : InB s c u st ∧ (1 ≤ n ∧ n ≤ 12) ∧ itemsF F n 0 = 0 ∧ (0 ≤ a ∧ a ≤ n) ∧ ¬ ((st = 2 ∨ st = 3 ∨ st = 4) ∧ c ≤ s ∨ st = 1 ∧ c ≠ 0) := by
  unfold txnF at h
  split at h
  · omega
  rename_i h0
  split at h
  · omega
  rename_i h1
  split at h
  · exact absurd h (by assumption)
  rename_i h2
  split at h
  · omega
  rename_i h3
  split at h
  · omega
  rename_i h4
  refine ⟨?_, ⟨by omega, by omega⟩, Decidable.not_not.1 h2, Decidable.not_not.1 h3, h4⟩
  unfold InB
  omega
end Go.Proofs.YtglcedhkbbckiaaGreat

namespace Go.Proofs.YtglcedhkbbckiaaGreat
open Go.RowKit

/-- Whether a transaction is over. -/
def overT (t : Tx) : Bool := decide (t.st = 4 ∨ t.st = 6 ∨ t.st = 7)
/-- How many of the first k are not over. -/
def liveN (T : Nat → Tx) : Nat → Nat
  | 0 => 0
  | k + 1 => liveN T k + (if overT (T k) = true then 0 else 1)
theorem liveN_le (T : Nat → Tx) : ∀ k, liveN T k ≤ k
  | 0 => Nat.le_refl _
  | k + 1 => by have := liveN_le T k; unfold liveN; split <;> omega
theorem liveN_over {T : Nat → Tx} {k : Nat} (h : overT (T k) = true) : liveN T (k + 1) = liveN T k := by
  rw [show liveN T (k + 1) = liveN T k + (if overT (T k) = true then 0 else 1) from rfl, if_pos h]; rfl
theorem liveN_live {T : Nat → Tx} {k : Nat} (h : overT (T k) = false) : liveN T (k + 1) = liveN T k + 1 := by
  rw [show liveN T (k + 1) = liveN T k + (if overT (T k) = true then 0 else 1) from rfl, if_neg (by simp [h])]
/-- A transaction of a world without a fault has a state of the document's. -/
theorem txF_state {t : Tx} (h : txF t = 0) : 1 ≤ t.st ∧ t.st ≤ 7 := by
  obtain ⟨⟨_, _, _, hst⟩, _⟩ := txnF_zero (show txnF t.s t.c t.u t.st t.a t.m t.L = 0 from h)
  exact hst
theorem world_txF {nw nx bd : Int} {nr : Nat} {F : Nat → Int} {n : Nat} {S : Nat → Sto} {nt : Nat} {T : Nat → Tx} (h : worldF nw nx bd nr F n S nt T = 0) : ∀ i, i < nt → txF (T i) = 0 := fun i hi => by
  unfold worldF at h
  split at h
  · omega
  split at h
  · rename_i q; exact absurd h q
  split at h
  · rename_i q; exact absurd h q
  split at h
  · omega
  have := scan_zero h i hi
  unfold placeF at this
  split at this
  · rename_i q; exact absurd this q
  · rename_i q; exact Decidable.not_not.1 q
set_option maxHeartbeats 1000000 in
theorem l8Over_at (b q : Nat) (s c u st a : Int) (m : Nat) (L : Nat → Int) (y : Value) (w : World) (h : LiesX w b q s c u st a m L y) :
    Calls Tryz.prog 65 #[.pointer (some ⟨b, q, none⟩)] w fun e w' => e = .returned (.bool (decide (st = 4 ∨ st = 6 ∨ st = 7))) ∧ w' = w := by
  obtain ⟨⟨_, _, _, k3, _, _⟩, _⟩ := h
  by_cases h4 : st = 4
  · subst h4
    go_enter Tryz.func65, Tryz.ntmps65
    go_wp2
    go_ret
    exact ⟨rfl, rfl⟩
  by_cases h6 : st = 6
  · subst h6
    go_enter Tryz.func65, Tryz.ntmps65
    go_wp2
    go_ret
    exact ⟨rfl, rfl⟩
  by_cases h7 : st = 7
  · subst h7
    go_enter Tryz.func65, Tryz.ntmps65
    go_wp2
    go_ret
    exact ⟨rfl, rfl⟩
  have E : Hid (decide (st = 4 ∨ st = 6 ∨ st = 7) = false) := decide_eq_false (by omega)
  have d4 : (st == 4) = false := beq_eq_false_iff_ne.2 h4
  have d6 : (st == 6) = false := beq_eq_false_iff_ne.2 h6
  have d7 : (st == 7) = false := beq_eq_false_iff_ne.2 h7
  clear h4 h6 h7
  go_enter Tryz.func65, Tryz.ntmps65
  go_wp2
  go_ret
  exact ⟨by rw [E.out]; rfl, rfl⟩
set_option maxRecDepth 100000 in
set_option maxHeartbeats 4000000 in
theorem l12Live_is (b : Nat) (nw nx bd : Int) (nr : Nat) (F : Nat → Int) (n : Nat) (S : Nat → Sto) (V : Nat → Nat → Value) (vr vs : Value) (nt : Nat) (T : Nat → Tx) (X : Nat → Value) (vt : Value) (w : World) (h : LiesD w b nw nx bd nr F n S V vr vs nt T X vt) (h16 : nt ≤ 16) :
    Calls Tryz.prog 32 #[.pointer (some ⟨b, 0, none⟩)] w fun e w' => e = .returned (.int .i64 (liveN T nt)) ∧ w' = w := by
  obtain ⟨a2, c2, rfl⟩ := h.2.2.form
  have H : Hid (LiesD w b nw nx bd nr F n S V vr vs nt T X (.slice a2 nt c2)) := h
  clear h
  go_enter Tryz.func32, Tryz.ntmps32
  go_wp2_with fail
  go_loopw [3, 4] (fun x i wr => ∃ k : Nat, k ≤ nt ∧ i = .int .i64 k ∧ x = .int .i64 (liveN T k) ∧ wr = w) (fun _ i _ => nt - (intOf i).toNat)
  case atStart => exact ⟨0, Nat.zero_le _, rfl, rfl, rfl⟩
  case round =>
    obtain ⟨k, hk, rfl, rfl, hw⟩ := hrel
    obtain rfl := hw.symm
    obtain ⟨⟨⟨p0, p1, p2, p3, p4, p5⟩, _⟩, _⟩ := H.out
    by_cases hlt : k < nt
    case neg =>
      obtain rfl : k = nt := by omega
      go_wp2
      go_ret
      exact ⟨rfl, rfl⟩
    obtain ⟨g, o, rfl, hg, LX⟩ := H.out.2.2.lies hlt
    have LX : Hid (LiesX w g (o + k * 6) (T k).s (T k).c (T k).u (T k).st (T k).a (T k).m (T k).L (X k)) := LX
    obtain ⟨v, hv⟩ : ∃ v, overT (T k) = v := ⟨_, rfl⟩
    have HV : Hid (overT (T k) = v) := hv
    have HV' : Hid (decide ((T k).st = 4 ∨ (T k).st = 6 ∨ (T k).st = 7) = v) := hv
    have hle : liveN T k ≤ k := liveN_le T k
    clear hv
    go_wp2_with fail
    refine (l8Over_at g (o + k * 6) _ _ _ _ _ _ _ _ _ LX.out).mono ?_
    rw [HV'.out]
    rintro e w4 ⟨rfl, hw4⟩
    obtain rfl := hw4.symm
    cases v
    · have E := liveN_live HV.out
      go_wp2
      go_roundw
      case rel => exact ⟨k + 1, by omega, by go_num, by rw [E]; go_num, trivial⟩
      case measure => simp [intOf]; omega
    · have E := liveN_over HV.out
      go_wp2
      go_roundw
      case rel => exact ⟨k + 1, by omega, by go_num, by rw [E], trivial⟩
      case measure => simp [intOf]; omega
set_option maxRecDepth 100000 in
set_option maxHeartbeats 4000000 in
theorem countLive_is (nt : Nat) (T : Nat → Tx) (X : Nat → Value) (vt : Value) (w : World) (h : Txs w 0 nt T X vt) (h16 : nt ≤ 16) (hst : ∀ i, i < nt → (1 ≤ (T i).st ∧ (T i).st ≤ 7) ∧ (T i).m ≤ 12) :
    Calls Tryz.prog 37 #[vt] w fun e w' => e = .returned (.int .i64 (liveN T nt)) ∧ Below w.heap.size w w' := by
  obtain ⟨a2, c2, rfl⟩ := h.form
  have H : Hid (Txs w 0 nt T X (.slice a2 nt c2)) := h
  have HS : Hid (∀ i, i < nt → (1 ≤ (T i).st ∧ (T i).st ≤ 7) ∧ (T i).m ≤ 12) := hst
  clear h hst
  go_enter Tryz.func37, Tryz.ntmps37
  go_wp2
  go_loopw [2, 7] (fun x i wr => ∃ k : Nat, k ≤ nt ∧ i = .int .i64 k ∧ x = .int .i64 (liveN T k) ∧ Hid (Below w.heap.size w wr)) (fun _ i _ => nt - (intOf i).toNat)
  case atStart => exact ⟨0, Nat.zero_le _, rfl, rfl, Below.refl _ _⟩
  case round =>
    obtain ⟨k, hk, rfl, rfl, HB⟩ := hrel
    by_cases hlt : k < nt
    case neg =>
      obtain rfl : k = nt := by omega
      go_wp2
      go_ret
      exact ⟨rfl, HB.out⟩
    obtain ⟨g, o, rfl, _, hg, ⟨x0, x1, x2, x3, x4, x5⟩, hrow, _⟩ := (H.out.later HB.out).at hlt
    obtain ⟨yo, yc, hY⟩ : ∃ yo yc, X k = .slice yo (T k).m yc := by obtain ⟨yo, yc, q, _⟩ := hrow; exact ⟨yo, yc, q⟩
    rw [hY] at x5
    obtain ⟨s, c, u, st, a, m, hT⟩ : ∃ s c u st a m, (T k).s = s ∧ (T k).c = c ∧ (T k).u = u ∧ (T k).st = st ∧ (T k).a = a ∧ (T k).m = m := ⟨_, _, _, _, _, _, rfl, rfl, rfl, rfl, rfl, rfl⟩
    have hz := HS.out k hlt
    rw [hT.1] at x0
    rw [hT.2.1] at x1
    rw [hT.2.2.1] at x2
    rw [hT.2.2.2.1] at x3 hz
    rw [hT.2.2.2.2.1] at x4
    rw [hT.2.2.2.2.2] at x5 hz
    obtain ⟨t, ht⟩ := StT.get hz.1
    have HT : Hid (StT st t ∧ m ≤ 12) := ⟨ht, hz.2⟩
    obtain ⟨v, hv⟩ : ∃ v, overT (T k) = v := ⟨_, rfl⟩
    have HV : Hid (overT (T k) = v) := hv
    have HV' : Hid (decide (st = 4 ∨ st = 6 ∨ st = 7) = v) := by rw [← hT.2.2.2.1]; exact hv
    have hle : liveN T k ≤ k := liveN_le T k
    clear hv ht hz hT hrow hY
    go_wp2_with fail
    refine (stateOf_is s c u st a yo m yc t HT.out.1 HT.out.2 _).mono ?_
    rintro e w4 ⟨rfl, q4⟩
    have H4 : Hid (Below w.heap.size w w4) := by
      have := (HB.out.alloc HB.out.size (.cells #[.int .i64 s, .int .i64 c, .int .i64 u, .int .i64 st, .int .i64 a, .slice yo m yc] 77))
      exact this.trans (q4.mono this.size)
    clear q4 HB x0 x1 x2 x3 x4 x5
    go_wp2_with fail
    refine (isEnd_is st a m t HT.out.1 _).mono ?_
    rw [HV'.out]
    rintro e w5 ⟨rfl, hw5⟩
    obtain rfl := hw5.symm
    cases v
    · have E := liveN_live HV.out
      go_wp2
      go_roundw
      case rel => exact ⟨k + 1, by omega, by go_num, by rw [E]; go_num, H4⟩
      case measure => simp [intOf]; omega
    · have E := liveN_over HV.out
      go_wp2
      go_roundw
      case rel => exact ⟨k + 1, by omega, by go_num, by rw [E], H4⟩
      case measure => simp [intOf]; omega
/-- What LiveTxns answers: a code, a number. -/
def LvAns (nw nx bd : Int) (nr : Nat) (F : Nat → Int) (n : Nat) (S : Nat → Sto) (nt : Nat) (T : Nat → Tx) (c v : Int) : Prop :=
  (worldF nw nx bd nr F n S nt T ≠ 0 ∧ c = worldF nw nx bd nr F n S nt T ∧ v = 0) ∨ (worldF nw nx bd nr F n S nt T = 0 ∧ c = 0 ∧ v = liveN T nt)
theorem LvAns.get (nw nx bd : Int) (nr : Nat) (F : Nat → Int) (n : Nat) (S : Nat → Sto) (nt : Nat) (T : Nat → Tx) : ∃ c v, LvAns nw nx bd nr F n S nt T c v := by
  by_cases h : worldF nw nx bd nr F n S nt T = 0
  · exact ⟨_, _, Or.inr ⟨h, rfl, rfl⟩⟩
  · exact ⟨_, _, Or.inl ⟨h, rfl, rfl⟩⟩
set_option maxRecDepth 100000 in
set_option maxHeartbeats 4000000 in
theorem specLive_is (nw nx bd : Int) (nr : Nat) (F : Nat → Int) (n : Nat) (S : Nat → Sto) (V : Nat → Nat → Value) (vr vs : Value) (nt : Nat) (T : Nat → Tx) (X : Nat → Value) (vt : Value) (B : Nat) (c v : Int) (w : World) (h : Grs w B nr F n S V vr vs) (hx : Txs w B nt T X vt) (hr : nr ≤ 9223372036854775807) (hn : n ≤ 9223372036854775807) (ht : nt ≤ 9223372036854775807) (hm : ∀ i, i < nt → (T i).m ≤ 9223372036854775807) (hA : LvAns nw nx bd nr F n S nt T c v) :
    Calls Tryz.prog 9 #[.agg #[.int .i64 nw, .int .i64 nx, .int .i64 bd, vr, vs, vt]] w fun e w' => e = .returned (.agg #[.int .i64 c, .int .i64 v]) ∧ Below w.heap.size w w' := by
  obtain ⟨a0, c0, a1, c1, rfl, rfl⟩ := h.form
  obtain ⟨a2, c2, rfl⟩ := hx.form
  have HM : Hid (∀ i, i < nt → (T i).m ≤ 9223372036854775807) := hm
  have H0 : Hid (LiesD ((w.alloc (.cells #[.int .i64 nw, .int .i64 nx, .int .i64 bd, .slice a0 nr c0, .slice a1 n c1, .slice a2 nt c2] 42)).alloc (.cells #[.int .i64 0, .int .i64 0] 33)) w.heap.size nw nx bd nr F n S V (.slice a0 nr c0) (.slice a1 n c1) nt T X (.slice a2 nt c2) ∧ Blk2 ((w.alloc (.cells #[.int .i64 nw, .int .i64 nx, .int .i64 bd, .slice a0 nr c0, .slice a1 n c1, .slice a2 nt c2] 42)).alloc (.cells #[.int .i64 0, .int .i64 0] 33)) (w.heap.size + 1) (.int .i64 0) (.int .i64 0) ∧ Below w.heap.size w ((w.alloc (.cells #[.int .i64 nw, .int .i64 nx, .int .i64 bd, .slice a0 nr c0, .slice a1 n c1, .slice a2 nt c2] 42)).alloc (.cells #[.int .i64 0, .int .i64 0] 33))) := ⟨⟨(Blk6.new w _ _ _ _ _ _ _).alloc _, ((h.mono (Nat.zero_le _)).alloc _).alloc _, ((hx.mono (Nat.zero_le _)).alloc _).alloc _⟩, by have := Blk2.new (w.alloc (.cells #[.int .i64 nw, .int .i64 nx, .int .i64 bd, .slice a0 nr c0, .slice a1 n c1, .slice a2 nt c2] 42)) (.int .i64 0) (.int .i64 0) 33; simpa using this, (below_alloc _ _).alloc (by simp) _⟩
  clear h hx hm
  obtain ⟨f, E⟩ : ∃ f, Hid (worldF nw nx bd nr F n S nt T = f) := ⟨_, rfl⟩
  rcases hA with ⟨h1, rfl, rfl⟩ | ⟨h1, rfl, rfl⟩
  · rw [E.out] at h1
    have d : (f != 0) = true := bne_iff_ne.2 h1
    rw [E.out]
    clear h1
    go_enter Tryz.func9, Tryz.ntmps9
    go_wp2_with fail
    refine (l10Fault_any _ nw nx bd nr F n S V _ _ nt T X _ _ H0.out.1 hr hn ht HM.out).mono ?_
    rw [E.out]
    rintro e w1 ⟨rfl, q1⟩
    have hb := H0.out.2.1.later q1
    have HB : Hid (Below w.heap.size w w1) := H0.out.2.2.trans (q1.mono (by simp; omega))
    obtain ⟨⟨b0, b1⟩, y0, y1⟩ := hb
    clear q1 H0
    go_wp2
    refine bodyPost_ret (v := .agg #[.int .i64 f, .int .i64 0]) (by simp [results, Tryz.results9, go_sem, b0, b1]) rfl ?_
    exact ⟨rfl, (HB.out.setCell (by simp) _).setCell (by simp) _⟩
  · have Z := world_fine h1
    have ZT := world_txF h1
    obtain rfl : f = 0 := E.out.symm.trans h1
    have HZ : Hid (nt ≤ 16 ∧ ∀ i, i < nt → (1 ≤ (T i).st ∧ (T i).st ≤ 7) ∧ (T i).m ≤ 12) := ⟨Z.2.1, fun i hi => ⟨txF_state (ZT i hi), (Z.2.2 i hi).1.2⟩⟩
    clear h1 Z ZT
    go_enter Tryz.func9, Tryz.ntmps9
    go_wp2_with fail
    refine (l10Fault_any _ nw nx bd nr F n S V _ _ nt T X _ _ H0.out.1 hr hn ht HM.out).mono ?_
    rw [E.out]
    rintro e w1 ⟨rfl, q1⟩
    have H1 : Hid (LiesD w1 w.heap.size nw nx bd nr F n S V (.slice a0 nr c0) (.slice a1 n c1) nt T X (.slice a2 nt c2) ∧ Blk2 w1 (w.heap.size + 1) (.int .i64 0) (.int .i64 0) ∧ Below w.heap.size w w1) := ⟨H0.out.1.later q1, H0.out.2.1.later q1, H0.out.2.2.trans (q1.mono (by simp; omega))⟩
    clear q1 H0
    go_wp2_with fail
    refine (l12Live_is _ nw nx bd nr F n S V _ _ nt T X _ _ H1.out.1 HZ.out.1).mono ?_
    rintro e w4 ⟨rfl, hw4⟩
    obtain rfl := hw4.symm
    have HB : Hid (Below w.heap.size w w1) := H1.out.2.2
    obtain ⟨⟨x0, x1⟩, z0, z1⟩ := H1.out.2.1
    obtain ⟨v, hv⟩ : ∃ v : Int, ((liveN T nt : Nat) : Int) = v := ⟨_, rfl⟩
    have HV : Hid (((liveN T nt : Nat) : Int) = v) := hv
    rw [hv]
    clear hv H1
    go_wp2
    refine bodyPost_ret (v := .agg #[.int .i64 0, .int .i64 v]) (by simp [results, Tryz.results9, go_sem, x0, x1]) rfl ?_
    exact ⟨by rw [HV.out], (HB.out.setCell (by simp) _).setCell (by simp) _⟩
set_option maxRecDepth 100000 in
set_option maxHeartbeats 4000000 in
theorem implLive_is (nw nx bd : Int) (nr : Nat) (F : Nat → Int) (n : Nat) (S : Nat → Sto) (V : Nat → Nat → Value) (vr vs : Value) (nt : Nat) (T : Nat → Tx) (X : Nat → Value) (vt : Value) (B : Nat) (c v : Int) (w : World) (h : Grs w B nr F n S V vr vs) (hx : Txs w B nt T X vt) (hr : nr ≤ 9223372036854775807) (hn : n ≤ 9223372036854775807) (ht : nt ≤ 9223372036854775807) (hm : ∀ i, i < nt → (T i).m ≤ 9223372036854775807) (hA : LvAns nw nx bd nr F n S nt T c v) :
    Calls Tryz.prog 11 #[.agg #[.int .i64 nw, .int .i64 nx, .int .i64 bd, vr, vs, vt]] w fun e w' => e = .returned (.agg #[.int .i64 c, .int .i64 v]) ∧ Below w.heap.size w w' := by
  obtain ⟨a0, c0, a1, c1, rfl, rfl⟩ := h.form
  obtain ⟨a2, c2, rfl⟩ := hx.form
  have HM : Hid (∀ i, i < nt → (T i).m ≤ 9223372036854775807) := hm
  have H0 : Hid (LiesD ((w.alloc (.cells #[.int .i64 nw, .int .i64 nx, .int .i64 bd, .slice a0 nr c0, .slice a1 n c1, .slice a2 nt c2] 42)).alloc (.cells #[.int .i64 0, .int .i64 0] 33)) w.heap.size nw nx bd nr F n S V (.slice a0 nr c0) (.slice a1 n c1) nt T X (.slice a2 nt c2) ∧ Blk2 ((w.alloc (.cells #[.int .i64 nw, .int .i64 nx, .int .i64 bd, .slice a0 nr c0, .slice a1 n c1, .slice a2 nt c2] 42)).alloc (.cells #[.int .i64 0, .int .i64 0] 33)) (w.heap.size + 1) (.int .i64 0) (.int .i64 0) ∧ Below w.heap.size w ((w.alloc (.cells #[.int .i64 nw, .int .i64 nx, .int .i64 bd, .slice a0 nr c0, .slice a1 n c1, .slice a2 nt c2] 42)).alloc (.cells #[.int .i64 0, .int .i64 0] 33))) := ⟨⟨(Blk6.new w _ _ _ _ _ _ _).alloc _, ((h.mono (Nat.zero_le _)).alloc _).alloc _, ((hx.mono (Nat.zero_le _)).alloc _).alloc _⟩, by have := Blk2.new (w.alloc (.cells #[.int .i64 nw, .int .i64 nx, .int .i64 bd, .slice a0 nr c0, .slice a1 n c1, .slice a2 nt c2] 42)) (.int .i64 0) (.int .i64 0) 33; simpa using this, (below_alloc _ _).alloc (by simp) _⟩
  clear h hx hm
  obtain ⟨f, E⟩ : ∃ f, Hid (worldF nw nx bd nr F n S nt T = f) := ⟨_, rfl⟩
  obtain ⟨⟨k0, k1, k2, k3, k4, k5⟩, _⟩ := H0.out.1.1
  rcases hA with ⟨h1, rfl, rfl⟩ | ⟨h1, rfl, rfl⟩
  · rw [E.out] at h1
    have d : (f != 0) = true := bne_iff_ne.2 h1
    rw [E.out]
    clear h1
    go_enter Tryz.func11, Tryz.ntmps11
    go_wp2_with fail
    refine (implWorldFault_any nw nx bd nr F n S V _ _ nt T X _ 0 _ H0.out.1.2.1 H0.out.1.2.2 hr hn ht).mono ?_
    rw [E.out]
    rintro e w1 ⟨rfl, q1⟩
    have hb := H0.out.2.1.later q1
    have HB : Hid (Below w.heap.size w w1) := H0.out.2.2.trans (q1.mono (by simp; omega))
    obtain ⟨⟨b0, b1⟩, y0, y1⟩ := hb
    clear q1 H0 k0 k1 k2 k3 k4 k5
    go_wp2
    refine bodyPost_ret (v := .agg #[.int .i64 f, .int .i64 0]) (by simp [results, Tryz.results11, go_sem, b0, b1]) rfl ?_
    exact ⟨rfl, (HB.out.setCell (by simp) _).setCell (by simp) _⟩
  · have Z := world_fine h1
    have ZT := world_txF h1
    obtain rfl : f = 0 := E.out.symm.trans h1
    have HZ : Hid (nt ≤ 16 ∧ ∀ i, i < nt → (1 ≤ (T i).st ∧ (T i).st ≤ 7) ∧ (T i).m ≤ 12) := ⟨Z.2.1, fun i hi => ⟨txF_state (ZT i hi), (Z.2.2 i hi).1.2⟩⟩
    clear h1 Z ZT
    go_enter Tryz.func11, Tryz.ntmps11
    go_wp2_with fail
    refine (implWorldFault_any nw nx bd nr F n S V _ _ nt T X _ 0 _ H0.out.1.2.1 H0.out.1.2.2 hr hn ht).mono ?_
    rw [E.out]
    rintro e w1 ⟨rfl, q1⟩
    have H1 : Hid (LiesD w1 w.heap.size nw nx bd nr F n S V (.slice a0 nr c0) (.slice a1 n c1) nt T X (.slice a2 nt c2) ∧ Blk2 w1 (w.heap.size + 1) (.int .i64 0) (.int .i64 0) ∧ Below w.heap.size w w1) := ⟨H0.out.1.later q1, H0.out.2.1.later q1, H0.out.2.2.trans (q1.mono (by simp; omega))⟩
    clear q1 H0 k0 k1 k2 k3 k4 k5
    obtain ⟨⟨k0, k1, k2, k3, k4, k5⟩, _⟩ := H1.out.1.1
    go_wp2_with fail
    refine (countLive_is nt T X _ _ H1.out.1.2.2 HZ.out.1 HZ.out.2).mono ?_
    rintro e w4 ⟨rfl, q4⟩
    have HB : Hid (Below w.heap.size w w4) := H1.out.2.2.trans (q4.mono H1.out.2.2.size)
    obtain ⟨⟨x0, x1⟩, z0, z1⟩ := H1.out.2.1.later q4
    clear q4
    obtain ⟨v, hv⟩ : ∃ v : Int, ((liveN T nt : Nat) : Int) = v := ⟨_, rfl⟩
    have HV : Hid (((liveN T nt : Nat) : Int) = v) := hv
    rw [hv]
    clear hv H1 k0 k1 k2 k3 k4 k5
    go_wp2
    refine bodyPost_ret (v := .agg #[.int .i64 0, .int .i64 v]) (by simp [results, Tryz.results11, go_sem, x0, x1]) rfl ?_
    exact ⟨by rw [HV.out], (HB.out.setCell (by simp) _).setCell (by simp) _⟩
theorem eqIntD_same (c v : Int) (w : World) :
    Calls Tryz.prog 12 #[.agg #[.int .i64 c, .int .i64 v], .agg #[.int .i64 c, .int .i64 v]] w fun e w' => e = .returned (.bool true) ∧ Below w.heap.size w w' := by
  go_enter Tryz.func12, Tryz.ntmps12
  go_wp2
  go_ret
  exact ⟨rfl, ((below_alloc _ _).alloc (by simp) _)⟩
set_option maxRecDepth 100000 in
set_option maxHeartbeats 8000000 in
theorem exactLiveTxns_walk (nw nx bd : Int) (nr : Nat) (F : Nat → Int) (n : Nat) (S : Nat → Sto) (V : Nat → Nat → Value) (vr vs : Value) (nt : Nat) (T : Nat → Tx) (X : Nat → Value) (vt : Value) (w : World) (h : Grs w 0 nr F n S V vr vs) (hx : Txs w 0 nt T X vt) (hr : nr ≤ 9223372036854775807) (hn : n ≤ 9223372036854775807) (hs : ∀ i, i < n → BigS (S i)) (hnt : nt ≤ 9223372036854775807) (hm : ∀ i, i < nt → (T i).m ≤ 9223372036854775807)
    (ans : ∃ c v : Int, ∀ (U : Nat → Nat → Value) (ur us : Value) (Y : Nat → Value) (ut : Value) (x : World), Grs x 0 nr F n S U ur us → Txs x 0 nt T Y ut → nr ≤ 1048576 → n ≤ 1048576 → nt ≤ 1048576 → (∀ i, i < nt → (T i).m ≤ 1048576) → Calls Tryz.prog 9 #[.agg #[.int .i64 nw, .int .i64 nx, .int .i64 bd, ur, us, ut]] x (fun e x' => e = .returned (.agg #[.int .i64 c, .int .i64 v]) ∧ Below x.heap.size x x') ∧ Calls Tryz.prog 11 #[.agg #[.int .i64 nw, .int .i64 nx, .int .i64 bd, ur, us, ut]] x (fun e x' => e = .returned (.agg #[.int .i64 c, .int .i64 v]) ∧ Below x.heap.size x x')) :
    Calls Tryz.prog 3 #[.agg #[.int .i64 nw, .int .i64 nx, .int .i64 bd, vr, vs, vt]] w fun e w' => e = .returned (.bool true) ∧ Below w.heap.size w w' := by
  obtain ⟨a0, c0, a1, c1, rfl, rfl⟩ := h.form
  obtain ⟨a2, c2, rfl⟩ := hx.form
  have HG : Hid (Grs w 0 nr F n S V (.slice a0 nr c0) (.slice a1 n c1) ∧ Txs w 0 nt T X (.slice a2 nt c2)) := ⟨h, hx⟩
  have HN : Hid ((∀ i, i < n → BigS (S i)) ∧ ∀ i, i < nt → (T i).m ≤ 9223372036854775807) := ⟨hs, hm⟩
  have H : Hid (Blk6 (w.alloc (.cells #[.int .i64 nw, .int .i64 nx, .int .i64 bd, .slice a0 nr c0, .slice a1 n c1, .slice a2 nt c2] 30)) w.heap.size (.int .i64 nw) (.int .i64 nx) (.int .i64 bd) (.slice a0 nr c0) (.slice a1 n c1) (.slice a2 nt c2) ∧ Below w.heap.size w (w.alloc (.cells #[.int .i64 nw, .int .i64 nx, .int .i64 bd, .slice a0 nr c0, .slice a1 n c1, .slice a2 nt c2] 30))) := ⟨Blk6.new w _ _ _ _ _ _ _, below_alloc _ _⟩
  clear h hx hs hm
  obtain ⟨c, v, hans⟩ := ans
  have HF : Hid (∀ (U : Nat → Nat → Value) (ur us : Value) (Y : Nat → Value) (ut : Value) (x : World), Grs x 0 nr F n S U ur us → Txs x 0 nt T Y ut → nr ≤ 1048576 → n ≤ 1048576 → nt ≤ 1048576 → (∀ i, i < nt → (T i).m ≤ 1048576) → Calls Tryz.prog 9 #[.agg #[.int .i64 nw, .int .i64 nx, .int .i64 bd, ur, us, ut]] x (fun e x' => e = .returned (.agg #[.int .i64 c, .int .i64 v]) ∧ Below x.heap.size x x') ∧ Calls Tryz.prog 11 #[.agg #[.int .i64 nw, .int .i64 nx, .int .i64 bd, ur, us, ut]] x (fun e x' => e = .returned (.agg #[.int .i64 c, .int .i64 v]) ∧ Below x.heap.size x x')) := hans
  clear hans
  go_enter Tryz.func3, Tryz.ntmps3
  go_wp2_with fail
  refine (szWorld_any nw nx bd nr F n S V _ _ nt T X _ 0 _ (HG.out.1.alloc _) (HG.out.2.alloc _) hr hn HN.out.1 hnt HN.out.2).mono ?_
  rintro e w1 ⟨rr, rfl, hA, q1⟩
  have H1 : Hid (Blk6 w1 w.heap.size (.int .i64 nw) (.int .i64 nx) (.int .i64 bd) (.slice a0 nr c0) (.slice a1 n c1) (.slice a2 nt c2) ∧ Below w.heap.size w w1) := ⟨H.out.1.later q1, H.out.2.trans (q1.mono H.out.2.size)⟩
  clear q1 H
  rcases hA with rfl | ⟨h1, ⟨h2, h3, _, h4⟩, h5, _, h6⟩
  · go_wp2
    go_ret
    exact ⟨rfl, H1.out.2⟩
  have HB : Hid ((nr ≤ 1048576 ∧ n ≤ 1048576 ∧ ∀ i, i < n → SmallS (S i)) ∧ nt ≤ 1048576 ∧ ∀ i, i < nt → (T i).m ≤ 1048576) := ⟨⟨h2, h3, h4⟩, h5, h6⟩
  have dr : decide (rr < 0) = false := decide_eq_false (by omega)
  clear h1 h2 h3 h4 h5 h6 hr hn HN hnt
  obtain ⟨⟨p0, p1, p2, p3, p4, p5⟩, _⟩ := H1.out.1
  go_wp2_with fail
  refine (toWorld_any nw nx bd nr F n S V _ _ nt T X _ 0 _ (HG.out.1.later H1.out.2) (HG.out.2.later H1.out.2) HB.out.1 HB.out.2).mono ?_
  intro e w2 hN2
  obtain ⟨ra, rc, g, U, gt, Y, rfl, g2, t2, q2⟩ := hN2.rows
  have H2 : Hid (Blk6 w2 w.heap.size (.int .i64 nw) (.int .i64 nx) (.int .i64 bd) (.slice a0 nr c0) (.slice a1 n c1) (.slice a2 nt c2) ∧ Below w.heap.size w w2) := ⟨H1.out.1.later q2, H1.out.2.trans (q2.mono H1.out.2.size)⟩
  have G2 := HF.out _ _ _ _ _ _ g2 t2 HB.out.1.1 HB.out.1.2.1 HB.out.2.1 HB.out.2.2
  clear q2 hN2 g2 t2 H1 p0 p1 p2 p3 p4 p5
  go_wp2_with fail
  refine G2.1.mono ?_
  clear G2
  rintro e w3 ⟨rfl, q3⟩
  have H3 : Hid (Blk6 (w3.alloc (.cells #[.int .i64 c, .int .i64 v] 33)) w.heap.size (.int .i64 nw) (.int .i64 nx) (.int .i64 bd) (.slice a0 nr c0) (.slice a1 n c1) (.slice a2 nt c2) ∧ Below w.heap.size w (w3.alloc (.cells #[.int .i64 c, .int .i64 v] 33))) := ⟨(H2.out.1.later q3).alloc _, (H2.out.2.trans (q3.mono H2.out.2.size)).alloc (Nat.le_trans H2.out.2.size q3.size) _⟩
  have K3 : Hid (Blk2 (w3.alloc (.cells #[.int .i64 c, .int .i64 v] 33)) w3.heap.size (.int .i64 c) (.int .i64 v)) := Blk2.new w3 _ _ _
  clear q3 H2
  obtain ⟨⟨p0, p1, p2, p3, p4, p5⟩, _⟩ := H3.out.1
  go_wp2_with fail
  refine (toWorld_any nw nx bd nr F n S V _ _ nt T X _ 0 _ (HG.out.1.later H3.out.2) (HG.out.2.later H3.out.2) HB.out.1 HB.out.2).mono ?_
  intro e w4 hN4
  obtain ⟨ra', rc', g', U', gt', Y', rfl, g4, t4, q4⟩ := hN4.rows
  have G4 : Hid (Grs (w4.alloc (.cells #[.int .i64 nw, .int .i64 nx, .int .i64 bd, .slice ra' nr rc', .slice (some ⟨g', 0, none⟩) n n, .slice (some ⟨gt', 0, none⟩) nt nt] 42)) 0 nr F n S U' (.slice ra' nr rc') (.slice (some ⟨g', 0, none⟩) n n) ∧ Txs (w4.alloc (.cells #[.int .i64 nw, .int .i64 nx, .int .i64 bd, .slice ra' nr rc', .slice (some ⟨g', 0, none⟩) n n, .slice (some ⟨gt', 0, none⟩) nt nt] 42)) 0 nt T Y' (.slice (some ⟨gt', 0, none⟩) nt nt)) := ⟨g4.alloc _, t4.alloc _⟩
  have T4 : Hid (TwoD w nw nx bd (.slice a0 nr c0) (.slice a1 n c1) (.slice a2 nt c2) w4.heap.size (.slice ra' nr rc') (.slice (some ⟨g', 0, none⟩) n n) (.slice (some ⟨gt', 0, none⟩) nt nt) (w4.alloc (.cells #[.int .i64 nw, .int .i64 nx, .int .i64 bd, .slice ra' nr rc', .slice (some ⟨g', 0, none⟩) n n, .slice (some ⟨gt', 0, none⟩) nt nt] 42))) := ⟨(H3.out.2.trans (q4.mono H3.out.2.size)).alloc (Nat.le_trans H3.out.2.size q4.size) _, (H3.out.1.later q4).alloc _, Blk6.new _ _ _ _ _ _ _ _⟩
  have K4 : Hid (Blk2 (w4.alloc (.cells #[.int .i64 nw, .int .i64 nx, .int .i64 bd, .slice ra' nr rc', .slice (some ⟨g', 0, none⟩) n n, .slice (some ⟨gt', 0, none⟩) nt nt] 42)) w3.heap.size (.int .i64 c) (.int .i64 v)) := (K3.out.later q4).alloc _
  clear K3
  clear q4 hN4 g4 t4 H3 p0 p1 p2 p3 p4 p5
  go_wp2_with fail
  generalize w4.alloc (.cells #[.int .i64 nw, .int .i64 nx, .int .i64 bd, .slice ra' nr rc', .slice (some ⟨g', 0, none⟩) n n, .slice (some ⟨gt', 0, none⟩) nt nt] 42) = w5 at G4 T4 K4 ⊢
  refine (HF.out _ _ _ _ _ _ G4.out.1 G4.out.2 HB.out.1.1 HB.out.1.2.1 HB.out.2.1 HB.out.2.2).2.mono ?_
  rintro e w6 ⟨rfl, q6⟩
  have G5 : Hid (Grs (w6.alloc (.cells #[.int .i64 c, .int .i64 v] 33)) 0 nr F n S U' (.slice ra' nr rc') (.slice (some ⟨g', 0, none⟩) n n) ∧ Txs (w6.alloc (.cells #[.int .i64 c, .int .i64 v] 33)) 0 nt T Y' (.slice (some ⟨gt', 0, none⟩) nt nt)) := ⟨(G4.out.1.later q6).alloc _, (G4.out.2.later q6).alloc _⟩
  have T5 : Hid (TwoD w nw nx bd (.slice a0 nr c0) (.slice a1 n c1) (.slice a2 nt c2) w4.heap.size (.slice ra' nr rc') (.slice (some ⟨g', 0, none⟩) n n) (.slice (some ⟨gt', 0, none⟩) nt nt) (w6.alloc (.cells #[.int .i64 c, .int .i64 v] 33))) := (T4.out.later q6).later (below_alloc _ _)
  obtain ⟨⟨t0, t1⟩, _⟩ := K4.out.later q6
  have z8 := World.block_lt_of_cell? w6 _ t0
  clear q6 G4 T4 K4
  go_wp2_with fail
  refine (eqIntD_same c v _).mono ?_
  rintro e w9 ⟨rfl, q9⟩
  have G6 : Hid (Grs w9 0 nr F n S U' (.slice ra' nr rc') (.slice (some ⟨g', 0, none⟩) n n) ∧ Txs w9 0 nt T Y' (.slice (some ⟨gt', 0, none⟩) nt nt)) := ⟨G5.out.1.later q9, G5.out.2.later q9⟩
  have T6 : Hid (TwoD w nw nx bd (.slice a0 nr c0) (.slice a1 n c1) (.slice a2 nt c2) w4.heap.size (.slice ra' nr rc') (.slice (some ⟨g', 0, none⟩) n n) (.slice (some ⟨gt', 0, none⟩) nt nt) w9) := T5.out.later q9
  clear q9 G5 T5 t0 t1 z8
  go_wp2_with fail
  refine wp_region_held_drew (S := TwoD w nw nx bd (.slice a0 nr c0) (.slice a1 n c1) (.slice a2 nt c2) w4.heap.size (.slice ra' nr rc') (.slice (some ⟨g', 0, none⟩) n n) (.slice (some ⟨gt', 0, none⟩) nt nt)) (by kernel_rfl) (T6.out.later (Below.drew (Below.refl _ _))) (fun hS => ?_)
  clear T6
  refine tkH 0 ?_ hS (fun wx hx => ?_) ?_; rotate_left
  · obtain ⟨_, ⟨⟨hx0, hx1, hx2, hx3, hx4, hx5⟩, _⟩, ⟨⟨hy0, hy1, hy2, hy3, hy4, hy5⟩, _⟩⟩ := hx; go_simp; try with_reducible rfl
  refine tkH 1 ?_ hS (fun wx hx => ?_) ?_; rotate_left
  · obtain ⟨_, ⟨⟨hx0, hx1, hx2, hx3, hx4, hx5⟩, _⟩, ⟨⟨hy0, hy1, hy2, hy3, hy4, hy5⟩, _⟩⟩ := hx; go_simp; try with_reducible rfl
  refine rdH 2 (fun K hK => ?_)
  go_simp
  go_wp2_with fail
  refine (toWorld_any nw nx bd nr F n S V _ _ nt T X _ 0 _ (HG.out.1.later hS.1) (HG.out.2.later hS.1) HB.out.1 HB.out.2).mono ?_
  intro e w7 hN7
  obtain ⟨rb, rd, g2, U2, gt2, Y2, rfl, g7, t7, q7⟩ := hN7.rows
  have q7' : Below w9.heap.size w9 w7 := ⟨q7.os, q7.tape, q7.output, q7.size, q7.block⟩
  have G7 : Hid ((Grs w7 0 nr F n S U' (.slice ra' nr rc') (.slice (some ⟨g', 0, none⟩) n n) ∧ Txs w7 0 nt T Y' (.slice (some ⟨gt', 0, none⟩) nt nt)) ∧ Grs w7 0 nr F n S U2 (.slice rb nr rd) (.slice (some ⟨g2, 0, none⟩) n n) ∧ Txs w7 0 nt T Y2 (.slice (some ⟨gt2, 0, none⟩) nt nt)) := ⟨⟨G6.out.1.later q7', G6.out.2.later q7'⟩, g7, t7⟩
  have hS' := hS.later q7
  clear q7 q7' hN7 g7 t7 G6
  go_wp2_with fail
  refine hK.out _ _ hS' (fun hS => ?_)
  clear hK K hS'
  refine rdH 3 (fun K hK => ?_)
  go_simp
  go_wp2_with fail
  refine (eqWorldT_same nw nx bd nr F n S U' U2 _ _ _ _ _ _ _ _ nt T Y' Y2 _ _ _ _ 0 0 _ G7.out.1.1 G7.out.2.1 G7.out.1.2 G7.out.2.2 HB.out.1 HB.out.2).mono ?_
  rintro e w8 ⟨rfl, q8⟩
  have hS' := hS.later q8
  clear q8 G7
  go_wp2_with fail
  refine hK.out _ _ hS' (fun hS => ?_)
  clear hK K hS'
  refine tkH 4 ?_ hS (fun wx hx => ?_) ?_; rotate_left
  · obtain ⟨_, ⟨⟨hx0, hx1, hx2, hx3, hx4, hx5⟩, _⟩, ⟨⟨hy0, hy1, hy2, hy3, hy4, hy5⟩, _⟩⟩ := hx; go_simp; try with_reducible rfl
  refine wpAnyH_done (by kernel_rfl) ?_ _
  have BB : Hid (Below w.heap.size w w8) := hS.1
  clear hS
  go_simp
  go_wp2
  go_ret
  exact ⟨rfl, BB.out⟩
theorem live_walk (nw nx bd : Int) (nr : Nat) (F : Nat → Int) (n : Nat) (S : Nat → Sto) (V : Nat → Nat → Value) (vr vs : Value) (nt : Nat) (T : Nat → Tx) (X : Nat → Value) (vt : Value) (w : World) (h : Grs w 0 nr F n S V vr vs) (hx : Txs w 0 nt T X vt) (hr : nr ≤ 9223372036854775807) (hn : n ≤ 9223372036854775807) (hs : ∀ i, i < n → BigS (S i)) (hnt : nt ≤ 9223372036854775807) (hm : ∀ i, i < nt → (T i).m ≤ 9223372036854775807) :
    Calls Tryz.prog 3 #[.agg #[.int .i64 nw, .int .i64 nx, .int .i64 bd, vr, vs, vt]] w fun e w' => e = .returned (.bool true) ∧ Below w.heap.size w w' := by
  obtain ⟨c, v, hA⟩ := LvAns.get nw nx bd nr F n S nt T
  exact exactLiveTxns_walk nw nx bd nr F n S V vr vs nt T X vt w h hx hr hn hs hnt hm ⟨c, v, fun U ur us Y ut x q1 q2 b1 b2 b3 b4 =>
    ⟨specLive_is nw nx bd nr F n S U ur us nt T Y ut 0 c v x q1 q2 (by omega) (by omega) (by omega) (fun i hi => by have := b4 i hi; omega) hA, implLive_is nw nx bd nr F n S U ur us nt T Y ut 0 c v x q1 q2 (by omega) (by omega) (by omega) (fun i hi => by have := b4 i hi; omega) hA⟩⟩
end Go.Proofs.YtglcedhkbbckiaaGreat

