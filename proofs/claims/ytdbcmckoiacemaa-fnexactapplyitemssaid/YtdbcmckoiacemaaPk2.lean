/-
  Own text, merged of PaiD, PaiE, PaiF, PaiG, PaiH, PaiJ, PaiK, PaiL, TxnA.
-/
import Derived.Test.YtdbcmckoiacemaaPk1
namespace Go.Proofs.Ytdbcmckoiacemaa
open Go.RowKit

theorem lt_cellP {w : World} {p : Addr} {v : Value} (h : w.cell? p = some v) : p.block < w.heap.size := World.block_lt_of_cell? w p h
/-- The place of something in a row: all ahead of it is so, and what stands there is not. -/
def placeAtP (p : Nat → Prop) (n k : Nat) : Prop := k ≤ n ∧ (∀ j, j < k → p j) ∧ (k < n → ¬ p k)
def aheadP (F : Nat → Int) (a : Int) (j : Nat) : Prop := F (j * 2) < a
def AP (w : World) (B n : Nat) (F : Nat → Int) (ao : Option Addr) (cp : Nat) (x0 x1 : Int) (X : World) : Prop :=
  (X.cell? ⟨w.heap.size, 0, none⟩ = some (.int .i64 x0) ∧ X.cell? ⟨w.heap.size, 1, none⟩ = some (.int .i64 x1)) ∧ Row X B 2 n F (.slice ao n cp) ∧ Below w.heap.size w X
theorem AP.drew {w X : World} {B n : Nat} {F : Nat → Int} {ao : Option Addr} {cp : Nat} {x0 x1 : Int} (h : AP w B n F ao cp x0 x1 X) : AP w B n F ao cp x0 x1 X.drew := ⟨h.1, h.2.1, h.2.2.drew⟩
theorem AP.later {w X X' : World} {B n : Nat} {F : Nat → Int} {ao : Option Addr} {cp : Nat} {x0 x1 : Int} (h : AP w B n F ao cp x0 x1 X) (_ : Row w B 2 n F (.slice ao n cp)) (hb : Below X.heap.size X X') : AP w B n F ao cp x0 x1 X' :=
  ⟨⟨(hb.cell (lt_cellP h.1.1)).trans h.1.1, (hb.cell (lt_cellP h.1.2)).trans h.1.2⟩, h.2.1.later hb, h.2.2.trans (hb.mono h.2.2.size)⟩
theorem cmp_negP (a x : Int) : cmpOf a x < 0 ↔ a < x := by
  unfold cmpOf
  constructor
  · intro h
    by_cases h1 : a < x
    · exact h1
    · simp [h1] at h
      split at h <;> omega
  · intro h
    simp [h]
theorem cmp_zeroP (a x : Int) : cmpOf a x = 0 ↔ a = x := by
  unfold cmpOf
  constructor
  · intro h
    by_cases h1 : a < x
    · simp [h1] at h
    · by_cases h2 : x < a
      · simp [h1, h2] at h
      · omega
  · rintro rfl
    simp
/-- What the search answers. -/
def FoundP (w : World) (n : Nat) (F : Nat → Int) (x0 : Int) (e : Ending) (w' : World) : Prop := ∃ (k : Nat) (r : Bool), e = .returned (.tuple #[.int .i64 k, .bool r]) ∧ placeAtP (aheadP F x0) n k ∧ (r = true ↔ k < n ∧ F (k * 2) = x0) ∧ Below w.heap.size w w'
set_option maxRecDepth 100000 in
set_option maxHeartbeats 4000000 in
theorem searchP_any (n : Nat) (F : Nat → Int) (ao : Option Addr) (cp : Nat) (B : Nat) (x0 x1 : Int) (w : World) (h : Row w B 2 n F (.slice ao n cp)) (hn : n ≤ 1000) (hmono : ∀ i j, i ≤ j → j < n → aheadP F x0 j → aheadP F x0 i) :
    Calls Try.prog 68 #[.slice ao n cp, .agg #[.int .i64 x0, .int .i64 x1], .func (.func 37) #[] #[]] w (FoundP w n F x0) := by
  have H : Hid (Row w B 2 n F (.slice ao n cp)) := h
  have HM : Hid (∀ i j, i ≤ j → j < n → aheadP F x0 j → aheadP F x0 i) := hmono
  clear h hmono
  go_enter Try.func68, Try.ntmps68
  go_wp2
  go_loopw [9, 10] (fun a b wr => ∃ i j : Nat, i ≤ j ∧ j ≤ n ∧ a = .int .i64 i ∧ b = .int .i64 j ∧ Hid (∀ q, q < i → aheadP F x0 q) ∧ Hid (∀ q, j ≤ q → q < n → ¬ aheadP F x0 q) ∧ Hid (AP w B n F ao cp x0 x1 wr)) (fun a b _ => (intOf b).toNat - (intOf a).toNat)
  case atStart =>
    refine ⟨0, n, Nat.zero_le _, Nat.le_refl _, rfl, rfl, fun q hq => absurd hq (Nat.not_lt_zero q), fun q h1 h2 => absurd h2 (Nat.not_lt.2 h1), ?_⟩
    exact ⟨⟨World.cell?_alloc_mark w _ _ _ 0, World.cell?_alloc_mark w _ _ _ 1⟩, H.out.alloc _, below_alloc _ _⟩
  case round =>
    obtain ⟨i, j, hij, hj, rfl, rfl, HA, HB, HS⟩ := hrel
    by_cases hlt : i < j
    case neg =>
      obtain rfl : i = j := by omega
      have HP : Hid (placeAtP (aheadP F x0) n i) := ⟨hj, HA.out, fun q => HB.out i (Nat.le_refl _) q⟩
      clear HA HB hij hlt
      go_upto_region 8 with fail
      by_cases hin : i < n
      · obtain ⟨g, o, hao, _, hg, y0, y1⟩ := HS.out.2.1.at2 hin
        subst hao
        obtain ⟨n0, N0⟩ : ∃ x, F (i * 2) = x := ⟨_, rfl⟩
        rw [N0] at y0
        obtain ⟨n1, N1⟩ : ∃ x, F (i * 2 + 1) = x := ⟨_, rfl⟩
        rw [N1] at y1
        have HN : Hid (F (i * 2) = n0) := N0
        clear N0 N1
        have dn : decide (i < n) = true := decide_eq_true hin
        refine wp_region_held_drew (S := fun X => (X.cell? ⟨w.heap.size, 0, none⟩ = some (.int .i64 x0) ∧ X.cell? ⟨w.heap.size, 1, none⟩ = some (.int .i64 x1)) ∧ (X.cell? ⟨g, o + i * 2, none⟩ = some (.int .i64 n0) ∧ X.cell? ⟨g, o + i * 2 + 1, none⟩ = some (.int .i64 n1)) ∧ AP w B n F (some ⟨g, o, none⟩) cp x0 x1 X) (by kernel_rfl) ⟨HS.out.1, ⟨y0, y1⟩, HS.out.drew⟩ (fun hS => ?_)
        refine tkH 0 ?_ hS (fun wx hx => ?_) ?_; rotate_left
        · obtain ⟨⟨hx0, hx1⟩, ⟨hx4, hx5⟩, _⟩ := hx; go_simp; try with_reducible rfl
        refine tkH 1 ?_ hS (fun wx hx => ?_) ?_; rotate_left
        · obtain ⟨⟨hx0, hx1⟩, ⟨hx4, hx5⟩, _⟩ := hx; go_simp; try with_reducible rfl
        refine tkH 2 ?_ hS (fun wx hx => ?_) ?_; rotate_left
        · obtain ⟨⟨hx0, hx1⟩, ⟨hx4, hx5⟩, _⟩ := hx; go_simp; try with_reducible rfl
        refine tkH 3 ?_ hS (fun wx hx => ?_) ?_; rotate_left
        · obtain ⟨⟨hx0, hx1⟩, ⟨hx4, hx5⟩, _⟩ := hx; go_simp; try with_reducible rfl
        refine tkH 4 ?_ hS (fun wx hx => ?_) ?_; rotate_left
        · obtain ⟨⟨hx0, hx1⟩, ⟨hx4, hx5⟩, _⟩ := hx; go_simp; try with_reducible rfl
        refine tkH 5 ?_ hS (fun wx hx => ?_) ?_; rotate_left
        · obtain ⟨⟨hx0, hx1⟩, ⟨hx4, hx5⟩, _⟩ := hx; go_simp; try with_reducible rfl
        refine tkH 6 ?_ hS (fun wx hx => ?_) ?_; rotate_left
        · obtain ⟨⟨hx0, hx1⟩, ⟨hx4, hx5⟩, _⟩ := hx; go_simp; try with_reducible rfl
        refine tkH 7 ?_ hS (fun wx hx => ?_) ?_; rotate_left
        · obtain ⟨⟨hx0, hx1⟩, ⟨hx4, hx5⟩, _⟩ := hx; go_simp; try with_reducible rfl
        refine tkH 8 ?_ hS (fun wx hx => ?_) ?_; rotate_left
        · obtain ⟨⟨hx0, hx1⟩, ⟨hx4, hx5⟩, _⟩ := hx; go_simp; try with_reducible rfl
        refine tkH 9 ?_ hS (fun wx hx => ?_) ?_; rotate_left
        · obtain ⟨⟨hx0, hx1⟩, ⟨hx4, hx5⟩, _⟩ := hx; go_simp; try with_reducible rfl
        refine tkH 10 ?_ hS (fun wx hx => ?_) ?_; rotate_left
        · obtain ⟨⟨hx0, hx1⟩, ⟨hx4, hx5⟩, _⟩ := hx; go_simp; try with_reducible rfl
        refine rdH 11 (fun K hK => ?_)
        go_simp
        go_wp2_with fail
        obtain ⟨r, hr⟩ : ∃ r, cmpOf n0 x0 = r := ⟨_, rfl⟩
        refine (comparePairs_is n0 n1 x0 x1 r hr _).mono ?_
        rintro e w1 ⟨rfl, q1⟩
        have S1 : AP w B n F (some ⟨g, o, none⟩) cp x0 x1 w1 := hS.2.2.later H.out q1
        obtain ⟨_, ⟨y0, y1⟩, _⟩ := hS
        have y0' := (q1.cell (p := ⟨g, o + i * 2, none⟩) (lt_cellP y0)).trans y0
        have y1' := (q1.cell (p := ⟨g, o + i * 2 + 1, none⟩) (lt_cellP y1)).trans y1
        go_wp2_with fail
        refine hK.out _ _ ⟨S1.1, ⟨y0', y1'⟩, S1⟩ (fun hS => ?_)
        clear hK K y0 y1 y0' y1' q1 S1 HS
        by_cases ha : n0 = x0
        · obtain rfl : r = 0 := by rw [← hr]; exact (cmp_zeroP n0 x0).2 ha
          have HR : Hid (F (i * 2) = x0) := HN.out.trans ha
          clear ha hr HN
          refine tkH 12 ?_ hS (fun wx hx => ?_) ?_; rotate_left
          · obtain ⟨⟨hx0, hx1⟩, ⟨hx4, hx5⟩, _⟩ := hx; go_simp; try with_reducible rfl
          refine tkH 13 ?_ hS (fun wx hx => ?_) ?_; rotate_left
          · obtain ⟨⟨hx0, hx1⟩, ⟨hx4, hx5⟩, _⟩ := hx; go_simp; try with_reducible rfl
          refine tkH 14 ?_ hS (fun wx hx => ?_) ?_; rotate_left
          · obtain ⟨⟨hx0, hx1⟩, ⟨hx4, hx5⟩, _⟩ := hx; go_simp; try with_reducible rfl
          refine tkH 15 ?_ hS (fun wx hx => ?_) ?_; rotate_left
          · obtain ⟨⟨hx0, hx1⟩, ⟨hx4, hx5⟩, _⟩ := hx; go_simp; try with_reducible rfl
          refine wpAnyH_done (by kernel_rfl) ?_ _
          go_simp
          go_wp2
          go_ret2
          exact ⟨i, true, rfl, HP.out, ⟨fun _ => ⟨hin, HR.out⟩, fun _ => rfl⟩, hS.2.2.2.2⟩
        · have dr : (r == 0) = false := beq_eq_false_iff_ne.2 (by rw [← hr]; exact fun q => ha ((cmp_zeroP n0 x0).1 q))
          have HR : Hid (¬ F (i * 2) = x0) := fun q => ha (HN.out.symm.trans q)
          clear ha hr HN
          refine tkH 12 ?_ hS (fun wx hx => ?_) ?_; rotate_left
          · obtain ⟨⟨hx0, hx1⟩, ⟨hx4, hx5⟩, _⟩ := hx; go_simp; try with_reducible rfl
          refine tkH 13 ?_ hS (fun wx hx => ?_) ?_; rotate_left
          · obtain ⟨⟨hx0, hx1⟩, ⟨hx4, hx5⟩, _⟩ := hx; go_simp; try with_reducible rfl
          refine tkH 14 ?_ hS (fun wx hx => ?_) ?_; rotate_left
          · obtain ⟨⟨hx0, hx1⟩, ⟨hx4, hx5⟩, _⟩ := hx; go_simp; try with_reducible rfl
          refine tkH 15 ?_ hS (fun wx hx => ?_) ?_; rotate_left
          · obtain ⟨⟨hx0, hx1⟩, ⟨hx4, hx5⟩, _⟩ := hx; go_simp; try with_reducible rfl
          refine wpAnyH_done (by kernel_rfl) ?_ _
          go_simp
          go_wp2
          go_ret2
          exact ⟨i, false, rfl, HP.out, ⟨fun q => (Bool.false_ne_true q).elim, fun q => (HR.out q.2).elim⟩, hS.2.2.2.2⟩
      · have dn : decide (i < n) = false := decide_eq_false hin
        refine wp_region_held_drew (S := AP w B n F ao cp x0 x1) (by kernel_rfl) HS.out.drew (fun hS => ?_)
        refine tkH 0 ?_ hS (fun wx hx => ?_) ?_; rotate_left
        · go_simp; try with_reducible rfl
        refine tkH 1 ?_ hS (fun wx hx => ?_) ?_; rotate_left
        · go_simp; try with_reducible rfl
        refine tkH 2 ?_ hS (fun wx hx => ?_) ?_; rotate_left
        · go_simp; try with_reducible rfl
        refine tkH 3 ?_ hS (fun wx hx => ?_) ?_; rotate_left
        · go_simp; try with_reducible rfl
        refine tkH 4 ?_ hS (fun wx hx => ?_) ?_; rotate_left
        · go_simp; try with_reducible rfl
        refine noH 5 hS ?_
        refine noH 6 hS ?_
        refine noH 7 hS ?_
        refine noH 8 hS ?_
        refine noH 9 hS ?_
        refine noH 10 hS ?_
        refine noH 11 hS ?_
        refine noH 12 hS ?_
        refine tkH 13 ?_ hS (fun wx hx => ?_) ?_; rotate_left
        · go_simp; try with_reducible rfl
        refine tkH 14 ?_ hS (fun wx hx => ?_) ?_; rotate_left
        · go_simp; try with_reducible rfl
        refine tkH 15 ?_ hS (fun wx hx => ?_) ?_; rotate_left
        · go_simp; try with_reducible rfl
        refine wpAnyH_done (by kernel_rfl) ?_ _
        go_simp
        go_wp2
        go_ret2
        exact ⟨i, false, rfl, HP.out, ⟨fun q => (Bool.false_ne_true q).elim, fun q => (hin q.1).elim⟩, hS.2.2⟩
    go_upto_region 5 with fail
    obtain ⟨m, hm⟩ : ∃ m : Nat, ((i : Int) + j) / 2 = m := ⟨(i + j) / 2, by omega⟩
    have hm1 : i ≤ m ∧ m < j := by omega
    rw [hm]
    clear hm
    obtain ⟨hm1, hm2⟩ := hm1
    have hmn : m < n := by omega
    obtain ⟨g, o, hao, _, hg, y0, y1⟩ := HS.out.2.1.at2 hmn
    subst hao
    obtain ⟨n0, N0⟩ : ∃ x, F (m * 2) = x := ⟨_, rfl⟩
    rw [N0] at y0
    obtain ⟨n1, N1⟩ : ∃ x, F (m * 2 + 1) = x := ⟨_, rfl⟩
    rw [N1] at y1
    have HC : Hid (aheadP F x0 m ↔ n0 < x0) := by unfold aheadP; rw [N0]; exact Iff.rfl
    clear N0 N1
    refine wp_region_held_drew (S := fun X => (X.cell? ⟨w.heap.size, 0, none⟩ = some (.int .i64 x0) ∧ X.cell? ⟨w.heap.size, 1, none⟩ = some (.int .i64 x1)) ∧ (X.cell? ⟨g, o + m * 2, none⟩ = some (.int .i64 n0) ∧ X.cell? ⟨g, o + m * 2 + 1, none⟩ = some (.int .i64 n1)) ∧ AP w B n F (some ⟨g, o, none⟩) cp x0 x1 X) (by kernel_rfl) ⟨HS.out.1, ⟨y0, y1⟩, HS.out.drew⟩ (fun hS => ?_)
    refine tkH 0 ?_ hS (fun wx hx => ?_) ?_; rotate_left
    · obtain ⟨⟨hx0, hx1⟩, ⟨hx4, hx5⟩, _⟩ := hx; go_simp; try with_reducible rfl
    refine tkH 1 ?_ hS (fun wx hx => ?_) ?_; rotate_left
    · obtain ⟨⟨hx0, hx1⟩, ⟨hx4, hx5⟩, _⟩ := hx; go_simp; try with_reducible rfl
    refine tkH 2 ?_ hS (fun wx hx => ?_) ?_; rotate_left
    · obtain ⟨⟨hx0, hx1⟩, ⟨hx4, hx5⟩, _⟩ := hx; go_simp; try with_reducible rfl
    refine tkH 3 ?_ hS (fun wx hx => ?_) ?_; rotate_left
    · obtain ⟨⟨hx0, hx1⟩, ⟨hx4, hx5⟩, _⟩ := hx; go_simp; try with_reducible rfl
    refine tkH 4 ?_ hS (fun wx hx => ?_) ?_; rotate_left
    · obtain ⟨⟨hx0, hx1⟩, ⟨hx4, hx5⟩, _⟩ := hx; go_simp; try with_reducible rfl
    refine tkH 5 ?_ hS (fun wx hx => ?_) ?_; rotate_left
    · obtain ⟨⟨hx0, hx1⟩, ⟨hx4, hx5⟩, _⟩ := hx; go_simp; try with_reducible rfl
    refine rdH 6 (fun K hK => ?_)
    go_simp
    go_wp2_with fail
    obtain ⟨r, hr⟩ : ∃ r, cmpOf n0 x0 = r := ⟨_, rfl⟩
    refine (comparePairs_is n0 n1 x0 x1 r hr _).mono ?_
    rintro e w1 ⟨rfl, q1⟩
    have S1 : AP w B n F (some ⟨g, o, none⟩) cp x0 x1 w1 := hS.2.2.later H.out q1
    obtain ⟨_, ⟨y0, y1⟩, _⟩ := hS
    have y0' := (q1.cell (p := ⟨g, o + m * 2, none⟩) (lt_cellP y0)).trans y0
    have y1' := (q1.cell (p := ⟨g, o + m * 2 + 1, none⟩) (lt_cellP y1)).trans y1
    go_wp2_with fail
    refine hK.out _ _ ⟨S1.1, ⟨y0', y1'⟩, S1⟩ (fun hS => ?_)
    clear hK K y0 y1 y0' y1' q1 S1 HS
    by_cases ha : n0 < x0
    · have dr : decide (r < 0) = true := decide_eq_true (by rw [← hr]; exact (cmp_negP n0 x0).2 ha)
      have HA1 : Hid (∀ q, q < m + 1 → aheadP F x0 q) := fun q hq => HM.out q m (by omega) hmn (HC.out.2 ha)
      clear ha hr HC HA
      refine tkH 7 ?_ hS (fun wx hx => ?_) ?_; rotate_left
      · obtain ⟨⟨hx0, hx1⟩, ⟨hx4, hx5⟩, _⟩ := hx; go_simp; try with_reducible rfl
      refine wpAnyH_done (by kernel_rfl) ?_ _
      go_simp
      go_wp2
      go_roundw
      case rel => exact ⟨m + 1, j, by omega, hj, by go_num, rfl, HA1, HB, hS.2.2⟩
      case measure => simp [intOf]; omega
    · have dr : decide (r < 0) = false := decide_eq_false (by rw [← hr]; exact fun q => ha ((cmp_negP n0 x0).1 q))
      have HB1 : Hid (∀ q, m ≤ q → q < n → ¬ aheadP F x0 q) := fun q h1 h2 h3 => ha (HC.out.1 (HM.out m q h1 h2 h3))
      clear ha hr HC HB
      refine tkH 7 ?_ hS (fun wx hx => ?_) ?_; rotate_left
      · obtain ⟨⟨hx0, hx1⟩, ⟨hx4, hx5⟩, _⟩ := hx; go_simp; try with_reducible rfl
      refine wpAnyH_done (by kernel_rfl) ?_ _
      go_simp
      go_wp2
      go_roundw
      case rel => exact ⟨i, m, hm1, by omega, rfl, rfl, HA, HB1, hS.2.2⟩
      case measure => simp [intOf]; omega
end Go.Proofs.Ytdbcmckoiacemaa

namespace Go.Proofs.Ytdbcmckoiacemaa
open Go.RowKit

abbrev Prs := List (Int × Int)
/-- The numbers of a list of pairs, one behind the other. -/
def rowL (L : Prs) (p : Nat) : Int := if p % 2 = 0 then (L.getD (p / 2) (0, 0)).1 else (L.getD (p / 2) (0, 0)).2
theorem rowL_key (L : Prs) (k : Nat) : rowL L (k * 2) = (L.getD k (0, 0)).1 := by
  unfold rowL
  rw [if_pos (by omega), show k * 2 / 2 = k by omega]
theorem rowL_val (L : Prs) (k : Nat) : rowL L (k * 2 + 1) = (L.getD k (0, 0)).2 := by
  unfold rowL
  rw [if_neg (by omega), show (k * 2 + 1) / 2 = k by omega]
/-- The pairs of a row. -/
def listOf (F : Nat → Int) (n : Nat) : Prs := (List.range n).map fun k => (F (k * 2), F (k * 2 + 1))
theorem listOf_length (F : Nat → Int) (n : Nat) : (listOf F n).length = n := by simp [listOf]
theorem listOf_get {F : Nat → Int} {n k : Nat} (h : k < n) : (listOf F n).getD k (0, 0) = (F (k * 2), F (k * 2 + 1)) := by simp [listOf, h, List.getD]
theorem rowL_listOf {F : Nat → Int} {n p : Nat} (h : p < n * 2) : rowL (listOf F n) p = F p := by
  unfold rowL
  rw [listOf_get (by omega)]
  split
  · show F (p / 2 * 2) = F p
    congr 1; omega
  · show F (p / 2 * 2 + 1) = F p
    congr 1; omega
theorem row_eqP {w : World} {B n : Nat} {F G : Nat → Int} {v : Value} (h : Row w B 2 n F v) (e : ∀ p, p < n * 2 → F p = G p) : Row w B 2 n G v := by
  obtain ⟨a, c, hv, hr⟩ := h
  refine ⟨a, c, hv, fun hn => ?_⟩
  obtain ⟨g, o, h1, h2, h3, h4⟩ := hr hn
  exact ⟨g, o, h1, h2, h3, fun p hp => by rw [← e p hp]; exact h4 p hp⟩
theorem vals_eqP {N : Nat} {F G : Nat → Int} (e : ∀ p, p < N → F p = G p) : vals F N = vals G N := by
  unfold vals
  exact List.map_congr_left fun p hp => by rw [e p (List.mem_range.1 hp)]
theorem own_eqP {w : World} {B m n : Nat} {ty : TypeId} {F G : Nat → Int} {v : Value} (h : Own w B ty m n F v) (e : ∀ p, p < n * m → F p = G p) : Own w B ty m n G v := by
  unfold Own at h ⊢
  rwa [← vals_eqP e]

/-- The pairs of other keys. -/
def gonePr (L : Prs) (k : Int) : Prs := L.filter fun e => e.1 ≠ k
/-- A pair put at its place, the pair of its key gone. -/
def putPr : Prs → Int → Int → Prs
  | [], k, v => [(k, v)]
  | e :: t, k, v => if k ≤ e.1 then (k, v) :: gonePr (e :: t) k else e :: putPr t k v
/-- Keys rise. -/
def Rises (L : Prs) : Prop := L.Pairwise fun a b => a.1 < b.1
/-- How many stand ahead of a key. -/
def aheadN (L : Prs) (k : Int) : Nat := (L.takeWhile fun e => decide (e.1 < k)).length
theorem aheadN_le (L : Prs) (k : Int) : aheadN L k ≤ L.length := (List.takeWhile_sublist _).length_le
theorem aheadN_lt {L : Prs} {k : Int} {j : Nat} (h : j < aheadN L k) : (L.getD j (0, 0)).1 < k := by
  induction L generalizing j with
  | nil => simp [aheadN] at h
  | cons e t ih =>
    unfold aheadN at h ih
    rw [List.takeWhile_cons] at h
    split at h
    · rename_i he
      cases j with
      | zero => simpa using he
      | succ j => simpa using ih (by simpa using h)
    · simp at h
theorem aheadN_not {L : Prs} {k : Int} (h : aheadN L k < L.length) : ¬ (L.getD (aheadN L k) (0, 0)).1 < k := by
  induction L with
  | nil => simp at h
  | cons e t ih =>
    unfold aheadN at h ih ⊢
    rw [List.takeWhile_cons] at h ⊢
    split
    · rename_i he
      rw [if_pos he] at h
      simpa using ih (by simpa using h)
    · rename_i he
      simpa using he
/-- The place that the search tells is how many stand ahead. -/
theorem place_is {L : Prs} {k : Int} {i : Nat} (h : placeAtP (aheadP (rowL L) k) L.length i) : i = aheadN L k := by
  obtain ⟨h1, h2, h3⟩ := h
  unfold aheadP at h2 h3
  simp only [rowL_key] at h2 h3
  rcases Nat.lt_trichotomy i (aheadN L k) with q | q | q
  · exact absurd (aheadN_lt q) (h3 (Nat.lt_of_lt_of_le q (aheadN_le L k)))
  · exact q
  · exact absurd (h2 _ q) (aheadN_not (by omega))
theorem rises_mono {L : Prs} (h : Rises L) {k : Int} (i j : Nat) (hij : i ≤ j) (hj : j < L.length) (ha : aheadP (rowL L) k j) : aheadP (rowL L) k i := by
  unfold aheadP at *
  rw [rowL_key] at *
  rcases Nat.eq_or_lt_of_le hij with rfl | q
  · exact ha
  · have := List.pairwise_iff_getElem.1 h i j (by omega) hj q
    simp only [List.getD_eq_getElem?_getD, List.getElem?_eq_getElem hj, List.getElem?_eq_getElem (show i < L.length by omega), Option.getD_some] at ha ⊢
    omega
/-- Of a list that rises the one that stands at the place of a key is dropped, if it has that key. -/
theorem gone_is {L : Prs} (h : Rises L) (k : Int) : gonePr L k = if aheadN L k < L.length ∧ (L.getD (aheadN L k) (0, 0)).1 = k then L.eraseIdx (aheadN L k) else L := by
  induction L with
  | nil => simp [gonePr]
  | cons e t ih =>
    have ht := List.pairwise_cons.1 h
    by_cases he : e.1 < k
    · have hA : aheadN (e :: t) k = aheadN t k + 1 := by simp [aheadN, he]
      have hg : gonePr (e :: t) k = e :: gonePr t k := by
        unfold gonePr; rw [List.filter_cons_of_pos (by simp; omega)]
      rw [hg, ih ht.2, hA]
      simp only [List.length_cons, List.getD_cons_succ, Nat.add_lt_add_iff_right, List.eraseIdx_cons_succ]
      split <;> rfl
    · have hA : aheadN (e :: t) k = 0 := by simp [aheadN, he]
      have hr : gonePr t k = t := by
        unfold gonePr
        exact List.filter_eq_self.2 fun a ha => by have := ht.1 a ha; simp; omega
      rw [hA]
      by_cases hk : e.1 = k
      · rw [if_pos ⟨by simp, by simpa using hk⟩]
        unfold gonePr
        rw [List.filter_cons_of_neg (by simp [hk])]
        exact hr
      · rw [if_neg (fun q => hk (by simpa using q.2))]
        unfold gonePr
        rw [List.filter_cons_of_pos (by simp [hk])]
        rw [show List.filter (fun e => decide (e.1 ≠ k)) t = t from hr]
theorem gonePr_rises {L : Prs} (h : Rises L) (k : Int) : Rises (gonePr L k) := h.filter _
theorem put_is {L : Prs} (h : Rises L) (k v : Int) : putPr L k v = (gonePr L k).insertIdx (aheadN (gonePr L k) k) (k, v) := by
  induction L with
  | nil => rfl
  | cons e t ih =>
    have ht := List.pairwise_cons.1 h
    by_cases he : k ≤ e.1
    · have hA : aheadN (gonePr (e :: t) k) k = 0 := by
        have hall : ∀ a ∈ gonePr (e :: t) k, ¬ a.1 < k := fun a ha => by
          have ha' := (List.mem_filter.1 ha).1
          rcases List.mem_cons.1 ha' with rfl | q
          · omega
          · have := ht.1 a q; omega
        unfold aheadN
        cases hg : gonePr (e :: t) k with
        | nil => rfl
        | cons a b =>
          rw [hg] at hall
          have := hall a (by simp)
          simp [this]
      rw [putPr, if_pos he, hA]
      rfl
    · have hg : gonePr (e :: t) k = e :: gonePr t k := by
        unfold gonePr; rw [List.filter_cons_of_pos (by simp; omega)]
      have hA : aheadN (e :: gonePr t k) k = aheadN (gonePr t k) k + 1 := by simp [aheadN, show e.1 < k by omega]
      rw [putPr, if_neg he, hg, hA, ih ht.2]
      rfl
theorem putPr_mem {L : Prs} {k v : Int} {a : Int × Int} (h : a ∈ putPr L k v) : a = (k, v) ∨ a ∈ L := by
  induction L with
  | nil => simpa [putPr] using h
  | cons e t ih =>
    rw [putPr] at h
    split at h
    · rcases List.mem_cons.1 h with q | q
      · exact Or.inl q
      · exact Or.inr (List.mem_filter.1 q).1
    · rcases List.mem_cons.1 h with q | q
      · exact Or.inr (by rw [q]; simp)
      · rcases ih q with r | r
        · exact Or.inl r
        · exact Or.inr (List.mem_cons_of_mem _ r)
theorem putPr_rises {L : Prs} (h : Rises L) (k v : Int) : Rises (putPr L k v) := by
  induction L with
  | nil => simp [putPr, Rises]
  | cons e t ih =>
    have ht := List.pairwise_cons.1 h
    rw [putPr]
    split
    · rename_i he
      refine List.pairwise_cons.2 ⟨fun a ha => ?_, gonePr_rises h k⟩
      obtain ⟨h1, h2⟩ := List.mem_filter.1 ha
      have h2' : a.1 ≠ k := by simpa using h2
      show k < a.1
      rcases List.mem_cons.1 h1 with rfl | q
      · omega
      · have := ht.1 a q; omega
    · rename_i he
      refine List.pairwise_cons.2 ⟨fun a ha => ?_, ih ht.2⟩
      rcases putPr_mem ha with rfl | q
      · show e.1 < k; omega
      · exact ht.1 a q
/-- A pair above all is put at the end. -/
theorem putPr_end {L : Prs} {k v : Int} (h : ∀ a ∈ L, a.1 < k) : putPr L k v = L ++ [(k, v)] := by
  induction L with
  | nil => rfl
  | cons e t ih =>
    have := h e (by simp)
    rw [putPr, if_neg (by omega), ih fun a ha => h a (List.mem_cons_of_mem _ ha)]
    rfl
theorem rowL_erase {L : Prs} {i p : Nat} : dropF (rowL L) 2 i p = rowL (L.eraseIdx i) p := by
  unfold dropF rowL
  simp only [List.getD_eq_getElem?_getD, List.getElem?_eraseIdx]
  by_cases h : p < i * 2
  · rw [if_pos h, if_pos (show p / 2 < i by omega)]
  · rw [if_neg h, if_neg (show ¬ p / 2 < i by omega), show (p + 2) % 2 = p % 2 by omega, show (p + 2) / 2 = p / 2 + 1 by omega]
theorem rowL_is (L : Prs) (p : Nat) : rowL L p = if p % 2 = 0 then (L[p / 2]?.getD (0, 0)).1 else (L[p / 2]?.getD (0, 0)).2 := by
  unfold rowL
  rw [List.getD_eq_getElem?_getD]
theorem rowL_insert {L : Prs} {i p : Nat} {k v : Int} (hi : i ≤ L.length) (hp : p < (L.length + 1) * 2) : insF (rowL L) 2 L.length i [k, v] p = rowL (L.insertIdx i (k, v)) p := by
  rw [rowL_is (L.insertIdx i (k, v)), List.getElem?_insertIdx]
  rcases Nat.lt_or_ge p (i * 2) with h | h
  · rw [insF_lt h, if_pos (show p / 2 < i by omega), rowL_is]
  · rcases Nat.lt_or_ge p ((i + 1) * 2) with h2 | h2
    · have := insF_at (F := rowL L) (m := 2) (n := L.length) (i := i) (p := p - i * 2) (xs := [k, v]) rfl (by omega)
      rw [show i * 2 + (p - i * 2) = p by omega] at this
      rw [this, if_neg (show ¬ p / 2 < i by omega), if_pos (show p / 2 = i by omega), if_pos (show p / 2 ≤ L.length by omega)]
      rcases Nat.mod_two_eq_zero_or_one p with q | q
      · rw [if_pos q, show p - i * 2 = 0 by omega]; rfl
      · rw [if_neg (by omega), show p - i * 2 = 1 by omega]; rfl
    · have := insF_gt (F := rowL L) (m := 2) (n := L.length) (i := i) (p := p - (i + 1) * 2) (xs := [k, v]) rfl (by omega)
      rw [show (i + 1) * 2 + (p - (i + 1) * 2) = p by omega] at this
      rw [this, if_neg (show ¬ p / 2 < i by omega), if_neg (show ¬ p / 2 = i by omega), rowL_is,
        show (i * 2 + (p - (i + 1) * 2)) % 2 = p % 2 by omega, show (i * 2 + (p - (i + 1) * 2)) / 2 = p / 2 - 1 by omega]
end Go.Proofs.Ytdbcmckoiacemaa

namespace Go.Proofs.Ytdbcmckoiacemaa
open Go.RowKit

/-- The list's box, the box of a pair, and that nothing old has turned. -/
def RisE (w : World) (b c : Nat) (v : Value) (k x : Int) (X : World) : Prop := Blk2 X b v (.func (.func 37) #[] #[]) ∧ Blk2 X c (.int .i64 k) (.int .i64 x) ∧ Below w.heap.size w X
theorem RisE.later {w X X' : World} {b c : Nat} {v : Value} {k x : Int} (h : RisE w b c v k x X) (hb : Below X.heap.size X X') : RisE w b c v k x X' := ⟨h.1.later hb, h.2.1.later hb, h.2.2.trans (hb.mono h.2.2.size)⟩
theorem RisE.drew {w X : World} {b c : Nat} {v : Value} {k x : Int} (h : RisE w b c v k x X) : RisE w b c v k x X.drew := ⟨h.1, h.2.1, h.2.2.drew⟩
/-- Where a pair of that key stands. -/
def atKey (L : Prs) (k : Int) : Prop := aheadN L k < L.length ∧ (L.getD (aheadN L k) (0, 0)).1 = k
def PlaceIs (w : World) (L : Prs) (k : Int) (e : Ending) (w' : World) : Prop := ∃ r : Bool, e = .returned (.tuple #[.int .i64 (aheadN L k), .bool r]) ∧ (r = true ↔ atKey L k) ∧ Below w.heap.size w w'
set_option maxRecDepth 100000 in
set_option maxHeartbeats 2000000 in
theorem place_any (L : Prs) (b B : Nat) (v : Value) (k x : Int) (w : World) (hb : Blk2 w b v (.func (.func 37) #[] #[])) (ho : Own w B 65 2 L.length (rowL L) v) (hr : Rises L) (hn : L.length ≤ 1000) :
    Calls Try.prog 64 #[.pointer (some ⟨b, 0, none⟩), .agg #[.int .i64 k, .int .i64 x]] w (PlaceIs w L k) := by
  obtain ⟨ao, cp, rfl⟩ := ho.form
  have HO : Hid (Own w B 65 2 L.length (rowL L) (.slice ao L.length cp) ∧ Rises L) := ⟨ho, hr⟩
  have HE : RisE w b w.heap.size (.slice ao L.length cp) k x ((w.alloc (.cells #[.int .i64 k, .int .i64 x] 65)).drew) := RisE.drew ⟨hb.alloc _, Blk2.new w _ _ _, below_alloc _ _⟩
  clear ho hr hb
  go_enter Try.func64, Try.ntmps64
  go_upto_region 1 with fail
  refine wp_region_held_drew (S := RisE w b w.heap.size (.slice ao L.length cp) k x) (by kernel_rfl) HE (fun hS => ?_)
  clear HE
  refine tkH 0 ?_ hS (fun wx hx => ?_) ?_; rotate_left
  · obtain ⟨⟨⟨hx0, hx1⟩, hx4, hx5⟩, ⟨⟨hx2, hx3⟩, hx6, hx7⟩, _⟩ := hx; go_simp; try with_reducible rfl
  refine tkH 1 ?_ hS (fun wx hx => ?_) ?_; rotate_left
  · obtain ⟨⟨⟨hx0, hx1⟩, hx4, hx5⟩, ⟨⟨hx2, hx3⟩, hx6, hx7⟩, _⟩ := hx; go_simp; try with_reducible rfl
  refine tkH 2 ?_ hS (fun wx hx => ?_) ?_; rotate_left
  · obtain ⟨⟨⟨hx0, hx1⟩, hx4, hx5⟩, ⟨⟨hx2, hx3⟩, hx6, hx7⟩, _⟩ := hx; go_simp; try with_reducible rfl
  refine tkH 3 ?_ hS (fun wx hx => ?_) ?_; rotate_left
  · obtain ⟨⟨⟨hx0, hx1⟩, hx4, hx5⟩, ⟨⟨hx2, hx3⟩, hx6, hx7⟩, _⟩ := hx; go_simp; try with_reducible rfl
  refine tkH 4 ?_ hS (fun wx hx => ?_) ?_; rotate_left
  · obtain ⟨⟨⟨hx0, hx1⟩, hx4, hx5⟩, ⟨⟨hx2, hx3⟩, hx6, hx7⟩, _⟩ := hx; go_simp; try with_reducible rfl
  refine tkH 5 ?_ hS (fun wx hx => ?_) ?_; rotate_left
  · obtain ⟨⟨⟨hx0, hx1⟩, hx4, hx5⟩, ⟨⟨hx2, hx3⟩, hx6, hx7⟩, _⟩ := hx; go_simp; try with_reducible rfl
  refine tkH 6 ?_ hS (fun wx hx => ?_) ?_; rotate_left
  · obtain ⟨⟨⟨hx0, hx1⟩, hx4, hx5⟩, ⟨⟨hx2, hx3⟩, hx6, hx7⟩, _⟩ := hx; go_simp; try with_reducible rfl
  refine tkH 7 ?_ hS (fun wx hx => ?_) ?_; rotate_left
  · obtain ⟨⟨⟨hx0, hx1⟩, hx4, hx5⟩, ⟨⟨hx2, hx3⟩, hx6, hx7⟩, _⟩ := hx; go_simp; try with_reducible rfl
  refine tkH 8 ?_ hS (fun wx hx => ?_) ?_; rotate_left
  · obtain ⟨⟨⟨hx0, hx1⟩, hx4, hx5⟩, ⟨⟨hx2, hx3⟩, hx6, hx7⟩, _⟩ := hx; go_simp; try with_reducible rfl
  refine rdH 9 (fun K hK => ?_)
  go_simp
  go_wp2_with fail
  refine (searchP_any _ _ _ _ B k x _ (HO.out.1.later hS.2.2).row.1 hn (fun i j h1 h2 h3 => rises_mono HO.out.2 i j h1 h2 h3)).mono ?_
  rintro e w1 ⟨i, r, rfl, hp, hr, q1⟩
  obtain rfl := place_is hp
  simp only [rowL_key] at hr
  have HR : Hid (r = true ↔ atKey L k) := hr
  have HB : Hid (Below w.heap.size w w1) := hS.2.2.trans (q1.mono hS.2.2.size)
  have hS1 := hS.later q1
  clear hp hr q1 hS HO
  go_wp2_with fail
  refine hK.out _ _ hS1 (fun hS => ?_)
  clear hK K hS1
  refine tkH 10 ?_ hS (fun wx hx => ?_) ?_; rotate_left
  · obtain ⟨⟨⟨hx0, hx1⟩, hx4, hx5⟩, ⟨⟨hx2, hx3⟩, hx6, hx7⟩, _⟩ := hx; go_simp; try with_reducible rfl
  refine tkH 11 ?_ hS (fun wx hx => ?_) ?_; rotate_left
  · obtain ⟨⟨⟨hx0, hx1⟩, hx4, hx5⟩, ⟨⟨hx2, hx3⟩, hx6, hx7⟩, _⟩ := hx; go_simp; try with_reducible rfl
  refine tkH 12 ?_ hS (fun wx hx => ?_) ?_; rotate_left
  · obtain ⟨⟨⟨hx0, hx1⟩, hx4, hx5⟩, ⟨⟨hx2, hx3⟩, hx6, hx7⟩, _⟩ := hx; go_simp; try with_reducible rfl
  refine tkH 13 ?_ hS (fun wx hx => ?_) ?_; rotate_left
  · obtain ⟨⟨⟨hx0, hx1⟩, hx4, hx5⟩, ⟨⟨hx2, hx3⟩, hx6, hx7⟩, _⟩ := hx; go_simp; try with_reducible rfl
  refine wpAnyH_done (by kernel_rfl) ?_ _
  go_simp
  go_wp2
  go_ret2
  exact ⟨r, rfl, HR.out, HB.out⟩
theorem Blk2.set0P {x : World} {b : Nat} {a0 a1 : Value} (h : Blk2 x b a0 a1) (u : Value) : Blk2 (x.setCell ⟨b, 0, none⟩ u) b u a1 := by
  obtain ⟨⟨h0, h1⟩, f0, f1⟩ := h
  exact ⟨⟨World.cell?_setCell_same _ _ _ h0, (World.cell?_setCell_other _ _ _ _ (by simp)).trans h1⟩, by simpa using f0, by simpa using f1⟩
theorem own_grown {w w' : World} {b B : Nat} {v a0 a1 : Value} {n : Nat} {F : Nat → Int} (hb : Blk2 w b a0 a1) (ho : Own w B 65 2 n F v) (hB : b < B) (hg : w.grownBy w' v.ownBlock) : Blk2 w' b a0 a1 :=
  hb.kept (hg.block b hb.lt (fun e => by have := (own_in ho b e.symm).1; omega))
/-- What turned lies in the list's own blocks. -/
theorem grown_below {w w' : World} {B D : Nat} {v : Value} {n : Nat} {F : Nat → Int} (ho : Own w B 65 2 n F v) (hD : D ≤ B) (hDw : D ≤ w.heap.size) (hg : w.grownBy w' v.ownBlock) : Below D w w' :=
  ⟨hg.os, hg.tape, hg.output, hg.size, fun i hi => hg.block i (by omega) (fun e => by have := (own_in ho i e.symm).1; omega)⟩
/-- The list stands in its box: its own memory is behind the box. -/
def Ris (w : World) (b : Nat) (L : Prs) : Prop := ∃ v, Blk2 w b v (.func (.func 37) #[] #[]) ∧ Own w (b + 1) 65 2 L.length (rowL L) v
theorem Ris.later {w w' : World} {b : Nat} {L : Prs} (h : Ris w b L) (hb : Below w.heap.size w w') : Ris w' b L := by
  obtain ⟨v, h1, h2⟩ := h
  exact ⟨v, h1.later hb, h2.later hb⟩
theorem Ris.lt {w : World} {b : Nat} {L : Prs} (h : Ris w b L) : b < w.heap.size := by
  obtain ⟨v, h1, _⟩ := h
  exact h1.lt
theorem stored_is {w : World} {b : Nat} {v v' : Value} {L : Prs} (hb : Blk2 w b v (.func (.func 37) #[] #[])) (ho : Own w (b + 1) 65 2 L.length (rowL L) v') : Blk2 (w.setCell ⟨b, 0, none⟩ v') b v' (.func (.func 37) #[] #[]) ∧ Own (w.setCell ⟨b, 0, none⟩ v') (b + 1) 65 2 L.length (rowL L) v' :=
  ⟨Blk2.set0P hb _, own_kept ho (fun j hj => Below.heap_setCell w ⟨b, 0, none⟩ _ j (fun e => by have := (own_in ho j hj).1; simp at e; omega))⟩
/-- All blocks but two are as they were. -/
def KeptBut (b : Nat) (v : Value) (w w' : World) : Prop := w.heap.size ≤ w'.heap.size ∧ ∀ i, i < w.heap.size → i ≠ b → v.ownBlock ≠ some i → w'.heap[i]? = w.heap[i]?
theorem KeptBut.below {b : Nat} {v : Value} {w w' : World} (h : Below w.heap.size w w') : KeptBut b v w w' := ⟨h.size, fun i hi _ _ => h.block i hi⟩
theorem KeptBut.grown {b : Nat} {v : Value} {w w' : World} (h : w.grownBy w' v.ownBlock) : KeptBut b v w w' := ⟨h.size, fun i hi _ hv => h.block i hi (fun e => hv e.symm)⟩
theorem KeptBut.trans {b : Nat} {v : Value} {w w' w'' : World} (h : KeptBut b v w w') (_ : w.heap.size ≤ w'.heap.size) (h' : KeptBut b v w' w'') : KeptBut b v w w'' := ⟨Nat.le_trans h.1 h'.1, fun i hi h1 h2 => (h'.2 i (Nat.lt_of_lt_of_le hi h.1) h1 h2).trans (h.2 i hi h1 h2)⟩
theorem KeptBut.trans' {b : Nat} {v : Value} {w w' w'' : World} (h : KeptBut b v w w') (h' : KeptBut b v w' w'') : KeptBut b v w w'' := h.trans h.1 h'
theorem KeptBut.set {b k : Nat} {v u : Value} (w : World) : KeptBut b v w (w.setCell ⟨b, k, none⟩ u) := ⟨by simp, fun i _ h _ => Below.heap_setCell w ⟨b, k, none⟩ u i h⟩
set_option maxRecDepth 100000 in
set_option maxHeartbeats 2000000 in
theorem drop_any (L : Prs) (b : Nat) (v : Value) (k x : Int) (w : World) (hb : Blk2 w b v (.func (.func 37) #[] #[])) (ho : Own w (b + 1) 65 2 L.length (rowL L) v) (hr : Rises L) (hn : L.length ≤ 1000) :
    Calls Try.prog 61 #[.pointer (some ⟨b, 0, none⟩), .agg #[.int .i64 k, .int .i64 x]] w fun e w' => e = .returned (.tuple #[]) ∧ (∃ v', (Blk2 w' b v' (.func (.func 37) #[] #[]) ∧ Own w' (b + 1) 65 2 (gonePr L k).length (rowL (gonePr L k)) v') ∧ v'.ownBlock = v.ownBlock) ∧ Below b w w' ∧ KeptBut b v w w' := by
  obtain ⟨ao, cp, rfl⟩ := ho.form
  have HO : Hid (Own w (b + 1) 65 2 L.length (rowL L) (.slice ao L.length cp) ∧ Rises L ∧ Blk2 w b (.slice ao L.length cp) (.func (.func 37) #[] #[])) := ⟨ho, hr, hb⟩
  clear ho hr hb
  go_enter Try.func61, Try.ntmps61
  go_wp2_with fail
  refine (place_any L b (b + 1) _ k x _ (HO.out.2.2.alloc _) (HO.out.1.alloc _) HO.out.2.1 hn).mono ?_
  rintro e w1 ⟨r, rfl, hr, q1⟩
  have HR : Hid (r = true ↔ atKey L k) := hr
  have HB : Hid (Below w.heap.size w w1) := (below_alloc w _).trans (q1.mono (by simp))
  have hbw : Hid (b < w.heap.size) := HO.out.2.2.lt
  clear q1 hr
  by_cases hat : atKey L k
  · obtain rfl : r = true := HR.out.2 hat
    have HT : Hid (atKey L k) := hat
    have HE : Hid (gonePr L k = L.eraseIdx (aheadN L k)) := by
      unfold Hid
      rw [gone_is HO.out.2.1]; exact if_pos hat
    have O1 : Hid (Own w1 (b + 1) 65 2 L.length (rowL L) (.slice ao L.length cp) ∧ Blk2 w1 b (.slice ao L.length cp) (.func (.func 37) #[] #[])) := ⟨HO.out.1.later HB.out, HO.out.2.2.later HB.out⟩
    obtain ⟨⟨hb0, hb1⟩, _, _⟩ := O1.out.2
    have hlt := hat.1
    have ha : aheadN L k ≤ 1000 := Nat.le_trans (aheadN_le L k) hn
    obtain ⟨A, hA⟩ : ∃ A, aheadN L k = A := ⟨_, rfl⟩
    have HAA : Hid (aheadN L k = A) := hA
    rw [hA] at hlt ha
    rw [hA]
    clear hA HR hat
    go_wp2_with fail
    refine (delP_any _ (b + 1) L.length A (rowL L) _ O1.out.1 (by omega) hlt).mono ?_
    rintro e w2 ⟨v2, rfl, ho2, hg2, hob2⟩
    obtain ⟨e2, f2, rfl⟩ := ho2.form
    have HB2 : Hid (Blk2 w2 b (.slice ao L.length cp) (.func (.func 37) #[] #[])) := own_grown O1.out.2 O1.out.1 (by omega) hg2
    have HO2 : Hid (Own w2 (b + 1) 65 2 (gonePr L k).length (rowL (gonePr L k)) (.slice e2 (L.length - 1) f2)) := by
      unfold Hid
      rw [HE.out, HAA.out, List.length_eraseIdx_of_lt hlt]
      exact own_eqP ho2 (fun p _ => rowL_erase)
    have HD : Hid (Below b w w2) := (HB.out.mono (Nat.le_of_lt hbw.out)).trans (grown_below O1.out.1 (by omega) (by have := HB.out.size; have := hbw.out; omega) hg2)
    obtain ⟨⟨c0, c1⟩, c2, c3⟩ := HB2.out
    have HK : Hid (KeptBut b (.slice ao L.length cp) w w2) := (KeptBut.below HB.out).trans HB.out.size (KeptBut.grown hg2)
    have HOB : Hid ((Value.slice e2 (L.length - 1) f2).ownBlock = (Value.slice ao L.length cp).ownBlock) := hob2
    clear ho2 hg2 hob2
    go_wp2
    go_end0
    exact ⟨rfl, ⟨_, stored_is HB2.out HO2.out, HOB.out⟩, HD.out.setCell (Nat.le_refl _) _, HK.out.trans' (KeptBut.set _)⟩
  · obtain rfl : r = false := Bool.eq_false_iff.2 (fun q => hat (HR.out.1 q))
    have HE : Hid (gonePr L k = L) := by
      unfold Hid
      rw [gone_is HO.out.2.1]; exact if_neg hat
    clear hat HR
    go_wp2
    go_end0
    rw [HE.out]
    exact ⟨rfl, ⟨_, ⟨HO.out.2.2.later HB.out, HO.out.1.later HB.out⟩, rfl⟩, HB.out.mono (Nat.le_of_lt hbw.out), KeptBut.below HB.out⟩
end Go.Proofs.Ytdbcmckoiacemaa

namespace Go.Proofs.Ytdbcmckoiacemaa
open Go.RowKit

set_option maxRecDepth 100000 in
set_option maxHeartbeats 2000000 in
theorem put_any (L : Prs) (b : Nat) (k x : Int) (w : World) (h : Ris w b L) (hr : Rises L) (hn : L.length ≤ 900) :
    Calls Try.prog 59 #[.pointer (some ⟨b, 0, none⟩), .agg #[.int .i64 k, .int .i64 x]] w fun e w' => e = .returned (.tuple #[]) ∧ Ris w' b (putPr L k x) ∧ Below b w w' := by
  obtain ⟨v, hb, ho⟩ := h
  have HO : Hid (Blk2 w b v (.func (.func 37) #[] #[]) ∧ Own w (b + 1) 65 2 L.length (rowL L) v ∧ Rises L) := ⟨hb, ho, hr⟩
  have hbw : b < w.heap.size := hb.lt
  obtain ⟨G, hG⟩ : ∃ G, gonePr L k = G := ⟨_, rfl⟩
  have hGn : G.length ≤ 900 := by rw [← hG]; exact Nat.le_trans (List.length_filter_le _ _) hn
  have HGR : Hid (Rises G ∧ putPr L k x = G.insertIdx (aheadN G k) (k, x)) := by
    unfold Hid
    rw [← hG]
    exact ⟨gonePr_rises hr k, put_is hr k x⟩
  have HG : Hid (gonePr L k = G) := hG
  clear hb ho hr hG
  go_enter Try.func59, Try.ntmps59
  go_wp2_with fail
  refine (drop_any L b v k x _ (HO.out.1.alloc _) (HO.out.2.1.alloc _) HO.out.2.2 (by omega)).mono ?_
  rintro e w1 ⟨rfl, h1, q1, hk1⟩
  rw [HG.out] at h1
  obtain ⟨v1, ⟨hb1, ho1⟩, hv1⟩ := h1
  obtain ⟨ao, cp, rfl⟩ := ho1.form
  have HX1 : Blk2 w1 w.heap.size (.int .i64 k) (.int .i64 x) := (Blk2.new w _ _ 65).kept (hk1.2 _ (by simp) (by omega) (fun e => by have := (own_in HO.out.2.1 _ e).2; omega))
  have R1 : Hid (Blk2 w1 b (.slice ao G.length cp) (.func (.func 37) #[] #[]) ∧ Own w1 (b + 1) 65 2 G.length (rowL G) (.slice ao G.length cp) ∧ Blk2 w1 w.heap.size (.int .i64 k) (.int .i64 x) ∧ Below b w w1) := ⟨hb1, ho1, HX1, ((below_alloc w _).mono (Nat.le_of_lt hbw)).trans q1⟩
  obtain ⟨⟨c0, c1⟩, _, _⟩ := HX1
  have HVB : Hid (∀ q, (Value.slice ao G.length cp).ownBlock = some q → q < w.heap.size) := fun q hq => (own_in HO.out.2.1 q (hv1 ▸ hq)).2
  clear hv1 hb1 ho1 q1 hk1 HO
  go_wp2_with fail
  refine (place_any G b (b + 1) _ k x _ R1.out.1 R1.out.2.1 HGR.out.1 (by omega)).mono ?_
  rintro e w2 ⟨r, rfl, _, q2⟩
  have R2 : Hid (Blk2 w2 b (.slice ao G.length cp) (.func (.func 37) #[] #[]) ∧ Own w2 (b + 1) 65 2 G.length (rowL G) (.slice ao G.length cp) ∧ Blk2 w2 w.heap.size (.int .i64 k) (.int .i64 x) ∧ Below b w w2) := ⟨R1.out.1.later q2, R1.out.2.1.later q2, R1.out.2.2.1.later q2, R1.out.2.2.2.trans (q2.mono (by have := R1.out.2.2.2.size; omega))⟩
  have hle : aheadN G k ≤ G.length := aheadN_le G k
  obtain ⟨A, hA⟩ : ∃ A, aheadN G k = A := ⟨_, rfl⟩
  have HAA : Hid (putPr L k x = G.insertIdx A (k, x)) := by unfold Hid; rw [← hA]; exact HGR.out.2
  rw [hA] at hle
  rw [hA]
  clear hA q2 R1 c0 c1
  have hw2 : b < w2.heap.size := R2.out.1.lt
  have hc2 : w.heap.size < w2.heap.size := R2.out.2.2.1.lt
  have HI : Hid (Calls Try.prog 65 #[.slice ao G.length cp, .int .i64 A, .slice (some ⟨w2.heap.size, 0, none⟩) 1 1] (w2.drew.alloc (.cells #[.int .i64 k, .int .i64 x] 65)) (InsP (w2.drew.alloc (.cells #[.int .i64 k, .int .i64 x] 65)) (b + 1) G.length A (rowL G) [k, x] (.slice ao G.length cp))) :=
    insP_any _ (b + 1) G.length A w2.heap.size 1 (rowL G) [k, x] _ rfl (R2.out.2.1.later ((Below.drew (Below.refl _ _)).trans ((below_alloc _ _).mono (Nat.le_refl _)))) (by simp; omega) (by omega) hle (fun e => by have := (own_in R2.out.2.1 _ e).2; omega) (Blkk.made w2.drew _ _ _ rfl) (fun p hp => by
      rw [World.cell?_alloc_at (w := w2.drew) _ _ w2.heap.size p rfl]
      obtain rfl | rfl : p = 0 ∨ p = 1 := by omega
      all_goals rfl)
  have HYB : Hid (Below w2.heap.size w2 (w2.drew.alloc (.cells #[.int .i64 k, .int .i64 x] 65))) := (Below.drew (Below.refl _ _)).trans ((below_alloc _ _).mono (Nat.le_refl _))
  have SY : Hid (Blk2 (w2.drew.alloc (.cells #[.int .i64 k, .int .i64 x] 65)) b (.slice ao G.length cp) (.func (.func 37) #[] #[]) ∧ Blk2 (w2.drew.alloc (.cells #[.int .i64 k, .int .i64 x] 65)) w.heap.size (.int .i64 k) (.int .i64 x)) := ⟨R2.out.1.later HYB.out, R2.out.2.2.1.later HYB.out⟩
  have HOY : Hid (Own (w2.drew.alloc (.cells #[.int .i64 k, .int .i64 x] 65)) (b + 1) 65 2 G.length (rowL G) (.slice ao G.length cp) ∧ Below b w (w2.drew.alloc (.cells #[.int .i64 k, .int .i64 x] 65))) := ⟨R2.out.2.1.later HYB.out, R2.out.2.2.2.trans (HYB.out.mono (by omega))⟩
  obtain ⟨⟨p0, p1⟩, _, _⟩ := R2.out.1
  have hS0 : (fun X : World => Blk2 X w.heap.size (.int .i64 k) (.int .i64 x)) w2.drew := R2.out.2.2.1
  clear R2
  go_upto_region 3 with fail
  refine wp_region_held_drew (S := (fun X : World => Blk2 X w.heap.size (.int .i64 k) (.int .i64 x))) (by kernel_rfl) hS0 (fun hS => ?_)
  clear hS0
  refine tkH 0 ?_ hS (fun wx hx => ?_) ?_; rotate_left
  · obtain ⟨⟨hx2, hx3⟩, hx6, hx7⟩ := hx; go_simp; try with_reducible rfl
  refine tkH 1 ?_ hS (fun wx hx => ?_) ?_; rotate_left
  · obtain ⟨⟨hx2, hx3⟩, hx6, hx7⟩ := hx; go_simp; try with_reducible rfl
  refine tkH 2 ?_ hS (fun wx hx => ?_) ?_; rotate_left
  · obtain ⟨⟨hx2, hx3⟩, hx6, hx7⟩ := hx; go_simp; try with_reducible rfl
  refine tkH 3 ?_ hS (fun wx hx => ?_) ?_; rotate_left
  · obtain ⟨⟨hx2, hx3⟩, hx6, hx7⟩ := hx; go_simp; try with_reducible rfl
  refine tkH 5 ?_ hS (fun wx hx => ?_) ?_; rotate_left
  · obtain ⟨⟨hx2, hx3⟩, hx6, hx7⟩ := hx; go_simp; try with_reducible rfl
  refine tkH 6 ?_ hS (fun wx hx => ?_) ?_; rotate_left
  · obtain ⟨⟨hx2, hx3⟩, hx6, hx7⟩ := hx; go_simp; try with_reducible rfl
  refine wpAnyH_ready (rs := [4, 7]) (by kernel_rfl) (by simp) ?_
  refine AllReadyH.cons rfl (fun K hK => ?_) (AllReadyH.cons rfl (fun K hK => ?_) AllReadyH.nil)
  focus
    go_simp
    refine hK.out _ _ hS (fun hS => ?_)
    clear hK K p0 p1
    refine rdH 7 (fun K hK => ?_)
    go_simp
    refine hK.out _ _ SY.out.2 (fun hS => ?_)
    clear hK K
  rotate_left
  focus
    go_simp
    refine hK.out _ _ SY.out.2 (fun hS => ?_)
    clear hK K
    refine rdH 4 (fun K hK => ?_)
    go_simp
    refine hK.out _ _ hS (fun hS => ?_)
    clear hK K p0 p1
  rotate_left
  all_goals
    refine rdH 8 (fun K hK => ?_)
    go_simp
    go_wp2_with fail
    refine HI.out.mono ?_
    rintro e w3 ⟨a3, c3, rfl, ho3, hg3, _⟩
    have HB3 : Hid (Blk2 w3 b (.slice ao G.length cp) (.func (.func 37) #[] #[])) := own_grown SY.out.1 HOY.out.1 (by omega) hg3
    have hS3 : Blk2 w3 w.heap.size (.int .i64 k) (.int .i64 x) := SY.out.2.kept (hg3.block _ (by simp; omega) (fun e => by have := HVB.out _ e.symm; omega))
    have HO3 : Hid (Own w3 (b + 1) 65 2 (putPr L k x).length (rowL (putPr L k x)) (.slice a3 (G.length + 1) c3)) := by
      unfold Hid
      rw [HAA.out, List.length_insertIdx_of_le_length hle]
      exact own_eqP ho3 (fun p hp => rowL_insert hle hp)
    have HD3 : Hid (Below b w w3) := HOY.out.2.trans (grown_below HOY.out.1 (by omega) (by simp; omega) hg3)
    clear ho3 hg3
    go_wp2_with fail
    refine hK.out _ _ hS3 (fun hS => ?_)
    clear hK K hS3
    refine tkH 9 ?_ hS (fun wx hx => ?_) ?_; rotate_left
    · obtain ⟨⟨hx2, hx3⟩, hx6, hx7⟩ := hx; go_simp; try with_reducible rfl
    refine tkH 10 ?_ hS (fun wx hx => ?_) ?_; rotate_left
    · obtain ⟨⟨hx2, hx3⟩, hx6, hx7⟩ := hx; go_simp; try with_reducible rfl
    refine rdH 11 (fun K hK => ?_)
    obtain ⟨⟨x0, x1⟩, x2, x3⟩ := HB3.out
    go_simp
    refine hK.out _ _ (hS.kept (Below.heap_setCell _ ⟨b, 0, none⟩ _ _ (by simp; omega))) (fun hS => ?_)
    clear hK K x0 x1 x2 x3
    refine wpAnyH_done (by kernel_rfl) ?_ _
    go_simp
    go_end0
    exact ⟨rfl, ⟨_, stored_is HB3.out HO3.out⟩, HD3.out.setCell (Nat.le_refl _) _⟩
theorem take_put {L : Prs} (h : Rises L) {k : Nat} (hk : k < L.length) : putPr (L.take k) (L.getD k (0, 0)).1 (L.getD k (0, 0)).2 = L.take (k + 1) := by
  have hg : L.getD k (0, 0) = L[k] := by simp [List.getD, hk]
  rw [hg, putPr_end, List.take_succ_eq_append_getElem hk]
  intro a ha
  obtain ⟨i, hi, rfl⟩ := List.getElem_of_mem ha
  rw [List.getElem_take]
  have hi' : i < k := by
    rw [List.length_take] at hi; omega
  exact List.pairwise_iff_getElem.1 h i k (by omega) hk hi'
theorem rises_take {L : Prs} (h : Rises L) (k : Nat) : Rises (L.take k) := List.Pairwise.sublist (List.take_sublist k L) h
theorem Ris.new (w : World) : Ris (w.alloc (.cells #[.slice none 0 0, (.func (.func 37) #[] #[])] 69)) w.heap.size [] := ⟨_, Blk2.new w _ _ _, Own.nil _ _ _ _ _⟩
set_option maxRecDepth 100000 in
set_option maxHeartbeats 2000000 in
theorem filled_any (L : Prs) (v : Value) (B : Nat) (w : World) (h : Row w B 2 L.length (rowL L) v) (hr : Rises L) (hn : L.length ≤ 800) :
    Calls Try.prog 36 #[(.func (.func 37) #[] #[]), v] w fun e w' => ∃ b, e = .returned (.pointer (some ⟨b, 0, none⟩)) ∧ w.heap.size ≤ b ∧ Ris w' b L ∧ Below w.heap.size w w' := by
  obtain ⟨ao, cp, rfl⟩ := h.form
  have H : Hid (Row w B 2 L.length (rowL L) (.slice ao L.length cp) ∧ Rises L) := ⟨h, hr⟩
  clear h hr
  go_enter Try.func36, Try.ntmps36
  go_wp2
  go_loopw [13] (fun i wr => ∃ k : Nat, k ≤ L.length ∧ i = .int .i64 k ∧ Hid (Ris wr w.heap.size (L.take k) ∧ Below w.heap.size w wr)) (fun i _ => L.length - (intOf i).toNat)
  case atStart => exact ⟨0, Nat.zero_le _, rfl, Ris.new w, below_alloc _ _⟩
  case round =>
    obtain ⟨k, hk, rfl, HS⟩ := hrel
    by_cases hlt : k < L.length
    case neg =>
      obtain rfl : k = L.length := by omega
      have HE : Hid (Ris wr w.heap.size L ∧ Below w.heap.size w wr) := by
        have := HS.out
        rwa [List.take_length] at this
      clear HS
      go_wp2
      go_ret
      exact ⟨_, rfl, Nat.le_refl _, HE.out.1, HE.out.2⟩
    obtain ⟨g, o, hao, _, hg, y0, y1⟩ := (H.out.1.later HS.out.2).at2 hlt
    subst hao
    obtain ⟨n0, N0⟩ : ∃ x, rowL L (k * 2) = x := ⟨_, rfl⟩
    rw [N0] at y0
    obtain ⟨n1, N1⟩ : ∃ x, rowL L (k * 2 + 1) = x := ⟨_, rfl⟩
    rw [N1] at y1
    have HP : Hid (putPr (L.take k) n0 n1 = L.take (k + 1)) := by
      unfold Hid
      rw [← N0, ← N1, rowL_key, rowL_val]
      exact take_put H.out.2 hlt
    clear N0 N1
    have hz : Hid (w.heap.size < wr.heap.size) := HS.out.1.lt
    go_wp2_with fail
    refine (put_any (L.take k) w.heap.size n0 n1 _ (HS.out.1.later ?_) (rises_take H.out.2 k) (by rw [List.length_take]; omega)).mono ?_
    · exact below_alloc _ _
    rintro e w1 ⟨rfl, h1, q1⟩
    rw [HP.out] at h1
    have H1 : Hid (Ris w1 w.heap.size (L.take (k + 1)) ∧ Below w.heap.size w w1) := ⟨h1, HS.out.2.trans (((below_alloc wr _).mono (Nat.le_of_lt hz.out)).trans q1)⟩
    clear h1 q1 HS y0 y1
    go_wp2
    go_roundw
    case rel => exact ⟨k + 1, by omega, by go_num, H1⟩
    case measure => simp [intOf]; omega
/-- What an item makes of a list. -/
def stepA (L : Prs) (k kd v : Int) : Prs := if kd = 1 then putPr L k v else if kd = 2 then gonePr L k else L
/-- What the first m items make of it. -/
def applyN (L : Prs) (F : Nat → Int) : Nat → Prs
  | 0 => L
  | m + 1 => stepA (applyN L F m) (F (m * 3)) (F (m * 3 + 1)) (F (m * 3 + 2))
theorem putPr_len (L : Prs) (k v : Int) : (putPr L k v).length ≤ L.length + 1 := by
  induction L with
  | nil => simp [putPr]
  | cons e t ih =>
    rw [putPr]
    split
    · simp only [List.length_cons]
      have : (gonePr (e :: t) k).length ≤ (e :: t).length := List.length_filter_le _ _
      simp only [List.length_cons] at this
      omega
    · simp only [List.length_cons]; omega
theorem gonePr_len (L : Prs) (k : Int) : (gonePr L k).length ≤ L.length := List.length_filter_le _ _
theorem stepA_len (L : Prs) (k kd v : Int) : (stepA L k kd v).length ≤ L.length + 1 := by
  unfold stepA
  split
  · exact putPr_len L k v
  · split
    · exact Nat.le_trans (gonePr_len L k) (by omega)
    · omega
theorem stepA_rises {L : Prs} (h : Rises L) (k kd v : Int) : Rises (stepA L k kd v) := by
  unfold stepA
  split
  · exact putPr_rises h k v
  · split
    · exact gonePr_rises h k
    · exact h
theorem applyN_len (L : Prs) (F : Nat → Int) : ∀ m, (applyN L F m).length ≤ L.length + m
  | 0 => Nat.le_refl _
  | m + 1 => by
    have h1 := applyN_len L F m
    have h2 := stepA_len (applyN L F m) (F (m * 3)) (F (m * 3 + 1)) (F (m * 3 + 2))
    show (stepA _ _ _ _).length ≤ _
    omega
theorem applyN_rises {L : Prs} (h : Rises L) (F : Nat → Int) : ∀ m, Rises (applyN L F m)
  | 0 => h
  | m + 1 => stepA_rises (applyN_rises h F m) _ _ _
set_option maxRecDepth 100000 in
set_option maxHeartbeats 2000000 in
theorem applyTo_any (L : Prs) (F : Nat → Int) (n b : Nat) (y : Value) (B : Nat) (w0 w : World) (hi : Row w0 B 3 n F y) (h0 : Below w0.heap.size w0 w) (hb : w0.heap.size ≤ b) (h : Ris w b L) (hr : Rises L) (hL : L.length ≤ 800) (hn : n ≤ 12) :
    Calls Try.prog 38 #[.pointer (some ⟨b, 0, none⟩), y] w fun e w' => e = .returned (.tuple #[]) ∧ Ris w' b (applyN L F n) ∧ Below w0.heap.size w0 w' := by
  obtain ⟨ao, cp, rfl⟩ := hi.form
  have H : Hid (Row w0 B 3 n F (.slice ao n cp) ∧ Rises L) := ⟨hi, hr⟩
  have HB : Hid (Ris w b L ∧ Below w0.heap.size w0 w) := ⟨h, h0⟩
  clear hi hr h h0
  go_enter Try.func38, Try.ntmps38
  go_wp2
  go_loopw [8] (fun i wr => ∃ k : Nat, k ≤ n ∧ i = .int .i64 k ∧ Hid (Ris wr b (applyN L F k) ∧ Below w0.heap.size w0 wr)) (fun i _ => n - (intOf i).toNat)
  case atStart => exact ⟨0, Nat.zero_le _, rfl, HB.out⟩
  case round =>
    obtain ⟨k, hk, rfl, HS⟩ := hrel
    by_cases hlt : k < n
    case neg =>
      obtain rfl : k = n := by omega
      go_wp2
      go_end0
      exact ⟨rfl, HS.out.1, HS.out.2⟩
    obtain ⟨g, o, hao, _, hg, y0, y1, y2⟩ := (H.out.1.later HS.out.2).at3 hlt
    subst hao
    obtain ⟨n0, N0⟩ : ∃ x, F (k * 3) = x := ⟨_, rfl⟩
    rw [N0] at y0
    obtain ⟨n1, N1⟩ : ∃ x, F (k * 3 + 1) = x := ⟨_, rfl⟩
    rw [N1] at y1
    obtain ⟨n2, N2⟩ : ∃ x, F (k * 3 + 2) = x := ⟨_, rfl⟩
    rw [N2] at y2
    have HP : Hid (applyN L F (k + 1) = stepA (applyN L F k) n0 n1 n2) := by
      unfold Hid
      rw [← N0, ← N1, ← N2]
      rfl
    clear N0 N1 N2
    have hln : (applyN L F k).length ≤ 812 := Nat.le_trans (applyN_len L F k) (by omega)
    have HR : Hid (Rises (applyN L F k)) := applyN_rises H.out.2 F k
    have hz : Hid (b < wr.heap.size) := HS.out.1.lt
    by_cases k1 : n1 = 1
    · subst k1
      have HE : Hid (applyN L F (k + 1) = putPr (applyN L F k) n0 n2) := by unfold Hid; rw [HP.out, stepA, if_pos rfl]
      clear HP
      go_wp2_with fail
      refine (put_any (applyN L F k) b n0 n2 _ (HS.out.1.later ?_) HR.out (by omega)).mono ?_
      · exact below_alloc _ _
      rintro e w1 ⟨rfl, h1, q1⟩
      rw [← HE.out] at h1
      have H1 : Hid (Ris w1 b (applyN L F (k + 1)) ∧ Below w0.heap.size w0 w1) := ⟨h1, HS.out.2.trans (((below_alloc wr _).mono (by have := hz.out; omega)).trans (q1.mono hb))⟩
      clear h1 q1 HS y0 y1 y2
      go_wp2
      go_roundw
      case rel => exact ⟨k + 1, by omega, by go_num, H1⟩
      case measure => simp [intOf]; omega
    have d1 : (n1 == 1) = false := beq_eq_false_iff_ne.2 k1
    by_cases k2 : n1 = 2
    · have HE : Hid (applyN L F (k + 1) = gonePr (applyN L F k) n0) := by unfold Hid; rw [HP.out, stepA, if_neg k1, if_pos k2]
      subst k2
      clear HP k1 d1
      go_wp2_with fail
      obtain ⟨v, hb1, ho1⟩ := HS.out.1
      refine (drop_any (applyN L F k) b v n0 0 _ (hb1.alloc _) (ho1.alloc _) HR.out (by omega)).mono ?_
      rintro e w1 ⟨rfl, ⟨v1, h1, _⟩, q1, _⟩
      rw [← HE.out] at h1
      have H1 : Hid (Ris w1 b (applyN L F (k + 1)) ∧ Below w0.heap.size w0 w1) := ⟨⟨v1, h1⟩, HS.out.2.trans (((below_alloc wr _).mono (by have := hz.out; omega)).trans (q1.mono hb))⟩
      clear h1 q1 HS y0 y1 y2 hb1 ho1
      go_wp2
      go_roundw
      case rel => exact ⟨k + 1, by omega, by go_num, H1⟩
      case measure => simp [intOf]; omega
    have d2 : (n1 == 2) = false := beq_eq_false_iff_ne.2 k2
    have HE : Hid (applyN L F (k + 1) = applyN L F k) := by unfold Hid; rw [HP.out, stepA, if_neg k1, if_neg k2]
    clear k1 k2 HP
    have H1 : Hid (∀ o : Obj, Ris (wr.alloc o) b (applyN L F (k + 1)) ∧ Below w0.heap.size w0 (wr.alloc o)) := fun o => by
      rw [HE.out]
      exact ⟨HS.out.1.later (below_alloc _ _), HS.out.2.alloc (by have := hz.out; omega) _⟩
    go_wp2
    go_roundw
    case rel => exact ⟨k + 1, by omega, by go_num, H1.out _⟩
    case measure => simp [intOf]; omega
end Go.Proofs.Ytdbcmckoiacemaa

namespace Go.Proofs.Ytdbcmckoiacemaa
open Go.RowKit

theorem pairsF_all {F : Nat → Int} : ∀ {m k : Nat}, pairsF F m k = 0 → ∀ j, j < m → pairF F (k + j) = 0
  | 0, _, _, j, hj => absurd hj (Nat.not_lt_zero j)
  | m + 1, k, h, j, hj => by
    rw [pairsF] at h
    by_cases h0 : pairF F k = 0
    · rw [if_neg (fun q => q h0)] at h
      cases j with
      | zero => exact h0
      | succ j =>
        have := pairsF_all h j (by omega)
        rwa [show k + 1 + j = k + (j + 1) by omega] at this
    · rw [if_pos h0] at h
      exact absurd h h0
theorem faultOf_in {k : Int} (h : faultOf k = 0) : 0 ≤ k ∧ k ≤ 199 := by
  rcases Classical.em (k < 0 ∨ 199 < k) with q | q
  · rw [faultOf_range q] at h; omega
  · omega
theorem pairF_zero {F : Nat → Int} {k : Nat} (h : pairF F k = 0) : faultOf (F (k * 2)) = 0 ∧ (0 ≤ F (k * 2 + 1) ∧ F (k * 2 + 1) ≤ 9999) ∧ (0 < k → F ((k - 1) * 2) < F (k * 2)) := by
  unfold pairF at h
  by_cases h1 : faultOf (F (k * 2)) = 0
  · rw [if_neg (fun q => q h1)] at h
    by_cases h2 : 0 ≤ F (k * 2 + 1) ∧ F (k * 2 + 1) ≤ 9999
    · rw [if_neg (fun q => q h2)] at h
      by_cases h3 : 0 < k ∧ F (k * 2) ≤ F ((k - 1) * 2)
      · rw [if_pos h3] at h; omega
      · exact ⟨h1, h2, fun q => by omega⟩
    · rw [if_pos h2] at h; omega
  · rw [if_pos h1] at h; exact absurd h h1
/-- A list without a fault: its keys rise, and it is short. -/
theorem pairs_rise {F : Nat → Int} {n : Nat} (h : pairsF F n 0 = 0) : Rises (listOf F n) ∧ n ≤ 200 := by
  have hall : ∀ j, j < n → pairF F j = 0 := fun j hj => by have := pairsF_all h j hj; rwa [Nat.zero_add] at this
  have hup : ∀ d i, i + d < n → F (i * 2) + d ≤ F ((i + d) * 2) := fun d => by
    induction d with
    | zero => intro i _; simp
    | succ d ih =>
      intro i hi
      have h1 := ih i (by omega)
      have h2 := (pairF_zero (hall (i + (d + 1)) hi)).2.2 (by omega)
      rw [show i + (d + 1) - 1 = i + d by omega] at h2
      omega
  constructor
  · refine List.pairwise_iff_getElem.2 fun i j hi hj hij => ?_
    rw [listOf_length] at hi hj
    simp only [listOf, List.getElem_map, List.getElem_range]
    have := hup (j - i) i (by omega)
    rw [show i + (j - i) = j by omega] at this
    omega
  · rcases Nat.lt_or_ge 200 n with q | q
    · have h1 := hup 200 0 (by omega)
      have h2 := faultOf_in (pairF_zero (hall (0 + 200) (by omega))).1
      have h3 := faultOf_in (pairF_zero (hall 0 (by omega))).1
      simp only [Nat.zero_add, Nat.zero_mul] at h1 h2 h3
      omega
    · exact q
theorem row_list {w : World} {B n : Nat} {F : Nat → Int} {v : Value} (h : Row w B 2 n F v) : Row w B 2 (listOf F n).length (rowL (listOf F n)) v := by
  rw [listOf_length]
  exact row_eqP h fun p hp => (rowL_listOf hp).symm
end Go.Proofs.Ytdbcmckoiacemaa

namespace Go.Proofs.Ytdbcmckoiacemaa
open Go.RowKit

/-- The numbers of a list of pairs, as a list. -/
def flatL : Prs → List Int
  | [] => []
  | e :: t => e.1 :: e.2 :: flatL t
theorem flatL_length : ∀ L, (flatL L).length = L.length * 2
  | [] => rfl
  | e :: t => by simp only [flatL, List.length_cons, flatL_length t]; omega
theorem flatL_append : ∀ (L M : Prs), flatL (L ++ M) = flatL L ++ flatL M
  | [], _ => rfl
  | e :: t, M => by simp only [List.cons_append, flatL, flatL_append t M]
theorem flatL_get : ∀ (L : Prs) (p : Nat), (flatL L).getD p 0 = rowL L p
  | [], p => by simp [flatL, rowL]
  | e :: t, 0 => rfl
  | e :: t, 1 => rfl
  | e :: t, p + 2 => by
    simp only [flatL, List.getD_cons_succ]
    rw [flatL_get t p, rowL, rowL, show (p + 2) % 2 = p % 2 by omega, show (p + 2) / 2 = p / 2 + 1 by omega, List.getD_cons_succ]
theorem ownM_own {w : World} {B : Nat} {v : Value} {L : Prs} (h : OwnM w B 65 2 v L.length (flatL L)) : Own w B 65 2 L.length (rowL L) v := own_eqP (h.own (flatL_length L)) fun p _ => flatL_get L p
theorem row_lit2 (w : World) (x0 x1 : Int) (t : TypeId) : Row (w.alloc (.cells #[.int .i64 x0, .int .i64 x1] t)) 0 2 1 (fun p => [x0, x1].getD p 0) (.slice (some ⟨w.heap.size, 0, none⟩) 1 1) := by
  refine ⟨_, _, rfl, fun _ => ⟨w.heap.size, 0, rfl, Nat.zero_le _, by simp, fun p hp => ?_⟩⟩
  rw [Nat.zero_add, World.cell?_alloc_mark]
  match p, hp with
  | 0, _ => rfl
  | 1, _ => rfl
/-- One round of the model's set. -/
def stepS (k x : Int) (q : Prs × Bool) (e : Int × Int) : Prs × Bool :=
  ((if q.2 = false ∧ k ≤ e.1 then q.1 ++ [(k, x)] else q.1) ++ (if e.1 = k then [] else [e]), if k ≤ e.1 then true else q.2)
def accS (L : Prs) (k x : Int) (has : Bool) : Nat → Prs × Bool
  | 0 => ([], !has)
  | i + 1 => stepS k x (accS L k x has i) (L.getD i (0, 0))
/-- What the model's set comes to. -/
def setS (L : Prs) (k x : Int) (has : Bool) : Prs := if (accS L k x has L.length).2 then (accS L k x has L.length).1 else (accS L k x has L.length).1 ++ [(k, x)]
theorem accS_foldl (L : Prs) (k x : Int) (has : Bool) : ∀ i, i ≤ L.length → accS L k x has i = (L.take i).foldl (stepS k x) ([], !has)
  | 0, _ => by simp [accS]
  | i + 1, h => by
    have hg : L.getD i (0, 0) = L[i] := by simp [List.getD, show i < L.length by omega]
    rw [accS, accS_foldl L k x has i (by omega), List.take_succ_eq_append_getElem (by omega), List.foldl_append, hg]
    rfl
theorem fold_done (k x : Int) : ∀ (L o : Prs), L.foldl (stepS k x) (o, true) = (o ++ gonePr L k, true)
  | [], o => by simp [gonePr]
  | e :: t, o => by
    rw [List.foldl_cons]
    have h1 : stepS k x (o, true) e = (o ++ (if e.1 = k then [] else [e]), true) := by simp [stepS]
    rw [h1, fold_done k x t, List.append_assoc]
    congr 2
    unfold gonePr
    by_cases he : e.1 = k
    · rw [if_pos he, List.filter_cons_of_neg (by simp [he])]; rfl
    · rw [if_neg he, List.filter_cons_of_pos (by simp [he])]; rfl
theorem fold_put (k x : Int) : ∀ (L o : Prs), (if (L.foldl (stepS k x) (o, false)).2 then (L.foldl (stepS k x) (o, false)).1 else (L.foldl (stepS k x) (o, false)).1 ++ [(k, x)]) = o ++ putPr L k x
  | [], o => by simp [putPr]
  | e :: t, o => by
    rw [List.foldl_cons]
    by_cases he : k ≤ e.1
    · have h1 : stepS k x (o, false) e = ((o ++ [(k, x)]) ++ (if e.1 = k then [] else [e]), true) := by simp [stepS, he]
      rw [h1, fold_done]
      simp only [if_true]
      rw [putPr, if_pos he]
      have h2 : gonePr (e :: t) k = (if e.1 = k then [] else [e]) ++ gonePr t k := by
        unfold gonePr
        by_cases hk : e.1 = k
        · rw [if_pos hk, List.filter_cons_of_neg (by simp [hk])]; rfl
        · rw [if_neg hk, List.filter_cons_of_pos (by simp [hk])]; rfl
      rw [h2]
      simp
    · have h1 : stepS k x (o, false) e = (o ++ [e], false) := by simp [stepS, he, show ¬ e.1 = k by omega]
      rw [h1, fold_put k x t (o ++ [e]), putPr, if_neg he]
      simp
theorem setS_put (L : Prs) (k x : Int) : setS L k x true = putPr L k x := by
  unfold setS
  rw [accS_foldl L k x true _ (Nat.le_refl _), List.take_length]
  exact fold_put k x L []
theorem setS_gone (L : Prs) (k x : Int) : setS L k x false = gonePr L k := by
  unfold setS
  rw [accS_foldl L k x false _ (Nat.le_refl _), List.take_length]
  show (if (L.foldl (stepS k x) ([], true)).2 = true then (L.foldl (stepS k x) ([], true)).1 else _) = _
  rw [fold_done]
  rfl
theorem accS_len (L : Prs) (k x : Int) (has : Bool) : ∀ i, (accS L k x has i).1.length ≤ i * 2
  | 0 => by simp [accS]
  | i + 1 => by
    have h := accS_len L k x has i
    rw [accS, stepS]
    simp only [List.length_append]
    have h1 : (if (accS L k x has i).2 = false ∧ k ≤ (L.getD i (0, 0)).1 then (accS L k x has i).1 ++ [(k, x)] else (accS L k x has i).1).length ≤ (accS L k x has i).1.length + 1 := by split <;> simp
    have h2 : (if (L.getD i (0, 0)).1 = k then [] else [L.getD i (0, 0)]).length ≤ 1 := by split <;> simp
    omega
/-- What stands while the model sets. -/
def SetE (w : World) (k x : Int) (v : Value) (o : Prs) (X : World) : Prop := OwnM X (w.heap.size + 1) 65 2 v o.length (flatL o) ∧ Blk2 X w.heap.size (.int .i64 k) (.int .i64 x) ∧ Below w.heap.size w X
theorem SetE.push {w X w2 : World} {k x a b : Int} {ao ao1 : Option Addr} {cp cp1 : Nat} {o : Prs} (h : SetE w k x (.slice ao o.length cp) o X) (O2 : OwnM w2 (w.heap.size + 1) 65 2 (.slice ao1 (o.length + 1) cp1) (o.length + 1) (flatL o ++ nums (fun p => [a, b].getD p 0) (1 * 2))) (G2 : (X.alloc (.cells #[.int .i64 a, .int .i64 b] 65)).grownBy w2 (Value.slice ao o.length cp).ownBlock) : SetE w k x (.slice ao1 (o ++ [(a, b)]).length cp1) (o ++ [(a, b)]) w2 := by
  refine ⟨?_, (h.2.1.alloc _).kept (G2.block _ (by have := h.2.1.lt; simp; omega) (fun e => by have := (h.1.block _ e.symm).1; omega)), (h.2.2.alloc h.2.2.size _).grown G2 (by have := h.2.2.size; simp; omega) (fun r e => by have := (h.1.block r e).1; omega)⟩
  rw [List.length_append, flatL_append]
  exact O2
set_option maxRecDepth 100000 in
set_option maxHeartbeats 4000000 in
theorem l11Set_any (L : Prs) (v : Value) (B : Nat) (k x : Int) (has : Bool) (w : World) (h : Row w B 2 L.length (rowL L) v) (hn : L.length ≤ 1000) :
    Calls Try.prog 62 #[v, .agg #[.int .i64 k, .int .i64 x], .bool has] w fun e w' => ∃ ao cp, e = .returned (.slice ao (setS L k x has).length cp) ∧ Own w' w.heap.size 65 2 (setS L k x has).length (rowL (setS L k x has)) (.slice ao (setS L k x has).length cp) ∧ Below w.heap.size w w' := by
  obtain ⟨ao0, cp0, rfl⟩ := h.form
  have H : Hid (Row w B 2 L.length (rowL L) (.slice ao0 L.length cp0)) := h
  clear h
  obtain ⟨i0, hi, iz0, iz1, iz2⟩ := info_parts infoz_Pair
  obtain ⟨R, hR⟩ : ∃ R, setS L k x has = R := ⟨_, rfl⟩
  have HR : Hid (setS L k x has = R) := hR
  rw [hR]
  clear hR
  go_enter Try.func62, Try.ntmps62
  go_wp2
  go_loopw [7, 8, 9] (fun out d i wr => ∃ (j : Nat) (ao : Option Addr) (cp : Nat) (o : Prs) (dn : Bool), j ≤ L.length ∧ i = .int .i64 j ∧ d = .bool dn ∧ out = .slice ao o.length cp ∧ Hid (accS L k x has j = (o, dn)) ∧ Hid (SetE w k x (.slice ao o.length cp) o wr)) (fun _ _ i _ => L.length - (intOf i).toNat)
  case atStart =>
    refine ⟨0, _, _, [], !has, Nat.zero_le _, rfl, rfl, rfl, rfl, OwnM.lit0 _ _ _ _ (by simp), (Blk2.new w _ _ _).alloc _, (below_alloc _ _).alloc (by simp) _⟩
  case round =>
    obtain ⟨j, ao, cp, o, dn, hj, rfl, rfl, rfl, HA, HS⟩ := hrel
    have hol : o.length ≤ 2000 := by
      have := accS_len L k x has j
      rw [HA.out] at this
      simp only at this
      omega
    have hz : w.heap.size < wr.heap.size := HS.out.2.1.lt
    obtain ⟨⟨c0, c1⟩, _, _⟩ := HS.out.2.1
    by_cases hlt : j < L.length
    case neg =>
      obtain rfl : j = L.length := by omega
      cases dn with
      | true =>
        have HE : Hid (R = o) := by
          have := HR.out
          unfold setS at this
          rw [HA.out] at this
          exact (by simpa using this.symm : R = o)
        clear HA HR
        go_wp2
        refine bodyPost_ret (v := .slice ao o.length cp) (by simp [results, Try.results62, go_sem]) rfl ?_
        rw [HE.out]
        exact ⟨ao, cp, rfl, (ownM_own HS.out.1).mono (by omega), HS.out.2.2⟩
      | false =>
        have HE : Hid (R = o ++ [(k, x)]) := by
          have := HR.out
          unfold setS at this
          rw [HA.out] at this
          exact (by simpa using this.symm : R = o ++ [(k, x)])
        clear HA HR
        go_wp2_with (at_builtin; refine wpList_app 65 i0 (.agg #[.int .i64 0, .int .i64 0]) 2 16 rfl _ _ 24 rfl Try.underlying24 hi iz0 iz1 iz2 rfl (by omega) (by omega) _ (w.heap.size + 1) o.length (flatL o) (.slice ao o.length cp) rfl (HS.out.1.later (below_alloc _ _)) 0 1 (fun p => [k, x].getD p 0) (.slice (some ⟨wr.heap.size, 0, none⟩) 1 1) rfl (row_lit2 wr k x 65) (by omega) (by simp; omega) ?_; intro ao1 cp1 w1 O2 G2)
        have HS1 : Hid (SetE w k x (.slice ao1 (o ++ [(k, x)]).length cp1) (o ++ [(k, x)]) w1) := HS.out.push O2 G2
        have hz1 : w.heap.size < w1.heap.size := HS1.out.2.1.lt
        clear O2 G2
        go_wp2
        refine bodyPost_ret (v := .slice ao1 (o ++ [(k, x)]).length cp1) (by simp [results, Try.results62, go_sem]) rfl ?_
        rw [HE.out]
        exact ⟨ao1, cp1, rfl, (ownM_own HS1.out.1).mono (by omega), HS1.out.2.2⟩
    obtain ⟨g, oo, hao, _, hg, yw0, yw1⟩ := H.out.at2 hlt
    subst hao
    obtain ⟨n0, N0⟩ : ∃ x, rowL L (j * 2) = x := ⟨_, rfl⟩
    rw [N0] at yw0
    obtain ⟨n1, N1⟩ : ∃ x, rowL L (j * 2 + 1) = x := ⟨_, rfl⟩
    rw [N1] at yw1
    have HN : Hid (accS L k x has (j + 1) = stepS k x (o, dn) (n0, n1)) := by
      unfold Hid
      rw [accS, HA.out, ← N0, ← N1, rowL_key, rowL_val]
    clear N0 N1 HA HR c0 c1
    have yr0 := (HS.out.2.2.cell (p := ⟨g, oo + j * 2, none⟩) hg).trans yw0
    have yr1 := (HS.out.2.2.cell (p := ⟨g, oo + j * 2 + 1, none⟩) hg).trans yw1
    obtain ⟨⟨cr0, cr1⟩, _, _⟩ := HS.out.2.1
    cases dn with
    | true =>
      by_cases he : n0 = k
      · have HE : Hid (accS L k x has (j + 1) = (o, true)) := by unfold Hid; rw [HN.out]; simp [stepS, he]
        subst he
        clear HN
        go_wp2_with fail
        go_quiet (fail)
        have HSa : Hid (SetE w n0 x (.slice ao (o).length cp) (o) (wr.drewN nq)) := ⟨HS.out.1, HS.out.2.1, below_dn HS.out.2.2 _⟩
        generalize wr.drewN nq = Xa at HSa ⊢
        have hza : w.heap.size < Xa.heap.size := HSa.out.2.1.lt
        have ya0 := (HSa.out.2.2.cell (p := ⟨g, oo + j * 2, none⟩) hg).trans yw0
        have ya1 := (HSa.out.2.2.cell (p := ⟨g, oo + j * 2 + 1, none⟩) hg).trans yw1
        obtain ⟨⟨ca0, ca1⟩, _, _⟩ := HSa.out.2.1
        clear yr0 yr1 cr0 cr1
        go_wp2_with fail
        go_quiet (fail)
        have HSb : Hid (SetE w n0 x (.slice ao (o).length cp) (o) (Xa.drewN nq)) := ⟨HSa.out.1, HSa.out.2.1, below_dn HSa.out.2.2 _⟩
        generalize Xa.drewN nq = Xb at HSb ⊢
        have hzb : w.heap.size < Xb.heap.size := HSb.out.2.1.lt
        have yb0 := (HSb.out.2.2.cell (p := ⟨g, oo + j * 2, none⟩) hg).trans yw0
        have yb1 := (HSb.out.2.2.cell (p := ⟨g, oo + j * 2 + 1, none⟩) hg).trans yw1
        obtain ⟨⟨cb0, cb1⟩, _, _⟩ := HSb.out.2.1
        go_wp2
        go_roundw
        case rel => exact ⟨j + 1, ao, cp, o, true, by omega, by go_num, rfl, by first | rfl | simp, HE, HSb⟩
        case measure => simp [intOf]; omega
      · have HE : Hid (accS L k x has (j + 1) = (o ++ [(n0, n1)], true)) := by unfold Hid; rw [HN.out]; simp [stepS, he]
        have d : (n0 != k) = true := bne_iff_ne.2 he
        clear HN he
        go_wp2_with fail
        go_quiet (fail)
        have HSa : Hid (SetE w k x (.slice ao (o).length cp) (o) (wr.drewN nq)) := ⟨HS.out.1, HS.out.2.1, below_dn HS.out.2.2 _⟩
        generalize wr.drewN nq = Xa at HSa ⊢
        have hza : w.heap.size < Xa.heap.size := HSa.out.2.1.lt
        have ya0 := (HSa.out.2.2.cell (p := ⟨g, oo + j * 2, none⟩) hg).trans yw0
        have ya1 := (HSa.out.2.2.cell (p := ⟨g, oo + j * 2 + 1, none⟩) hg).trans yw1
        obtain ⟨⟨ca0, ca1⟩, _, _⟩ := HSa.out.2.1
        clear yr0 yr1 cr0 cr1
        go_wp2_with fail
        go_quiet (fail)
        have HSb : Hid (SetE w k x (.slice ao (o).length cp) (o) (Xa.drewN nq)) := ⟨HSa.out.1, HSa.out.2.1, below_dn HSa.out.2.2 _⟩
        generalize Xa.drewN nq = Xb at HSb ⊢
        have hzb : w.heap.size < Xb.heap.size := HSb.out.2.1.lt
        have yb0 := (HSb.out.2.2.cell (p := ⟨g, oo + j * 2, none⟩) hg).trans yw0
        have yb1 := (HSb.out.2.2.cell (p := ⟨g, oo + j * 2 + 1, none⟩) hg).trans yw1
        obtain ⟨⟨cb0, cb1⟩, _, _⟩ := HSb.out.2.1
        clear ya0 ya1 ca0 ca1
        go_wp2_with (at_builtin; refine wpList_app 65 i0 (.agg #[.int .i64 0, .int .i64 0]) 2 16 rfl _ _ 24 rfl Try.underlying24 hi iz0 iz1 iz2 rfl (by omega) (by omega) _ (w.heap.size + 1) (o).length (flatL (o)) (.slice ao (o).length cp) rfl (HSb.out.1.later (below_alloc _ _)) 0 1 (fun p => [n0, n1].getD p 0) (.slice (some ⟨Xb.heap.size, 0, none⟩) 1 1) rfl (row_lit2 Xb n0 n1 65) (by simp <;> omega) (by simp; omega) ?_; intro ao1 cp1 w1 O2 G2)
        have HS1 : Hid (SetE w k x (.slice ao1 ((o) ++ [(n0, n1)]).length cp1) ((o) ++ [(n0, n1)]) w1) := HSb.out.push O2 G2
        have hz1 : w.heap.size < w1.heap.size := HS1.out.2.1.lt
        clear O2 G2
        go_wp2
        go_roundw
        case rel => exact ⟨j + 1, ao1, cp1, o ++ [(n0, n1)], true, by omega, by go_num, rfl, by first | rfl | simp, HE, HS1⟩
        case measure => simp [intOf]; omega
    | false =>
      by_cases hle : k ≤ n0
      · have dg : decide (n0 ≥ k) = true := decide_eq_true hle
        by_cases he : n0 = k
        · have HE : Hid (accS L k x has (j + 1) = (o ++ [(k, x)], true)) := by unfold Hid; rw [HN.out]; simp [stepS, he]
          subst he
          clear HN hle
          go_wp2_with fail
          go_quiet (fail)
          have HSa : Hid (SetE w n0 x (.slice ao (o).length cp) (o) (wr.drewN nq)) := ⟨HS.out.1, HS.out.2.1, below_dn HS.out.2.2 _⟩
          generalize wr.drewN nq = Xa at HSa ⊢
          have hza : w.heap.size < Xa.heap.size := HSa.out.2.1.lt
          have ya0 := (HSa.out.2.2.cell (p := ⟨g, oo + j * 2, none⟩) hg).trans yw0
          have ya1 := (HSa.out.2.2.cell (p := ⟨g, oo + j * 2 + 1, none⟩) hg).trans yw1
          obtain ⟨⟨ca0, ca1⟩, _, _⟩ := HSa.out.2.1
          clear yr0 yr1 cr0 cr1
          go_wp2_with (at_builtin; refine wpList_app 65 i0 (.agg #[.int .i64 0, .int .i64 0]) 2 16 rfl _ _ 24 rfl Try.underlying24 hi iz0 iz1 iz2 rfl (by omega) (by omega) _ (w.heap.size + 1) (o).length (flatL (o)) (.slice ao (o).length cp) rfl (HSa.out.1.later (below_alloc _ _)) 0 1 (fun p => [n0, x].getD p 0) (.slice (some ⟨Xa.heap.size, 0, none⟩) 1 1) rfl (row_lit2 Xa n0 x 65) (by simp <;> omega) (by simp; omega) ?_; intro ao1 cp1 w1 O2 G2)
          have HS1 : Hid (SetE w n0 x (.slice ao1 ((o) ++ [(n0, x)]).length cp1) ((o) ++ [(n0, x)]) w1) := HSa.out.push O2 G2
          have hz1 : w.heap.size < w1.heap.size := HS1.out.2.1.lt
          clear O2 G2
          clear ya0 ya1 ca0 ca1
          have ys0 := (HS1.out.2.2.cell (p := ⟨g, oo + j * 2, none⟩) hg).trans yw0
          have ys1 := (HS1.out.2.2.cell (p := ⟨g, oo + j * 2 + 1, none⟩) hg).trans yw1
          obtain ⟨⟨cs0, cs1⟩, _, _⟩ := HS1.out.2.1
          go_wp2_with fail
          go_quiet (fail)
          have HSb : Hid (SetE w n0 x (.slice ao1 (o ++ [(n0, x)]).length cp1) (o ++ [(n0, x)]) (w1.drewN nq)) := ⟨HS1.out.1, HS1.out.2.1, below_dn HS1.out.2.2 _⟩
          generalize w1.drewN nq = Xb at HSb ⊢
          have hzb : w.heap.size < Xb.heap.size := HSb.out.2.1.lt
          have yb0 := (HSb.out.2.2.cell (p := ⟨g, oo + j * 2, none⟩) hg).trans yw0
          have yb1 := (HSb.out.2.2.cell (p := ⟨g, oo + j * 2 + 1, none⟩) hg).trans yw1
          obtain ⟨⟨cb0, cb1⟩, _, _⟩ := HSb.out.2.1
          go_wp2
          go_roundw
          case rel => exact ⟨j + 1, ao1, cp1, o ++ [(n0, x)], true, by omega, by go_num, rfl, by first | rfl | simp, HE, HSb⟩
          case measure => simp [intOf]; omega
        · have HE : Hid (accS L k x has (j + 1) = ((o ++ [(k, x)]) ++ [(n0, n1)], true)) := by unfold Hid; rw [HN.out]; simp [stepS, he, hle]
          have d : (n0 != k) = true := bne_iff_ne.2 he
          clear HN hle he
          go_wp2_with fail
          go_quiet (fail)
          have HSa : Hid (SetE w k x (.slice ao (o).length cp) (o) (wr.drewN nq)) := ⟨HS.out.1, HS.out.2.1, below_dn HS.out.2.2 _⟩
          generalize wr.drewN nq = Xa at HSa ⊢
          have hza : w.heap.size < Xa.heap.size := HSa.out.2.1.lt
          have ya0 := (HSa.out.2.2.cell (p := ⟨g, oo + j * 2, none⟩) hg).trans yw0
          have ya1 := (HSa.out.2.2.cell (p := ⟨g, oo + j * 2 + 1, none⟩) hg).trans yw1
          obtain ⟨⟨ca0, ca1⟩, _, _⟩ := HSa.out.2.1
          clear yr0 yr1 cr0 cr1
          go_wp2_with (at_builtin; refine wpList_app 65 i0 (.agg #[.int .i64 0, .int .i64 0]) 2 16 rfl _ _ 24 rfl Try.underlying24 hi iz0 iz1 iz2 rfl (by omega) (by omega) _ (w.heap.size + 1) (o).length (flatL (o)) (.slice ao (o).length cp) rfl (HSa.out.1.later (below_alloc _ _)) 0 1 (fun p => [k, x].getD p 0) (.slice (some ⟨Xa.heap.size, 0, none⟩) 1 1) rfl (row_lit2 Xa k x 65) (by simp <;> omega) (by simp; omega) ?_; intro ao1 cp1 w1 O2 G2)
          have HS1 : Hid (SetE w k x (.slice ao1 ((o) ++ [(k, x)]).length cp1) ((o) ++ [(k, x)]) w1) := HSa.out.push O2 G2
          have hz1 : w.heap.size < w1.heap.size := HS1.out.2.1.lt
          clear O2 G2
          clear ya0 ya1 ca0 ca1
          have ys0 := (HS1.out.2.2.cell (p := ⟨g, oo + j * 2, none⟩) hg).trans yw0
          have ys1 := (HS1.out.2.2.cell (p := ⟨g, oo + j * 2 + 1, none⟩) hg).trans yw1
          obtain ⟨⟨cs0, cs1⟩, _, _⟩ := HS1.out.2.1
          go_wp2_with fail
          go_quiet (fail)
          have HSb : Hid (SetE w k x (.slice ao1 (o ++ [(k, x)]).length cp1) (o ++ [(k, x)]) (w1.drewN nq)) := ⟨HS1.out.1, HS1.out.2.1, below_dn HS1.out.2.2 _⟩
          generalize w1.drewN nq = Xb at HSb ⊢
          have hzb : w.heap.size < Xb.heap.size := HSb.out.2.1.lt
          have yb0 := (HSb.out.2.2.cell (p := ⟨g, oo + j * 2, none⟩) hg).trans yw0
          have yb1 := (HSb.out.2.2.cell (p := ⟨g, oo + j * 2 + 1, none⟩) hg).trans yw1
          obtain ⟨⟨cb0, cb1⟩, _, _⟩ := HSb.out.2.1
          clear ys0 ys1 cs0 cs1
          have e1 : (o ++ [(k, x)]).length = o.length + 1 := by simp
          go_wp2_with (at_builtin; refine wpList_app 65 i0 (.agg #[.int .i64 0, .int .i64 0]) 2 16 rfl _ _ 24 rfl Try.underlying24 hi iz0 iz1 iz2 rfl (by omega) (by omega) _ (w.heap.size + 1) (o.length + 1) (flatL (o ++ [(k, x)])) (.slice ao1 (o.length + 1) cp1) rfl (by have q := HSb.out.1.later (below_alloc _ (.cells #[.int .i64 n0, .int .i64 n1] 65)); rw [e1] at q; exact q) 0 1 (fun p => [n0, n1].getD p 0) (.slice (some ⟨Xb.heap.size, 0, none⟩) 1 1) rfl (row_lit2 Xb n0 n1 65) (by simp <;> omega) (by simp; omega) ?_; intro ao2 cp2 w2 O2 G2)
          have HS2 : Hid (SetE w k x (.slice ao2 ((o ++ [(k, x)]) ++ [(n0, n1)]).length cp2) ((o ++ [(k, x)]) ++ [(n0, n1)]) w2) := HSb.out.push (by rw [e1]; exact O2) (by rw [e1]; exact G2)
          have hz3 : w.heap.size < w2.heap.size := HS2.out.2.1.lt
          clear O2 G2
          go_wp2
          go_roundw
          case rel => exact ⟨j + 1, ao2, cp2, (o ++ [(k, x)]) ++ [(n0, n1)], true, by omega, by go_num, rfl, by first | rfl | simp, HE, HS2⟩
          case measure => simp [intOf]; omega
      · have dg : decide (n0 ≥ k) = false := decide_eq_false hle
        have he : n0 ≠ k := by omega
        have HE : Hid (accS L k x has (j + 1) = (o ++ [(n0, n1)], false)) := by unfold Hid; rw [HN.out]; simp [stepS, he, hle]
        have d : (n0 != k) = true := bne_iff_ne.2 he
        clear HN hle he
        go_wp2_with fail
        go_quiet (fail)
        have HSa : Hid (SetE w k x (.slice ao (o).length cp) (o) (wr.drewN nq)) := ⟨HS.out.1, HS.out.2.1, below_dn HS.out.2.2 _⟩
        generalize wr.drewN nq = Xa at HSa ⊢
        have hza : w.heap.size < Xa.heap.size := HSa.out.2.1.lt
        have ya0 := (HSa.out.2.2.cell (p := ⟨g, oo + j * 2, none⟩) hg).trans yw0
        have ya1 := (HSa.out.2.2.cell (p := ⟨g, oo + j * 2 + 1, none⟩) hg).trans yw1
        obtain ⟨⟨ca0, ca1⟩, _, _⟩ := HSa.out.2.1
        clear yr0 yr1 cr0 cr1
        go_wp2_with fail
        go_quiet (fail)
        have HSb : Hid (SetE w k x (.slice ao (o).length cp) (o) (Xa.drewN nq)) := ⟨HSa.out.1, HSa.out.2.1, below_dn HSa.out.2.2 _⟩
        generalize Xa.drewN nq = Xb at HSb ⊢
        have hzb : w.heap.size < Xb.heap.size := HSb.out.2.1.lt
        have yb0 := (HSb.out.2.2.cell (p := ⟨g, oo + j * 2, none⟩) hg).trans yw0
        have yb1 := (HSb.out.2.2.cell (p := ⟨g, oo + j * 2 + 1, none⟩) hg).trans yw1
        obtain ⟨⟨cb0, cb1⟩, _, _⟩ := HSb.out.2.1
        clear ya0 ya1 ca0 ca1
        go_wp2_with (at_builtin; refine wpList_app 65 i0 (.agg #[.int .i64 0, .int .i64 0]) 2 16 rfl _ _ 24 rfl Try.underlying24 hi iz0 iz1 iz2 rfl (by omega) (by omega) _ (w.heap.size + 1) (o).length (flatL (o)) (.slice ao (o).length cp) rfl (HSb.out.1.later (below_alloc _ _)) 0 1 (fun p => [n0, n1].getD p 0) (.slice (some ⟨Xb.heap.size, 0, none⟩) 1 1) rfl (row_lit2 Xb n0 n1 65) (by simp <;> omega) (by simp; omega) ?_; intro ao1 cp1 w1 O2 G2)
        have HS1 : Hid (SetE w k x (.slice ao1 ((o) ++ [(n0, n1)]).length cp1) ((o) ++ [(n0, n1)]) w1) := HSb.out.push O2 G2
        have hz1 : w.heap.size < w1.heap.size := HS1.out.2.1.lt
        clear O2 G2
        go_wp2
        go_roundw
        case rel => exact ⟨j + 1, ao1, cp1, o ++ [(n0, n1)], false, by omega, by go_num, rfl, by first | rfl | simp, HE, HS1⟩
        case measure => simp [intOf]; omega
end Go.Proofs.Ytdbcmckoiacemaa

namespace Go.Proofs.Ytdbcmckoiacemaa
open Go.RowKit

/-- What is told of an item that is applied. -/
def appF (k kd v : Int) : Int := if faultOf k ≠ 0 then faultOf k else if ¬ (1 ≤ kd ∧ kd ≤ 3) ∨ ¬ (0 ≤ v ∧ v ≤ 9999) then 3 else 0
def appsF (G : Nat → Int) : Nat → Nat → Int
  | 0, _ => 0
  | m + 1, k => if appF (G (k * 3)) (G (k * 3 + 1)) (G (k * 3 + 2)) ≠ 0 then appF (G (k * 3)) (G (k * 3 + 1)) (G (k * 3 + 2)) else appsF G m (k + 1)
theorem appsF_bad {G : Nat → Int} {m k : Nat} {f : Int} (hm : 0 < m) (h : appF (G (k * 3)) (G (k * 3 + 1)) (G (k * 3 + 2)) = f) (h0 : f ≠ 0) : appsF G m k = f := by
  obtain ⟨m, rfl⟩ : ∃ q, m = q + 1 := ⟨m - 1, by omega⟩
  rw [appsF, if_pos (by rw [h]; exact h0), h]
theorem appsF_on {G : Nat → Int} {m k : Nat} (hm : 0 < m) (h : appF (G (k * 3)) (G (k * 3 + 1)) (G (k * 3 + 2)) = 0) : appsF G m k = appsF G (m - 1) (k + 1) := by
  obtain ⟨m, rfl⟩ : ∃ q, m = q + 1 := ⟨m - 1, by omega⟩
  rw [appsF, if_neg (fun q => q h)]; rfl
theorem appsF_all {G : Nat → Int} : ∀ {m k : Nat}, appsF G m k = 0 → ∀ j, j < m → appF (G ((k + j) * 3)) (G ((k + j) * 3 + 1)) (G ((k + j) * 3 + 2)) = 0
  | 0, _, _, j, hj => absurd hj (Nat.not_lt_zero j)
  | m + 1, k, h, j, hj => by
    by_cases h0 : appF (G (k * 3)) (G (k * 3 + 1)) (G (k * 3 + 2)) = 0
    · rw [appsF, if_neg (fun q => q h0)] at h
      cases j with
      | zero => exact h0
      | succ j =>
        have := appsF_all h j (by omega)
        rwa [show k + 1 + j = k + (j + 1) by omega] at this
    · rw [appsF, if_pos h0] at h
      exact absurd h h0
theorem appF_zero {k kd v : Int} (h : appF k kd v = 0) : faultOf k = 0 ∧ (1 ≤ kd ∧ kd ≤ 3) ∧ (0 ≤ v ∧ v ≤ 9999) := by
  unfold appF at h
  by_cases h1 : faultOf k = 0
  · rw [if_neg (fun q => q h1)] at h
    by_cases h2 : ¬ (1 ≤ kd ∧ kd ≤ 3) ∨ ¬ (0 ≤ v ∧ v ≤ 9999)
    · rw [if_pos h2] at h; omega
    · exact ⟨h1, by omega, by omega⟩
  · rw [if_pos h1] at h; exact absurd h h1
/-- What is told of items that are applied. -/
def appliedF (m : Nat) (G : Nat → Int) : Int := if 12 < m then 2 else appsF G m 0
def ItmE (w : World) (g o i : Nat) (n0 n1 n2 : Int) (X : World) : Prop := (X.cell? ⟨g, o + i * 3, none⟩ = some (.int .i64 n0) ∧ X.cell? ⟨g, o + i * 3 + 1, none⟩ = some (.int .i64 n1) ∧ X.cell? ⟨g, o + i * 3 + 2, none⟩ = some (.int .i64 n2)) ∧ Below w.heap.size w X
theorem ItmE.later {w X X' : World} {g o i : Nat} {n0 n1 n2 : Int} (h : ItmE w g o i n0 n1 n2 X) (hb : Below X.heap.size X X') : ItmE w g o i n0 n1 n2 X' := by
  obtain ⟨⟨h0, h1, h2⟩, hy⟩ := h
  exact ⟨⟨(hb.cell (lt_cellP h0)).trans h0, (hb.cell (lt_cellP h1)).trans h1, (hb.cell (lt_cellP h2)).trans h2⟩, hy.trans (hb.mono hy.size)⟩
set_option maxRecDepth 100000 in
set_option maxHeartbeats 4000000 in
theorem l11Apply_any (L : Prs) (G : Nat → Int) (m : Nat) (v y : Value) (B B' : Nat) (w : World) (h : Row w B 2 L.length (rowL L) v) (hi' : Row w B' 3 m G y) (hn : L.length ≤ 800) (hm : m ≤ 12) (hk : ∀ i, i < m → 1 ≤ G (i * 3 + 1) ∧ G (i * 3 + 1) ≤ 3) :
    Calls Try.prog 41 #[v, y] w fun e w' => ∃ ao cp, e = .returned (.slice ao (applyN L G m).length cp) ∧ Own w' w.heap.size 65 2 (applyN L G m).length (rowL (applyN L G m)) (.slice ao (applyN L G m).length cp) ∧ Below w.heap.size w w' := by
  obtain ⟨ao0, cp0, rfl⟩ := h.form
  obtain ⟨bo0, bp0, rfl⟩ := hi'.form
  have H : Hid (Row w B 2 L.length (rowL L) (.slice ao0 L.length cp0) ∧ Row w B' 3 m G (.slice bo0 m bp0)) := ⟨h, hi'⟩
  clear h hi'
  obtain ⟨i0, hi, iz0, iz1, iz2⟩ := info_parts infoz_Pair
  go_enter Try.func41, Try.ntmps41
  go_wp2_with (at_builtin; refine wpList_app 65 i0 (.agg #[.int .i64 0, .int .i64 0]) 2 16 rfl _ _ 24 rfl Try.underlying24 hi iz0 iz1 iz2 rfl (by omega) (by omega) _ w.heap.size 0 [] (.slice (some ⟨w.heap.size, 0, none⟩) 0 0) rfl (OwnM.lit0 _ _ _ _ rfl) B L.length (rowL L) (.slice ao0 L.length cp0) rfl (H.out.1.alloc _) (by omega) (by simp) ?_; intro ao1 cp1 w2 O2 G2)
  have HS2 : Hid (Own w2 w.heap.size 65 2 L.length (rowL L) (.slice ao1 L.length cp1) ∧ Below w.heap.size w w2) := by
    rw [Nat.zero_add, List.nil_append] at O2
    exact ⟨own_eqP (O2.own (nums_length _ _)) (fun p hp => by simp [nums, hp]), (below_alloc w _).grown G2 (by simp) (fun r e => by simp [Value.ownBlock] at e; omega)⟩
  clear O2 G2
  go_wp2
  go_loopw [5, 6] (fun out i wr => ∃ (j : Nat) (ao : Option Addr) (cp : Nat), j ≤ m ∧ i = .int .i64 j ∧ out = .slice ao (applyN L G j).length cp ∧ Hid (Own wr w.heap.size 65 2 (applyN L G j).length (rowL (applyN L G j)) (.slice ao (applyN L G j).length cp) ∧ Below w.heap.size w wr)) (fun _ i _ => m - (intOf i).toNat)
  case atStart => exact ⟨0, ao1, cp1, Nat.zero_le _, rfl, rfl, HS2⟩
  case round =>
    obtain ⟨j, ao, cp, hj, rfl, rfl, HS⟩ := hrel
    by_cases hlt : j < m
    case neg =>
      obtain rfl : j = m := by omega
      go_wp2
      exact bodyPost_ret (v := .slice ao (applyN L G j).length cp) (by simp [results, Try.results41, go_sem]) rfl ⟨ao, cp, rfl, HS.out⟩
    have hlen : (applyN L G j).length ≤ 812 := Nat.le_trans (applyN_len L G j) (by omega)
    have hkj := hk j hlt
    obtain ⟨g, o, hbo, _, hg, y0, y1, y2⟩ := (H.out.2.later HS.out.2).at3 hlt
    subst hbo
    obtain ⟨n0, N0⟩ : ∃ x, G (j * 3) = x := ⟨_, rfl⟩
    rw [N0] at y0
    obtain ⟨n1, N1⟩ : ∃ x, G (j * 3 + 1) = x := ⟨_, rfl⟩
    rw [N1] at y1 hkj
    obtain ⟨n2, N2⟩ : ∃ x, G (j * 3 + 2) = x := ⟨_, rfl⟩
    rw [N2] at y2
    have HP : Hid (applyN L G (j + 1) = stepA (applyN L G j) n0 n1 n2) := by
      unfold Hid
      rw [← N0, ← N1, ← N2]
      rfl
    clear N0 N1 N2 HS2
    obtain ⟨A, hA⟩ : ∃ A, applyN L G j = A := ⟨_, rfl⟩
    rw [hA] at hlen HS HP
    rw [hA]
    clear hA
    by_cases k3 : n1 = 3
    · have HE : Hid (applyN L G (j + 1) = A) := by unfold Hid; rw [HP.out, stepA, if_neg (by omega), if_neg (by omega)]
      subst k3
      clear HP hkj
      go_wp2
      go_roundw
      case rel =>
        refine ⟨j + 1, ao, cp, by omega, by go_num, by rw [HE.out], ?_⟩
        rw [HE.out]
        exact HS
      case measure => simp [intOf]; omega
    have d3 : (n1 != 3) = true := bne_iff_ne.2 k3
    by_cases k1 : n1 = 1
    · have HE : Hid (applyN L G (j + 1) = setS A n0 n2 true) := by unfold Hid; rw [HP.out, stepA, if_pos k1, setS_put]
      subst k1
      clear HP hkj k3 d3
      go_wp2_with fail
      refine wp_region_held_drew (S := ItmE w g o j n0 1 n2) (by kernel_rfl) ⟨⟨y0, y1, y2⟩, HS.out.2.drew⟩ (fun hS => ?_)
      refine tkH 0 ?_ hS (fun wx hx => ?_) ?_; rotate_left
      · obtain ⟨⟨hx0, hx1, hx2⟩, _⟩ := hx; go_simp; try with_reducible rfl
      refine tkH 1 ?_ hS (fun wx hx => ?_) ?_; rotate_left
      · obtain ⟨⟨hx0, hx1, hx2⟩, _⟩ := hx; go_simp; try with_reducible rfl
      refine tkH 2 ?_ hS (fun wx hx => ?_) ?_; rotate_left
      · obtain ⟨⟨hx0, hx1, hx2⟩, _⟩ := hx; go_simp; try with_reducible rfl
      try simp only [Act.put, List.getElem_toArray, List.getElem_cons_zero, List.getElem_cons_succ, List.setIfInBounds_toArray, List.set_cons_succ, List.set_cons_zero]
      refine tkH 3 ?_ hS (fun wx hx => ?_) ?_; rotate_left
      · obtain ⟨⟨hx0, hx1, hx2⟩, _⟩ := hx; go_simp; try with_reducible rfl
      refine tkH 4 ?_ hS (fun wx hx => ?_) ?_; rotate_left
      · obtain ⟨⟨hx0, hx1, hx2⟩, _⟩ := hx; go_simp; try with_reducible rfl
      refine tkH 5 ?_ hS (fun wx hx => ?_) ?_; rotate_left
      · obtain ⟨⟨hx0, hx1, hx2⟩, _⟩ := hx; go_simp; try with_reducible rfl
      try simp only [Act.put, List.getElem_toArray, List.getElem_cons_zero, List.getElem_cons_succ, List.setIfInBounds_toArray, List.set_cons_succ, List.set_cons_zero]
      refine tkH 6 ?_ hS (fun wx hx => ?_) ?_; rotate_left
      · obtain ⟨⟨hx0, hx1, hx2⟩, _⟩ := hx; go_simp; try with_reducible rfl
      refine tkH 7 ?_ hS (fun wx hx => ?_) ?_; rotate_left
      · obtain ⟨⟨hx0, hx1, hx2⟩, _⟩ := hx; go_simp; try with_reducible rfl
      refine tkH 8 ?_ hS (fun wx hx => ?_) ?_; rotate_left
      · obtain ⟨⟨hx0, hx1, hx2⟩, _⟩ := hx; go_simp; try with_reducible rfl
      try simp only [Act.put, List.getElem_toArray, List.getElem_cons_zero, List.getElem_cons_succ, List.setIfInBounds_toArray, List.set_cons_succ, List.set_cons_zero]
      refine tkH 9 ?_ hS (fun wx hx => ?_) ?_; rotate_left
      · obtain ⟨⟨hx0, hx1, hx2⟩, _⟩ := hx; go_simp; try with_reducible rfl
      refine tkH 10 ?_ hS (fun wx hx => ?_) ?_; rotate_left
      · obtain ⟨⟨hx0, hx1, hx2⟩, _⟩ := hx; go_simp; try with_reducible rfl
      refine tkH 11 ?_ hS (fun wx hx => ?_) ?_; rotate_left
      · obtain ⟨⟨hx0, hx1, hx2⟩, _⟩ := hx; go_simp; try with_reducible rfl
      try simp only [Act.put, List.getElem_toArray, List.getElem_cons_zero, List.getElem_cons_succ, List.setIfInBounds_toArray, List.set_cons_succ, List.set_cons_zero]
      refine tkH 12 ?_ hS (fun wx hx => ?_) ?_; rotate_left
      · obtain ⟨⟨hx0, hx1, hx2⟩, _⟩ := hx; go_simp; try with_reducible rfl
      refine tkH 13 ?_ hS (fun wx hx => ?_) ?_; rotate_left
      · obtain ⟨⟨hx0, hx1, hx2⟩, _⟩ := hx; go_simp; try with_reducible rfl
      refine tkH 14 ?_ hS (fun wx hx => ?_) ?_; rotate_left
      · obtain ⟨⟨hx0, hx1, hx2⟩, _⟩ := hx; go_simp; try with_reducible rfl
      try simp only [Act.put, List.getElem_toArray, List.getElem_cons_zero, List.getElem_cons_succ, List.setIfInBounds_toArray, List.set_cons_succ, List.set_cons_zero]
      refine tkH 15 ?_ hS (fun wx hx => ?_) ?_; rotate_left
      · obtain ⟨⟨hx0, hx1, hx2⟩, _⟩ := hx; go_simp; try with_reducible rfl
      refine tkH 16 ?_ hS (fun wx hx => ?_) ?_; rotate_left
      · obtain ⟨⟨hx0, hx1, hx2⟩, _⟩ := hx; go_simp; try with_reducible rfl
      refine tkH 17 ?_ hS (fun wx hx => ?_) ?_; rotate_left
      · obtain ⟨⟨hx0, hx1, hx2⟩, _⟩ := hx; go_simp; try with_reducible rfl
      try simp only [Act.put, List.getElem_toArray, List.getElem_cons_zero, List.getElem_cons_succ, List.setIfInBounds_toArray, List.set_cons_succ, List.set_cons_zero]
      refine rdH 18 (fun K hK => ?_)
      go_simp
      go_wp2_with fail
      refine (l11Set_any A _ w.heap.size n0 n2 true _ (HS.out.1.later (Below.drew (Below.refl _ _))).row.1 (by omega)).mono ?_
      rintro e w1 ⟨ao1, cp1, rfl, o1, q1⟩
      have hS1 := hS.later q1
      have HS1 : Hid (Own w1 w.heap.size 65 2 (setS A n0 n2 true).length (rowL (setS A n0 n2 true)) (.slice ao1 (setS A n0 n2 true).length cp1) ∧ Below w.heap.size w w1) := ⟨o1.mono hS.2.size, hS1.2⟩
      clear hS q1 o1
      go_wp2_with fail
      refine hK.out _ _ hS1 (fun hS => ?_)
      clear hK K hS1
      refine tkH 19 ?_ hS (fun wx hx => ?_) ?_; rotate_left
      · obtain ⟨⟨hx0, hx1, hx2⟩, _⟩ := hx; go_simp; try with_reducible rfl
      refine wpAnyH_done (by kernel_rfl) ?_ _
      obtain ⟨LEN, hLEN⟩ : ∃ LEN, LEN = (setS A n0 n2 true).length := ⟨_, rfl⟩
      rw [← hLEN]
      have HLEN : Hid (LEN = (setS A n0 n2 true).length) := hLEN
      clear hLEN
      go_simp
      go_wp2
      go_roundw
      case rel =>
        refine ⟨j + 1, ao1, cp1, by omega, by go_num, by rw [HE.out, HLEN.out], ?_⟩
        rw [HE.out]
        exact HS1
      case measure => simp [intOf]; omega
    · have HE : Hid (applyN L G (j + 1) = setS A n0 n2 false) := by unfold Hid; rw [HP.out, stepA, if_neg k1, if_pos (by omega), setS_gone]
      obtain rfl : n1 = 2 := by omega
      clear HP hkj k3 k1 d3
      go_wp2_with fail
      refine wp_region_held_drew (S := ItmE w g o j n0 2 n2) (by kernel_rfl) ⟨⟨y0, y1, y2⟩, HS.out.2.drew⟩ (fun hS => ?_)
      refine tkH 0 ?_ hS (fun wx hx => ?_) ?_; rotate_left
      · obtain ⟨⟨hx0, hx1, hx2⟩, _⟩ := hx; go_simp; try with_reducible rfl
      refine tkH 1 ?_ hS (fun wx hx => ?_) ?_; rotate_left
      · obtain ⟨⟨hx0, hx1, hx2⟩, _⟩ := hx; go_simp; try with_reducible rfl
      refine tkH 2 ?_ hS (fun wx hx => ?_) ?_; rotate_left
      · obtain ⟨⟨hx0, hx1, hx2⟩, _⟩ := hx; go_simp; try with_reducible rfl
      try simp only [Act.put, List.getElem_toArray, List.getElem_cons_zero, List.getElem_cons_succ, List.setIfInBounds_toArray, List.set_cons_succ, List.set_cons_zero]
      refine tkH 3 ?_ hS (fun wx hx => ?_) ?_; rotate_left
      · obtain ⟨⟨hx0, hx1, hx2⟩, _⟩ := hx; go_simp; try with_reducible rfl
      refine tkH 4 ?_ hS (fun wx hx => ?_) ?_; rotate_left
      · obtain ⟨⟨hx0, hx1, hx2⟩, _⟩ := hx; go_simp; try with_reducible rfl
      refine tkH 5 ?_ hS (fun wx hx => ?_) ?_; rotate_left
      · obtain ⟨⟨hx0, hx1, hx2⟩, _⟩ := hx; go_simp; try with_reducible rfl
      try simp only [Act.put, List.getElem_toArray, List.getElem_cons_zero, List.getElem_cons_succ, List.setIfInBounds_toArray, List.set_cons_succ, List.set_cons_zero]
      refine tkH 6 ?_ hS (fun wx hx => ?_) ?_; rotate_left
      · obtain ⟨⟨hx0, hx1, hx2⟩, _⟩ := hx; go_simp; try with_reducible rfl
      refine tkH 7 ?_ hS (fun wx hx => ?_) ?_; rotate_left
      · obtain ⟨⟨hx0, hx1, hx2⟩, _⟩ := hx; go_simp; try with_reducible rfl
      refine tkH 8 ?_ hS (fun wx hx => ?_) ?_; rotate_left
      · obtain ⟨⟨hx0, hx1, hx2⟩, _⟩ := hx; go_simp; try with_reducible rfl
      try simp only [Act.put, List.getElem_toArray, List.getElem_cons_zero, List.getElem_cons_succ, List.setIfInBounds_toArray, List.set_cons_succ, List.set_cons_zero]
      refine tkH 9 ?_ hS (fun wx hx => ?_) ?_; rotate_left
      · obtain ⟨⟨hx0, hx1, hx2⟩, _⟩ := hx; go_simp; try with_reducible rfl
      refine tkH 10 ?_ hS (fun wx hx => ?_) ?_; rotate_left
      · obtain ⟨⟨hx0, hx1, hx2⟩, _⟩ := hx; go_simp; try with_reducible rfl
      refine tkH 11 ?_ hS (fun wx hx => ?_) ?_; rotate_left
      · obtain ⟨⟨hx0, hx1, hx2⟩, _⟩ := hx; go_simp; try with_reducible rfl
      try simp only [Act.put, List.getElem_toArray, List.getElem_cons_zero, List.getElem_cons_succ, List.setIfInBounds_toArray, List.set_cons_succ, List.set_cons_zero]
      refine tkH 12 ?_ hS (fun wx hx => ?_) ?_; rotate_left
      · obtain ⟨⟨hx0, hx1, hx2⟩, _⟩ := hx; go_simp; try with_reducible rfl
      refine tkH 13 ?_ hS (fun wx hx => ?_) ?_; rotate_left
      · obtain ⟨⟨hx0, hx1, hx2⟩, _⟩ := hx; go_simp; try with_reducible rfl
      refine tkH 14 ?_ hS (fun wx hx => ?_) ?_; rotate_left
      · obtain ⟨⟨hx0, hx1, hx2⟩, _⟩ := hx; go_simp; try with_reducible rfl
      try simp only [Act.put, List.getElem_toArray, List.getElem_cons_zero, List.getElem_cons_succ, List.setIfInBounds_toArray, List.set_cons_succ, List.set_cons_zero]
      refine tkH 15 ?_ hS (fun wx hx => ?_) ?_; rotate_left
      · obtain ⟨⟨hx0, hx1, hx2⟩, _⟩ := hx; go_simp; try with_reducible rfl
      refine tkH 16 ?_ hS (fun wx hx => ?_) ?_; rotate_left
      · obtain ⟨⟨hx0, hx1, hx2⟩, _⟩ := hx; go_simp; try with_reducible rfl
      refine tkH 17 ?_ hS (fun wx hx => ?_) ?_; rotate_left
      · obtain ⟨⟨hx0, hx1, hx2⟩, _⟩ := hx; go_simp; try with_reducible rfl
      try simp only [Act.put, List.getElem_toArray, List.getElem_cons_zero, List.getElem_cons_succ, List.setIfInBounds_toArray, List.set_cons_succ, List.set_cons_zero]
      refine rdH 18 (fun K hK => ?_)
      go_simp
      go_wp2_with fail
      refine (l11Set_any A _ w.heap.size n0 n2 false _ (HS.out.1.later (Below.drew (Below.refl _ _))).row.1 (by omega)).mono ?_
      rintro e w1 ⟨ao1, cp1, rfl, o1, q1⟩
      have hS1 := hS.later q1
      have HS1 : Hid (Own w1 w.heap.size 65 2 (setS A n0 n2 false).length (rowL (setS A n0 n2 false)) (.slice ao1 (setS A n0 n2 false).length cp1) ∧ Below w.heap.size w w1) := ⟨o1.mono hS.2.size, hS1.2⟩
      clear hS q1 o1
      go_wp2_with fail
      refine hK.out _ _ hS1 (fun hS => ?_)
      clear hK K hS1
      refine tkH 19 ?_ hS (fun wx hx => ?_) ?_; rotate_left
      · obtain ⟨⟨hx0, hx1, hx2⟩, _⟩ := hx; go_simp; try with_reducible rfl
      refine wpAnyH_done (by kernel_rfl) ?_ _
      obtain ⟨LEN, hLEN⟩ : ∃ LEN, LEN = (setS A n0 n2 false).length := ⟨_, rfl⟩
      rw [← hLEN]
      have HLEN : Hid (LEN = (setS A n0 n2 false).length) := hLEN
      clear hLEN
      go_simp
      go_wp2
      go_roundw
      case rel =>
        refine ⟨j + 1, ao1, cp1, by omega, by go_num, by rw [HE.out, HLEN.out], ?_⟩
        rw [HE.out]
        exact HS1
      case measure => simp [intOf]; omega
end Go.Proofs.Ytdbcmckoiacemaa

namespace Go.Proofs.Ytdbcmckoiacemaa
open Go.RowKit

theorem appF_key {k kd v : Int} (h : faultOf k ≠ 0) : appF k kd v = faultOf k := by unfold appF; rw [if_pos h]
theorem appF_kind {k kd v : Int} (h : faultOf k = 0) (h2 : ¬ (1 ≤ kd ∧ kd ≤ 3)) : appF k kd v = 3 := by unfold appF; rw [if_neg (fun q => q h), if_pos (Or.inl h2)]
theorem appF_val {k kd v : Int} (h : faultOf k = 0) (h2 : ¬ (0 ≤ v ∧ v ≤ 9999)) : appF k kd v = 3 := by unfold appF; rw [if_neg (fun q => q h), if_pos (Or.inr h2)]
theorem appF_ok {k kd v : Int} (h : faultOf k = 0) (h1 : 1 ≤ kd ∧ kd ≤ 3) (h2 : 0 ≤ v ∧ v ≤ 9999) : appF k kd v = 0 := by unfold appF; rw [if_neg (fun q => q h), if_neg (by omega)]
set_option maxRecDepth 100000 in
set_option maxHeartbeats 4000000 in
theorem appliedFault_is (y : Value) (B m : Nat) (G : Nat → Int) (w : World) (h : Row w B 3 m G y) (hm : m ≤ 1048576) :
    Calls Try.prog 35 #[y] w fun e w' => e = .returned (.int .i64 (appliedF m G)) ∧ Below w.heap.size w w' := by
  obtain ⟨ao, cp, rfl⟩ := h.form
  have H : Hid (Row w B 3 m G (.slice ao m cp)) := h
  clear h
  by_cases h12 : 12 < m
  · have E : Hid (appliedF m G = 2) := by unfold Hid; unfold appliedF; rw [if_pos h12]
    have d : decide ((m : Int) > 12) = true := decide_eq_true (by omega)
    go_enter Try.func35, Try.ntmps35
    go_wp2
    go_ret
    exact ⟨by rw [E.out]; rfl, Below.refl _ _⟩
  have d : decide ((m : Int) > 12) = false := decide_eq_false (by omega)
  obtain ⟨f, hf⟩ : ∃ f, appliedF m G = f := ⟨_, rfl⟩
  have HF : Hid (appsF G m 0 = f) := by unfold Hid; rw [← hf]; unfold appliedF; rw [if_neg h12]
  rw [hf]
  clear hf
  go_enter Try.func35, Try.ntmps35
  go_wp2
  go_loopw [11] (fun i wr => ∃ k : Nat, k ≤ m ∧ i = .int .i64 k ∧ Hid (appsF G (m - k) k = f) ∧ Hid (Below w.heap.size w wr)) (fun i _ => m - (intOf i).toNat)
  case atStart => exact ⟨0, Nat.zero_le _, rfl, HF, Below.refl _ _⟩
  case round =>
    obtain ⟨k, hk, rfl, HS, HB⟩ := hrel
    by_cases hlt : k < m
    case neg =>
      have E : Hid (f = 0) := by
        have := HS.out
        rw [show m - k = 0 by omega, appsF] at this
        exact this.symm
      clear HS HF
      go_wp2
      go_ret
      exact ⟨by rw [E.out]; rfl, HB.out⟩
    obtain ⟨g, o, hao, _, hg, x0, x1, x2⟩ := (H.out.later HB.out).at3 hlt
    subst hao
    have hm' : Hid (0 < m - k ∧ m - k - 1 = m - (k + 1)) := ⟨by omega, by omega⟩
    obtain ⟨n0, N0⟩ : ∃ x, G (k * 3) = x := ⟨_, rfl⟩
    rw [N0] at x0
    obtain ⟨n1, N1⟩ : ∃ x, G (k * 3 + 1) = x := ⟨_, rfl⟩
    rw [N1] at x1
    obtain ⟨n2, N2⟩ : ∃ x, G (k * 3 + 2) = x := ⟨_, rfl⟩
    rw [N2] at x2
    have HBAD : Hid (∀ q, appF n0 n1 n2 = q → q ≠ 0 → f = q) := fun q h1 h2 => by
      have E0 := HS.out
      rw [appsF_bad hm'.out.1 (by rw [N0, N1, N2]; exact h1) h2] at E0
      exact E0.symm
    have HGO : Hid (appF n0 n1 n2 = 0 → appsF G (m - (k + 1)) (k + 1) = f) := fun h1 => by
      have E0 := HS.out
      rw [appsF_on hm'.out.1 (by rw [N0, N1, N2]; exact h1), hm'.out.2] at E0
      exact E0
    clear N0 N1 N2 HS HF
    by_cases h5 : faultOf n0 = 0
    case neg =>
      obtain ⟨q, hq⟩ : ∃ q, faultOf n0 = q := ⟨_, rfl⟩
      have HQ : Hid (faultOf n0 = q) := hq
      have E : Hid (f = q) := HBAD.out q (by rw [appF_key h5]; exact hq) (by rw [← hq]; exact h5)
      have d' : (q != 0) = true := bne_iff_ne.2 (by rw [← hq]; exact h5)
      clear h5 hq HGO HBAD
      go_wp2_with fail
      refine (keyFault_any _ _).mono ?_
      rintro e w9 ⟨rfl, hw9⟩
      obtain rfl := hw9.symm
      rw [HQ.out]
      go_wp2
      go_ret
      refine ⟨by rw [E.out]; rfl, ?_⟩
      repeat (first | exact Below.refl _ _ | exact HB.out | refine Below.setCell ?_ (by first | omega | (simp <;> omega) | (have := HB.out.size; simp <;> omega)) _ | refine Below.alloc ?_ (by first | omega | (simp <;> omega) | (have := HB.out.size; simp <;> omega)) _)
    have HK : Hid (faultOf n0 = 0) := h5
    clear h5
    by_cases h6 : 1 ≤ n1 ∧ n1 ≤ 3
    case neg =>
      have E : Hid (f = 3) := HBAD.out 3 (appF_kind HK.out h6) (by omega)
      have HV : Hid (decide (1 ≤ n1 ∧ n1 ≤ 3) = false) := decide_eq_false h6
      clear h6 HGO HBAD
      go_wp2_with fail
      refine (keyFault_any _ _).mono ?_
      rintro e w9 ⟨rfl, hw9⟩
      obtain rfl := hw9.symm
      rw [HK.out]
      go_wp2_with fail
      refine (isLockKind_is _ false HV.out _).mono ?_
      rintro e w9 ⟨rfl, hw9⟩
      obtain rfl := hw9.symm
      go_wp2
      go_ret
      refine ⟨by rw [E.out]; rfl, ?_⟩
      repeat (first | exact Below.refl _ _ | exact HB.out | refine Below.setCell ?_ (by first | omega | (simp <;> omega) | (have := HB.out.size; simp <;> omega)) _ | refine Below.alloc ?_ (by first | omega | (simp <;> omega) | (have := HB.out.size; simp <;> omega)) _)
    have HV : Hid (decide (1 ≤ n1 ∧ n1 ≤ 3) = true) := decide_eq_true h6
    by_cases h7 : 0 ≤ n2 ∧ n2 ≤ 9999
    case neg =>
      have E : Hid (f = 3) := HBAD.out 3 (appF_val HK.out h7) (by omega)
      have HW : Hid (decide (0 ≤ n2 ∧ n2 ≤ 9999) = false) := decide_eq_false h7
      clear h6 h7 HGO HBAD
      go_wp2_with fail
      refine (keyFault_any _ _).mono ?_
      rintro e w9 ⟨rfl, hw9⟩
      obtain rfl := hw9.symm
      rw [HK.out]
      go_wp2_with fail
      refine (isLockKind_is _ true HV.out _).mono ?_
      rintro e w9 ⟨rfl, hw9⟩
      obtain rfl := hw9.symm
      go_wp2_with fail
      refine (isValueT_is _ false HW.out _).mono ?_
      rintro e w9 ⟨rfl, hw9⟩
      obtain rfl := hw9.symm
      go_wp2
      go_ret
      refine ⟨by rw [E.out]; rfl, ?_⟩
      repeat (first | exact Below.refl _ _ | exact HB.out | refine Below.setCell ?_ (by first | omega | (simp <;> omega) | (have := HB.out.size; simp <;> omega)) _ | refine Below.alloc ?_ (by first | omega | (simp <;> omega) | (have := HB.out.size; simp <;> omega)) _)
    have E : Hid (appsF G (m - (k + 1)) (k + 1) = f) := HGO.out (appF_ok HK.out h6 h7)
    have HW : Hid (decide (0 ≤ n2 ∧ n2 ≤ 9999) = true) := decide_eq_true h7
    clear h6 h7 HGO HBAD
    go_wp2_with fail
    refine (keyFault_any _ _).mono ?_
    rintro e w9 ⟨rfl, hw9⟩
    obtain rfl := hw9.symm
    rw [HK.out]
    go_wp2_with fail
    refine (isLockKind_is _ true HV.out _).mono ?_
    rintro e w9 ⟨rfl, hw9⟩
    obtain rfl := hw9.symm
    go_wp2_with fail
    refine (isValueT_is _ true HW.out _).mono ?_
    rintro e w9 ⟨rfl, hw9⟩
    obtain rfl := hw9.symm
    go_wp2
    go_roundw
    case rel =>
      refine ⟨k + 1, by omega, by go_num, E, ?_⟩
      show Below _ _ _
      repeat (first | exact Below.refl _ _ | exact HB.out | refine Below.setCell ?_ (by first | omega | (simp <;> omega) | (have := HB.out.size; simp <;> omega)) _ | refine Below.alloc ?_ (by first | omega | (simp <;> omega) | (have := HB.out.size; simp <;> omega)) _)
    case measure => simp [intOf]; omega
/-- What ApplyItems answers: a code, or the pairs. -/
def AppAns (n : Nat) (F : Nat → Int) (m : Nat) (G : Nat → Int) (c : Int) (R : Prs) : Prop :=
  (pairsF F n 0 ≠ 0 ∧ c = pairsF F n 0 ∧ R = []) ∨ (pairsF F n 0 = 0 ∧ appliedF m G ≠ 0 ∧ c = appliedF m G ∧ R = []) ∨ (pairsF F n 0 = 0 ∧ appliedF m G = 0 ∧ c = 0 ∧ R = applyN (listOf F n) G m)
theorem AppAns.get (n : Nat) (F : Nat → Int) (m : Nat) (G : Nat → Int) : ∃ c R, R.length ≤ 1048576 ∧ AppAns n F m G c R := by
  by_cases h : pairsF F n 0 = 0
  · by_cases h2 : appliedF m G = 0
    · refine ⟨0, applyN (listOf F n) G m, ?_, Or.inr (Or.inr ⟨h, h2, rfl, rfl⟩)⟩
      have h3 := (pairs_rise h).2
      have h4 := applyN_len (listOf F n) G m
      rw [listOf_length] at h4
      have h5 : m ≤ 12 := by
        unfold appliedF at h2
        by_cases q : 12 < m
        · rw [if_pos q] at h2; omega
        · omega
      omega
    · exact ⟨_, [], by simp, Or.inr (Or.inl ⟨h, h2, rfl, rfl⟩)⟩
  · exact ⟨_, [], by simp, Or.inl ⟨h, rfl, rfl⟩⟩
theorem appliedF_zero {m : Nat} {G : Nat → Int} (h : appliedF m G = 0) : m ≤ 12 ∧ appsF G m 0 = 0 ∧ ∀ i, i < m → 1 ≤ G (i * 3 + 1) ∧ G (i * 3 + 1) ≤ 3 := by
  unfold appliedF at h
  by_cases q : 12 < m
  · rw [if_pos q] at h; omega
  · rw [if_neg q] at h
    exact ⟨by omega, h, fun i hi => by have := appsF_all h i hi; rw [Nat.zero_add] at this; exact (appF_zero this).2.1⟩
theorem res_none {w w' : World} {c : Int} {e : Ending} (he : e = .returned (.agg #[.int .i64 c, .slice none 0 0])) (hb : Below w.heap.size w w') : ResRow 2 w c ([] : Prs).length (rowL []) e w' :=
  ⟨none, 0, he, ⟨_, _, rfl, fun q => absurd q (Nat.lt_irrefl 0)⟩, by rw [show ([] : Prs).length * 2 = 0 from rfl]; exact Free.of0 _ _, hb⟩
set_option maxRecDepth 100000 in
set_option maxHeartbeats 4000000 in
theorem implApply_is (v y : Value) (B B' n m : Nat) (F G : Nat → Int) (c : Int) (R : Prs) (w : World) (h : Row w B 2 n F v) (h' : Row w B' 3 m G y) (hn : n ≤ 1048576) (hm : m ≤ 1048576) (hA : AppAns n F m G c R) :
    Calls Try.prog 9 #[v, y] w (ResRow 2 w c R.length (rowL R)) := by
  have H : Hid (Row w B 2 n F v ∧ Row w B' 3 m G y) := ⟨h, h'⟩
  clear h h'
  rcases hA with ⟨h1, rfl, rfl⟩ | ⟨h1, h2, rfl, rfl⟩ | ⟨h1, h2, rfl, rfl⟩
  · obtain ⟨f, hf⟩ : ∃ f, pairsF F n 0 = f := ⟨_, rfl⟩
    have HF : Hid (pairsF F n 0 = f) := hf
    have d : (f != 0) = true := bne_iff_ne.2 (by rw [← hf]; exact h1)
    rw [hf]
    clear h1 hf
    go_enter Try.func9, Try.ntmps9
    go_wp2_with fail
    refine (implPairs_any _ B n F _ (H.out.1.alloc _) hn).mono ?_
    rintro e w1 ⟨rfl, q1⟩
    rw [HF.out]
    have hb := (Blk2.new w (.int .i64 0) (.slice none 0 0) 29).later q1
    have HB : Hid (Below w.heap.size w w1) := (below_alloc w _).trans (q1.mono (by simp))
    obtain ⟨⟨x0, x1⟩, y0, y1⟩ := hb
    clear q1
    go_wp2
    refine bodyPost_ret (v := .agg #[.int .i64 f, .slice none 0 0]) (by simp [results, Try.results9, go_sem, x0, x1]) rfl (res_none rfl ?_)
    exact (HB.out.setCell (by simp) _).setCell (by simp) _
  · obtain ⟨f, hf⟩ : ∃ f, appliedF m G = f := ⟨_, rfl⟩
    have HF : Hid (appliedF m G = f ∧ pairsF F n 0 = 0) := ⟨hf, h1⟩
    have d : (f != 0) = true := bne_iff_ne.2 (by rw [← hf]; exact h2)
    rw [hf]
    clear h1 h2 hf
    go_enter Try.func9, Try.ntmps9
    go_wp2_with fail
    refine (implPairs_any _ B n F _ (H.out.1.alloc _) hn).mono ?_
    rintro e w1 ⟨rfl, q1⟩
    rw [HF.out.2]
    have hb := (Blk2.new w (.int .i64 0) (.slice none 0 0) 29).later q1
    have HB1 : Hid (Below w.heap.size w w1) := (below_alloc w _).trans (q1.mono (by simp))
    clear q1
    go_wp2_with fail
    refine (appliedFault_is _ B' m G _ (H.out.2.later HB1.out) hm).mono ?_
    rintro e w2 ⟨rfl, q2⟩
    rw [HF.out.1]
    have HB : Hid (Below w.heap.size w w2) := HB1.out.trans (q2.mono HB1.out.size)
    obtain ⟨⟨x0, x1⟩, y0, y1⟩ := hb.later q2
    clear q2 hb HB1
    go_wp2
    refine bodyPost_ret (v := .agg #[.int .i64 f, .slice none 0 0]) (by simp [results, Try.results9, go_sem, x0, x1]) rfl (res_none rfl ?_)
    exact (HB.out.setCell (by simp) _).setCell (by simp) _
  · have HF : Hid (appliedF m G = 0 ∧ pairsF F n 0 = 0) := ⟨h2, h1⟩
    clear h1 h2
    go_enter Try.func9, Try.ntmps9
    go_wp2_with fail
    refine (implPairs_any _ B n F _ (H.out.1.alloc _) hn).mono ?_
    rintro e w1 ⟨rfl, q1⟩
    rw [HF.out.2]
    have hb := (Blk2.new w (.int .i64 0) (.slice none 0 0) 29).later q1
    have HB1 : Hid (Below w.heap.size w w1) := (below_alloc w _).trans (q1.mono (by simp))
    clear q1
    go_wp2_with fail
    refine (appliedFault_is _ B' m G _ (H.out.2.later HB1.out) hm).mono ?_
    rintro e w2 ⟨rfl, q2⟩
    rw [HF.out.1]
    have HB2 : Hid (Below w.heap.size w w2) := HB1.out.trans (q2.mono HB1.out.size)
    have hb2 := hb.later q2
    clear q2 hb HB1
    go_wp2_with fail
    refine (filled_any (listOf F n) _ B _ (row_list (H.out.1.later HB2.out)) (pairs_rise HF.out.2).1 (by rw [listOf_length]; have := (pairs_rise HF.out.2).2; omega)).mono ?_
    rintro e w3 ⟨b, rfl, hbb, hris, q3⟩
    have HI : Hid (Ris w3 b (listOf F n) ∧ Below w2.heap.size w2 w3) := ⟨hris, q3⟩
    clear hris q3
    go_wp2_with fail
    refine (applyTo_any (listOf F n) G m b _ B' w2 _ (H.out.2.later HB2.out) HI.out.2 hbb HI.out.1 (pairs_rise HF.out.2).1 (by rw [listOf_length]; have := (pairs_rise HF.out.2).2; omega) (appliedF_zero HF.out.1).1).mono ?_
    rintro e w4 ⟨rfl, hris, q4⟩
    obtain ⟨rv, hr1, hr2⟩ := hris
    obtain ⟨ro, rc, rfl⟩ := hr2.form
    have hbw : w.heap.size < b := Nat.lt_of_lt_of_le hb2.lt hbb
    obtain ⟨⟨x0, x1⟩, y0, y1⟩ := hb2.later q4
    obtain ⟨⟨r0, r1⟩, _, _⟩ := hr1
    have HR : Hid (Own w4 (b + 1) 65 2 (applyN (listOf F n) G m).length (rowL (applyN (listOf F n) G m)) (.slice ro (applyN (listOf F n) G m).length rc) ∧ Below w.heap.size w w4) := ⟨hr2, HB2.out.trans (q4.mono HB2.out.size)⟩
    clear hr2 q4 hb2
    obtain ⟨A, hA⟩ : ∃ A, applyN (listOf F n) G m = A := ⟨_, rfl⟩
    have HAA : Hid (applyN (listOf F n) G m = A) := hA
    rw [hA] at HR r0
    clear hA
    go_wp2
    refine bodyPost_ret (v := .agg #[.int .i64 0, .slice ro A.length rc]) (by simp [results, Try.results9, go_sem, x0, x1]) rfl ?_
    rw [HAA.out]
    refine ⟨ro, rc, rfl, ?_, ?_, ?_⟩
    · exact ((HR.out.1.row.1.far (Or.inl (by simp; omega)) _).far (Or.inl (by simp; omega)) _).mono (by omega)
    · exact (HR.out.1.row.2.far _ _).far _ _
    · exact (HR.out.2.setCell (by simp) _).setCell (by simp) _
set_option maxRecDepth 100000 in
set_option maxHeartbeats 4000000 in
theorem specApply_is (v y : Value) (B B' n m : Nat) (F G : Nat → Int) (c : Int) (R : Prs) (w : World) (h : Row w B 2 n F v) (h' : Row w B' 3 m G y) (hn : n ≤ 1048576) (hm : m ≤ 1048576) (hA : AppAns n F m G c R) :
    Calls Try.prog 10 #[v, y] w (ResRow 2 w c R.length (rowL R)) := by
  obtain ⟨bo, bp, rfl⟩ := h'.form
  have H : Hid (Row w B 2 n F v ∧ Row w B' 3 m G (.slice bo m bp)) := ⟨h, h'⟩
  clear h h'
  by_cases h1 : pairsF F n 0 = 0
  case neg =>
    obtain ⟨rfl, rfl⟩ : c = pairsF F n 0 ∧ R = [] := by
      rcases hA with ⟨_, q1, q2⟩ | ⟨q, _⟩ | ⟨q, _⟩
      · exact ⟨q1, q2⟩
      · exact absurd q h1
      · exact absurd q h1
    obtain ⟨f, hf⟩ : ∃ f, pairsF F n 0 = f := ⟨_, rfl⟩
    have HF : Hid (pairsF F n 0 = f) := hf
    have d : (f != 0) = true := bne_iff_ne.2 (by rw [← hf]; exact h1)
    rw [hf]
    clear h1 hf hA
    go_enter Try.func10, Try.ntmps10
    go_wp2_with fail
    refine (specPairs_any _ B n F _ (H.out.1.alloc _) hn).mono ?_
    rintro e w1 ⟨rfl, q1⟩
    rw [HF.out]
    have hb := (Blk2.new w (.int .i64 0) (.slice none 0 0) 29).later q1
    have HB : Hid (Below w.heap.size w w1) := (below_alloc w _).trans (q1.mono (by simp))
    obtain ⟨⟨b0, b1⟩, y0, y1⟩ := hb
    clear q1
    go_wp2
    refine bodyPost_ret (v := .agg #[.int .i64 f, .slice none 0 0]) (by simp [results, Try.results10, go_sem, b0, b1]) rfl ?_
    exact res_none rfl ((HB.out.setCell (by simp) _).setCell (by simp) _)
  have HP : Hid (pairsF F n 0 = 0) := h1
  have HA : Hid ((appliedF m G ≠ 0 → c = appliedF m G ∧ R = []) ∧ (appliedF m G = 0 → c = 0 ∧ R = applyN (listOf F n) G m)) := by
    rcases hA with ⟨q, _⟩ | ⟨_, q, q1, q2⟩ | ⟨_, q, q1, q2⟩
    · exact absurd h1 q
    · exact ⟨fun _ => ⟨q1, q2⟩, fun e => absurd e q⟩
    · exact ⟨fun e => absurd q e, fun _ => ⟨q1, q2⟩⟩
  clear hA h1
  by_cases h12 : 12 < m
  · have E : Hid (c = 2 ∧ R = []) := by
      have e2 : appliedF m G = 2 := by unfold appliedF; rw [if_pos h12]
      have := HA.out.1 (by rw [e2]; omega)
      rwa [e2] at this
    have d : decide ((m : Int) > 12) = true := decide_eq_true (by omega)
    clear HA
    go_enter Try.func10, Try.ntmps10
    go_wp2_with fail
    refine (specPairs_any _ B n F _ (H.out.1.alloc _) hn).mono ?_
    rintro e w1 ⟨rfl, q1⟩
    rw [HP.out]
    have hb := (Blk2.new w (.int .i64 0) (.slice none 0 0) 29).later q1
    have HB : Hid (Below w.heap.size w w1) := (below_alloc w _).trans (q1.mono (by simp))
    obtain ⟨⟨b0, b1⟩, y0, y1⟩ := hb
    clear q1
    go_wp2
    refine bodyPost_ret (v := .agg #[.int .i64 2, .slice none 0 0]) (by simp [results, Try.results10, go_sem, b0, b1]) rfl ?_
    rw [E.out.1, E.out.2]
    exact res_none rfl ((HB.out.setCell (by simp) _).setCell (by simp) _)
  have d : decide ((m : Int) > 12) = false := decide_eq_false (by omega)
  have hm12 : m ≤ 12 := by omega
  obtain ⟨f, hf⟩ : ∃ f, appsF G m 0 = f := ⟨_, rfl⟩
  have HF : Hid (appsF G m 0 = f) := hf
  have HA2 : Hid ((f ≠ 0 → c = f ∧ R = []) ∧ (f = 0 → c = 0 ∧ R = applyN (listOf F n) G m)) := by
    have e2 : appliedF m G = f := by unfold appliedF; rw [if_neg h12]; exact hf
    have := HA.out
    rwa [e2] at this
  clear hf HA h12
  go_enter Try.func10, Try.ntmps10
  go_wp2_with fail
  refine (specPairs_any _ B n F _ (H.out.1.alloc _) hn).mono ?_
  rintro e w1 ⟨rfl, q1⟩
  rw [HP.out]
  have HB1 : Hid (Blk2 w1 w.heap.size (.int .i64 0) (.slice none 0 0) ∧ Below w.heap.size w w1) := ⟨(Blk2.new w (.int .i64 0) (.slice none 0 0) 29).later q1, (below_alloc w _).trans (q1.mono (by simp))⟩
  clear q1
  go_wp2
  go_loopw [6] (fun i wr => ∃ k : Nat, k ≤ m ∧ i = .int .i64 k ∧ Hid (appsF G (m - k) k = f) ∧ Hid (Blk2 wr w.heap.size (.int .i64 0) (.slice none 0 0) ∧ Below w.heap.size w wr)) (fun i _ => m - (intOf i).toNat)
  case atStart => exact ⟨0, Nat.zero_le _, rfl, HF, HB1⟩
  case round =>
    obtain ⟨k, hk, rfl, HS, HB⟩ := hrel
    obtain ⟨⟨b0, b1⟩, y0, y1⟩ := HB.out.1
    by_cases hlt : k < m
    case neg =>
      have E : Hid (f = 0) := by
        have := HS.out
        rw [show m - k = 0 by omega, appsF] at this
        exact this.symm
      have HC : Hid (c = 0 ∧ R = applyN (listOf F n) G m) := HA2.out.2 E.out
      have HKI : Hid (∀ i, i < m → 1 ≤ G (i * 3 + 1) ∧ G (i * 3 + 1) ≤ 3) := fun i hi => by
        have := appsF_all (HF.out.trans E.out) i hi
        rw [Nat.zero_add] at this
        exact (appF_zero this).2.1
      clear HS
      go_wp2_with fail
      refine (l11Apply_any (listOf F n) G m _ _ B B' _ (row_list (H.out.1.later HB.out.2)) (H.out.2.later HB.out.2) (by rw [listOf_length]; have := (pairs_rise HP.out).2; omega) hm12 HKI.out).mono ?_
      rintro e w4 ⟨ro, rc, rfl, hr2, q4⟩
      have HR : Hid (Own w4 wr.heap.size 65 2 (applyN (listOf F n) G m).length (rowL (applyN (listOf F n) G m)) (.slice ro (applyN (listOf F n) G m).length rc) ∧ Below w.heap.size w w4) := ⟨hr2, HB.out.2.trans (q4.mono HB.out.2.size)⟩
      have hbw : w.heap.size < wr.heap.size := HB.out.1.lt
      obtain ⟨⟨x0, x1⟩, z0, z1⟩ := HB.out.1.later q4
      clear hr2 q4 b0 b1 y0 y1
      obtain ⟨A, hA⟩ : ∃ A, applyN (listOf F n) G m = A := ⟨_, rfl⟩
      have HAA : Hid (applyN (listOf F n) G m = A) := hA
      rw [hA] at HR
      rw [hA]
      clear hA
      go_wp2
      refine bodyPost_ret (v := .agg #[.int .i64 0, .slice ro A.length rc]) (by simp [results, Try.results10, go_sem, x0, x1]) rfl ?_
      rw [HC.out.1, HC.out.2, HAA.out]
      refine ⟨ro, rc, rfl, ?_, ?_, ?_⟩
      · exact ((HR.out.1.row.1.far (Or.inl (by simp; omega)) _).far (Or.inl (by simp; omega)) _).mono (by omega)
      · exact (HR.out.1.row.2.far _ _).far _ _
      · exact (HR.out.2.setCell (by simp) _).setCell (by simp) _
    obtain ⟨g, o, hao, _, hg, x0, x1, x2⟩ := (H.out.2.later HB.out.2).at3 hlt
    subst hao
    have hm' : Hid (0 < m - k ∧ m - k - 1 = m - (k + 1)) := ⟨by omega, by omega⟩
    obtain ⟨n0, N0⟩ : ∃ x, G (k * 3) = x := ⟨_, rfl⟩
    rw [N0] at x0
    obtain ⟨n1, N1⟩ : ∃ x, G (k * 3 + 1) = x := ⟨_, rfl⟩
    rw [N1] at x1
    obtain ⟨n2, N2⟩ : ∃ x, G (k * 3 + 2) = x := ⟨_, rfl⟩
    rw [N2] at x2
    have HBAD : Hid (∀ q, appF n0 n1 n2 = q → q ≠ 0 → c = q ∧ R = []) := fun q h1 h2 => by
      have E0 := HS.out
      rw [appsF_bad hm'.out.1 (by rw [N0, N1, N2]; exact h1) h2] at E0
      have := HA2.out.1 (by rw [← E0]; exact h2)
      rwa [← E0] at this
    have HGO : Hid (appF n0 n1 n2 = 0 → appsF G (m - (k + 1)) (k + 1) = f) := fun h1 => by
      have E0 := HS.out
      rw [appsF_on hm'.out.1 (by rw [N0, N1, N2]; exact h1), hm'.out.2] at E0
      exact E0
    clear N0 N1 N2 HS HF HB1 HA2
    by_cases h5 : faultOf n0 = 0
    case neg =>
      obtain ⟨q, hq⟩ : ∃ q, faultOf n0 = q := ⟨_, rfl⟩
      have HQ : Hid (faultOf n0 = q) := hq
      have E : Hid (c = q ∧ R = []) := HBAD.out q (by rw [appF_key h5]; exact hq) (by rw [← hq]; exact h5)
      have d' : (q != 0) = true := bne_iff_ne.2 (by rw [← hq]; exact h5)
      clear h5 hq HGO HBAD
      go_wp2_with fail
      refine (l1Fault_any _ _).mono ?_
      rintro e w9 ⟨rfl, hw9⟩
      obtain rfl := hw9.symm
      rw [HQ.out]
      go_wp2
      refine bodyPost_ret (v := .agg #[.int .i64 q, .slice none 0 0]) (by simp [results, Try.results10, go_sem, b0, b1]) rfl ?_
      rw [E.out.1, E.out.2]
      exact res_none rfl ((HB.out.2.setCell (by simp) _).setCell (by simp) _)
    have HK : Hid (faultOf n0 = 0) := h5
    clear h5
    by_cases h6 : 1 ≤ n1 ∧ n1 ≤ 3
    case neg =>
      have E : Hid (c = 3 ∧ R = []) := HBAD.out 3 (appF_kind HK.out h6) (by omega)
      have HV : Hid (decide (1 ≤ n1 ∧ n1 ≤ 3) = false) := decide_eq_false h6
      clear h6 HGO HBAD
      go_wp2_with fail
      refine (l1Fault_any _ _).mono ?_
      rintro e w9 ⟨rfl, hw9⟩
      obtain rfl := hw9.symm
      rw [HK.out]
      go_wp2_with fail
      refine (inT_is _ _ _ false HV.out _).mono ?_
      rintro e w9 ⟨rfl, hw9⟩
      obtain rfl := hw9.symm
      go_wp2
      refine bodyPost_ret (v := .agg #[.int .i64 3, .slice none 0 0]) (by simp [results, Try.results10, go_sem, b0, b1]) rfl ?_
      rw [E.out.1, E.out.2]
      exact res_none rfl ((HB.out.2.setCell (by simp) _).setCell (by simp) _)
    have HV : Hid (decide (1 ≤ n1 ∧ n1 ≤ 3) = true) := decide_eq_true h6
    by_cases h7 : 0 ≤ n2 ∧ n2 ≤ 9999
    case neg =>
      have E : Hid (c = 3 ∧ R = []) := HBAD.out 3 (appF_val HK.out h7) (by omega)
      have HW : Hid (decide (0 ≤ n2 ∧ n2 ≤ 9999) = false) := decide_eq_false h7
      clear h6 h7 HGO HBAD
      go_wp2_with fail
      refine (l1Fault_any _ _).mono ?_
      rintro e w9 ⟨rfl, hw9⟩
      obtain rfl := hw9.symm
      rw [HK.out]
      go_wp2_with fail
      refine (inT_is _ _ _ true HV.out _).mono ?_
      rintro e w9 ⟨rfl, hw9⟩
      obtain rfl := hw9.symm
      go_wp2_with fail
      refine (inT_is _ _ _ false HW.out _).mono ?_
      rintro e w9 ⟨rfl, hw9⟩
      obtain rfl := hw9.symm
      go_wp2
      refine bodyPost_ret (v := .agg #[.int .i64 3, .slice none 0 0]) (by simp [results, Try.results10, go_sem, b0, b1]) rfl ?_
      rw [E.out.1, E.out.2]
      exact res_none rfl ((HB.out.2.setCell (by simp) _).setCell (by simp) _)
    have E : Hid (appsF G (m - (k + 1)) (k + 1) = f) := HGO.out (appF_ok HK.out h6 h7)
    have HW : Hid (decide (0 ≤ n2 ∧ n2 ≤ 9999) = true) := decide_eq_true h7
    clear h6 h7 HGO HBAD
    go_wp2_with fail
    refine (l1Fault_any _ _).mono ?_
    rintro e w9 ⟨rfl, hw9⟩
    obtain rfl := hw9.symm
    rw [HK.out]
    go_wp2_with fail
    refine (inT_is _ _ _ true HV.out _).mono ?_
    rintro e w9 ⟨rfl, hw9⟩
    obtain rfl := hw9.symm
    go_wp2_with fail
    refine (inT_is _ _ _ true HW.out _).mono ?_
    rintro e w9 ⟨rfl, hw9⟩
    obtain rfl := hw9.symm
    go_wp2
    go_roundw
    case rel => exact ⟨k + 1, by omega, by go_num, E, HB⟩
    case measure => simp [intOf]; omega
end Go.Proofs.Ytdbcmckoiacemaa

namespace Go.Proofs.Ytdbcmckoiacemaa
open Go.RowKit

theorem make_rowT {P : Program} {t e : TypeId} {z : Value} {size bytes : Nat} (ht : P.underlying t = some (.slice e)) (hinfo : (P.info? e).map (fun i => (i.zero, i.size, i.bytes)) = some (some z, size, bytes)) (n : Nat) (hn : bytes * n ≤ 281474976710656) (hm : n ≤ 9223372036854775807) (w : World) :
    (Instr.makeSlice t (.int .i64 (n : Int)) (.int .i64 (n : Int))).run P w = .ok (.slice (some ⟨w.heap.size, 0, none⟩) n n) (w.alloc (.cells (madeCells z.cells (n * size)) e)) := by
  obtain ⟨i, hi, hz, hs, hb⟩ := info_parts hinfo
  have hb' : (i.bytes : Int) * (n : Int) ≤ 281474976710656 := by
    have h : ((i.bytes * n : Nat) : Int) ≤ 281474976710656 := by rw [hb]; omega
    rwa [Int.natCast_mul] at h
  have hr := run_make (P := P) w t e i z ht hi hz .i64 .i64 n n (by omega) (Int.le_refl _) hb' (by omega)
  simp only [Int.toNat_natCast, hs] at hr
  exact hr

theorem info_Item : (Try.prog.info? 36).map (fun i => (i.zero, i.size, i.bytes)) = some (some (.agg #[.int .i64 0, .int .i64 0, .int .i64 0]), 3, 24) := by kernel_rfl
set_option maxHeartbeats 400000 in
theorem toItem_any (x0 x1 x2 : Int) (w : World) :
    Calls Try.prog 50 #[.agg #[.int .i64 x0, .int .i64 x1, .int .i64 x2]] w fun e w' => e = .returned (.agg #[.int .i64 x0, .int .i64 x1, .int .i64 x2]) ∧ Below w.heap.size w w' := by
  go_enter Try.func50, Try.ntmps50
  go_wp2
  exact bodyPost_ret (v := .agg #[.int .i64 x0, .int .i64 x1, .int .i64 x2]) (by simp [results, Try.results50, go_sem]) rfl ⟨rfl, (((Below.refl _ _).alloc (Nat.le_refl _) _).alloc (by simp) _).alloc (by simp; omega) _⟩
set_option maxHeartbeats 400000 in
theorem toItemS_cap (v : Value) (B n : Nat) (F : Nat → Int) (w : World) (h : Row w B 3 n F v) (hn : n ≤ 1048576) :
    Calls Try.prog 20 #[v] w fun e w' => ∃ uo, e = .returned (.slice uo n n) ∧ Row w' w.heap.size 3 n F (.slice uo n n) ∧ Free w' (n * 3) (.slice uo n n) ∧ Below w.heap.size w w' := by
  obtain ⟨ao, cp, rfl⟩ := h.form
  have H : Hid (Row w B 3 n F (.slice ao n cp)) := h
  clear h
  have hmk := make_rowT Try.underlying25 info_Item n (by omega) (by omega)
  go_enter Try.func20, Try.ntmps20
  go_wp2
  go_loopw [4] (fun i wr => ∃ k : Nat, k ≤ n ∧ i = .int .i64 k ∧ Hid (Below w.heap.size w wr ∧ Fill wr w.heap.size 0 (n * 3) (k * 3) F)) (fun i _ => n - (intOf i).toNat)
  case atStart => exact ⟨0, Nat.zero_le _, rfl, below_alloc _ _, by rw [Nat.zero_mul]; exact Fill.made _ _ _ _ _⟩
  case round =>
    obtain ⟨k, hk, rfl, hR⟩ := hrel
    by_cases hlt : k < n
    · obtain ⟨g, o, rfl, _, hg, c0, c1, c2⟩ := H.out.at3 hlt
      have b0 := hR.out.1.cell (p := ⟨g, o + k * 3, none⟩) hg
      rw [c0] at b0
      have b1 := hR.out.1.cell (p := ⟨g, o + k * 3 + 1, none⟩) hg
      rw [c1] at b1
      have b2 := hR.out.1.cell (p := ⟨g, o + k * 3 + 2, none⟩) hg
      rw [c2] at b2
      clear c0 c1 c2
      go_wp2_with fail
      refine (toItem_any _ _ _ _).mono ?_
      rintro e w1 ⟨rfl, q1⟩
      have f1 := hR.out.2.later q1
      obtain ⟨v0, d0, e0⟩ := f1.at (p := k * 3) (by omega)
      obtain ⟨v1, d1, e1⟩ := f1.at (p := k * 3 + 1) (by omega)
      obtain ⟨v2, d2, e2⟩ := f1.at (p := k * 3 + 2) (by omega)
      have HF : Hid (Below w.heap.size w w1 ∧ Fill w1 w.heap.size 0 (n * 3) (k * 3) F) := ⟨hR.out.1.trans (q1.mono hR.out.1.size), f1⟩
      clear q1 f1 b0 b1 b2
      simp only [Nat.zero_add] at d0 e0 d1 e1 d2 e2
      go_wp2
      go_roundw
      case rel =>
        refine ⟨k + 1, by omega, by go_num, (((HF.out.1.setCell (Nat.le_refl _) _).setCell (Nat.le_refl _) _).setCell (Nat.le_refl _) _), ?_⟩
        have hq := (((HF.out.2.put0 (by omega)).put0 (by omega)).put0 (by omega))
        rwa [show k * 3 + 1 + 1 + 1 = (k + 1) * 3 by omega] at hq
      case measure => simp [intOf]; omega
    · obtain rfl : k = n := by omega
      go_wp2
      go_ret
      exact ⟨_, rfl, (hR.out.2.row (Nat.le_refl _) _).1, (hR.out.2.row (B := 0) (Nat.zero_le _) _).2, hR.out.1⟩
theorem toItemS_any (v : Value) (B n : Nat) (F : Nat → Int) (w : World) (h : Row w B 3 n F v) (hn : n ≤ 1048576) :
    Calls Try.prog 20 #[v] w fun e w' => ∃ u, e = .returned u ∧ Row w' w.heap.size 3 n F u ∧ Free w' (n * 3) u ∧ Below w.heap.size w w' :=
  (toItemS_cap v B n F w h hn).mono fun _ _ ⟨uo, h1, h2, h3, h4⟩ => ⟨.slice uo n n, h1, h2, h3, h4⟩
set_option maxHeartbeats 400000 in
theorem szItemS_ok (a : Option Addr) (n c : Nat) (left : Int) (w : World) (h : (n : Int) ≤ left) (h2 : left ≤ 1048576) :
    Calls Try.prog 19 #[.slice a n c, .int .i64 left] w fun e w' => e = .returned (.int .i64 (left - n)) ∧ w' = w := by
  have d : decide (left - n < 0) = false := decide_eq_false (by omega)
  go_enter Try.func19, Try.ntmps19
  go_wp2
  go_ret
  exact ⟨rfl, rfl⟩
set_option maxHeartbeats 400000 in
theorem szItemS_no (a : Option Addr) (n c : Nat) (left : Int) (w : World) (h : left < n) (h0 : 0 ≤ left) (h2 : left ≤ 1048576) (hn : n ≤ 9223372036854775807) :
    Calls Try.prog 19 #[.slice a n c, .int .i64 left] w fun e w' => e = .returned (.int .i64 (-1)) ∧ w' = w := by
  have d : decide (left - n < 0) = true := decide_eq_true (by omega)
  go_enter Try.func19, Try.ntmps19
  go_wp2
  go_ret
  exact ⟨rfl, rfl⟩

set_option maxHeartbeats 400000 in
theorem eqItem_same (x0 x1 x2 : Int) (w : World) :
    Calls Try.prog 51 #[.agg #[.int .i64 x0, .int .i64 x1, .int .i64 x2], .agg #[.int .i64 x0, .int .i64 x1, .int .i64 x2]] w fun e w' => e = .returned (.bool true) ∧ Below w.heap.size w w' := by
  go_enter Try.func51, Try.ntmps51
  go_wp2
  go_ret
  exact ⟨rfl, ((Below.refl _ _).alloc (Nat.le_refl _) _).alloc (by simp) _⟩
def TwoItem (w : World) (g o g' o' k : Nat) (F : Nat → Int) (x : World) : Prop := (x.cell? ⟨g, o + k * 3, none⟩ = some (.int .i64 (F (k * 3))) ∧ x.cell? ⟨g, o + k * 3 + 1, none⟩ = some (.int .i64 (F (k * 3 + 1))) ∧ x.cell? ⟨g, o + k * 3 + 2, none⟩ = some (.int .i64 (F (k * 3 + 2))) ∧ x.cell? ⟨g', o' + k * 3, none⟩ = some (.int .i64 (F (k * 3))) ∧ x.cell? ⟨g', o' + k * 3 + 1, none⟩ = some (.int .i64 (F (k * 3 + 1))) ∧ x.cell? ⟨g', o' + k * 3 + 2, none⟩ = some (.int .i64 (F (k * 3 + 2)))) ∧ Below w.heap.size w x
theorem TwoItem.later {w x x' : World} {g o g' o' k : Nat} {F : Nat → Int} (h : TwoItem w g o g' o' k F x) (hg : g < w.heap.size) (hg' : g' < w.heap.size) (hb : Below x.heap.size x x') : TwoItem w g o g' o' k F x' := by
  obtain ⟨⟨hx0, hx1, hx2, hx3, hx4, hx5⟩, hy⟩ := h
  exact ⟨⟨(hb.cell (Nat.lt_of_lt_of_le hg hy.size)).trans hx0, (hb.cell (Nat.lt_of_lt_of_le hg hy.size)).trans hx1, (hb.cell (Nat.lt_of_lt_of_le hg hy.size)).trans hx2, (hb.cell (Nat.lt_of_lt_of_le hg' hy.size)).trans hx3, (hb.cell (Nat.lt_of_lt_of_le hg' hy.size)).trans hx4, (hb.cell (Nat.lt_of_lt_of_le hg' hy.size)).trans hx5⟩, hy.trans (hb.mono hy.size)⟩
set_option maxRecDepth 100000 in
set_option maxHeartbeats 1000000 in
theorem eqItemS_same (va vb : Value) (Ba Bb n : Nat) (F : Nat → Int) (w : World) (ha : Row w Ba 3 n F va) (hb : Row w Bb 3 n F vb) (hn : n ≤ 1048576) :
    Calls Try.prog 22 #[va, vb] w fun e w' => e = .returned (.bool true) ∧ Below w.heap.size w w' := by
  obtain ⟨ao, ca, rfl⟩ := ha.form
  obtain ⟨bo, cb, rfl⟩ := hb.form
  have HA : Hid (Row w Ba 3 n F (.slice ao n ca)) := ha
  have HB : Hid (Row w Bb 3 n F (.slice bo n cb)) := hb
  clear ha hb
  go_enter Try.func22, Try.ntmps22
  go_wp2
  go_loopw [5] (fun i wr => ∃ k : Nat, k ≤ n ∧ i = .int .i64 k ∧ Below w.heap.size w wr) (fun i _ => n - (intOf i).toNat)
  case atStart => exact ⟨0, Nat.zero_le _, rfl, Below.refl _ _⟩
  case round =>
    obtain ⟨k, hk, rfl, hbw⟩ := hrel
    by_cases hlt : k < n
    · obtain ⟨g, o, rfl, _, hg, c0, c1, c2⟩ := HA.out.at3 hlt
      obtain ⟨g', o', rfl, _, hg', d0, d1, d2⟩ := HB.out.at3 hlt
      have h0 : TwoItem w g o g' o' k F wr.drew := ⟨⟨(hbw.cell (p := ⟨g, o + k * 3, none⟩) hg).trans c0, (hbw.cell (p := ⟨g, o + k * 3 + 1, none⟩) hg).trans c1, (hbw.cell (p := ⟨g, o + k * 3 + 2, none⟩) hg).trans c2, (hbw.cell (p := ⟨g', o' + k * 3, none⟩) hg').trans d0, (hbw.cell (p := ⟨g', o' + k * 3 + 1, none⟩) hg').trans d1, (hbw.cell (p := ⟨g', o' + k * 3 + 2, none⟩) hg').trans d2⟩, hbw.drew⟩
      clear c0 d0 c1 d1 c2 d2 hbw
      go_wp2_with fail
      refine wp_region_held_drew (S := TwoItem w g o g' o' k F) (by kernel_rfl) h0 (fun hS => ?_)
      clear h0
      refine tkH 0 ?_ hS (fun wx hx => ?_) ?_; rotate_left
      · obtain ⟨⟨hx0, hx1, hx2, hx3, hx4, hx5⟩, _⟩ := hx; go_simp; try with_reducible rfl
      refine tkH 1 ?_ hS (fun wx hx => ?_) ?_; rotate_left
      · obtain ⟨⟨hx0, hx1, hx2, hx3, hx4, hx5⟩, _⟩ := hx; go_simp; try with_reducible rfl
      refine tkH 2 ?_ hS (fun wx hx => ?_) ?_; rotate_left
      · obtain ⟨⟨hx0, hx1, hx2, hx3, hx4, hx5⟩, _⟩ := hx; go_simp; try with_reducible rfl
      refine tkH 3 ?_ hS (fun wx hx => ?_) ?_; rotate_left
      · obtain ⟨⟨hx0, hx1, hx2, hx3, hx4, hx5⟩, _⟩ := hx; go_simp; try with_reducible rfl
      refine tkH 4 ?_ hS (fun wx hx => ?_) ?_; rotate_left
      · obtain ⟨⟨hx0, hx1, hx2, hx3, hx4, hx5⟩, _⟩ := hx; go_simp; try with_reducible rfl
      refine tkH 5 ?_ hS (fun wx hx => ?_) ?_; rotate_left
      · obtain ⟨⟨hx0, hx1, hx2, hx3, hx4, hx5⟩, _⟩ := hx; go_simp; try with_reducible rfl
      refine tkH 6 ?_ hS (fun wx hx => ?_) ?_; rotate_left
      · obtain ⟨⟨hx0, hx1, hx2, hx3, hx4, hx5⟩, _⟩ := hx; go_simp; try with_reducible rfl
      refine tkH 7 ?_ hS (fun wx hx => ?_) ?_; rotate_left
      · obtain ⟨⟨hx0, hx1, hx2, hx3, hx4, hx5⟩, _⟩ := hx; go_simp; try with_reducible rfl
      refine rdH 8 (fun K hK => ?_)
      go_simp
      go_wp2_with fail
      refine (eqItem_same _ _ _ _).mono ?_
      rintro e w' ⟨rfl, hb⟩
      go_wp2_with fail
      refine hK.out _ _ (hS.later hg hg' hb) (fun hS => ?_)
      clear hK K
      refine tkH 9 ?_ hS (fun wx hx => ?_) ?_; rotate_left
      · obtain ⟨⟨hx0, hx1, hx2, hx3, hx4, hx5⟩, _⟩ := hx; go_simp; try with_reducible rfl
      refine wpAnyH_done (by kernel_rfl) ?_ _
      go_simp
      go_wp2
      go_roundw
      case rel => exact ⟨k + 1, by omega, by go_num, hS.2⟩
      case measure => simp [intOf]; omega
    · go_wp2
      go_ret
      exact ⟨rfl, hbw⟩
end Go.Proofs.Ytdbcmckoiacemaa

