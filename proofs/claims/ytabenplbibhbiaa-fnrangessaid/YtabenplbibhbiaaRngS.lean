/-
  Own text. Where a key lies behind a split, and who knows it from before: plain facts.
-/
import Derived.Test.YtabenplbibhbiaaRngP
namespace Go.Proofs.Ytabenplbibhbiaa
open Go.RowKit

theorem at_split_self {n : Nat} {F : Nat → Int} {a e : Int} {i : Nat} (hi : AtR n F a i) : AtR (n + 1) (splitG F i a e) a (i + 1) := by
  obtain ⟨h1, h2, h3⟩ := hi
  refine ⟨by omega, ?_, fun q hq => ?_⟩
  · rw [show (i + 1) * 3 + 1 = i * 3 + 4 by omega, splitG_in 4 (by omega)]; exact h2
  · rcases Nat.lt_or_ge q i with k | k
    · rw [splitG_lt k (by omega)]; exact h3 q k
    · obtain rfl : q = i := by omega
      rw [splitG_in 1 (by omega)]; exact Int.le_refl _
/-- Where a key lies behind the split. -/
theorem at_split_key {n : Nat} {F : Nat → Int} {a e key : Int} {i j : Nat} (hi : AtR n F a i) (hj : AtR n F key j) : ∃ j', AtR (n + 1) (splitG F i a e) key j' ∧ ((j = i ∧ splitG F i a e (j' * 3 + 2) = e) ∨ (j ≠ i ∧ splitG F i a e (j' * 3 + 2) = F (j * 3 + 2))) := by
  obtain ⟨i1, i2, i3⟩ := hi
  obtain ⟨j1, j2, j3⟩ := hj
  rcases Nat.lt_trichotomy j i with q | q | q
  · refine ⟨j, ⟨by omega, by rw [splitG_lt q (by omega)]; exact j2, fun k hk => by rw [splitG_lt (by omega) (by omega)]; exact j3 k hk⟩, Or.inr ⟨by omega, splitG_lt q (by omega)⟩⟩
  · subst q
    by_cases hk : key < a
    · refine ⟨j, ⟨by omega, by rw [splitG_in 1 (by omega)]; exact hk, fun k hk' => by rw [splitG_lt hk' (by omega)]; exact j3 k hk'⟩, Or.inl ⟨rfl, splitG_in 2 (by omega)⟩⟩
    · refine ⟨j + 1, ⟨by omega, by rw [show (j + 1) * 3 + 1 = j * 3 + 4 by omega, splitG_in 4 (by omega)]; exact j2, fun k hk' => ?_⟩, Or.inl ⟨rfl, by rw [show (j + 1) * 3 + 2 = j * 3 + 5 by omega, splitG_in 5 (by omega)]; rfl⟩⟩
      rcases Nat.lt_or_ge k j with r | r
      · rw [splitG_lt r (by omega)]; exact j3 k r
      · obtain rfl : k = j := by omega
        rw [splitG_in 1 (by omega)]; exact Int.not_lt.1 hk
  · have hik := j3 i q
    refine ⟨j + 1, ⟨by omega, by rw [splitG_gt (by omega) (by omega), show j + 1 - 1 = j by omega]; exact j2, fun k hk' => ?_⟩, Or.inr ⟨by omega, by rw [splitG_gt (by omega) (by omega), show j + 1 - 1 = j by omega]⟩⟩
    rcases Nat.lt_trichotomy k i with r | r | r
    · rw [splitG_lt r (by omega)]; exact j3 k (by omega)
    · subst r; rw [splitG_in 1 (by omega)]; show a ≤ key; omega
    · rcases Nat.lt_or_ge (i + 1) k with r' | r'
      · rw [splitG_gt r' (by omega)]; exact j3 (k - 1) (by omega)
      · obtain rfl : k = i + 1 := by omega
        rw [show (i + 1) * 3 + 1 = i * 3 + 4 by omega, splitG_in 4 (by omega)]; exact hik
/-- Just the range that is split has the place of the cut within it. -/
theorem turned_is {n : Nat} {F : Nat → Int} (h : Good n F) {a : Int} (ha : 0 ≤ a) {i j : Nat} (hi : AtR n F a i) (hne : F (i * 3) ≠ a) (hj : j < n) : (F (j * 3) < a ∧ a < F (j * 3 + 1)) ↔ j = i := by
  have hf := h.from ha hi
  obtain ⟨i1, i2, i3⟩ := hi
  refine ⟨fun ⟨h1, h2⟩ => ?_, fun e => by subst e; omega⟩
  rcases Nat.lt_trichotomy j i with q | q | q
  · have := i3 j q; omega
  · exact q
  · exfalso
    have mono : ∀ k, i + 1 + k < n → F (i * 3 + 1) ≤ F ((i + 1 + k) * 3) := by
      intro k
      induction k with
      | zero => intro hk; rw [Nat.add_zero, h.next i (by omega)]; exact Int.le_refl _
      | succ k ih =>
        intro hk
        have e1 := ih (by omega)
        have e2 := h.lt (i + 1 + k) (by omega)
        have e3 := h.next (i + 1 + k) (by omega)
        rw [show i + 1 + (k + 1) = i + 1 + k + 1 by omega, e3]
        omega
    have := mono (j - (i + 1)) (by omega)
    rw [show i + 1 + (j - (i + 1)) = j by omega] at this
    omega
end Go.Proofs.Ytabenplbibhbiaa
