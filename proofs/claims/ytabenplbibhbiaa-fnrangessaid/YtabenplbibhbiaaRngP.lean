/-
  Own text. Ranges split and merged: plain facts, and what SplitRange and MergeRange answer.
-/
import Derived.Test.YtabenplbibhbiaaRngE
namespace Go.Proofs.Ytabenplbibhbiaa
open Go.RowKit

/-- Range i cut at a, both of epoch e. -/
def splitG (F : Nat → Int) (i : Nat) (a e : Int) (p : Nat) : Int := if p < i * 3 then F p else if p < i * 3 + 6 then [F (i * 3), a, e, a, F (i * 3 + 1), e].getD (p - i * 3) 0 else F (p - 3)
/-- Ranges i and the next one joined, of epoch e. -/
def mergeG (F : Nat → Int) (i : Nat) (e : Int) (p : Nat) : Int := if p < i * 3 then F p else if p < i * 3 + 3 then [F (i * 3), F ((i + 1) * 3 + 1), e].getD (p - i * 3) 0 else F (p + 3)
theorem splitG_lt {F : Nat → Int} {i : Nat} {a e : Int} {j r : Nat} (h : j < i) (hr : r < 3) : splitG F i a e (j * 3 + r) = F (j * 3 + r) := by unfold splitG; rw [if_pos (by omega)]
theorem splitG_in {F : Nat → Int} {i : Nat} {a e : Int} (r : Nat) (hr : r < 6) : splitG F i a e (i * 3 + r) = [F (i * 3), a, e, a, F (i * 3 + 1), e].getD r 0 := by
  unfold splitG; rw [if_neg (by omega), if_pos (by omega), show i * 3 + r - i * 3 = r by omega]
theorem splitG_gt {F : Nat → Int} {i : Nat} {a e : Int} {j r : Nat} (h : i + 1 < j) (hr : r < 3) : splitG F i a e (j * 3 + r) = F ((j - 1) * 3 + r) := by
  unfold splitG; rw [if_neg (by omega), if_neg (by omega), show j * 3 + r - 3 = (j - 1) * 3 + r by omega]
theorem mergeG_lt {F : Nat → Int} {i : Nat} {e : Int} {j r : Nat} (h : j < i) (hr : r < 3) : mergeG F i e (j * 3 + r) = F (j * 3 + r) := by unfold mergeG; rw [if_pos (by omega)]
theorem mergeG_in {F : Nat → Int} {i : Nat} {e : Int} (r : Nat) (hr : r < 3) : mergeG F i e (i * 3 + r) = [F (i * 3), F ((i + 1) * 3 + 1), e].getD r 0 := by
  unfold mergeG; rw [if_neg (by omega), if_pos (by omega), show i * 3 + r - i * 3 = r by omega]
theorem mergeG_gt {F : Nat → Int} {i : Nat} {e : Int} {j r : Nat} (h : i < j) (hr : r < 3) : mergeG F i e (j * 3 + r) = F ((j + 1) * 3 + r) := by
  unfold mergeG; rw [if_neg (by omega), if_neg (by omega), show j * 3 + r + 3 = (j + 1) * 3 + r by omega]
/-- Without a fault a range begins at or below the keys that it has. -/
theorem Good.from {n : Nat} {F : Nat → Int} (h : Good n F) {key : Int} (h0 : 0 ≤ key) {j : Nat} (hj : AtR n F key j) : F (j * 3) ≤ key := by
  obtain ⟨h1, h2, h3⟩ := hj
  cases j with
  | zero => rw [Nat.zero_mul, h.first]; exact h0
  | succ j => rw [h.next j h1]; exact h3 j (by omega)
theorem Good.split {n : Nat} {F : Nat → Int} (h : Good n F) {a e : Int} {i : Nat} (ha : 0 ≤ a) (hi : AtR n F a i) (hne : F (i * 3) ≠ a) (h5 : n ≤ 5) (he : 1 ≤ e ∧ e ≤ 9999) : Good (n + 1) (splitG F i a e) := by
  have hf := h.from ha hi
  obtain ⟨h1, h2, h3⟩ := hi
  have s0 : splitG F i a e (i * 3) = F (i * 3) := splitG_in 0 (by omega)
  have s1 : splitG F i a e (i * 3 + 1) = a := splitG_in 1 (by omega)
  have s2 : splitG F i a e (i * 3 + 2) = e := splitG_in 2 (by omega)
  have s3 : splitG F i a e ((i + 1) * 3) = a := by rw [show (i + 1) * 3 = i * 3 + 3 by omega]; exact splitG_in 3 (by omega)
  have s4 : splitG F i a e ((i + 1) * 3 + 1) = F (i * 3 + 1) := by rw [show (i + 1) * 3 + 1 = i * 3 + 4 by omega]; exact splitG_in 4 (by omega)
  have s5 : splitG F i a e ((i + 1) * 3 + 2) = e := by rw [show (i + 1) * 3 + 2 = i * 3 + 5 by omega]; exact splitG_in 5 (by omega)
  have lo : ∀ j r, j < i → r < 3 → splitG F i a e (j * 3 + r) = F (j * 3 + r) := fun j r hj hr => splitG_lt hj hr
  have hi' : ∀ j r, i + 1 < j → r < 3 → splitG F i a e (j * 3 + r) = F ((j - 1) * 3 + r) := fun j r hj hr => splitG_gt hj hr
  refine ⟨by omega, by omega, fun j hj => ?_, fun j hj => ?_, ?_, fun j hj => ?_, ?_⟩
  · rcases Nat.lt_trichotomy j i with q | q | q
    · rw [lo j 2 q (by omega)]; exact h.ep j (by omega)
    · subst q; rw [s2]; exact he
    · rcases Nat.lt_or_ge (i + 1) j with q' | q'
      · rw [hi' j 2 q' (by omega)]; exact h.ep (j - 1) (by omega)
      · obtain rfl : j = i + 1 := by omega
        rw [s5]; exact he
  · rcases Nat.lt_trichotomy j i with q | q | q
    · have e0 := lo j 0 q (by omega)
      rw [Nat.add_zero] at e0
      rw [e0, lo j 1 q (by omega)]; exact h.lt j (by omega)
    · subst q; rw [s0, s1]; omega
    · rcases Nat.lt_or_ge (i + 1) j with q' | q'
      · have e0 := hi' j 0 q' (by omega)
        rw [Nat.add_zero, Nat.add_zero] at e0
        rw [e0, hi' j 1 q' (by omega)]; exact h.lt (j - 1) (by omega)
      · obtain rfl : j = i + 1 := by omega
        rw [s3, s4]; exact h2
  · rcases Nat.eq_zero_or_pos i with q | q
    · subst q; rw [Nat.zero_mul] at s0; rw [s0]; exact h.first
    · have e0 := lo 0 0 q (by omega)
      rw [Nat.zero_mul, Nat.zero_add] at e0
      rw [e0]; exact h.first
  · rcases Nat.lt_trichotomy (j + 1) i with q | q | q
    · have e0 := lo (j + 1) 0 q (by omega)
      rw [Nat.add_zero] at e0
      rw [e0, lo j 1 (by omega) (by omega)]; exact h.next j (by omega)
    · rw [q, s0, lo j 1 (by omega) (by omega), ← q]; exact h.next j (by omega)
    · rcases Nat.lt_trichotomy j (i + 1) with q' | q' | q'
      · obtain rfl : j = i := by omega
        rw [s3, s1]
      · subst q'
        have e0 := hi' (i + 1 + 1) 0 (by omega) (by omega)
        rw [Nat.add_zero, Nat.add_zero, show i + 1 + 1 - 1 = i + 1 by omega] at e0
        rw [e0, s4]; exact h.next i (by omega)
      · have e0 := hi' (j + 1) 0 (by omega) (by omega)
        rw [Nat.add_zero, Nat.add_zero, show j + 1 - 1 = j by omega] at e0
        have e1 := h.next (j - 1) (by omega)
        rw [show j - 1 + 1 = j by omega] at e1
        rw [e0, hi' j 1 q' (by omega)]
        exact e1
  · rw [show n + 1 - 1 = n by omega]
    rcases Nat.lt_or_ge (i + 1) n with q | q
    · rw [hi' n 1 q (by omega)]; exact h.last
    · obtain rfl : n = i + 1 := by omega
      rw [s4]; exact h.last
theorem Good.merge {n : Nat} {F : Nat → Int} (h : Good n F) {e : Int} {i : Nat} (hi : i + 2 ≤ n) (he : 1 ≤ e ∧ e ≤ 9999) : Good (n - 1) (mergeG F i e) := by
  have h6 := h.n6
  have s0 : mergeG F i e (i * 3) = F (i * 3) := mergeG_in 0 (by omega)
  have s1 : mergeG F i e (i * 3 + 1) = F ((i + 1) * 3 + 1) := mergeG_in 1 (by omega)
  have s2 : mergeG F i e (i * 3 + 2) = e := mergeG_in 2 (by omega)
  have lo : ∀ j r, j < i → r < 3 → mergeG F i e (j * 3 + r) = F (j * 3 + r) := fun j r hj hr => mergeG_lt hj hr
  have hi' : ∀ j r, i < j → r < 3 → mergeG F i e (j * 3 + r) = F ((j + 1) * 3 + r) := fun j r hj hr => mergeG_gt hj hr
  refine ⟨by omega, by omega, fun j hj => ?_, fun j hj => ?_, ?_, fun j hj => ?_, ?_⟩
  · rcases Nat.lt_trichotomy j i with q | q | q
    · rw [lo j 2 q (by omega)]; exact h.ep j (by omega)
    · subst q; rw [s2]; exact he
    · rw [hi' j 2 q (by omega)]; exact h.ep (j + 1) (by omega)
  · rcases Nat.lt_trichotomy j i with q | q | q
    · have e0 := lo j 0 q (by omega)
      rw [Nat.add_zero] at e0
      rw [e0, lo j 1 q (by omega)]; exact h.lt j (by omega)
    · subst q
      have := h.lt j (by omega)
      have := h.lt (j + 1) (by omega)
      have := h.next j (by omega)
      rw [s0, s1]; omega
    · have e0 := hi' j 0 q (by omega)
      rw [Nat.add_zero, Nat.add_zero] at e0
      rw [e0, hi' j 1 q (by omega)]; exact h.lt (j + 1) (by omega)
  · rcases Nat.eq_zero_or_pos i with q | q
    · subst q; rw [Nat.zero_mul] at s0; rw [s0]; exact h.first
    · have e0 := lo 0 0 q (by omega)
      rw [Nat.zero_mul, Nat.zero_add] at e0
      rw [e0]; exact h.first
  · rcases Nat.lt_trichotomy (j + 1) i with q | q | q
    · have e0 := lo (j + 1) 0 q (by omega)
      rw [Nat.add_zero] at e0
      rw [e0, lo j 1 (by omega) (by omega)]; exact h.next j (by omega)
    · rw [q, s0, lo j 1 (by omega) (by omega), ← q]; exact h.next j (by omega)
    · have e0 := hi' (j + 1) 0 q (by omega)
      rw [Nat.add_zero, Nat.add_zero] at e0
      rcases Nat.lt_or_ge i j with q' | q'
      · rw [e0, hi' j 1 q' (by omega)]; exact h.next (j + 1) (by omega)
      · obtain rfl : j = i := by omega
        rw [e0, s1]; exact h.next (j + 1) (by omega)
  · have hl := h.last
    rcases Nat.lt_or_ge i (n - 1 - 1) with q | q
    · rw [hi' _ 1 q (by omega), show n - 1 - 1 + 1 = n - 1 by omega]; exact hl
    · obtain rfl : n = i + 2 := by omega
      rw [show i + 2 - 1 - 1 = i by omega, s1]; exact hl
/-- What SplitRange answers. -/
def SplitAns (n : Nat) (F : Nat → Int) (a c : Int) (m : Nat) (G : Nat → Int) : Prop :=
  (rangesF n F ≠ 0 ∧ c = rangesF n F ∧ m = 0) ∨ (rangesF n F = 0 ∧ (a < 1 ∨ 199 < a) ∧ c = 3 ∧ m = 0) ∨
  ∃ i, rangesF n F = 0 ∧ (1 ≤ a ∧ a ≤ 199) ∧ AtR n F a i ∧ ((F (i * 3) = a ∧ c = 6 ∧ m = 0) ∨ (F (i * 3) ≠ a ∧ (n = 6 ∨ topE F n = 9999) ∧ c = 2 ∧ m = 0) ∨ (F (i * 3) ≠ a ∧ n ≤ 5 ∧ topE F n ≠ 9999 ∧ c = 0 ∧ m = n + 1 ∧ G = splitG F i a (topE F n + 1)))
theorem SplitAns.get (n : Nat) (F : Nat → Int) (a : Int) : ∃ c m G, m ≤ 1000 ∧ SplitAns n F a c m G := by
  by_cases h0 : rangesF n F = 0
  · by_cases h1 : a < 1 ∨ 199 < a
    · exact ⟨3, 0, F, by omega, Or.inr (Or.inl ⟨h0, h1, rfl, rfl⟩)⟩
    · obtain ⟨i, hi⟩ := (good_of h0).at (key := a) (by omega)
      have h6 := (good_of h0).n6
      by_cases h2 : F (i * 3) = a
      · exact ⟨6, 0, F, by omega, Or.inr (Or.inr ⟨i, h0, by omega, hi, Or.inl ⟨h2, rfl, rfl⟩⟩)⟩
      · by_cases h3 : n = 6 ∨ topE F n = 9999
        · exact ⟨2, 0, F, by omega, Or.inr (Or.inr ⟨i, h0, by omega, hi, Or.inr (Or.inl ⟨h2, h3, rfl, rfl⟩)⟩)⟩
        · exact ⟨0, n + 1, _, by omega, Or.inr (Or.inr ⟨i, h0, by omega, hi, Or.inr (Or.inr ⟨h2, by omega, fun q => h3 (Or.inr q), rfl, rfl, rfl⟩)⟩)⟩
  · exact ⟨_, 0, F, by omega, Or.inl ⟨h0, rfl, rfl⟩⟩
/-- What MergeRange answers. -/
def MergeAns (n : Nat) (F : Nat → Int) (a c : Int) (m : Nat) (G : Nat → Int) : Prop :=
  (rangesF n F ≠ 0 ∧ c = rangesF n F ∧ m = 0) ∨ (rangesF n F = 0 ∧ (a < 0 ∨ (n : Int) - 2 < a) ∧ c = 3 ∧ m = 0) ∨
  ∃ i : Nat, rangesF n F = 0 ∧ a = i ∧ i + 2 ≤ n ∧ ((topE F n = 9999 ∧ c = 2 ∧ m = 0) ∨ (topE F n ≠ 9999 ∧ c = 0 ∧ m = n - 1 ∧ G = mergeG F i (topE F n + 1)))
theorem MergeAns.get (n : Nat) (F : Nat → Int) (a : Int) : ∃ c m G, m ≤ 1000 ∧ MergeAns n F a c m G := by
  by_cases h0 : rangesF n F = 0
  · have h6 := (good_of h0).n6
    by_cases h1 : a < 0 ∨ (n : Int) - 2 < a
    · exact ⟨3, 0, F, by omega, Or.inr (Or.inl ⟨h0, h1, rfl, rfl⟩)⟩
    · by_cases h3 : topE F n = 9999
      · exact ⟨2, 0, F, by omega, Or.inr (Or.inr ⟨a.toNat, h0, by omega, by omega, Or.inl ⟨h3, rfl, rfl⟩⟩)⟩
      · exact ⟨0, n - 1, _, by omega, Or.inr (Or.inr ⟨a.toNat, h0, by omega, by omega, Or.inr ⟨h3, rfl, rfl, rfl⟩⟩)⟩
  · exact ⟨_, 0, F, by omega, Or.inl ⟨h0, rfl, rfl⟩⟩
end Go.Proofs.Ytabenplbibhbiaa
