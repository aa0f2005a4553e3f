/-
  Own text. Chapter 6: the place of a key's range, the next epoch, RouteOf and IsFresh: the program's and the model's answer the same plain functions of the row.
-/
import Derived.Test.YtlojbhadodbohaaGreatRngC
import Derived.Test.YtlojbhadodbohaaGreatStorQ
import Derived.WalkSmall
namespace Go.Proofs.YtlojbhadodbohaaGreat
open Go.RowKit

/-- Ranges without a fault. -/
structure Good (n : Nat) (F : Nat → Int) : Prop where
  n1 : 1 ≤ n
  n6 : n ≤ 6
  ep : ∀ i, i < n → 1 ≤ F (i * 3 + 2) ∧ F (i * 3 + 2) ≤ 9999
  lt : ∀ i, i < n → F (i * 3) < F (i * 3 + 1)
  first : F 0 = 0
  next : ∀ i, i + 1 < n → F ((i + 1) * 3) = F (i * 3 + 1)
  last : F ((n - 1) * 3 + 1) = 200
theorem rFrom_zero {F : Nat → Int} : ∀ (m k : Nat) (a : Int), rFrom F m k a = 0 → (∀ i, i < m → (1 ≤ F ((k + i) * 3 + 2) ∧ F ((k + i) * 3 + 2) ≤ 9999) ∧ F ((k + i) * 3) < F ((k + i) * 3 + 1)) ∧ (0 < m → F (k * 3) = a) ∧ (∀ i, i + 1 < m → F ((k + i + 1) * 3) = F ((k + i) * 3 + 1)) ∧ (m = 0 → a = 200) ∧ (0 < m → F ((k + m - 1) * 3 + 1) = 200) := by
  intro m
  induction m with
  | zero =>
    intro k a h
    rw [rFrom] at h
    refine ⟨fun i hi => absurd hi (Nat.not_lt_zero _), fun h0 => absurd h0 (Nat.lt_irrefl _), fun i hi => absurd hi (Nat.not_lt_zero _), fun _ => ?_, fun h0 => absurd h0 (Nat.lt_irrefl _)⟩
    split at h
    · assumption
    · omega
  | succ m ih =>
    intro k a h
    rw [rFrom] at h
    split at h
    · omega
    rename_i h1
    split at h
    · omega
    rename_i h2
    obtain ⟨i1, i2, i3, i4, i5⟩ := ih (k + 1) _ h
    have h1' : (1 ≤ F (k * 3 + 2) ∧ F (k * 3 + 2) ≤ 9999) ∧ F (k * 3) < F (k * 3 + 1) := by omega
    refine ⟨fun i hi => ?_, fun _ => by omega, fun i hi => ?_, fun h0 => by omega, fun _ => ?_⟩
    · cases i with
      | zero => exact h1'
      | succ i => have := i1 i (by omega); rwa [show k + 1 + i = k + (i + 1) by omega] at this
    · cases i with
      | zero => exact i2 (by omega)
      | succ i => have := i3 i (by omega); rwa [show k + 1 + i = k + (i + 1) by omega] at this
    · cases m with
      | zero => exact i4 rfl
      | succ m => have := i5 (by omega); rwa [show k + 1 + (m + 1) - 1 = k + (m + 1 + 1) - 1 by omega] at this
theorem rFrom_good {F : Nat → Int} : ∀ (m k : Nat) (a : Int), (∀ i, i < m → (1 ≤ F ((k + i) * 3 + 2) ∧ F ((k + i) * 3 + 2) ≤ 9999) ∧ F ((k + i) * 3) < F ((k + i) * 3 + 1)) → (0 < m → F (k * 3) = a) → (∀ i, i + 1 < m → F ((k + i + 1) * 3) = F ((k + i) * 3 + 1)) → (m = 0 → a = 200) → (0 < m → F ((k + m - 1) * 3 + 1) = 200) → rFrom F m k a = 0 := by
  intro m
  induction m with
  | zero =>
    intro k a _ _ _ h4 _
    rw [rFrom, if_pos (h4 rfl)]
  | succ m ih =>
    intro k a h1 h2 h3 h4 h5
    have h10 : (1 ≤ F (k * 3 + 2) ∧ F (k * 3 + 2) ≤ 9999) ∧ F (k * 3) < F (k * 3 + 1) := h1 0 (by omega)
    have h20 := h2 (by omega)
    rw [rFrom, if_neg (by omega), if_neg (by omega)]
    refine ih (k + 1) _ (fun i hi => ?_) (fun hm => ?_) (fun i hi => ?_) (fun hm => ?_) (fun hm => ?_)
    · have := h1 (i + 1) (by omega); rwa [show k + (i + 1) = k + 1 + i by omega] at this
    · exact h3 0 (by omega)
    · have := h3 (i + 1) (by omega); rwa [show k + (i + 1) = k + 1 + i by omega] at this
    · subst hm; exact h5 (by omega)
    · have := h5 (by omega); rwa [show k + (m + 1) - 1 = k + 1 + m - 1 by omega] at this
theorem good_of {n : Nat} {F : Nat → Int} (h : rangesF n F = 0) : Good n F := by
  unfold rangesF at h
  split at h
  · omega
  obtain ⟨i1, i2, i3, i4, i5⟩ := rFrom_zero n 0 0 h
  refine ⟨by omega, by omega, fun i hi => ?_, fun i hi => ?_, by simpa using i2 (by omega), fun i hi => ?_, ?_⟩
  · simpa using (i1 i hi).1
  · simpa using (i1 i hi).2
  · simpa using i3 i hi
  · simpa using i5 (by omega)
theorem Good.zero {n : Nat} {F : Nat → Int} (h : Good n F) : rangesF n F = 0 := by
  have := h.n1; have := h.n6
  unfold rangesF
  rw [if_neg (by omega)]
  refine rFrom_good n 0 0 (fun i hi => ?_) (fun _ => by simpa using h.first) (fun i hi => ?_) (fun h0 => by omega) (fun _ => ?_)
  · simpa using ⟨h.ep i hi, h.lt i hi⟩
  · simpa using h.next i hi
  · simpa using h.last
/-- The first range that ends behind the key. -/
def AtR (n : Nat) (F : Nat → Int) (key : Int) (j : Nat) : Prop := j < n ∧ key < F (j * 3 + 1) ∧ ∀ i, i < j → F (i * 3 + 1) ≤ key
theorem atR_ex {F : Nat → Int} {key : Int} : ∀ m : Nat, (∃ j, j < m ∧ key < F (j * 3 + 1)) → ∃ j, AtR m F key j := by
  intro m
  induction m with
  | zero => rintro ⟨j, hj, _⟩; exact absurd hj (Nat.not_lt_zero _)
  | succ m ih =>
    rintro ⟨j, hj, hk⟩
    by_cases hm : ∃ j, j < m ∧ key < F (j * 3 + 1)
    · obtain ⟨i, h1, h2, h3⟩ := ih hm
      exact ⟨i, by omega, h2, h3⟩
    · refine ⟨m, by omega, ?_, fun i hi => Int.not_lt.1 (fun q => hm ⟨i, hi, q⟩)⟩
      rcases Nat.lt_or_ge j m with q | q
      · exact absurd ⟨j, q, hk⟩ hm
      · obtain rfl : j = m := by omega
        exact hk
theorem Good.at {n : Nat} {F : Nat → Int} (h : Good n F) {key : Int} (hk : key ≤ 199) : ∃ j, AtR n F key j :=
  atR_ex n ⟨n - 1, by have := h.n1; omega, by rw [h.last]; omega⟩
theorem AtR.uniq {n : Nat} {F : Nat → Int} {key : Int} {i j : Nat} (hi : AtR n F key i) (hj : AtR n F key j) : i = j := by
  obtain ⟨_, h1, h2⟩ := hi
  obtain ⟨_, h3, h4⟩ := hj
  rcases Nat.lt_trichotomy i j with q | q | q
  · have := h4 i q; omega
  · exact q
  · have := h2 j q; omega
set_option maxRecDepth 100000 in
set_option maxHeartbeats 1000000 in
theorem l6Route_is (v : Value) (B n : Nat) (F : Nat → Int) (key : Int) (j : Nat) (w : World) (h : Row w B 3 n F v) (hj : AtR n F key j) (hn : n ≤ 1048576) :
    Calls Tryz.prog 138 #[v, .int .i64 key] w fun e w' => e = .returned (.int .i64 j) ∧ w' = w := by
  obtain ⟨ao, cp, rfl⟩ := h.form
  have H : Hid (Row w B 3 n F (.slice ao n cp)) := h
  have hjn := hj.1
  have HJ : Hid (AtR n F key j) := hj
  clear h hj
  go_enter Tryz.func138, Tryz.ntmps138
  go_wp2
  go_loop [5] (fun i => ∃ k : Nat, k ≤ j ∧ i = .int .i64 k) (fun i => n - (intOf i).toNat)
  case atStart => exact ⟨0, Nat.zero_le _, rfl⟩
  case round =>
    obtain ⟨k, hk, rfl⟩ := hrel
    have hlt : k < n := by omega
    obtain ⟨g, o, rfl, _, hg, x0, x1, x2⟩ := H.out.at3 hlt
    obtain ⟨n1, N1⟩ : ∃ x, F (k * 3 + 1) = x := ⟨_, rfl⟩
    rw [N1] at x1
    by_cases hkj : k = j
    · subst hkj
      have d : key < n1 := by rw [← N1]; exact HJ.out.2.1
      clear N1
      go_wp2
      go_ret
      exact ⟨rfl, rfl⟩
    · have d : ¬ key < n1 := by rw [← N1]; exact Int.not_lt.2 (HJ.out.2.2 k (by omega))
      clear N1
      go_wp2
      go_round
      case rel => exact ⟨k + 1, by omega, by go_num⟩
      case measure => simp [intOf]; omega
set_option maxRecDepth 100000 in
set_option maxHeartbeats 1000000 in
theorem placeOf_is (v : Value) (B n : Nat) (F : Nat → Int) (key : Int) (j : Nat) (w : World) (h : Row w B 3 n F v) (hj : AtR n F key j) (hn : n ≤ 1048576) :
    Calls Tryz.prog 63 #[v, .int .i64 key] w fun e w' => e = .returned (.int .i64 j) ∧ w' = w := by
  obtain ⟨ao, cp, rfl⟩ := h.form
  have H : Hid (Row w B 3 n F (.slice ao n cp)) := h
  have hjn := hj.1
  have HJ : Hid (AtR n F key j) := hj
  clear h hj
  go_enter Tryz.func63, Tryz.ntmps63
  go_wp2
  go_loop [5] (fun i => ∃ k : Nat, k ≤ j ∧ i = .int .i64 k) (fun i => n - (intOf i).toNat)
  case atStart => exact ⟨0, Nat.zero_le _, rfl⟩
  case round =>
    obtain ⟨k, hk, rfl⟩ := hrel
    have hlt : k < n := by omega
    obtain ⟨g, o, rfl, _, hg, x0, x1, x2⟩ := H.out.at3 hlt
    obtain ⟨n1, N1⟩ : ∃ x, F (k * 3 + 1) = x := ⟨_, rfl⟩
    rw [N1] at x1
    by_cases hkj : k = j
    · subst hkj
      have d : key < n1 := by rw [← N1]; exact HJ.out.2.1
      clear N1
      go_wp2
      go_ret
      exact ⟨rfl, rfl⟩
    · have d : ¬ key < n1 := by rw [← N1]; exact Int.not_lt.2 (HJ.out.2.2 k (by omega))
      clear N1
      go_wp2
      go_round
      case rel => exact ⟨k + 1, by omega, by go_num⟩
      case measure => simp [intOf]; omega
/-- The greatest epoch of the first n. -/
def topE (F : Nat → Int) : Nat → Int
  | 0 => 0
  | k + 1 => if F (k * 3 + 2) < topE F k then topE F k else F (k * 3 + 2)
theorem topE_bound {F : Nat → Int} : ∀ n : Nat, (∀ i, i < n → 1 ≤ F (i * 3 + 2) ∧ F (i * 3 + 2) ≤ 9999) → 0 ≤ topE F n ∧ topE F n ≤ 9999 := by
  intro n
  induction n with
  | zero => intro _; exact ⟨Int.le_refl _, by unfold topE; omega⟩
  | succ n ih =>
    intro h
    have h1 := ih (fun i hi => h i (by omega))
    have h2 := h n (by omega)
    rw [topE]
    split <;> omega
theorem topE_top {F : Nat → Int} : ∀ n : Nat, ∀ i, i < n → F (i * 3 + 2) ≤ topE F n := by
  intro n
  induction n with
  | zero => intro i hi; exact absurd hi (Nat.not_lt_zero _)
  | succ n ih =>
    intro i hi
    rw [topE]
    rcases Nat.lt_or_ge i n with q | q
    · have := ih i q; split <;> omega
    · obtain rfl : i = n := by omega
      split <;> omega
end Go.Proofs.YtlojbhadodbohaaGreat
