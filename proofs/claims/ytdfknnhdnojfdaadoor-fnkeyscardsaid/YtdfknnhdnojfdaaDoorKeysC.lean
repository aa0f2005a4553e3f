/-
  Own text. impl.KeyOf and spec.KeyOf answer one and the same at every argument (code and key): no condition.
-/
import Derived.Test.YtdfknnhdnojfdaaDoorKeysB
namespace Go.Proofs.YtdfknnhdnojfdaaDoor
open Go.RowKit

/-- The code and the key of a kind and its parts. -/
def ofBoth (k a b : Int) : Int × Int :=
  if k < 0 ∨ 3 < k then (1, 0)
  else if a < 0 ∨ 9 < a ∨ b < 0 ∨ 5 < b ∨ (k = 0 ∧ a ≠ 0) ∨ (k ≠ 2 ∧ b ≠ 0) then (3, 0)
  else (0, if k = 1 then 10 + a else if k = 2 then 20 + 10 * a + b else if k = 3 then 180 + a else 0)
theorem ofBoth_form {k a b : Int} (h : k < 0 ∨ 3 < k) : ofBoth k a b = (1, 0) := by unfold ofBoth; rw [if_pos h]
theorem ofBoth_range {k a b : Int} (h0 : 0 ≤ k) (h3 : k ≤ 3) (h : a < 0 ∨ 9 < a ∨ b < 0 ∨ 5 < b ∨ (k = 0 ∧ a ≠ 0) ∨ (k ≠ 2 ∧ b ≠ 0)) : ofBoth k a b = (3, 0) := by
  unfold ofBoth; rw [if_neg (by omega), if_pos h]
theorem ofBoth_ok {k a b : Int} (h0 : 0 ≤ k) (h3 : k ≤ 3) (h : ¬ (a < 0 ∨ 9 < a ∨ b < 0 ∨ 5 < b ∨ (k = 0 ∧ a ≠ 0) ∨ (k ≠ 2 ∧ b ≠ 0))) :
    ofBoth k a b = (0, if k = 1 then 10 + a else if k = 2 then 20 + 10 * a + b else if k = 3 then 180 + a else 0) := by
  unfold ofBoth; rw [if_neg (by omega), if_neg h]

theorem fl_two : floatOfInt .f64 2 = 4611686018427387904 := by decide +kernel
set_option maxHeartbeats 400000 in
theorem tellParts_entry (a b : Int) (w : World) (ha : 0 ≤ a) (ha9 : a ≤ 9) (hb : 0 ≤ b) (hb5 : b ≤ 5) :
    Calls Tryd.prog 32 #[.int .i64 2, .int .i64 a, .int .i64 b] w fun e w' => e = .returned (.complex .f64 (floatOfInt .f64 2) (floatOfInt .f64 (a * 10 + b))) ∧ w' = w := by
  rw [fl_two]
  go_enter Tryd.func32, Tryd.ntmps32
  go_wp2
  go_ret
  exact ⟨rfl, rfl⟩
set_option maxHeartbeats 400000 in
theorem tellParts_other (k a b : Int) (w : World) (hk : (k == 2) = false) :
    Calls Tryd.prog 32 #[.int .i64 k, .int .i64 a, .int .i64 b] w fun e w' => e = .returned (.complex .f64 (floatOfInt .f64 k) (floatOfInt .f64 a)) ∧ w' = w := by
  go_enter Tryd.func32, Tryd.ntmps32
  go_wp2
  go_ret
  exact ⟨rfl, rfl⟩
/-- Where a kind begins. -/
def firstK (k : Int) : Int := if k = 1 then 10 else if k = 2 then 20 else if k = 3 then 180 else 0
set_option maxHeartbeats 400000 in
theorem keyTold_any (k r : Int) (w : World) (hk0 : 0 ≤ k) (hk3 : k ≤ 3) (h0 : 0 ≤ r) (h1 : r ≤ 199) :
    Calls Tryd.prog 24 #[.complex .f64 (floatOfInt .f64 k) (floatOfInt .f64 r)] w fun e w' => e = .returned (.int .i64 (firstK k + r)) ∧ w' = w := by
  have kr := fun w => run_to_int r h0 h1 w
  have kk := fun w => run_to_int k hk0 (by omega) w
  obtain rfl | rfl | rfl | rfl : k = 0 ∨ k = 1 ∨ k = 2 ∨ k = 3 := by omega
  all_goals
    go_enter Tryd.func24, Tryd.ntmps24
    go_wp2
    go_ret
    exact ⟨by simp [firstK], rfl⟩

theorem firstK_0 : firstK 0 + 0 = 0 := rfl
theorem firstK_1 : firstK 1 = 10 := rfl
theorem firstK_3 : firstK 3 = 180 := rfl
set_option maxHeartbeats 1000000 in
theorem implKeyOf_any (k a b : Int) (w : World) :
    Calls Tryd.prog 13 #[.int .i64 k, .int .i64 a, .int .i64 b] w fun e w' => e = .returned (.agg #[.int .i64 (ofBoth k a b).1, .int .i64 (ofBoth k a b).2]) ∧ w' = w.alloc (.cells #[.int .i64 (ofBoth k a b).1, .int .i64 (ofBoth k a b).2] 26) := by
  by_cases hlo : k < 0
  · rw [ofBoth_form (Or.inl hlo)]
    go_enter Tryd.func13, Tryd.ntmps13
    go_wp2
    exact bodyPost_ret (v := .agg #[.int .i64 1, .int .i64 0]) (by simp [results, Tryd.results13, go_sem]) rfl ⟨rfl, rfl⟩
  by_cases hhi : 3 < k
  · rw [ofBoth_form (Or.inr hhi)]
    have d1 : decide (k ≤ 3) = false := decide_eq_false (by omega)
    go_enter Tryd.func13, Tryd.ntmps13
    go_wp2
    exact bodyPost_ret (v := .agg #[.int .i64 1, .int .i64 0]) (by simp [results, Tryd.results13, go_sem]) rfl ⟨rfl, rfl⟩
  have d1 : decide (k ≤ 3) = true := decide_eq_true (by omega)
  by_cases ha : a < 0
  · rw [ofBoth_range (by omega) (by omega) (by omega)]
    go_enter Tryd.func13, Tryd.ntmps13
    go_wp2
    exact bodyPost_ret (v := .agg #[.int .i64 3, .int .i64 0]) (by simp [results, Tryd.results13, go_sem]) rfl ⟨rfl, rfl⟩
  by_cases ha9 : 9 < a
  · rw [ofBoth_range (by omega) (by omega) (by omega)]
    have d2 : decide (a ≤ 9) = false := decide_eq_false (by omega)
    go_enter Tryd.func13, Tryd.ntmps13
    go_wp2
    exact bodyPost_ret (v := .agg #[.int .i64 3, .int .i64 0]) (by simp [results, Tryd.results13, go_sem]) rfl ⟨rfl, rfl⟩
  have d2 : decide (a ≤ 9) = true := decide_eq_true (by omega)
  by_cases hb : b < 0
  · rw [ofBoth_range (by omega) (by omega) (by omega)]
    obtain rfl | rfl | rfl | rfl : k = 0 ∨ k = 1 ∨ k = 2 ∨ k = 3 := by omega
    · by_cases haz : a = 0
      · subst haz
        go_enter Tryd.func13, Tryd.ntmps13
        go_wp2
        exact bodyPost_ret (v := .agg #[.int .i64 3, .int .i64 0]) (by simp [results, Tryd.results13, go_sem]) rfl ⟨rfl, rfl⟩
      · have d3 : (a == 0) = false := beq_eq_false_iff_ne.2 haz
        have d4 : (a != 0) = true := by rw [bne_iff_ne]; exact haz
        go_enter Tryd.func13, Tryd.ntmps13
        go_wp2
        exact bodyPost_ret (v := .agg #[.int .i64 3, .int .i64 0]) (by simp [results, Tryd.results13, go_sem]) rfl ⟨rfl, rfl⟩
    · go_enter Tryd.func13, Tryd.ntmps13
      go_wp2
      exact bodyPost_ret (v := .agg #[.int .i64 3, .int .i64 0]) (by simp [results, Tryd.results13, go_sem]) rfl ⟨rfl, rfl⟩
    · go_enter Tryd.func13, Tryd.ntmps13
      go_wp2
      exact bodyPost_ret (v := .agg #[.int .i64 3, .int .i64 0]) (by simp [results, Tryd.results13, go_sem]) rfl ⟨rfl, rfl⟩
    · go_enter Tryd.func13, Tryd.ntmps13
      go_wp2
      exact bodyPost_ret (v := .agg #[.int .i64 3, .int .i64 0]) (by simp [results, Tryd.results13, go_sem]) rfl ⟨rfl, rfl⟩
  by_cases hb5 : 5 < b
  · rw [ofBoth_range (by omega) (by omega) (by omega)]
    have d5 : decide (b ≤ 5) = false := decide_eq_false (by omega)
    obtain rfl | rfl | rfl | rfl : k = 0 ∨ k = 1 ∨ k = 2 ∨ k = 3 := by omega
    · by_cases haz : a = 0
      · subst haz
        go_enter Tryd.func13, Tryd.ntmps13
        go_wp2
        exact bodyPost_ret (v := .agg #[.int .i64 3, .int .i64 0]) (by simp [results, Tryd.results13, go_sem]) rfl ⟨rfl, rfl⟩
      · have d3 : (a == 0) = false := beq_eq_false_iff_ne.2 haz
        have d4 : (a != 0) = true := by rw [bne_iff_ne]; exact haz
        go_enter Tryd.func13, Tryd.ntmps13
        go_wp2
        exact bodyPost_ret (v := .agg #[.int .i64 3, .int .i64 0]) (by simp [results, Tryd.results13, go_sem]) rfl ⟨rfl, rfl⟩
    · go_enter Tryd.func13, Tryd.ntmps13
      go_wp2
      exact bodyPost_ret (v := .agg #[.int .i64 3, .int .i64 0]) (by simp [results, Tryd.results13, go_sem]) rfl ⟨rfl, rfl⟩
    · go_enter Tryd.func13, Tryd.ntmps13
      go_wp2
      exact bodyPost_ret (v := .agg #[.int .i64 3, .int .i64 0]) (by simp [results, Tryd.results13, go_sem]) rfl ⟨rfl, rfl⟩
    · go_enter Tryd.func13, Tryd.ntmps13
      go_wp2
      exact bodyPost_ret (v := .agg #[.int .i64 3, .int .i64 0]) (by simp [results, Tryd.results13, go_sem]) rfl ⟨rfl, rfl⟩
  have d5 : decide (b ≤ 5) = true := decide_eq_true (by omega)
  obtain rfl | rfl | rfl | rfl : k = 0 ∨ k = 1 ∨ k = 2 ∨ k = 3 := by omega
  · by_cases haz : a = 0
    · subst haz
      by_cases hbz : b = 0
      · subst hbz
        rw [ofBoth_ok (by omega) (by omega) (by omega), if_neg (by omega), if_neg (by omega), if_neg (by omega)]
        go_enter Tryd.func13, Tryd.ntmps13
        go_wp2_with (first | (go_at_call 31; go_in) | fail)
        refine (tellParts_other _ _ _ _ rfl).mono ?_
        rintro e w' ⟨rfl, rfl⟩
        go_wp2_with fail
        refine (keyTold_any _ _ _ (by omega) (by omega) (by omega) (by omega)).mono ?_
        rintro e w' ⟨rfl, rfl⟩
        first | rw [firstK_0] | rw [firstK_1] | rw [firstK_3]
        go_wp2
        exact bodyPost_ret (v := .agg #[.int .i64 0, .int .i64 0]) (by simp [results, Tryd.results13, go_sem]) rfl ⟨rfl, rfl⟩
      · rw [ofBoth_range (by omega) (by omega) (by omega)]
        have d6 : (b == 0) = false := beq_eq_false_iff_ne.2 hbz
        have d7 : (b != 0) = true := by rw [bne_iff_ne]; exact hbz
        go_enter Tryd.func13, Tryd.ntmps13
        go_wp2
        exact bodyPost_ret (v := .agg #[.int .i64 3, .int .i64 0]) (by simp [results, Tryd.results13, go_sem]) rfl ⟨rfl, rfl⟩
    · rw [ofBoth_range (by omega) (by omega) (by omega)]
      have d3 : (a == 0) = false := beq_eq_false_iff_ne.2 haz
      have d4 : (a != 0) = true := by rw [bne_iff_ne]; exact haz
      go_enter Tryd.func13, Tryd.ntmps13
      go_wp2
      exact bodyPost_ret (v := .agg #[.int .i64 3, .int .i64 0]) (by simp [results, Tryd.results13, go_sem]) rfl ⟨rfl, rfl⟩
  · by_cases hbz : b = 0
    · subst hbz
      rw [ofBoth_ok (by omega) (by omega) (by omega), if_pos rfl]
      go_enter Tryd.func13, Tryd.ntmps13
      go_wp2_with (first | (go_at_call 31; go_in) | fail)
      refine (tellParts_other _ _ _ _ rfl).mono ?_
      rintro e w' ⟨rfl, rfl⟩
      go_wp2_with fail
      refine (keyTold_any _ _ _ (by omega) (by omega) (by omega) (by omega)).mono ?_
      rintro e w' ⟨rfl, rfl⟩
      first | rw [firstK_0] | rw [firstK_1] | rw [firstK_3]
      go_wp2
      exact bodyPost_ret (v := .agg #[.int .i64 0, .int .i64 (10 + a)]) (by simp [results, Tryd.results13, go_sem]) rfl ⟨rfl, rfl⟩
    · rw [ofBoth_range (by omega) (by omega) (by omega)]
      have d6 : (b == 0) = false := beq_eq_false_iff_ne.2 hbz
      have d7 : (b != 0) = true := by rw [bne_iff_ne]; exact hbz
      go_enter Tryd.func13, Tryd.ntmps13
      go_wp2
      exact bodyPost_ret (v := .agg #[.int .i64 3, .int .i64 0]) (by simp [results, Tryd.results13, go_sem]) rfl ⟨rfl, rfl⟩
  · rw [ofBoth_ok (by omega) (by omega) (by omega), if_neg (by omega), if_pos rfl]
    go_enter Tryd.func13, Tryd.ntmps13
    go_wp2_with (first | (go_at_call 31; go_in) | fail)
    refine (tellParts_entry _ _ _ (by omega) (by omega) (by omega) (by omega)).mono ?_
    rintro e w' ⟨rfl, rfl⟩
    go_wp2_with fail
    refine (keyTold_any _ _ _ (by omega) (by omega) (by omega) (by omega)).mono ?_
    rintro e w' ⟨rfl, rfl⟩
    have ev : firstK 2 + (a * 10 + b) = (20 + 10 * a + b) := by unfold firstK; rw [if_neg (by omega), if_pos rfl]; omega
    rw [ev]; clear ev
    go_wp2
    exact bodyPost_ret (v := .agg #[.int .i64 0, .int .i64 (20 + 10 * a + b)]) (by simp [results, Tryd.results13, go_sem]) rfl ⟨rfl, rfl⟩
  · by_cases hbz : b = 0
    · subst hbz
      rw [ofBoth_ok (by omega) (by omega) (by omega), if_neg (by omega), if_neg (by omega), if_pos rfl]
      go_enter Tryd.func13, Tryd.ntmps13
      go_wp2_with (first | (go_at_call 31; go_in) | fail)
      refine (tellParts_other _ _ _ _ rfl).mono ?_
      rintro e w' ⟨rfl, rfl⟩
      go_wp2_with fail
      refine (keyTold_any _ _ _ (by omega) (by omega) (by omega) (by omega)).mono ?_
      rintro e w' ⟨rfl, rfl⟩
      first | rw [firstK_0] | rw [firstK_1] | rw [firstK_3]
      go_wp2
      exact bodyPost_ret (v := .agg #[.int .i64 0, .int .i64 (180 + a)]) (by simp [results, Tryd.results13, go_sem]) rfl ⟨rfl, rfl⟩
    · rw [ofBoth_range (by omega) (by omega) (by omega)]
      have d6 : (b == 0) = false := beq_eq_false_iff_ne.2 hbz
      have d7 : (b != 0) = true := by rw [bne_iff_ne]; exact hbz
      go_enter Tryd.func13, Tryd.ntmps13
      go_wp2
      exact bodyPost_ret (v := .agg #[.int .i64 3, .int .i64 0]) (by simp [results, Tryd.results13, go_sem]) rfl ⟨rfl, rfl⟩
end Go.Proofs.YtdfknnhdnojfdaaDoor
