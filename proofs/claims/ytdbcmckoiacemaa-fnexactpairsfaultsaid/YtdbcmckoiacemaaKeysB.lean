/-
  Own text. impl.KeyFault answers the same code as the plain function faultOf at every argument; what its helpers answer: no condition.
-/
import Derived.Test.YtdbcmckoiacemaaKeysA
import Derived.Handy
namespace Go.Proofs.Ytdbcmckoiacemaa
open Go.RowKit

/-- The kind of a key from 0 to 199, and where its kind begins. -/
def kindAt (key : Int) : Int := if key < 10 then 0 else if key < 20 then 1 else if key < 180 then 2 else 3
def firstAt (key : Int) : Int := if key < 10 then 0 else if key < 20 then 10 else if key < 180 then 20 else 180

set_option maxHeartbeats 400000 in
theorem tellKey_any (key : Int) (w : World) (h0 : 0 ≤ key) (h1 : key ≤ 199) :
    Calls Try.prog 43 #[.int .i64 key] w fun e w' => e = .returned (.complex .f64 (floatOfInt .f64 (kindAt key)) (floatOfInt .f64 (key - firstAt key))) ∧ w' = w := by
  by_cases h180 : 180 ≤ key
  · have e1 : kindAt key = 3 := by unfold kindAt; repeat rw [if_neg (by omega)]
    have e2 : firstAt key = 180 := by unfold firstAt; repeat rw [if_neg (by omega)]
    rw [e1, e2]; clear e1 e2
    go_enter Try.func43, Try.ntmps43
    go_wp2
    go_rounds 1
    go_ret
    exact ⟨rfl, rfl⟩
  by_cases h20 : 20 ≤ key
  · have e1 : kindAt key = 2 := by unfold kindAt; rw [if_neg (by omega), if_neg (by omega), if_pos (by omega)]
    have e2 : firstAt key = 20 := by unfold firstAt; rw [if_neg (by omega), if_neg (by omega), if_pos (by omega)]
    rw [e1, e2]; clear e1 e2
    go_enter Try.func43, Try.ntmps43
    go_wp2
    go_rounds 2
    go_ret
    exact ⟨rfl, rfl⟩
  by_cases h10 : 10 ≤ key
  · have e1 : kindAt key = 1 := by unfold kindAt; rw [if_neg (by omega), if_pos (by omega)]
    have e2 : firstAt key = 10 := by unfold firstAt; rw [if_neg (by omega), if_pos (by omega)]
    rw [e1, e2]; clear e1 e2
    go_enter Try.func43, Try.ntmps43
    go_wp2
    go_rounds 3
    go_ret
    exact ⟨rfl, rfl⟩
  · have e1 : kindAt key = 0 := by unfold kindAt; rw [if_pos (by omega)]
    have e2 : firstAt key = 0 := by unfold firstAt; rw [if_pos (by omega)]
    rw [e1, e2]; clear e1 e2
    go_enter Try.func43, Try.ntmps43
    go_wp2
    go_rounds 4
    go_ret
    exact ⟨by simp, rfl⟩

theorem kindAt_0 {key : Int} (h : key < 10) : kindAt key = 0 ∧ firstAt key = 0 := by unfold kindAt firstAt; rw [if_pos h, if_pos h]; exact ⟨rfl, rfl⟩
theorem kindAt_1 {key : Int} (h : 10 ≤ key) (h' : key < 20) : kindAt key = 1 ∧ firstAt key = 10 := by
  unfold kindAt firstAt; rw [if_neg (by omega), if_pos h', if_neg (by omega), if_pos h']; exact ⟨rfl, rfl⟩
theorem kindAt_2 {key : Int} (h : 20 ≤ key) (h' : key < 180) : kindAt key = 2 ∧ firstAt key = 20 := by
  unfold kindAt firstAt; rw [if_neg (by omega), if_neg (by omega), if_pos h', if_neg (by omega), if_neg (by omega), if_pos h']; exact ⟨rfl, rfl⟩
theorem kindAt_3 {key : Int} (h : 180 ≤ key) : kindAt key = 3 ∧ firstAt key = 180 := by
  unfold kindAt firstAt; rw [if_neg (by omega), if_neg (by omega), if_neg (by omega), if_neg (by omega), if_neg (by omega), if_neg (by omega)]; exact ⟨rfl, rfl⟩

set_option maxHeartbeats 400000 in
theorem partsTold_entry (r : Int) (w : World) (h0 : 0 ≤ r) (h1 : r ≤ 199) :
    Calls Try.prog 42 #[.complex .f64 (floatOfInt .f64 2) (floatOfInt .f64 r)] w fun e w' => e = .returned (.tuple #[.int .i64 2, .int .i64 (r / 10), .int .i64 (r % 10)]) ∧ w' = w := by
  have k2 := fun w => run_to_int 2 (by omega) (by omega) w
  have kr := fun w => run_to_int r h0 h1 w
  go_enter Try.func42, Try.ntmps42
  go_wp2
  go_ret3
  exact ⟨rfl, rfl⟩
set_option maxHeartbeats 400000 in
theorem partsTold_other (k r : Int) (w : World) (hk0 : 0 ≤ k) (hk3 : k ≤ 3) (hk : (k == 2) = false) (h0 : 0 ≤ r) (h1 : r ≤ 199) :
    Calls Try.prog 42 #[.complex .f64 (floatOfInt .f64 k) (floatOfInt .f64 r)] w fun e w' => e = .returned (.tuple #[.int .i64 k, .int .i64 r, .int .i64 0]) ∧ w' = w := by
  have k2 := fun w => run_to_int k hk0 (by omega) w
  have kr := fun w => run_to_int r h0 h1 w
  go_enter Try.func42, Try.ntmps42
  go_wp2
  go_ret3
  exact ⟨rfl, rfl⟩

set_option maxHeartbeats 1000000 in
theorem keyFault_any (key : Int) (w : World) :
    Calls Try.prog 11 #[.int .i64 key] w fun e w' => e = .returned (.int .i64 (faultOf key)) ∧ w' = w := by
  by_cases hlo : key < 0
  · rw [faultOf_range (Or.inl hlo)]
    go_enter Try.func11, Try.ntmps11
    go_wp2
    go_ret
    exact ⟨rfl, rfl⟩
  by_cases hhi : 199 < key
  · rw [faultOf_range (Or.inr hhi)]
    go_enter Try.func11, Try.ntmps11
    go_wp2
    go_ret
    exact ⟨rfl, rfl⟩
  by_cases h10 : key < 10
  · have HE := kindAt_0 h10
    by_cases hz : key = 0
    · subst hz
      rw [faultOf_ok (Or.inl rfl)]
      go_enter Try.func11, Try.ntmps11
      go_wp2_with fail
      refine (tellKey_any _ _ (by omega) (by omega)).mono ?_
      rintro e w' ⟨rfl, rfl⟩
      rw [HE.1, HE.2]; clear HE
      go_wp2_with fail
      refine (partsTold_other _ _ _ (by omega) (by omega) rfl (by omega) (by omega)).mono ?_
      rintro e w' ⟨rfl, rfl⟩
      go_wp2
      go_ret
      exact ⟨rfl, rfl⟩
    · rw [faultOf_form (by omega) (by omega) (by omega)]
      have d0 : (key == 0) = false := beq_eq_false_iff_ne.2 hz
      go_enter Try.func11, Try.ntmps11
      go_wp2_with fail
      refine (tellKey_any _ _ (by omega) (by omega)).mono ?_
      rintro e w' ⟨rfl, rfl⟩
      rw [HE.1, HE.2]; clear HE
      go_wp2_with fail
      refine (partsTold_other _ _ _ (by omega) (by omega) rfl (by omega) (by omega)).mono ?_
      rintro e w' ⟨rfl, rfl⟩
      go_wp2
      go_ret
      exact ⟨rfl, rfl⟩
  by_cases h20 : key < 20
  · have HE := kindAt_1 (by omega) h20
    rw [faultOf_ok (by omega)]
    go_enter Try.func11, Try.ntmps11
    go_wp2_with fail
    refine (tellKey_any _ _ (by omega) (by omega)).mono ?_
    rintro e w' ⟨rfl, rfl⟩
    rw [HE.1, HE.2]; clear HE
    go_wp2_with fail
    refine (partsTold_other _ _ _ (by omega) (by omega) rfl (by omega) (by omega)).mono ?_
    rintro e w' ⟨rfl, rfl⟩
    go_wp2
    go_ret
    exact ⟨rfl, rfl⟩
  by_cases h180 : key < 180
  · have HE := kindAt_2 (by omega) h180
    by_cases hok : key < 120 ∧ key % 10 ≤ 5
    · rw [faultOf_ok (by omega)]
      have b1 : (key - 20) / 10 ≤ 9 := by omega
      have b2 : 0 ≤ (key - 20) / 10 := by omega
      have b3 : (key - 20) % 10 ≤ 5 := by omega
      have b4 : 0 ≤ (key - 20) % 10 := by omega
      clear hok
      go_enter Try.func11, Try.ntmps11
      go_wp2_with fail
      refine (tellKey_any _ _ (by omega) (by omega)).mono ?_
      rintro e w' ⟨rfl, rfl⟩
      rw [HE.1, HE.2]; clear HE
      go_wp2_with fail
      refine (partsTold_entry _ _ (by omega) (by omega)).mono ?_
      rintro e w' ⟨rfl, rfl⟩
      go_wp2
      go_ret
      exact ⟨rfl, rfl⟩
    · rw [faultOf_form (by omega) (by omega) (by omega)]
      have b2 : 0 ≤ (key - 20) / 10 := by omega
      have b4 : 0 ≤ (key - 20) % 10 := by omega
      by_cases b1 : (key - 20) / 10 ≤ 9
      · have b3 : 5 < (key - 20) % 10 := by omega
        have d3 : decide (5 < (key - 20) % 10) = true := decide_eq_true b3
        clear hok
        go_enter Try.func11, Try.ntmps11
        go_wp2_with fail
        refine (tellKey_any _ _ (by omega) (by omega)).mono ?_
        rintro e w' ⟨rfl, rfl⟩
        rw [HE.1, HE.2]; clear HE
        go_wp2_with fail
        refine (partsTold_entry _ _ (by omega) (by omega)).mono ?_
        rintro e w' ⟨rfl, rfl⟩
        go_wp2
        go_ret
        exact ⟨rfl, rfl⟩
      · have b3 : 9 < (key - 20) / 10 := by omega
        have d3 : decide (9 < (key - 20) / 10) = true := decide_eq_true b3
        clear hok b1
        go_enter Try.func11, Try.ntmps11
        go_wp2_with fail
        refine (tellKey_any _ _ (by omega) (by omega)).mono ?_
        rintro e w' ⟨rfl, rfl⟩
        rw [HE.1, HE.2]; clear HE
        go_wp2_with fail
        refine (partsTold_entry _ _ (by omega) (by omega)).mono ?_
        rintro e w' ⟨rfl, rfl⟩
        go_wp2
        go_ret
        exact ⟨rfl, rfl⟩
  · have HE := kindAt_3 (key := key) (by omega)
    by_cases hok : key < 190
    · rw [faultOf_ok (by omega)]
      go_enter Try.func11, Try.ntmps11
      go_wp2_with fail
      refine (tellKey_any _ _ (by omega) (by omega)).mono ?_
      rintro e w' ⟨rfl, rfl⟩
      rw [HE.1, HE.2]; clear HE
      go_wp2_with fail
      refine (partsTold_other _ _ _ (by omega) (by omega) rfl (by omega) (by omega)).mono ?_
      rintro e w' ⟨rfl, rfl⟩
      go_wp2
      go_ret
      exact ⟨rfl, rfl⟩
    · rw [faultOf_form (by omega) (by omega) (by omega)]
      have d3 : decide (9 < key - 180) = true := decide_eq_true (by omega)
      go_enter Try.func11, Try.ntmps11
      go_wp2_with fail
      refine (tellKey_any _ _ (by omega) (by omega)).mono ?_
      rintro e w' ⟨rfl, rfl⟩
      rw [HE.1, HE.2]; clear HE
      go_wp2_with fail
      refine (partsTold_other _ _ _ (by omega) (by omega) rfl (by omega) (by omega)).mono ?_
      rintro e w' ⟨rfl, rfl⟩
      go_wp2
      go_ret
      exact ⟨rfl, rfl⟩
end Go.Proofs.Ytdbcmckoiacemaa
