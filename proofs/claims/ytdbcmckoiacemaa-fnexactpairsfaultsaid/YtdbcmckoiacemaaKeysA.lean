/-
  Own text. The functions of chapter 1 that tell whether a key stands for something (impl.KeyFault, spec.l1Fault) answer one and the same code at every argument: no condition.
-/
import Derived.Test.YtdbcmckoiacemaaRows
import Derived.WalkKit
import Derived.WalkLawsBesides
import Derived.ProofKit
import Derived.OpenShut
namespace Go.Proofs.Ytdbcmckoiacemaa
open Go.RowKit

theorem fl_back_fin : ∀ n : Fin 200, floatToIntVal .f64 (floatOfInt .f64 (n.val : Int)) .i64 = some (n.val : Int) := by decide +kernel
theorem fl_back (n : Int) (h0 : 0 ≤ n) (h1 : n ≤ 199) : floatToIntVal .f64 (floatOfInt .f64 n) .i64 = some n := by
  have := fl_back_fin ⟨n.toNat, by omega⟩
  simpa [Int.toNat_of_nonneg h0] using this
/-- A small number comes back out of its float. -/
theorem run_to_int (n : Int) (h0 : 0 ≤ n) (h1 : n ≤ 199) (w : World) : (convert 95 2 (.float .f64 (floatOfInt .f64 n))).run Try.prog w = .ok (.int .i64 n) w :=
  run_convert_float_int w _ _ _ _ _ _ (by rw [Try.underlying95]; rfl) Try.underlying2 (fl_back n h0 h1)

/-- What is told of a key: 0 it stands for something, 1 for nothing, 3 it leaves its bounds. -/
def faultOf (key : Int) : Int :=
  if key < 0 ∨ 199 < key then 3
  else if key = 0 ∨ (10 ≤ key ∧ key ≤ 19) ∨ (180 ≤ key ∧ key ≤ 189) ∨ (20 ≤ key ∧ key ≤ 119 ∧ key % 10 ≤ 5) then 0 else 1
theorem faultOf_range {key : Int} (h : key < 0 ∨ 199 < key) : faultOf key = 3 := by unfold faultOf; rw [if_pos h]
theorem faultOf_ok {key : Int} (h : key = 0 ∨ (10 ≤ key ∧ key ≤ 19) ∨ (180 ≤ key ∧ key ≤ 189) ∨ (20 ≤ key ∧ key ≤ 119 ∧ key % 10 ≤ 5)) : faultOf key = 0 := by
  unfold faultOf; rw [if_neg (by omega), if_pos h]
theorem faultOf_form {key : Int} (h0 : 0 ≤ key) (h1 : key ≤ 199) (h : ¬ (key = 0 ∨ (10 ≤ key ∧ key ≤ 19) ∨ (180 ≤ key ∧ key ≤ 189) ∨ (20 ≤ key ∧ key ≤ 119 ∧ key % 10 ≤ 5))) : faultOf key = 1 := by
  unfold faultOf; rw [if_neg (by omega), if_neg h]
theorem ret_i {a b : Int} (h : a = b) : Ending.returned (.int .i64 a) = .returned (.int .i64 b) := by rw [h]

set_option maxHeartbeats 400000 in
theorem l1Fault_any (key : Int) (w : World) :
    Calls Try.prog 39 #[.int .i64 key] w fun e w' => e = .returned (.int .i64 (faultOf key)) ∧ w' = w := by
  by_cases hlo : key < 0
  · rw [faultOf_range (Or.inl hlo)]
    go_enter Try.func39, Try.ntmps39
    go_wp2
    go_ret
    exact ⟨rfl, rfl⟩
  by_cases hhi : 199 < key
  · rw [faultOf_range (Or.inr hhi)]
    have d1 : decide (key ≤ 199) = false := decide_eq_false (by omega)
    go_enter Try.func39, Try.ntmps39
    go_wp2
    go_ret
    exact ⟨rfl, rfl⟩
  have d1 : decide (key ≤ 199) = true := decide_eq_true (by omega)
  by_cases hz : key = 0
  · subst hz
    rw [faultOf_ok (Or.inl rfl)]
    go_enter Try.func39, Try.ntmps39
    go_wp2
    go_ret
    exact ⟨rfl, rfl⟩
  have d0 : (key == 0) = false := beq_eq_false_iff_ne.2 hz
  by_cases h9 : key < 10
  · rw [faultOf_form (by omega) (by omega) (by omega)]
    go_enter Try.func39, Try.ntmps39
    go_wp2
    go_ret
    exact ⟨rfl, rfl⟩
  by_cases h19 : key < 20
  · rw [faultOf_ok (by omega)]
    have d2 : decide (key ≤ 19) = true := decide_eq_true (by omega)
    go_enter Try.func39, Try.ntmps39
    go_wp2
    go_ret
    exact ⟨rfl, rfl⟩
  have d2 : decide (key ≤ 19) = false := decide_eq_false (by omega)
  by_cases h119 : key < 120
  · have d4 : decide (key ≤ 119) = true := decide_eq_true (by omega)
    by_cases h5 : key % 10 ≤ 5
    · rw [faultOf_ok (by omega)]
      have d5 : decide (key % 10 ≤ 5) = true := decide_eq_true h5
      go_enter Try.func39, Try.ntmps39
      go_wp2
      go_ret
      exact ⟨rfl, rfl⟩
    · rw [faultOf_form (by omega) (by omega) (by omega)]
      have d5 : decide (key % 10 ≤ 5) = false := decide_eq_false h5
      go_enter Try.func39, Try.ntmps39
      go_wp2
      go_ret
      exact ⟨rfl, rfl⟩
  have d4 : decide (key ≤ 119) = false := decide_eq_false (by omega)
  by_cases h179 : key < 180
  · rw [faultOf_form (by omega) (by omega) (by omega)]
    go_enter Try.func39, Try.ntmps39
    go_wp2
    go_ret
    exact ⟨rfl, rfl⟩
  by_cases h189 : key < 190
  · rw [faultOf_ok (by omega)]
    have d6 : decide (key ≤ 189) = true := decide_eq_true (by omega)
    go_enter Try.func39, Try.ntmps39
    go_wp2
    go_ret
    exact ⟨rfl, rfl⟩
  have d6 : decide (key ≤ 189) = false := decide_eq_false (by omega)
  rw [faultOf_form (by omega) (by omega) (by omega)]
  go_enter Try.func39, Try.ntmps39
  go_wp2
  go_ret
  exact ⟨rfl, rfl⟩
end Go.Proofs.Ytdbcmckoiacemaa
