/-
  Own text. Chapter 8, the program: the small helpers of TxnFault.
-/
import Derived.Test.YtdbcmckoiacemaaKeysB
import Derived.Test.YtdbcmckoiacemaaTxnC
namespace Go.Proofs.Ytdbcmckoiacemaa
open Go.RowKit

theorem isValueT_is (v : Int) (r : Bool) (hr : decide (0 ≤ v ∧ v ≤ 9999) = r) (w : World) :
    Calls Try.prog 46 #[.int .i64 v] w fun e w' => e = .returned (.bool r) ∧ w' = w := by
  by_cases h1 : 0 ≤ v
  · by_cases h2 : v ≤ 9999
    · have d : decide (v ≤ 9999) = true := decide_eq_true h2
      rw [decide_eq_true (show 0 ≤ v ∧ v ≤ 9999 from ⟨h1, h2⟩)] at hr
      subst hr
      go_enter Try.func46, Try.ntmps46
      go_wp2
      go_ret
      exact ⟨rfl, rfl⟩
    · have d : decide (v ≤ 9999) = false := decide_eq_false h2
      rw [decide_eq_false (show ¬ (0 ≤ v ∧ v ≤ 9999) from fun h => h2 h.2)] at hr
      subst hr
      go_enter Try.func46, Try.ntmps46
      go_wp2
      go_ret
      exact ⟨rfl, rfl⟩
  · have d : decide (0 ≤ v) = false := decide_eq_false h1
    rw [decide_eq_false (show ¬ (0 ≤ v ∧ v ≤ 9999) from fun h => h1 h.1)] at hr
    subst hr
    go_enter Try.func46, Try.ntmps46
    go_wp2
    go_ret
    exact ⟨rfl, rfl⟩
/-- What the program tells of kind and value. -/
def valF (kd v : Int) : Int := if ¬ (1 ≤ kd ∧ kd ≤ 3) ∨ ¬ (0 ≤ v ∧ v ≤ 9999) then 3 else if v ≠ 0 ∧ kd ≠ 1 then 1 else 0
theorem itemF_val {k kd v : Int} (h : faultOf k = 0) : itemF k kd v = valF kd v := by unfold itemF valF; rw [if_neg (fun q => q h)]
end Go.Proofs.Ytdbcmckoiacemaa
