/-
  Own text. Chapter 8: the two sides of each law answer the same.
-/
import Derived.Test.YtjimckfkbkfggaaTxnW
import Derived.Test.YtjimckfkbkfggaaTxnK
namespace Go.Proofs.Ytjimckfkbkfggaa
open Go.RowKit

theorem txnFault_ans (s c u st a : Int) (n : Nat) (F : Nat → Int) : n ≤ 1048576 → ∃ r : Int, (∀ y x, Row x 0 3 n F y → CapOk y → Calls Try.prog 19 #[.agg #[.int .i64 s, .int .i64 c, .int .i64 u, .int .i64 st, .int .i64 a, y]] x fun e x' => e = .returned (.int .i64 r) ∧ Below x.heap.size x x') ∧
    (∀ y x, Row x 0 3 n F y → CapOk y → Calls Try.prog 16 #[.agg #[.int .i64 s, .int .i64 c, .int .i64 u, .int .i64 st, .int .i64 a, y]] x fun e x' => e = .returned (.int .i64 r) ∧ Below x.heap.size x x') :=
  fun hn => ⟨txnF s c u st a n F, fun y x h hc => specTxnFault_any s c u st a n F y x h hc (by omega), fun y x h hc => implTxnFault_any s c u st a n F y x h hc⟩
theorem isOver_ans (s c u st a : Int) (n : Nat) (F : Nat → Int) : n ≤ 1048576 → ∃ r : Bool, (∀ y x, Row x 0 3 n F y → CapOk y → Calls Try.prog 34 #[.agg #[.int .i64 s, .int .i64 c, .int .i64 u, .int .i64 st, .int .i64 a, y]] x fun e x' => e = .returned (.bool r) ∧ Below x.heap.size x x') ∧
    (∀ y x, Row x 0 3 n F y → CapOk y → Calls Try.prog 17 #[.agg #[.int .i64 s, .int .i64 c, .int .i64 u, .int .i64 st, .int .i64 a, y]] x fun e x' => e = .returned (.bool r) ∧ Below x.heap.size x x') := fun hn => by
  obtain ⟨r, hr⟩ := TruthT.get (txnF s c u st a n F) (decide (st = 4 ∨ st = 6 ∨ st = 7))
  exact ⟨r, fun y x h hc => specIsOver_is s c u st a n F y _ rfl x h hc (by omega) r hr, fun y x h hc => implIsOver_is s c u st a n F y _ rfl x h hc r hr⟩
theorem primaryOf_ans (s c u st a : Int) (n : Nat) (F : Nat → Int) : n ≤ 1048576 → ∃ r v, (∀ y x, Row x 0 3 n F y → CapOk y → Calls Try.prog 32 #[.agg #[.int .i64 s, .int .i64 c, .int .i64 u, .int .i64 st, .int .i64 a, y]] x fun e x' => e = .returned (.agg #[.int .i64 r, .int .i64 v]) ∧ Below x.heap.size x x') ∧
    (∀ y x, Row x 0 3 n F y → CapOk y → Calls Try.prog 14 #[.agg #[.int .i64 s, .int .i64 c, .int .i64 u, .int .i64 st, .int .i64 a, y]] x fun e x' => e = .returned (.agg #[.int .i64 r, .int .i64 v]) ∧ Below x.heap.size x x') := fun hn => by
  obtain ⟨r, v, hr⟩ := ValT.get (txnF s c u st a n F) (F 0)
  exact ⟨r, v, fun y x h hc => specPrimaryOf_is s c u st a n F y _ rfl x h hc (by omega) r v hr, fun y x h hc => implPrimaryOf_is s c u st a n F y _ rfl x h hc (by omega) r v hr⟩
theorem stepsLeft_ans (s c u st a : Int) (n : Nat) (F : Nat → Int) : n ≤ 1048576 → ∃ r v, (∀ y x, Row x 0 3 n F y → CapOk y → Calls Try.prog 35 #[.agg #[.int .i64 s, .int .i64 c, .int .i64 u, .int .i64 st, .int .i64 a, y]] x fun e x' => e = .returned (.agg #[.int .i64 r, .int .i64 v]) ∧ Below x.heap.size x x') ∧
    (∀ y x, Row x 0 3 n F y → CapOk y → Calls Try.prog 15 #[.agg #[.int .i64 s, .int .i64 c, .int .i64 u, .int .i64 st, .int .i64 a, y]] x fun e x' => e = .returned (.agg #[.int .i64 r, .int .i64 v]) ∧ Below x.heap.size x x') := fun hn => by
  obtain ⟨r, v, hr⟩ := ValT.get (txnF s c u st a n F) (stepsV st a n)
  exact ⟨r, v, fun y x h hc => specStepsLeft_is s c u st a n F y _ rfl x h hc (by omega) r v hr, fun y x h hc => implStepsLeft_is s c u st a n F y _ rfl x h hc (by omega) r v hr⟩
end Go.Proofs.Ytjimckfkbkfggaa
