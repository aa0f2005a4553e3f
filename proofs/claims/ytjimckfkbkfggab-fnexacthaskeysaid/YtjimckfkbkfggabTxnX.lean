/-
  Own text. Chapter 8: the two sides of each law answer the same.
-/
import Derived.Test.YtjimckfkbkfggabTxnW
import Derived.Test.YtjimckfkbkfggabTxnK
namespace Go.Proofs.Ytjimckfkbkfggab
open Go.RowKit

theorem hasKey_ans (s c u st a : Int) (n : Nat) (F : Nat → Int) (key : Int) : n ≤ 1048576 → ∃ r : Bool, (∀ y x, Row x 0 3 n F y → CapOk y → Calls Try.prog 5 #[.agg #[.int .i64 s, .int .i64 c, .int .i64 u, .int .i64 st, .int .i64 a, y], .int .i64 key] x fun e x' => e = .returned (.bool r) ∧ Below x.heap.size x x') ∧
    (∀ y x, Row x 0 3 n F y → CapOk y → Calls Try.prog 7 #[.agg #[.int .i64 s, .int .i64 c, .int .i64 u, .int .i64 st, .int .i64 a, y], .int .i64 key] x fun e x' => e = .returned (.bool r) ∧ Below x.heap.size x x') := fun hn => by
  obtain ⟨r, hr⟩ := TruthT.get (txnF s c u st a n F) (hasI F key n)
  exact ⟨r, fun y x h hc => specHasKey_is s c u st a n F y key _ rfl x h hc (by omega) r hr, fun y x h hc => implHasKey_is s c u st a n F y key _ rfl x h hc (by omega) r hr⟩
end Go.Proofs.Ytjimckfkbkfggab
