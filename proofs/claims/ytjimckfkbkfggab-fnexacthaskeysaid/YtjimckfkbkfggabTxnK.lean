/-
  Own text. Chapter 8: what PrimaryOf and StepsLeft answer, the program's and the model's.
-/
import Derived.Test.YtjimckfkbkfggabTxnJ
import Derived.Test.YtjimckfkbkfggabStorQ
namespace Go.Proofs.Ytjimckfkbkfggab
open Go.RowKit

/-- How many steps are left. -/
def stepsV (st a : Int) (n : Nat) : Int := if st = 1 then n + (n - a) + 1 else if st = 2 then n else if st = 3 then n - a + 1 else if st = 5 then n - a + 1 else 0
end Go.Proofs.Ytjimckfkbkfggab
