/-
  Own text. What the laws' helpers over a code and a row of ranges do: eq, mark, held.
-/
import Derived.Test.YtkaeolbnafhjaaaGreatRngA
import Derived.Test.YtkaeolbnafhjaaaGreatStorQ
namespace Go.Proofs.YtkaeolbnafhjaaaGreat
open Go.RowKit

end Go.Proofs.YtkaeolbnafhjaaaGreat
