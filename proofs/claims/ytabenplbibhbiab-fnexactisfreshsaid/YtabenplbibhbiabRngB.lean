/-
  Own text. What the laws' helpers over a code and a row of ranges do: eq, mark, held.
-/
import Derived.Test.YtabenplbibhbiabRngA
import Derived.Test.YtabenplbibhbiabStorQ
namespace Go.Proofs.Ytabenplbibhbiab
open Go.RowKit

end Go.Proofs.Ytabenplbibhbiab
