/-
  Own text. Two equal rows of pairs are equal.
-/
import Derived.Test.YtjhloobjbbdmcahMarkA
import Derived.Deep.RegionHeld
namespace Go.Proofs.Ytjhloobjbbdmcah
open Go.RowKit

end Go.Proofs.Ytjhloobjbbdmcah
