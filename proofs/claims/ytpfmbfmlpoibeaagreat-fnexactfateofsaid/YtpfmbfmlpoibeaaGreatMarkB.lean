/-
  Own text. The law's markStore: it numbers all of a store of the call's own, and writes nowhere else.
-/
import Derived.Test.YtpfmbfmlpoibeaaGreatColsE
import Derived.Test.YtpfmbfmlpoibeaaGreatMarkA
namespace Go.Proofs.YtpfmbfmlpoibeaaGreat
open Go.RowKit

end Go.Proofs.YtpfmbfmlpoibeaaGreat
