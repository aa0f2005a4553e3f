/-
  Own text. The walks of the laws whose answer is a code and a value, over what the model and the program answer.
-/
import Derived.Test.YtpfmbfmlpoibeaaGreatColsE
import Derived.Test.YtpfmbfmlpoibeaaGreatLawE
import Derived.Test.YtpfmbfmlpoibeaaGreatStorQ
namespace Go.Proofs.YtpfmbfmlpoibeaaGreat
open Go.RowKit

theorem eqIntA_same (c v : Int) (w : World) :
    Calls Tryz.prog 17 #[.agg #[.int .i64 c, .int .i64 v], .agg #[.int .i64 c, .int .i64 v]] w fun e w' => e = .returned (.bool true) ∧ Below w.heap.size w w' := by
  go_enter Tryz.func17, Tryz.ntmps17
  go_wp2
  go_ret
  exact ⟨rfl, (below_alloc _ _).alloc (by simp) _⟩
/-- A code and a value. -/
def ResInt (w : World) (c v : Int) (e : Ending) (w' : World) : Prop := e = .returned (.agg #[.int .i64 c, .int .i64 v]) ∧ Below w.heap.size w w'
end Go.Proofs.YtpfmbfmlpoibeaaGreat
