/-
  Own text. An oracle that came in, opened: two whole numbers, each of which fits.
-/
import Derived.Test.YtbljhkhpfhphgaaRows
import Derived.WalkKit
import Derived.ProofKit
import Derived.OpenShut
import Derived.Lib.SmallJoins
namespace Go.Proofs.Ytbljhkhpfhphgaa
open Go.ChangeShapes Go.WideShapes Go.ChangeAt Go.RowKit Go.Joins

set_option maxRecDepth 100000 in
theorem open_oracle {H : Type} {enc : TypeId × Value → H} {W : World} {base : Nat} {v : Value} {d : DataW H} {p : List MemPlace} (hv : Value.okWide Try.prog W .any base 36 v) (h : DataW.Trod enc Try.prog W 0 (fun _ => true) true 36 v d p) :
    ∃ a b : Int, v = .agg #[.int .i64 a, .int .i64 b] ∧ p = [] ∧ (Lit.int .i64 a).wf = true ∧ (Lit.int .i64 b).wf = true := by
  obtain ⟨v0, v1, y0, y1, n, rfl, _, rfl, t0, t1⟩ := open_agg2 Try.underlying36 (by kernel_rfl) (by kernel_rfl) hv h
  obtain ⟨a, ha, hx0, hw0⟩ := DataW.trod_int Try.underlying2 t0
  obtain ⟨b, hb, hx1, hw1⟩ := DataW.trod_int Try.underlying2 t1
  simp only [List.cons.injEq, and_true] at ha hb
  subst ha hb hx0 hx1
  exact ⟨a, b, rfl, rfl, hw0, hw1⟩
end Go.Proofs.Ytbljhkhpfhphgaa
