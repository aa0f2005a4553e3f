/-
  Own text. The law FnExactUnionOf: the walk over both answers.
-/
import Derived.Test.YtkaeolbnafhjaabGreatGrpL
import Derived.Test.YtkaeolbnafhjaabGreatUniW
namespace Go.Proofs.YtkaeolbnafhjaabGreat
open Go.RowKit

theorem unionOf_walk (nr : Nat) (F : Nat → Int) (n : Nat) (S : Nat → Sto) (V : Nat → Nat → Value) (vr vs : Value) (w : World) (h : Grs w 0 nr F n S V vr vs) (hr : nr ≤ 9223372036854775807) (hn : n ≤ 9223372036854775807) (hs : ∀ i, i < n → BigS (S i)) :
    Calls Tryz.prog 3 #[.agg #[vr, vs]] w fun e w' => e = .returned (.bool true) ∧ Below w.heap.size w w' :=
  exactUnionOf_walk nr F n S V vr vs w h hr hn hs (fun b1 b2 _ => by
    obtain ⟨c, R, hR, hA⟩ := UniAns.get nr F n S
    exact ⟨c, R, hR, fun U ur us x hx => specUnionOf_is nr F n S U ur us c R 0 x hx (by omega) (by omega) hA, fun U ur us x hx => implUnionOf_is nr F n S U ur us c R 0 x hx (by omega) (by omega) hA⟩)
end Go.Proofs.YtkaeolbnafhjaabGreat
