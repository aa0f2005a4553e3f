/-
  Own text. The law FnExactStoreFor: the walk over both answers.
-/
import Derived.Test.YtkaeolbnafhjaaaGreatGrpM
import Derived.Test.YtkaeolbnafhjaaaGreatForW
namespace Go.Proofs.YtkaeolbnafhjaaaGreat
open Go.RowKit

theorem storeFor_walk (nr : Nat) (F : Nat → Int) (n : Nat) (S : Nat → Sto) (V : Nat → Nat → Value) (vr vs : Value) (key : Int) (w : World) (h : Grs w 0 nr F n S V vr vs) (hr : nr ≤ 9223372036854775807) (hn : n ≤ 9223372036854775807) (hs : ∀ i, i < n → BigS (S i)) (_ : (Lit.int .i64 key).wf = true) :
    Calls Tryz.prog 4 #[.agg #[vr, vs], .int .i64 key] w fun e w' => e = .returned (.bool true) ∧ Below w.heap.size w w' :=
  exactStoreFor_walk nr F n S V vr vs key w h hr hn hs (fun b1 b2 _ => by
    obtain ⟨c, R, hR, hA⟩ := ForAns.get nr F n S key
    exact ⟨c, R, hR, fun U ur us x hx => specStoreFor_is nr F n S U ur us key c R 0 x hx (by omega) (by omega) hA, fun U ur us x hx => implStoreFor_is nr F n S U ur us key c R 0 x hx (by omega) (by omega) hA⟩)
end Go.Proofs.YtkaeolbnafhjaaaGreat
