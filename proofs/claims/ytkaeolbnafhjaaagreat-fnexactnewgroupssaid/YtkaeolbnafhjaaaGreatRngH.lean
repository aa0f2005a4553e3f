/-
  Own text. The walks of the laws of chapter 6 whose answer is a code and a row of ranges, over what the model and the program answer.
-/
import Derived.Test.YtkaeolbnafhjaaaGreatRngB
namespace Go.Proofs.YtkaeolbnafhjaaaGreat
open Go.RowKit

/-- What the model answered (block W) and what the program answered (block G); nothing old has turned. -/
def EnvR (w : World) (W : Nat) (c : Int) (vw : Value) (G : Nat) (vg : Value) (x : World) : Prop := Below w.heap.size w x ∧ Blk2 x W (.int .i64 c) vw ∧ Blk2 x G (.int .i64 c) vg
theorem EnvR.later {w x x' : World} {W G : Nat} {c : Int} {vw vg : Value} (h : EnvR w W c vw G vg x) (hb : Below x.heap.size x x') : EnvR w W c vw G vg x' := ⟨h.1.trans (hb.mono h.1.size), h.2.1.later hb, h.2.2.later hb⟩
theorem Blk2.inside {x x' : World} {b B E : Nat} {a0 a1 : Value} (h : Blk2 x b a0 a1) (hw : Within B E x x') (ho : b < B ∨ E ≤ b) : Blk2 x' b a0 a1 := h.kept (hw.block b h.lt ho)
theorem EnvR.within {w x x' : World} {W G B E : Nat} {c : Int} {vw vg : Value} (h : EnvR w W c vw G vg x) (hw : Within B E x x') (hL : w.heap.size ≤ B) (hW : W < B ∨ E ≤ W) (hG : G < B ∨ E ≤ G) : EnvR w W c vw G vg x' :=
  ⟨hw.below h.1 hL, h.2.1.inside hw hW, h.2.2.inside hw hG⟩
end Go.Proofs.YtkaeolbnafhjaaaGreat
