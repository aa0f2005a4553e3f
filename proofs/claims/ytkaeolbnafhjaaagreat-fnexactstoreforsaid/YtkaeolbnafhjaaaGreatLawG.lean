/-
  Own text. What a law over groups whose answer is a code and a store stands on.
-/
import Derived.Test.YtkaeolbnafhjaaaGreatGrpH
import Derived.Test.YtkaeolbnafhjaaaGreatGrpJ
import Derived.Test.YtkaeolbnafhjaaaGreatLawT
namespace Go.Proofs.YtkaeolbnafhjaaaGreat
open Go.RowKit

theorem Blk2.within {x x' : World} {b B E : Nat} {a0 a1 : Value} (h : Blk2 x b a0 a1) (hw : Within B E x x') (ho : b < B ∨ E ≤ b) : Blk2 x' b a0 a1 := h.kept (hw.block b h.lt ho)
theorem Blk4.withinG {x x' : World} {b B E : Nat} {a0 a1 a2 a3 : Value} (h : Blk4 x b a0 a1 a2 a3) (hw : Within B E x x') (ho : b < B ∨ E ≤ b) : Blk4 x' b a0 a1 a2 a3 := h.kept (hw.block b h.lt ho)
/-- The law's own blocks: its argument, the model's answer, the program's argument, the program's answer. -/
def LawG (w : World) (vr vs : Value) (W : Nat) (c : Int) (m0 m1 m2 : Value) (X : Nat) (xr xs : Value) (G : Nat) (g0 g1 g2 : Value) (x : World) : Prop :=
  Below w.heap.size w x ∧ Blk2 x w.heap.size vr vs ∧ Blk4 x W (.int .i64 c) m0 m1 m2 ∧ Blk2 x X xr xs ∧ Blk4 x G (.int .i64 c) g0 g1 g2
theorem LawG.later {w x x' : World} {vr vs : Value} {W : Nat} {c : Int} {m0 m1 m2 : Value} {X : Nat} {xr xs : Value} {G : Nat} {g0 g1 g2 : Value} (h : LawG w vr vs W c m0 m1 m2 X xr xs G g0 g1 g2 x) (hb : Below x.heap.size x x') : LawG w vr vs W c m0 m1 m2 X xr xs G g0 g1 g2 x' :=
  ⟨h.1.trans (hb.mono h.1.size), h.2.1.later hb, h.2.2.1.later hb, h.2.2.2.1.later hb, h.2.2.2.2.later hb⟩
theorem LawG.drew {w x : World} {vr vs : Value} {W : Nat} {c : Int} {m0 m1 m2 : Value} {X : Nat} {xr xs : Value} {G : Nat} {g0 g1 g2 : Value} (h : LawG w vr vs W c m0 m1 m2 X xr xs G g0 g1 g2 x) : LawG w vr vs W c m0 m1 m2 X xr xs G g0 g1 g2 x.drew := ⟨below_dr h.1 1, h.2.1.kept rfl, h.2.2.1.kept rfl, h.2.2.2.1.kept rfl, h.2.2.2.2.kept rfl⟩
theorem LawG.within {w x x' : World} {vr vs : Value} {W : Nat} {c : Int} {m0 m1 m2 : Value} {X : Nat} {xr xs : Value} {G : Nat} {g0 g1 g2 : Value} {B E : Nat} (h : LawG w vr vs W c m0 m1 m2 X xr xs G g0 g1 g2 x) (hw : Within B E x x') (hL : w.heap.size < B) (hW : W < B ∨ E ≤ W) (hX : X < B ∨ E ≤ X) (hG : G < B ∨ E ≤ G) : LawG w vr vs W c m0 m1 m2 X xr xs G g0 g1 g2 x' :=
  ⟨hw.below h.1 (Nat.le_of_lt hL), h.2.1.within hw (Or.inl hL), h.2.2.1.withinG hw hW, h.2.2.2.1.within hw hX, h.2.2.2.2.withinG hw hG⟩
end Go.Proofs.YtkaeolbnafhjaaaGreat
