/-
  Own text. What a law whose answer is a code and a row of structs stands on.
-/
import Derived.Test.YtjhloobjbbdmcaiGreatDoorLawE
import Derived.Test.YtjhloobjbbdmcaiGreatDoorStorQ
import Derived.Test.YtjhloobjbbdmcaiGreatDoorMarkB
namespace Go.Proofs.YtjhloobjbbdmcaiGreatDoor
open Go.RowKit

/-- The law's own store; what the model answered (block W); the store that was handed over (block X); what the program answered (block G). -/
def LawR (w : World) (v0 v1 v2 : Value) (W : Nat) (c : Int) (vw : Value) (X : Nat) (x0 x1 x2 : Value) (G : Nat) (vg : Value) (x : World) : Prop :=
  One w v0 v1 v2 x ∧ Blk2 x W (.int .i64 c) vw ∧ Blk3 x X x0 x1 x2 ∧ Blk2 x G (.int .i64 c) vg
theorem LawR.later {w x x' : World} {v0 v1 v2 : Value} {W : Nat} {c : Int} {vw : Value} {X : Nat} {x0 x1 x2 : Value} {G : Nat} {vg : Value} (h : LawR w v0 v1 v2 W c vw X x0 x1 x2 G vg x) (hb : Below x.heap.size x x') : LawR w v0 v1 v2 W c vw X x0 x1 x2 G vg x' :=
  ⟨h.1.later hb, h.2.1.later hb, h.2.2.1.later hb, h.2.2.2.later hb⟩
theorem Blk2.within {x x' : World} {b B E : Nat} {a0 a1 : Value} (h : Blk2 x b a0 a1) (hw : Within B E x x') (ho : b < B ∨ E ≤ b) : Blk2 x' b a0 a1 := h.kept (hw.block b h.lt ho)
theorem LawR.within {w x x' : World} {v0 v1 v2 : Value} {W : Nat} {c : Int} {vw : Value} {X : Nat} {x0 x1 x2 : Value} {G : Nat} {vg : Value} {B E : Nat} (h : LawR w v0 v1 v2 W c vw X x0 x1 x2 G vg x) (hw : Within B E x x') (hL : w.heap.size < B) (hW : W < B ∨ E ≤ W) (hX : X < B ∨ E ≤ X) (hG : G < B ∨ E ≤ G) : LawR w v0 v1 v2 W c vw X x0 x1 x2 G vg x' :=
  ⟨⟨hw.below h.1.1 (Nat.le_of_lt hL), h.1.2.within hw (Or.inl hL)⟩, h.2.1.within hw hW, h.2.2.1.within hw hX, h.2.2.2.within hw hG⟩
theorem LawR.drew {w x : World} {v0 v1 v2 : Value} {W : Nat} {c : Int} {vw : Value} {X : Nat} {x0 x1 x2 : Value} {G : Nat} {vg : Value} (h : LawR w v0 v1 v2 W c vw X x0 x1 x2 G vg x) : LawR w v0 v1 v2 W c vw X x0 x1 x2 G vg x.drew := ⟨⟨h.1.1.drew, h.1.2⟩, h.2⟩
end Go.Proofs.YtjhloobjbbdmcaiGreatDoor
