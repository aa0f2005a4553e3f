/-
  Own text, merged of DelS, SetA, SetB.
-/
import Derived.Test.YtkbjlnnincknaaaGreatDoorDelB
import Derived.Test.YtkbjlnnincknaaaGreatDoorPartA
import Derived.Test.YtkbjlnnincknaaaGreatDoorInsV
import Derived.Test.YtkbjlnnincknaaaGreatDoorBinW
import Derived.Test.YtkbjlnnincknaaaGreatDoorStoA
import Derived.Test.YtkbjlnnincknaaaGreatDoorStorA
namespace Go.Proofs.YtkbjlnnincknaaaGreatDoor
section
open Go.RowKit Go.Sort Go.Shelf Go.Lib
-- Own text. The closure of settle: whether a lock is the one that a write ends; slices.DeleteFunc with it.
end

section
open Go.RowKit Go.Lib
-- Own text. The program's settle: a write takes the place of the lock that it ends.
theorem below_drew (w : World) : Below w.heap.size w w.drew := ⟨rfl, rfl, rfl, Nat.le_refl _, fun _ _ => rfl⟩
/-- What settle stands on: the columns and the write, in a block of its own. -/
def SetE (w : World) (B b N : Nat) (m : Int → Int → Option Int) (nl : Nat) (l : Nat → Int) (nw : Nat) (k : Nat → Int) (g : Nat) (u1 u2 : Value) (x0 x1 x2 x3 : Int) (x : World) : Prop :=
  (x.cell? ⟨b, 2, none⟩ = some u2 ∧ x.cell? ⟨w.heap.size, 0, none⟩ = some (.int .i64 x0) ∧ x.cell? ⟨w.heap.size, 1, none⟩ = some (.int .i64 x1) ∧ x.cell? ⟨w.heap.size, 2, none⟩ = some (.int .i64 x2) ∧ x.cell? ⟨w.heap.size, 3, none⟩ = some (.int .i64 x3)) ∧
    Cols x B b N m nl l nw k g u1 u2 ∧ Blk4 x w.heap.size (.int .i64 x0) (.int .i64 x1) (.int .i64 x2) (.int .i64 x3) ∧ Below w.heap.size w x
theorem SetE.new {w x : World} {B b N : Nat} {m : Int → Int → Option Int} {nl : Nat} {l : Nat → Int} {nw : Nat} {k : Nat → Int} {g : Nat} {u1 u2 : Value} {x0 x1 x2 x3 : Int} (h : Cols x B b N m nl l nw k g u1 u2) (h4 : Blk4 x w.heap.size (.int .i64 x0) (.int .i64 x1) (.int .i64 x2) (.int .i64 x3)) (hb : Below w.heap.size w x) : SetE w B b N m nl l nw k g u1 u2 x0 x1 x2 x3 x :=
  ⟨⟨h.2.2.1.1.2.2, h4.1.1, h4.1.2.1, h4.1.2.2.1, h4.1.2.2.2⟩, h, h4, hb⟩
theorem SetE.later {w x x' : World} {B b N : Nat} {m : Int → Int → Option Int} {nl : Nat} {l : Nat → Int} {nw : Nat} {k : Nat → Int} {g : Nat} {u1 u2 : Value} {x0 x1 x2 x3 : Int} (h : SetE w B b N m nl l nw k g u1 u2 x0 x1 x2 x3 x) (hb : Below x.heap.size x x') : SetE w B b N m nl l nw k g u1 u2 x0 x1 x2 x3 x' :=
  SetE.new (h.2.1.later hb) (h.2.2.1.later hb) (h.2.2.2.trans (hb.mono h.2.2.2.size))
end

section
open Go.RowKit Go.Lib
-- Own text. The program's settle, where the write goes in: it takes the place of the lock that it ends.
end
end Go.Proofs.YtkbjlnnincknaaaGreatDoor
