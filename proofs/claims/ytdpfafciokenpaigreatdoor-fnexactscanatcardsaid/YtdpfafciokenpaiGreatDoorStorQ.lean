/-
  Own text. A block of two cells: plain facts.
-/
import Derived.Test.YtdpfafciokenpaiGreatDoorColsA
namespace Go.Proofs.YtdpfafciokenpaiGreatDoor
open Go.RowKit

/-- Block b holds two cells, none frozen. -/
def Blk2 (x : World) (b : Nat) (a0 a1 : Value) : Prop :=
  (x.cell? ⟨b, 0, none⟩ = some a0 ∧ x.cell? ⟨b, 1, none⟩ = some a1) ∧ x.frozen? ⟨b, 0, none⟩ = false ∧ x.frozen? ⟨b, 1, none⟩ = false
theorem Blk2.kept {x x' : World} {b : Nat} {a0 a1 : Value} (h : Blk2 x b a0 a1) (hb : x'.heap[b]? = x.heap[b]?) : Blk2 x' b a0 a1 := by
  obtain ⟨⟨h0, h1⟩, f0, f1⟩ := h
  exact ⟨⟨(World.cell?_of_block (w := x) (a := ⟨b, 0, none⟩) hb).trans h0, (World.cell?_of_block (w := x) (a := ⟨b, 1, none⟩) hb).trans h1⟩,
    (World.frozen?_of_block (w := x) (a := ⟨b, 0, none⟩) hb).trans f0, (World.frozen?_of_block (w := x) (a := ⟨b, 1, none⟩) hb).trans f1⟩
theorem Blk2.lt {x : World} {b : Nat} {a0 a1 : Value} (h : Blk2 x b a0 a1) : b < x.heap.size := World.block_lt_of_cell? x _ h.1.1
theorem Blk2.later {x x' : World} {b : Nat} {a0 a1 : Value} (h : Blk2 x b a0 a1) (hb : Below x.heap.size x x') : Blk2 x' b a0 a1 := h.kept (hb.block b h.lt)
theorem Blk2.alloc {x : World} {b : Nat} {a0 a1 : Value} (h : Blk2 x b a0 a1) (o : Obj) : Blk2 (x.alloc o) b a0 a1 := h.later ((Below.refl _ _).alloc (Nat.le_refl _) o)
theorem Blk2.new (w : World) (a0 a1 : Value) (t : TypeId) : Blk2 (w.alloc (.cells #[a0, a1] t)) w.heap.size a0 a1 := by
  refine ⟨⟨World.cell?_alloc_mark w _ _ _ 0, World.cell?_alloc_mark w _ _ _ 1⟩, ?_, ?_⟩ <;> simp
theorem Blk2.put {x : World} {b : Nat} {a0 a1 : Value} (h : Blk2 x b a0 a1) (c v : Value) : Blk2 ((x.setCell ⟨b, 0, none⟩ c).setCell ⟨b, 1, none⟩ v) b c v := by
  obtain ⟨⟨h0, h1⟩, f0, f1⟩ := h
  refine ⟨⟨(World.cell?_setCell_other _ _ _ _ (by simp)).trans (World.cell?_setCell_same _ _ _ h0), World.cell?_setCell_same _ _ _ ((World.cell?_setCell_other _ _ _ _ (by simp)).trans h1)⟩, by simpa using f0, by simpa using f1⟩
/-- A code, and a new row of n structs of m numbers each. -/
def ResRow (m : Nat) (w : World) (c : Int) (n : Nat) (F : Nat → Int) (e : Ending) (w' : World) : Prop := ∃ ao cp, e = .returned (.agg #[.int .i64 c, .slice ao n cp]) ∧ Row w' w.heap.size m n F (.slice ao n cp) ∧ Free w' (n * m) (.slice ao n cp) ∧ Below w.heap.size w w'
end Go.Proofs.YtdpfafciokenpaiGreatDoor
