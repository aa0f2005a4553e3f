/-
  Own text. A block of two cells: plain facts.
-/
import Derived.Test.YtpfmbfmlpoibeaaGreatColsA
namespace Go.Proofs.YtpfmbfmlpoibeaaGreat
open Go.RowKit

/-- Block b holds two cells, none frozen. -/
def Blk2 (x : World) (b : Nat) (a0 a1 : Value) : Prop :=
  (x.cell? ⟨b, 0, none⟩ = some a0 ∧ x.cell? ⟨b, 1, none⟩ = some a1) ∧ x.frozen? ⟨b, 0, none⟩ = false ∧ x.frozen? ⟨b, 1, none⟩ = false
theorem Blk2.kept {x x' : World} {b : Nat} {a0 a1 : Value} (h : Blk2 x b a0 a1) (hb : x'.heap[b]? = x.heap[b]?) : Blk2 x' b a0 a1 := by
  obtain ⟨⟨h0, h1⟩, f0, f1⟩ := h
  exact ⟨⟨(World.cell?_of_block (w := x) (a := ⟨b, 0, none⟩) hb).trans h0, (World.cell?_of_block (w := x) (a := ⟨b, 1, none⟩) hb).trans h1⟩,
    (World.frozen?_of_block (w := x) (a := ⟨b, 0, none⟩) hb).trans f0, (World.frozen?_of_block (w := x) (a := ⟨b, 1, none⟩) hb).trans f1⟩
theorem Blk2.lt {x : World} {b : Nat} {a0 a1 : Value} (h : Blk2 x b a0 a1) : b < x.heap.size := World.block_lt_of_cell? x _ h.1.1
theorem Blk2.later {x x' : World} {b : Nat} {a0 a1 : Value} (h : Blk2 x b a0 a1) (hb : Below x.heap.size x x') : Blk2 x' b a0 a1 := h.kept (hb.block b h.lt)
theorem Blk2.alloc {x : World} {b : Nat} {a0 a1 : Value} (h : Blk2 x b a0 a1) (o : Obj) : Blk2 (x.alloc o) b a0 a1 := h.later ((Below.refl _ _).alloc (Nat.le_refl _) o)
theorem Blk2.new (w : World) (a0 a1 : Value) (t : TypeId) : Blk2 (w.alloc (.cells #[a0, a1] t)) w.heap.size a0 a1 := by
  refine ⟨⟨World.cell?_alloc_mark w _ _ _ 0, World.cell?_alloc_mark w _ _ _ 1⟩, ?_, ?_⟩ <;> simp
theorem Blk2.put {x : World} {b : Nat} {a0 a1 : Value} (h : Blk2 x b a0 a1) (c v : Value) : Blk2 ((x.setCell ⟨b, 0, none⟩ c).setCell ⟨b, 1, none⟩ v) b c v := by
  obtain ⟨⟨h0, h1⟩, f0, f1⟩ := h
  refine ⟨⟨(World.cell?_setCell_other _ _ _ _ (by simp)).trans (World.cell?_setCell_same _ _ _ h0), World.cell?_setCell_same _ _ _ ((World.cell?_setCell_other _ _ _ _ (by simp)).trans h1)⟩, by simpa using f0, by simpa using f1⟩
/-- A block of four cells, none frozen. -/
def Blk4 (x : World) (b : Nat) (a0 a1 a2 a3 : Value) : Prop := (x.cell? ⟨b, 0, none⟩ = some a0 ∧ x.cell? ⟨b, 1, none⟩ = some a1 ∧ x.cell? ⟨b, 2, none⟩ = some a2 ∧ x.cell? ⟨b, 3, none⟩ = some a3) ∧ x.frozen? ⟨b, 0, none⟩ = false ∧ x.frozen? ⟨b, 1, none⟩ = false ∧ x.frozen? ⟨b, 2, none⟩ = false ∧ x.frozen? ⟨b, 3, none⟩ = false
theorem Blk4.lt {x : World} {b : Nat} {a0 a1 a2 a3 : Value} (h : Blk4 x b a0 a1 a2 a3) : b < x.heap.size := World.block_lt_of_cell? x _ h.1.1
theorem Blk4.later {x x' : World} {b : Nat} {a0 a1 a2 a3 : Value} (h : Blk4 x b a0 a1 a2 a3) (hb : Below x.heap.size x x') : Blk4 x' b a0 a1 a2 a3 := by
  have hl := h.lt
  obtain ⟨⟨h0, h1, h2, h3⟩, f0, f1, f2, f3⟩ := h
  exact ⟨⟨(hb.cell (p := ⟨b, 0, none⟩) hl).trans h0, (hb.cell (p := ⟨b, 1, none⟩) hl).trans h1, (hb.cell (p := ⟨b, 2, none⟩) hl).trans h2, (hb.cell (p := ⟨b, 3, none⟩) hl).trans h3⟩,
    (hb.frozen (p := ⟨b, 0, none⟩) hl).trans f0, (hb.frozen (p := ⟨b, 1, none⟩) hl).trans f1, (hb.frozen (p := ⟨b, 2, none⟩) hl).trans f2, (hb.frozen (p := ⟨b, 3, none⟩) hl).trans f3⟩
theorem Blk4.alloc {x : World} {b : Nat} {a0 a1 a2 a3 : Value} (h : Blk4 x b a0 a1 a2 a3) (o : Obj) : Blk4 (x.alloc o) b a0 a1 a2 a3 := h.later (below_alloc _ _)
theorem Blk4.new (w : World) (a0 a1 a2 a3 : Value) (t : TypeId) : Blk4 (w.alloc (.cells #[a0, a1, a2, a3] t)) w.heap.size a0 a1 a2 a3 := by
  refine ⟨⟨World.cell?_alloc_mark w _ _ _ 0, World.cell?_alloc_mark w _ _ _ 1, World.cell?_alloc_mark w _ _ _ 2, World.cell?_alloc_mark w _ _ _ 3⟩, ?_, ?_, ?_, ?_⟩ <;> simp
theorem Blk4.put {x : World} {b : Nat} {a0 a1 a2 a3 : Value} (h : Blk4 x b a0 a1 a2 a3) (c0 c1 c2 c3 : Value) : Blk4 ((((x.setCell ⟨b, 0, none⟩ c0).setCell ⟨b, 1, none⟩ c1).setCell ⟨b, 2, none⟩ c2).setCell ⟨b, 3, none⟩ c3) b c0 c1 c2 c3 := by
  obtain ⟨⟨h0, h1, h2, h3⟩, f0, f1, f2, f3⟩ := h
  have o : ∀ {y : World} {i j : Nat} {u v : Value}, i ≠ j → y.cell? ⟨b, i, none⟩ = some u → (y.setCell ⟨b, j, none⟩ v).cell? ⟨b, i, none⟩ = some u := fun hn hu => (World.cell?_setCell_other _ _ _ _ (fun e => hn (congrArg Addr.off e).symm)).trans hu
  refine ⟨⟨?_, ?_, ?_, ?_⟩, by simpa using f0, by simpa using f1, by simpa using f2, by simpa using f3⟩
  · exact o (by decide) (o (by decide) (o (by decide) (World.cell?_setCell_same _ _ _ h0)))
  · exact o (by decide) (o (by decide) (World.cell?_setCell_same _ _ _ (o (by decide) h1)))
  · exact o (by decide) (World.cell?_setCell_same _ _ _ (o (by decide) (o (by decide) h2)))
  · exact World.cell?_setCell_same _ _ _ (o (by decide) (o (by decide) (o (by decide) h3)))
/-- A code, and a new row of n structs of m numbers each. -/
def ResRow (m : Nat) (w : World) (c : Int) (n : Nat) (F : Nat → Int) (e : Ending) (w' : World) : Prop := ∃ ao cp, e = .returned (.agg #[.int .i64 c, .slice ao n cp]) ∧ Row w' w.heap.size m n F (.slice ao n cp) ∧ Free w' (n * m) (.slice ao n cp) ∧ Below w.heap.size w w'
end Go.Proofs.YtpfmbfmlpoibeaaGreat
