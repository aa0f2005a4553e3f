/-
  Own text. Chapter 8, the model: l8Fault at a transaction that lies in memory, and TxnFault.
-/
import Derived.Test.YtdbcmckoiacemaaTxnB
namespace Go.Proofs.Ytdbcmckoiacemaa
open Go.RowKit

/-- Block b holds six cells, none frozen. -/
def Blk6 (x : World) (b : Nat) (a0 a1 a2 a3 a4 a5 : Value) : Prop :=
  (x.cell? ⟨b, 0, none⟩ = some a0 ∧ x.cell? ⟨b, 1, none⟩ = some a1 ∧ x.cell? ⟨b, 2, none⟩ = some a2 ∧ x.cell? ⟨b, 3, none⟩ = some a3 ∧ x.cell? ⟨b, 4, none⟩ = some a4 ∧ x.cell? ⟨b, 5, none⟩ = some a5) ∧
    x.frozen? ⟨b, 0, none⟩ = false ∧ x.frozen? ⟨b, 1, none⟩ = false ∧ x.frozen? ⟨b, 2, none⟩ = false ∧ x.frozen? ⟨b, 3, none⟩ = false ∧ x.frozen? ⟨b, 4, none⟩ = false ∧ x.frozen? ⟨b, 5, none⟩ = false
theorem Blk6.kept {x x' : World} {b : Nat} {a0 a1 a2 a3 a4 a5 : Value} (h : Blk6 x b a0 a1 a2 a3 a4 a5) (hb : x'.heap[b]? = x.heap[b]?) : Blk6 x' b a0 a1 a2 a3 a4 a5 := by
  obtain ⟨⟨h0, h1, h2, h3, h4, h5⟩, f0, f1, f2, f3, f4, f5⟩ := h
  exact ⟨⟨(World.cell?_of_block (w := x) (a := ⟨b, 0, none⟩) hb).trans h0, (World.cell?_of_block (w := x) (a := ⟨b, 1, none⟩) hb).trans h1, (World.cell?_of_block (w := x) (a := ⟨b, 2, none⟩) hb).trans h2, (World.cell?_of_block (w := x) (a := ⟨b, 3, none⟩) hb).trans h3, (World.cell?_of_block (w := x) (a := ⟨b, 4, none⟩) hb).trans h4, (World.cell?_of_block (w := x) (a := ⟨b, 5, none⟩) hb).trans h5⟩,
    (World.frozen?_of_block (w := x) (a := ⟨b, 0, none⟩) hb).trans f0, (World.frozen?_of_block (w := x) (a := ⟨b, 1, none⟩) hb).trans f1, (World.frozen?_of_block (w := x) (a := ⟨b, 2, none⟩) hb).trans f2, (World.frozen?_of_block (w := x) (a := ⟨b, 3, none⟩) hb).trans f3, (World.frozen?_of_block (w := x) (a := ⟨b, 4, none⟩) hb).trans f4, (World.frozen?_of_block (w := x) (a := ⟨b, 5, none⟩) hb).trans f5⟩
theorem Blk6.lt {x : World} {b : Nat} {a0 a1 a2 a3 a4 a5 : Value} (h : Blk6 x b a0 a1 a2 a3 a4 a5) : b < x.heap.size := World.block_lt_of_cell? x _ h.1.1
theorem Blk6.later {x x' : World} {b : Nat} {a0 a1 a2 a3 a4 a5 : Value} (h : Blk6 x b a0 a1 a2 a3 a4 a5) (hb : Below x.heap.size x x') : Blk6 x' b a0 a1 a2 a3 a4 a5 := h.kept (hb.block b h.lt)
theorem Blk6.alloc {x : World} {b : Nat} {a0 a1 a2 a3 a4 a5 : Value} (h : Blk6 x b a0 a1 a2 a3 a4 a5) (o : Obj) : Blk6 (x.alloc o) b a0 a1 a2 a3 a4 a5 := h.later ((Below.refl _ _).alloc (Nat.le_refl _) o)
theorem Blk6.new (w : World) (a0 a1 a2 a3 a4 a5 : Value) (t : TypeId) : Blk6 (w.alloc (.cells #[a0, a1, a2, a3, a4, a5] t)) w.heap.size a0 a1 a2 a3 a4 a5 := by
  refine ⟨⟨World.cell?_alloc_mark w _ _ _ 0, World.cell?_alloc_mark w _ _ _ 1, World.cell?_alloc_mark w _ _ _ 2, World.cell?_alloc_mark w _ _ _ 3, World.cell?_alloc_mark w _ _ _ 4, World.cell?_alloc_mark w _ _ _ 5⟩, ?_, ?_, ?_, ?_, ?_, ?_⟩ <;> simp
theorem Blk6.set5 {x : World} {b : Nat} {a0 a1 a2 a3 a4 a5 : Value} (h : Blk6 x b a0 a1 a2 a3 a4 a5) (u : Value) : Blk6 (x.setCell ⟨b, 5, none⟩ u) b a0 a1 a2 a3 a4 u := by
  obtain ⟨⟨h0, h1, h2, h3, h4, h5⟩, f0, f1, f2, f3, f4, f5⟩ := h
  refine ⟨⟨?_, ?_, ?_, ?_, ?_, World.cell?_setCell_same _ _ _ h5⟩, ?_, ?_, ?_, ?_, ?_, ?_⟩
  · exact (World.cell?_setCell_other _ _ _ _ (by simp)).trans h0
  · exact (World.cell?_setCell_other _ _ _ _ (by simp)).trans h1
  · exact (World.cell?_setCell_other _ _ _ _ (by simp)).trans h2
  · exact (World.cell?_setCell_other _ _ _ _ (by simp)).trans h3
  · exact (World.cell?_setCell_other _ _ _ _ (by simp)).trans h4
  all_goals rw [World.frozen?_setCell]; assumption
theorem below_dt {B : Nat} {a w : World} (h : Below B a w) (q : Nat) : Below B a (w.drewN q) := ⟨h.os, h.tape, h.output, h.size, h.block⟩
/-- A slice is no longer than its room. -/
def CapOk (y : Value) : Prop := ∀ ao n cp, y = .slice ao n cp → n ≤ cp
/-- A transaction that lies in block b. -/
def LiesT (w : World) (b : Nat) (s c u st a : Int) (n : Nat) (F : Nat → Int) (y : Value) : Prop := Blk6 w b (.int .i64 s) (.int .i64 c) (.int .i64 u) (.int .i64 st) (.int .i64 a) y ∧ Row w 0 3 n F y ∧ CapOk y
theorem LiesT.later {w x : World} {b : Nat} {s c u st a : Int} {n : Nat} {F : Nat → Int} {y : Value} (h : LiesT w b s c u st a n F y) (hb : Below w.heap.size w x) : LiesT x b s c u st a n F y := ⟨h.1.later hb, h.2.1.later hb, h.2.2⟩

end Go.Proofs.Ytdbcmckoiacemaa
