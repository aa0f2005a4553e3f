/-
  Own text. What a law over a store whose answer is a code and groups stands on.
-/
import Derived.Test.YtkaeolbnafhjaaaGreatLawT
import Derived.Test.YtkaeolbnafhjaaaGreatGrpO
namespace Go.Proofs.YtkaeolbnafhjaaaGreat
open Go.RowKit

theorem Fine.under {w w' : World} {z : Nat → Nat} {n : Nat} {S : Nat → Sto} {U : Nat → Nat → Value} {B E : Nat} (h : Fine w z n S U) (hw : Within B E w w') (hz : ∀ i, i < n → z (i + 1) ≤ B) : Fine w' z n S U := fun i hi => by
  obtain ⟨⟨h1, h2, h3⟩, h4, h5⟩ := h i hi
  have ho : OwnIn (S i) (U i 0) (U i 1) (U i 2) (fun j => j < B ∨ E ≤ j) := h4.mono (fun j hj => Or.inl (by have := hz i hi; omega))
  exact ⟨⟨h1.within hw ho, h2.within h1 hw ho, h3⟩, h4, h5⟩
/-- Groups that lie below what is written. -/
theorem FineR.under {w w' : World} {lo tp nr : Nat} {F : Nat → Int} {n : Nat} {S : Nat → Sto} {ra : Option Addr} {rc : Nat} {sa : Option Addr} {U : Nat → Nat → Value} {z : Nat → Nat} {B E : Nat} (h : FineR w lo tp nr F n S ra rc sa U z) (hw : Within B E w w') (hB : tp ≤ B) (hg : 0 < n → ∀ g, sa = some ⟨g, 0, none⟩ → g < B) : FineR w' lo tp nr F n S ra rc sa U z := by
  have ho : 0 < nr → ∀ k, (Value.slice ra nr rc).ownBlock = some k → k < B ∨ E ≤ k := fun hn k hk => Or.inl (Nat.lt_of_lt_of_le (h.2.2.2 hn k hk).2.2 hB)
  exact ⟨⟨h.1.1.within hw ho, h.1.2.within h.1.1 hw ho⟩, ⟨h.2.1.1.kept hw.size (fun g hn e hl => hw.block g hl (Or.inl (hg hn g e))), h.2.1.2.under hw (fun i hi => Nat.le_trans (h.2.2.1.2.1 i hi) hB)⟩, ⟨h.2.2.1.1, h.2.2.1.2.1, Nat.le_trans h.2.2.1.2.2 hw.size⟩, h.2.2.2⟩
theorem FineR.row {w : World} {lo tp nr : Nat} {F : Nat → Int} {n : Nat} {S : Nat → Sto} {ra : Option Addr} {rc : Nat} {sa : Option Addr} {U : Nat → Nat → Value} {z : Nat → Nat} (h : FineR w lo tp nr F n S ra rc sa U z) : 0 < n → ∀ g, sa = some ⟨g, 0, none⟩ → g < w.heap.size := fun hn g e => by
  obtain ⟨g', e', _, hf, _⟩ := h.2.1.1 hn
  rw [e] at e'
  simp only [Option.some.injEq, Addr.mk.injEq, and_true] at e'
  rw [e']
  exact hf.1
/-- The law's own store; what the model answered (block W); the store that was handed over (block X); what the program answered (block G). -/
def LawN (w : World) (v0 v1 v2 : Value) (W : Nat) (c : Int) (m0 m1 : Value) (X : Nat) (x0 x1 x2 : Value) (G : Nat) (g0 g1 : Value) (x : World) : Prop :=
  One w v0 v1 v2 x ∧ Blk3 x W (.int .i64 c) m0 m1 ∧ Blk3 x X x0 x1 x2 ∧ Blk3 x G (.int .i64 c) g0 g1
theorem LawN.later {w x x' : World} {v0 v1 v2 : Value} {W : Nat} {c : Int} {m0 m1 : Value} {X : Nat} {x0 x1 x2 : Value} {G : Nat} {g0 g1 : Value} (h : LawN w v0 v1 v2 W c m0 m1 X x0 x1 x2 G g0 g1 x) (hb : Below x.heap.size x x') : LawN w v0 v1 v2 W c m0 m1 X x0 x1 x2 G g0 g1 x' :=
  ⟨h.1.later hb, h.2.1.later hb, h.2.2.1.later hb, h.2.2.2.later hb⟩
theorem LawN.within {w x x' : World} {v0 v1 v2 : Value} {W : Nat} {c : Int} {m0 m1 : Value} {X : Nat} {x0 x1 x2 : Value} {G : Nat} {g0 g1 : Value} {B E : Nat} (h : LawN w v0 v1 v2 W c m0 m1 X x0 x1 x2 G g0 g1 x) (hw : Within B E x x') (hL : w.heap.size < B) (hW : W < B ∨ E ≤ W) (hX : X < B ∨ E ≤ X) (hG : G < B ∨ E ≤ G) : LawN w v0 v1 v2 W c m0 m1 X x0 x1 x2 G g0 g1 x' :=
  ⟨⟨hw.below h.1.1 (Nat.le_of_lt hL), h.1.2.within hw (Or.inl hL)⟩, h.2.1.within hw hW, h.2.2.1.within hw hX, h.2.2.2.within hw hG⟩
theorem LawN.drew {w x : World} {v0 v1 v2 : Value} {W : Nat} {c : Int} {m0 m1 : Value} {X : Nat} {x0 x1 x2 : Value} {G : Nat} {g0 g1 : Value} (h : LawN w v0 v1 v2 W c m0 m1 X x0 x1 x2 G g0 g1 x) : LawN w v0 v1 v2 W c m0 m1 X x0 x1 x2 G g0 g1 x.drew := ⟨⟨h.1.1.drew, h.1.2⟩, h.2⟩
end Go.Proofs.YtkaeolbnafhjaaaGreat
