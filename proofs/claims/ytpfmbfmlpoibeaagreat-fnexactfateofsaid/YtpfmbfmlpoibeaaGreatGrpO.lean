/-
  Own text, merged of GrpJ, GrpO.
-/
import Derived.Test.YtpfmbfmlpoibeaaGreatGrpC
import Derived.Test.YtpfmbfmlpoibeaaGreatMarkS
import Derived.Test.YtpfmbfmlpoibeaaGreatLawT
namespace Go.Proofs.YtpfmbfmlpoibeaaGreat
section
open Go.RowKit
-- Own text. The law's markGroups: it numbers all lists of groups, one number behind the other, and turns nothing else.
def markT (S : Nat → Sto) (i : Nat) : Nat := (S i).nc * 3 + (S i).nl * 5 + (S i).nw * 4
/-- A store numbered from k on. -/
def markK (S : Sto) (k : Int) : Sto := ⟨S.nc, fun p => k + (p : Nat), S.nl, fun p => k + S.nc * 3 + (p : Nat), S.nw, fun p => k + S.nc * 3 + S.nl * 5 + (p : Nat)⟩
theorem markT_le (S : Nat → Sto) : ∀ n, sumN (markT S) n ≤ 5 * sumN (sizeT S) n
  | 0 => by simp [sumN]
  | n + 1 => by
    have := markT_le S n
    show sumN (markT S) n + markT S n ≤ 5 * (sumN (sizeT S) n + sizeT S n)
    unfold markT sizeT at *
    omega
theorem sum_mono (f : Nat → Nat) {k n : Nat} (h : k ≤ n) : sumN f k ≤ sumN f n := by
  induction n with
  | zero => obtain rfl : k = 0 := by omega
            exact Nat.le_refl _
  | succ n ih =>
    by_cases q : k = n + 1
    · subst q; exact Nat.le_refl _
    · exact Nat.le_trans (ih (by omega)) (Nat.le_add_right _ _)
theorem Fine.up {w : World} {z : Nat → Nat} {n : Nat} {S : Nat → Sto} {U : Nat → Nat → Value} (h : Fine w z n S U) : ∀ j, j ≤ n → ∀ i, i ≤ j → z i ≤ z j
  | 0, _, i, hi => by obtain rfl : i = 0 := by omega
                      exact Nat.le_refl _
  | j + 1, hj, i, hi => by
    by_cases q : i = j + 1
    · subst q; exact Nat.le_refl _
    · exact Nat.le_trans (h.up j (by omega) i (by omega)) (h j (by omega)).2.2
/-- One store is turned inside its own blocks: the others stand. -/
theorem Fine.turn1 {x x' : World} {z : Nat → Nat} {n : Nat} {S : Nat → Sto} {U : Nat → Nat → Value} (h : Fine x z n S U) {k : Nat} (hk : k < n) (hw : Within (z k) (z (k + 1)) x x') (T : Sto) (hsz : T.nc = (S k).nc ∧ T.nl = (S k).nl ∧ T.nw = (S k).nw) (hst : St x' (z k) T (U k 0) (U k 1) (U k 2) ∧ FreeS x' T (U k 0) (U k 1) (U k 2)) :
    Fine x' z n (fun i => if i = k then T else S i) U := fun i hi => by
  obtain ⟨⟨h1, h2, h3⟩, h4, h5⟩ := h i hi
  by_cases q : i = k
  · subst q
    simp only [if_true]
    obtain ⟨e0, e1, e2⟩ := hsz
    refine ⟨⟨hst.1, hst.2, ?_⟩, ?_, h5⟩
    · unfold ApartD at h3 ⊢
      rw [e0, e1, e2]
      exact h3
    · unfold OwnIn at h4 ⊢
      rw [e0, e1, e2]
      exact h4
  · simp only [if_neg q]
    have ho : OwnIn (S i) (U i 0) (U i 1) (U i 2) (fun j => j < z k ∨ z (k + 1) ≤ j) := h4.mono (fun j hj => by
      rcases Nat.lt_or_ge i k with c | c
      · have := h.up k (by omega) (i + 1) (by omega)
        exact Or.inl (by omega)
      · have := h.up i (by omega) (k + 1) (by omega)
        exact Or.inr (by omega))
    exact ⟨⟨h1.within hw ho, h2.within h1 hw ho, h3⟩, h4, h5⟩
theorem FillS.within {w w' : World} {g n k B E : Nat} {U : Nat → Nat → Value} (h : FillS w g n k U) (hw : Within B E w w') (hg : g < B ∨ E ≤ g) : FillS w' g n k U := h.kept hw.size (hw.block g h.1 hg)
theorem Fine.congr {w : World} {z : Nat → Nat} {n : Nat} {S T : Nat → Sto} {U : Nat → Nat → Value} (h : Fine w z n S U) (e : ∀ i, i < n → S i = T i) : Fine w z n T U := fun i hi => by rw [← e i hi]; exact h i hi
def mixS (S : Nat → Sto) (k0 : Int) (k i : Nat) : Sto := if i < k then markK (S i) (k0 + (sumN (markT S) i : Nat)) else S i
theorem mix_same (S : Nat → Sto) (k0 : Int) (k i : Nat) : (mixS S k0 k i).nc = (S i).nc ∧ (mixS S k0 k i).nl = (S i).nl ∧ (mixS S k0 k i).nw = (S i).nw := by
  unfold mixS
  split <;> exact ⟨rfl, rfl, rfl⟩
end

section
open Go.RowKit
-- Own text, merged of GrpN, GrpO, LawN.
section
-- Own text. The numbering of groups that were answered: eq, mark, held of groups and of a code and groups.
/-- No list of a store lies in block q. -/
def Spare (n : Nat) (S : Nat → Sto) (U : Nat → Nat → Value) (q : Nat) : Prop := ∀ i, i < n → OwnIn (S i) (U i 0) (U i 1) (U i 2) (fun p => p ≠ q)
/-- Nothing is turned but the stores' own lists. -/
structure KeptS (n : Nat) (S : Nat → Sto) (U : Nat → Nat → Value) (w w' : World) : Prop where
  os : w'.os = w.os
  tape : w'.tape = w.tape
  output : w'.output = w.output
  size : w.heap.size ≤ w'.heap.size
  block : ∀ q, q < w.heap.size → Spare n S U q → w'.heap[q]? = w.heap[q]?
theorem KeptS.refl {n : Nat} {S : Nat → Sto} {U : Nat → Nat → Value} (w : World) : KeptS n S U w w := ⟨rfl, rfl, rfl, Nat.le_refl _, fun _ _ _ => rfl⟩
theorem KeptS.trans {n : Nat} {S : Nat → Sto} {U : Nat → Nat → Value} {a b c : World} (h : KeptS n S U a b) (k : KeptS n S U b c) : KeptS n S U a c :=
  ⟨k.os.trans h.os, k.tape.trans h.tape, k.output.trans h.output, Nat.le_trans h.size k.size, fun q hq hs => (k.block q (Nat.lt_of_lt_of_le hq h.size) hs).trans (h.block q hq hs)⟩
theorem KeptS.of {n : Nat} {S : Nat → Sto} {U : Nat → Nat → Value} {w w' : World} {row : Option Nat} (h : w.grownBy w' row) (hr : ∀ q, Spare n S U q → row ≠ some q) : KeptS n S U w w' :=
  ⟨h.os, h.tape, h.output, h.size, fun q hq hs => h.block q hq (fun e => hr q hs e.symm)⟩
theorem mixS_all (S : Nat → Sto) (k0 : Int) (n i : Nat) (hi : i < n) : mixS S k0 n i = markK (S i) (k0 + (sumN (markT S) i : Nat)) := by unfold mixS; rw [if_pos hi]
/-- A row of stores that was answered: nil, or a block of its own. -/
def RowS (w : World) (lo n : Nat) (S : Nat → Sto) (U : Nat → Nat → Value) (sa : Option Addr) : Prop := 0 < n → ∃ g, sa = some ⟨g, 0, none⟩ ∧ lo ≤ g ∧ FillS w g n n U ∧ Spare n S U g
end

section
open Go.RowKit
-- Own text. Groups that were answered: what they stand on; eq, mark, held of groups and of a code and groups.
/-- Groups in new memory, from block lo on: all may be written, and every list lies in a block of its own. -/
def FineR (w : World) (lo tp nr : Nat) (F : Nat → Int) (n : Nat) (S : Nat → Sto) (ra : Option Addr) (rc : Nat) (sa : Option Addr) (U : Nat → Nat → Value) (z : Nat → Nat) : Prop :=
  (Row w lo 3 nr F (.slice ra nr rc) ∧ Free w (nr * 3) (.slice ra nr rc)) ∧ (RowS w lo n S U sa ∧ Fine w z n S U) ∧ ((∀ i, i < n → lo ≤ z i) ∧ (∀ i, i < n → z (i + 1) ≤ tp) ∧ tp ≤ w.heap.size) ∧ (0 < nr → ∀ q, (Value.slice ra nr rc).ownBlock = some q → Spare n S U q ∧ (0 < n → sa ≠ some ⟨q, 0, none⟩) ∧ q < tp)
theorem RowS.kept {w w' : World} {lo n : Nat} {S : Nat → Sto} {U : Nat → Nat → Value} {sa : Option Addr} (h : RowS w lo n S U sa) (hs : w.heap.size ≤ w'.heap.size) (hb : ∀ g, 0 < n → sa = some ⟨g, 0, none⟩ → g < w.heap.size → w'.heap[g]? = w.heap[g]?) : RowS w' lo n S U sa := fun hn => by
  obtain ⟨g, h1, h2, h3, h4⟩ := h hn
  exact ⟨g, h1, h2, h3.kept hs (hb g hn h1 h3.1), h4⟩
theorem RowS.later {w w' : World} {lo n : Nat} {S : Nat → Sto} {U : Nat → Nat → Value} {sa : Option Addr} (h : RowS w lo n S U sa) (hb : Below w.heap.size w w') : RowS w' lo n S U sa := h.kept hb.size (fun g _ _ hg => hb.block g hg)
theorem RowS.stos {w : World} {lo n : Nat} {S : Nat → Sto} {U : Nat → Nat → Value} {sa : Option Addr} {z : Nat → Nat} (h : RowS w lo n S U sa) (hf : Fine w z n S U) (hz : ∀ i, i < n → lo ≤ z i) (sc : Nat) : Stos w lo n S U (.slice sa n sc) :=
  ⟨⟨_, _, rfl, fun hn => by
    obtain ⟨g, h1, h2, h3, _⟩ := h hn
    refine ⟨g, 0, h1, h2, h3.1, fun i hi => ?_⟩
    obtain ⟨c0, c1, c2⟩ := h3.2.2 i hi
    simp only [Nat.zero_add]
    exact ⟨c0, c1, c2⟩⟩, fun i hi => (hf i hi).1.1.mono (hz i hi)⟩
theorem FineR.grs {w : World} {lo tp nr : Nat} {F : Nat → Int} {n : Nat} {S : Nat → Sto} {ra : Option Addr} {rc : Nat} {sa : Option Addr} {U : Nat → Nat → Value} {z : Nat → Nat} (h : FineR w lo tp nr F n S ra rc sa U z) (sc : Nat) : Grs w lo nr F n S U (.slice ra nr rc) (.slice sa n sc) := ⟨h.1.1, h.2.1.1.stos h.2.1.2 h.2.2.1.1 sc⟩
theorem FineR.later {w w' : World} {lo tp nr : Nat} {F : Nat → Int} {n : Nat} {S : Nat → Sto} {ra : Option Addr} {rc : Nat} {sa : Option Addr} {U : Nat → Nat → Value} {z : Nat → Nat} (h : FineR w lo tp nr F n S ra rc sa U z) (hb : Below w.heap.size w w') : FineR w' lo tp nr F n S ra rc sa U z :=
  ⟨⟨h.1.1.later hb, h.1.2.ofRow h.1.1 hb⟩, ⟨h.2.1.1.later hb, h.2.1.2.later hb⟩, ⟨h.2.2.1.1, h.2.2.1.2.1, Nat.le_trans h.2.2.1.2.2 hb.size⟩, h.2.2.2⟩
theorem Fine.within {w w' : World} {z : Nat → Nat} {n : Nat} {S : Nat → Sto} {U : Nat → Nat → Value} {B E : Nat} (h : Fine w z n S U) (hw : Within B E w w') (hz : ∀ i, i < n → E ≤ z i) : Fine w' z n S U := fun i hi => by
  obtain ⟨⟨h1, h2, h3⟩, h4, h5⟩ := h i hi
  have ho : OwnIn (S i) (U i 0) (U i 1) (U i 2) (fun j => j < B ∨ E ≤ j) := h4.mono (fun j hj => Or.inr (by have := hz i hi; omega))
  exact ⟨⟨h1.within hw ho, h2.within h1 hw ho, h3⟩, h4, h5⟩
theorem FineR.within {w w' : World} {lo tp nr : Nat} {F : Nat → Int} {n : Nat} {S : Nat → Sto} {ra : Option Addr} {rc : Nat} {sa : Option Addr} {U : Nat → Nat → Value} {z : Nat → Nat} {B E : Nat} (h : FineR w lo tp nr F n S ra rc sa U z) (hw : Within B E w w') (hE : E ≤ lo) : FineR w' lo tp nr F n S ra rc sa U z := by
  have ho : 0 < nr → ∀ k, (Value.slice ra nr rc).ownBlock = some k → k < B ∨ E ≤ k := fun hn k hk => Or.inr (Nat.le_trans hE (h.1.1.lt hn k hk).1)
  refine ⟨⟨h.1.1.within hw ho, h.1.2.within h.1.1 hw ho⟩, ⟨h.2.1.1.kept hw.size (fun g hn e hg => hw.block g hg (Or.inr ?_)), h.2.1.2.within hw (fun i hi => Nat.le_trans hE (h.2.2.1.1 i hi))⟩, ⟨h.2.2.1.1, h.2.2.1.2.1, Nat.le_trans h.2.2.1.2.2 hw.size⟩, h.2.2.2⟩
  obtain ⟨g', e', hl, _⟩ := h.2.1.1 hn
  rw [e] at e'
  simp only [Option.some.injEq, Addr.mk.injEq, and_true] at e'
  omega
theorem Spare.mix {n : Nat} {S : Nat → Sto} {U : Nat → Nat → Value} {q : Nat} (h : Spare n S U q) (k0 : Int) (k : Nat) : Spare n (mixS S k0 k) U q := fun i hi => by
  have := h i hi
  obtain ⟨e0, e1, e2⟩ := mix_same S k0 k i
  unfold OwnIn at this ⊢
  rw [e0, e1, e2]
  exact this
/-- A code, and groups in new memory. -/
def ResGr (w : World) (c : Int) (nr : Nat) (F : Nat → Int) (n : Nat) (S : Nat → Sto) (e : Ending) (w' : World) : Prop :=
  ∃ ra rc sa sc U z, e = .returned (.agg #[.int .i64 c, .slice ra nr rc, .slice sa n sc]) ∧ FineR w' w.heap.size w'.heap.size nr F n S ra rc sa U z ∧ Below w.heap.size w w'
/-- Groups that are numbered. -/
def MarkG (w : World) (lo nr n : Nat) (S : Nat → Sto) (ra : Option Addr) (rc : Nat) (sa : Option Addr) (sc : Nat) (U : Nat → Nat → Value) : Prop := Row w lo 3 nr (fun p => 1 + (p : Nat)) (.slice ra nr rc) ∧ Stos w lo n (mixS S (1 + nr * 3) n) U (.slice sa n sc)
theorem MarkG.later {w w' : World} {lo nr n : Nat} {S : Nat → Sto} {ra : Option Addr} {rc : Nat} {sa : Option Addr} {sc : Nat} {U : Nat → Nat → Value} (h : MarkG w lo nr n S ra rc sa sc U) (hb : Below w.heap.size w w') : MarkG w' lo nr n S ra rc sa sc U := ⟨h.1.later hb, h.2.later hb⟩
def SmallG (nr n : Nat) (S : Nat → Sto) : Prop := nr ≤ 1048576 ∧ n ≤ 1048576 ∧ (∀ i, i < n → SmallS (S i)) ∧ sumN (sizeT S) n ≤ 1048576
end

section
open Go.RowKit
-- Own text. What a law over a store whose answer is a code and groups stands on.
theorem Fine.under {w w' : World} {z : Nat → Nat} {n : Nat} {S : Nat → Sto} {U : Nat → Nat → Value} {B E : Nat} (h : Fine w z n S U) (hw : Within B E w w') (hz : ∀ i, i < n → z (i + 1) ≤ B) : Fine w' z n S U := fun i hi => by
  obtain ⟨⟨h1, h2, h3⟩, h4, h5⟩ := h i hi
  have ho : OwnIn (S i) (U i 0) (U i 1) (U i 2) (fun j => j < B ∨ E ≤ j) := h4.mono (fun j hj => Or.inl (by have := hz i hi; omega))
  exact ⟨⟨h1.within hw ho, h2.within h1 hw ho, h3⟩, h4, h5⟩
/-- Groups that lie below what is written. -/
theorem FineR.under {w w' : World} {lo tp nr : Nat} {F : Nat → Int} {n : Nat} {S : Nat → Sto} {ra : Option Addr} {rc : Nat} {sa : Option Addr} {U : Nat → Nat → Value} {z : Nat → Nat} {B E : Nat} (h : FineR w lo tp nr F n S ra rc sa U z) (hw : Within B E w w') (hB : tp ≤ B) (hg : 0 < n → ∀ g, sa = some ⟨g, 0, none⟩ → g < B) : FineR w' lo tp nr F n S ra rc sa U z := by
  have ho : 0 < nr → ∀ k, (Value.slice ra nr rc).ownBlock = some k → k < B ∨ E ≤ k := fun hn k hk => Or.inl (Nat.lt_of_lt_of_le (h.2.2.2 hn k hk).2.2 hB)
  exact ⟨⟨h.1.1.within hw ho, h.1.2.within h.1.1 hw ho⟩, ⟨h.2.1.1.kept hw.size (fun g hn e hl => hw.block g hl (Or.inl (hg hn g e))), h.2.1.2.under hw (fun i hi => Nat.le_trans (h.2.2.1.2.1 i hi) hB)⟩, ⟨h.2.2.1.1, h.2.2.1.2.1, Nat.le_trans h.2.2.1.2.2 hw.size⟩, h.2.2.2⟩
theorem FineR.row {w : World} {lo tp nr : Nat} {F : Nat → Int} {n : Nat} {S : Nat → Sto} {ra : Option Addr} {rc : Nat} {sa : Option Addr} {U : Nat → Nat → Value} {z : Nat → Nat} (h : FineR w lo tp nr F n S ra rc sa U z) : 0 < n → ∀ g, sa = some ⟨g, 0, none⟩ → g < w.heap.size := fun hn g e => by
  obtain ⟨g', e', _, hf, _⟩ := h.2.1.1 hn
  rw [e] at e'
  simp only [Option.some.injEq, Addr.mk.injEq, and_true] at e'
  rw [e']
  exact hf.1
/-- The law's own store; what the model answered (block W); the store that was handed over (block X); what the program answered (block G). -/
def LawN (w : World) (v0 v1 v2 : Value) (W : Nat) (c : Int) (m0 m1 : Value) (X : Nat) (x0 x1 x2 : Value) (G : Nat) (g0 g1 : Value) (x : World) : Prop :=
  One w v0 v1 v2 x ∧ Blk3 x W (.int .i64 c) m0 m1 ∧ Blk3 x X x0 x1 x2 ∧ Blk3 x G (.int .i64 c) g0 g1
theorem LawN.later {w x x' : World} {v0 v1 v2 : Value} {W : Nat} {c : Int} {m0 m1 : Value} {X : Nat} {x0 x1 x2 : Value} {G : Nat} {g0 g1 : Value} (h : LawN w v0 v1 v2 W c m0 m1 X x0 x1 x2 G g0 g1 x) (hb : Below x.heap.size x x') : LawN w v0 v1 v2 W c m0 m1 X x0 x1 x2 G g0 g1 x' :=
  ⟨h.1.later hb, h.2.1.later hb, h.2.2.1.later hb, h.2.2.2.later hb⟩
theorem LawN.within {w x x' : World} {v0 v1 v2 : Value} {W : Nat} {c : Int} {m0 m1 : Value} {X : Nat} {x0 x1 x2 : Value} {G : Nat} {g0 g1 : Value} {B E : Nat} (h : LawN w v0 v1 v2 W c m0 m1 X x0 x1 x2 G g0 g1 x) (hw : Within B E x x') (hL : w.heap.size < B) (hW : W < B ∨ E ≤ W) (hX : X < B ∨ E ≤ X) (hG : G < B ∨ E ≤ G) : LawN w v0 v1 v2 W c m0 m1 X x0 x1 x2 G g0 g1 x' :=
  ⟨⟨hw.below h.1.1 (Nat.le_of_lt hL), h.1.2.within hw (Or.inl hL)⟩, h.2.1.within hw hW, h.2.2.1.within hw hX, h.2.2.2.within hw hG⟩
theorem LawN.drew {w x : World} {v0 v1 v2 : Value} {W : Nat} {c : Int} {m0 m1 : Value} {X : Nat} {x0 x1 x2 : Value} {G : Nat} {g0 g1 : Value} (h : LawN w v0 v1 v2 W c m0 m1 X x0 x1 x2 G g0 g1 x) : LawN w v0 v1 v2 W c m0 m1 X x0 x1 x2 G g0 g1 x.drew := ⟨⟨h.1.1.drew, h.1.2⟩, h.2⟩
end

section
open Go.RowKit
theorem FillS.set {w : World} {g n k : Nat} {U : Nat → Nat → Value} (h : FillS w g n n U) (hk : k < n) (u0 u1 u2 : Value) : FillS (((w.setCell ⟨g, k * 3, none⟩ u0).setCell ⟨g, k * 3 + 1, none⟩ u1).setCell ⟨g, k * 3 + 2, none⟩ u2) g n n (putU U k u0 u1 u2) := by
  have h' : FillS w g n k U := ⟨h.1, h.2.1, fun i hi => h.2.2 i (by omega)⟩
  have hp := h'.put hk u0 u1 u2
  refine ⟨hp.1, hp.2.1, fun i hi => ?_⟩
  by_cases q : i < k + 1
  · exact hp.2.2 i q
  · have other : ∀ p, k * 3 + 3 ≤ p → (((w.setCell ⟨g, k * 3, none⟩ u0).setCell ⟨g, k * 3 + 1, none⟩ u1).setCell ⟨g, k * 3 + 2, none⟩ u2).cell? ⟨g, p, none⟩ = w.cell? ⟨g, p, none⟩ := fun p hp =>
      (World.cell?_setCell_other _ _ _ _ (by intro q; simp at q; try omega)).trans ((World.cell?_setCell_other _ _ _ _ (by intro q; simp at q; try omega)).trans (World.cell?_setCell_other _ _ _ _ (by intro q; simp at q; try omega)))
    obtain ⟨d0, d1, d2⟩ := h.2.2 i hi
    unfold putU
    rw [if_neg (by omega), if_neg (by omega), if_neg (by omega)]
    exact ⟨(other _ (by omega)).trans d0, (other _ (by omega)).trans d1, (other _ (by omega)).trans d2⟩
/-- The groups with another store at place j. -/
def putT (S : Nat → Sto) (j : Nat) (T : Sto) (i : Nat) : Sto := if i = j then T else S i
theorem stos_put {x : World} {B n j g cc : Nat} {S : Nat → Sto} {T : Sto} {V : Nat → Nat → Value} {v0 v1 v2 : Value} (hf : FillS x g n n (putU V j v0 v1 v2)) (hg : B ≤ g) (hs : ∀ i, i < n → St x B (S i) (V i 0) (V i 1) (V i 2)) (ht : St x B T v0 v1 v2) : Stos x B n (putT S j T) (putU V j v0 v1 v2) (.slice (some ⟨g, 0, none⟩) n cc) :=
  ⟨⟨_, _, rfl, fun _ => ⟨g, 0, rfl, hg, hf.1, fun i hi => by
    simp only [Nat.zero_add]
    exact hf.2.2 i hi⟩⟩, fun i hi => by
    unfold putT putU
    by_cases q : i = j
    · simp only [if_pos q]
      exact ht
    · simp only [if_neg q]
      exact hs i hi⟩
end
end
end Go.Proofs.YtpfmbfmlpoibeaaGreat
