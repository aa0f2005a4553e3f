/-
  Own text. What a law whose answer is a code and a store stands on.
-/
import Derived.Test.YtpfmbfmlpoibeaaGreatLawE
import Derived.Test.YtpfmbfmlpoibeaaGreatMarkS
namespace Go.Proofs.YtpfmbfmlpoibeaaGreat
open Go.RowKit

/-- A code, and a new store, its rows in three blocks. -/
def ResSto (w : World) (c : Int) (R : Sto) (e : Ending) (w' : World) : Prop := ∃ a0 c0 a1 c1 a2 c2, e = .returned (.agg #[.int .i64 c, .slice a0 R.nc c0, .slice a1 R.nl c1, .slice a2 R.nw c2]) ∧ (St w' w.heap.size R (.slice a0 R.nc c0) (.slice a1 R.nl c1) (.slice a2 R.nw c2) ∧ FreeS w' R (.slice a0 R.nc c0) (.slice a1 R.nl c1) (.slice a2 R.nw c2) ∧ ApartD R (.slice a0 R.nc c0) (.slice a1 R.nl c1) (.slice a2 R.nw c2)) ∧ Below w.heap.size w w'
theorem ApartS.d {w : World} {B : Nat} {S : Sto} {u0 u1 u2 : Value} (h : ApartS S u0 u1 u2) (hs : St w B S u0 u1 u2) : ApartD S u0 u1 u2 := by
  obtain ⟨z1, z2, hz, h0, h1, h2⟩ := h
  have own : ∀ {m n : Nat} {F : Nat → Int} {u : Value}, Row w B m n F u → 0 < n → ∃ k, u.ownBlock = some k := fun hr hn => by
    obtain ⟨ao, cp, rfl, hr⟩ := hr
    obtain ⟨g, o, rfl, _⟩ := hr hn
    exact ⟨g, rfl⟩
  refine ⟨fun ha hb e => ?_, fun ha hb e => ?_, fun ha hb e => ?_⟩
  · obtain ⟨k, hk⟩ := own hs.1 ha
    have := h0 ha k hk; have := h1 hb k (e ▸ hk); omega
  · obtain ⟨k, hk⟩ := own hs.1 ha
    have := h0 ha k hk; have := h2 hb k (e ▸ hk); omega
  · obtain ⟨k, hk⟩ := own hs.2.1 ha
    have := h1 ha k hk; have := h2 hb k (e ▸ hk); omega
theorem Blk4.kept {x x' : World} {b : Nat} {a0 a1 a2 a3 : Value} (h : Blk4 x b a0 a1 a2 a3) (hb : x'.heap[b]? = x.heap[b]?) : Blk4 x' b a0 a1 a2 a3 := by
  obtain ⟨⟨h0, h1, h2, h3⟩, f0, f1, f2, f3⟩ := h
  exact ⟨⟨(World.cell?_of_block (w := x) (a := ⟨b, 0, none⟩) hb).trans h0, (World.cell?_of_block (w := x) (a := ⟨b, 1, none⟩) hb).trans h1, (World.cell?_of_block (w := x) (a := ⟨b, 2, none⟩) hb).trans h2, (World.cell?_of_block (w := x) (a := ⟨b, 3, none⟩) hb).trans h3⟩,
    (World.frozen?_of_block (w := x) (a := ⟨b, 0, none⟩) hb).trans f0, (World.frozen?_of_block (w := x) (a := ⟨b, 1, none⟩) hb).trans f1, (World.frozen?_of_block (w := x) (a := ⟨b, 2, none⟩) hb).trans f2, (World.frozen?_of_block (w := x) (a := ⟨b, 3, none⟩) hb).trans f3⟩
theorem Blk4.within {x x' : World} {b B E : Nat} {a0 a1 a2 a3 : Value} (h : Blk4 x b a0 a1 a2 a3) (hw : Within B E x x') (ho : b < B ∨ E ≤ b) : Blk4 x' b a0 a1 a2 a3 := h.kept (hw.block b h.lt ho)
/-- The blocks of a store's rows that are not empty keep to P. -/
def OwnIn (S : Sto) (u0 u1 u2 : Value) (P : Nat → Prop) : Prop := (0 < S.nc → ∀ k, u0.ownBlock = some k → P k) ∧ (0 < S.nl → ∀ k, u1.ownBlock = some k → P k) ∧ (0 < S.nw → ∀ k, u2.ownBlock = some k → P k)
theorem St.ownIn {w : World} {B : Nat} {S : Sto} {u0 u1 u2 : Value} (h : St w B S u0 u1 u2) : OwnIn S u0 u1 u2 (fun k => B ≤ k ∧ k < w.heap.size) := ⟨fun hn k q => h.1.lt hn k q, fun hn k q => h.2.1.lt hn k q, fun hn k q => h.2.2.lt hn k q⟩
theorem OwnIn.mono {S : Sto} {u0 u1 u2 : Value} {P Q : Nat → Prop} (h : OwnIn S u0 u1 u2 P) (hpq : ∀ k, P k → Q k) : OwnIn S u0 u1 u2 Q := ⟨fun hn k q => hpq k (h.1 hn k q), fun hn k q => hpq k (h.2.1 hn k q), fun hn k q => hpq k (h.2.2 hn k q)⟩
theorem St.within {x x' : World} {C B E : Nat} {S : Sto} {u0 u1 u2 : Value} (h : St x C S u0 u1 u2) (hw : Within B E x x') (ho : OwnIn S u0 u1 u2 (fun k => k < B ∨ E ≤ k)) : St x' C S u0 u1 u2 := ⟨h.1.within hw ho.1, h.2.1.within hw ho.2.1, h.2.2.within hw ho.2.2⟩
theorem FreeS.within {x x' : World} {C B E : Nat} {S : Sto} {u0 u1 u2 : Value} (hf : FreeS x S u0 u1 u2) (h : St x C S u0 u1 u2) (hw : Within B E x x') (ho : OwnIn S u0 u1 u2 (fun k => k < B ∨ E ≤ k)) : FreeS x' S u0 u1 u2 := ⟨hf.1.within h.1 hw ho.1, hf.2.1.within h.2.1 hw ho.2.1, hf.2.2.within h.2.2 hw ho.2.2⟩
/-- The law's own store; what the model answered (block W); the store that was handed over (block X); what the program answered (block G). -/
def LawT (w : World) (v0 v1 v2 : Value) (W : Nat) (c : Int) (m0 m1 m2 : Value) (X : Nat) (x0 x1 x2 : Value) (G : Nat) (g0 g1 g2 : Value) (x : World) : Prop :=
  One w v0 v1 v2 x ∧ Blk4 x W (.int .i64 c) m0 m1 m2 ∧ Blk3 x X x0 x1 x2 ∧ Blk4 x G (.int .i64 c) g0 g1 g2
theorem LawT.later {w x x' : World} {v0 v1 v2 : Value} {W : Nat} {c : Int} {m0 m1 m2 : Value} {X : Nat} {x0 x1 x2 : Value} {G : Nat} {g0 g1 g2 : Value} (h : LawT w v0 v1 v2 W c m0 m1 m2 X x0 x1 x2 G g0 g1 g2 x) (hb : Below x.heap.size x x') : LawT w v0 v1 v2 W c m0 m1 m2 X x0 x1 x2 G g0 g1 g2 x' :=
  ⟨h.1.later hb, h.2.1.later hb, h.2.2.1.later hb, h.2.2.2.later hb⟩
theorem LawT.within {w x x' : World} {v0 v1 v2 : Value} {W : Nat} {c : Int} {m0 m1 m2 : Value} {X : Nat} {x0 x1 x2 : Value} {G : Nat} {g0 g1 g2 : Value} {B E : Nat} (h : LawT w v0 v1 v2 W c m0 m1 m2 X x0 x1 x2 G g0 g1 g2 x) (hw : Within B E x x') (hL : w.heap.size < B) (hW : W < B ∨ E ≤ W) (hX : X < B ∨ E ≤ X) (hG : G < B ∨ E ≤ G) : LawT w v0 v1 v2 W c m0 m1 m2 X x0 x1 x2 G g0 g1 g2 x' :=
  ⟨⟨hw.below h.1.1 (Nat.le_of_lt hL), h.1.2.within hw (Or.inl hL)⟩, h.2.1.within hw hW, h.2.2.1.within hw hX, h.2.2.2.within hw hG⟩
theorem LawT.drew {w x : World} {v0 v1 v2 : Value} {W : Nat} {c : Int} {m0 m1 m2 : Value} {X : Nat} {x0 x1 x2 : Value} {G : Nat} {g0 g1 g2 : Value} (h : LawT w v0 v1 v2 W c m0 m1 m2 X x0 x1 x2 G g0 g1 g2 x) : LawT w v0 v1 v2 W c m0 m1 m2 X x0 x1 x2 G g0 g1 g2 x.drew := ⟨⟨h.1.1.drew, h.1.2⟩, h.2⟩
end Go.Proofs.YtpfmbfmlpoibeaaGreat
