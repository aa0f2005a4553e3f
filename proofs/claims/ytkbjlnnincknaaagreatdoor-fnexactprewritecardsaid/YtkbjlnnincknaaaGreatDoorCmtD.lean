/-
  Own text, merged of CmtA, CmtB, CmtC, CmtD.
-/
import Derived.Test.YtkbjlnnincknaaaGreatDoorAddC
import Derived.Test.YtkbjlnnincknaaaGreatDoorDelB
import Derived.Test.YtkbjlnnincknaaaGreatDoorStorD
import Derived.Test.YtkbjlnnincknaaaGreatDoorCopyA
import Derived.Test.YtkbjlnnincknaaaGreatDoorPartA
import Derived.Deep.DeepCutAuto
import Derived.Test.YtkbjlnnincknaaaGreatDoorStorB
namespace Go.Proofs.YtkbjlnnincknaaaGreatDoor
section
open Go.RowKit
-- Own text. The model's l3At (has a key a write of a commit time?) and l3Unlock (locks without that of a key and start).
def writeAt (k : Nat → Int) (a c : Int) (i : Nat) : Prop := k (i * 4) = a ∧ k (i * 4 + 1) = c
/-- What l3At answers. -/
def AtAns (S : Sto) (a c : Int) (w : World) (e : Ending) (w' : World) : Prop := ∃ r : Bool, e = .returned (.bool r) ∧ (r = true ↔ ∃ i, i < S.nw ∧ writeAt S.k a c i) ∧ w' = w
/-- Is a lock that of a key and start? -/
def goneL (a s : Int) (t : List Int) : Bool := t.getD 0 0 == a && t.getD 1 0 == s
def unlL (F : Nat → Int) (a s : Int) (n : Nat) : List (List Int) := selD F 5 (goneL a s) n
end

section
open Go.RowKit
-- Own text. The model's l3Commit: what it answers of a store without a fault.
/-- One more struct in its place. -/
def insF (F : Nat → Int) (m n k : Nat) (xs : List Int) : Nat → Int := fun p => (nums F (k * m) ++ xs ++ nums (fun p => F (k * m + p)) ((n - k) * m)).getD p 0
/-- A store of which a lock of key a and start s has become a write of kind d, at commit c; its place is k. -/
def commitS (S : Sto) (a s c d : Int) (k : Nat) : Sto := ⟨S.nc, S.c, (unlL S.l a s S.nl).length, fun p => (unlL S.l a s S.nl).flatten.getD p 0, S.nw + 1, insF S.k 4 S.nw k [a, c, s, d]⟩

/-- What l3Commit stands on: its answer (the first block), the copy (block z). -/
def CmE (w : World) (b : Nat) (S : Sto) (v0 v1 v2 : Value) (z : Nat) (u0 u1 u2 : Value) (x : World) : Prop :=
  Blk4 x w.heap.size (.int .i64 0) (.slice none 0 0) (.slice none 0 0) (.slice none 0 0) ∧ Blk3 x z u0 u1 u2 ∧ Lies x b S v0 v1 v2 ∧ Below w.heap.size w x
theorem CmE.later {w x x' : World} {b z : Nat} {S : Sto} {v0 v1 v2 u0 u1 u2 : Value} (h : CmE w b S v0 v1 v2 z u0 u1 u2 x) (hb : Below x.heap.size x x') : CmE w b S v0 v1 v2 z u0 u1 u2 x' := ⟨h.1.later hb, h.2.1.later hb, h.2.2.1.later hb, h.2.2.2.trans (hb.mono h.2.2.2.size)⟩
theorem bool_no {r : Bool} {P : Prop} (h : r = true ↔ P) (hn : ¬ P) : r = false := by
  cases r with
  | false => rfl
  | true => exact (hn (h.1 rfl)).elim
end

section
open Go.RowKit
-- Own text. The model's l3Commit where it is done: the lock is gone, the write stands in its place.
/-- What the last drawn region of l3Commit reads. -/
def CmR (b g p : Nat) (v1 : Value) (d : Int) (X : World) : Prop := X.cell? ⟨b, 1, none⟩ = some v1 ∧ X.cell? ⟨g, p, none⟩ = some (.int .i64 d)
theorem CmR.later {b g p : Nat} {v1 : Value} {d : Int} {X X' : World} (h : CmR b g p v1 d X) (hb : Below X.heap.size X X') : CmR b g p v1 d X' :=
  ⟨(hb.cell (p := ⟨b, 1, none⟩) (lt_cell h.1)).trans h.1, (hb.cell (p := ⟨g, p, none⟩) (lt_cell h.2)).trans h.2⟩
theorem CmR.far {b g p : Nat} {v1 : Value} {d : Int} {X : World} (h : CmR b g p v1 d X) {z k : Nat} (hb : b ≠ z) (hg : g ≠ z) (u : Value) : CmR b g p v1 d (X.setCell ⟨z, k, none⟩ u) :=
  ⟨(World.cell?_setCell_other _ _ _ _ (fun q => by have := congrArg Addr.block q; simp at this; omega)).trans h.1, (World.cell?_setCell_other _ _ _ _ (fun q => by have := congrArg Addr.block q; simp at this; omega)).trans h.2⟩
theorem apartD_at {w : World} {B0 B1 z1 z2 : Nat} {S : Sto} {u0 u1 u2 : Value} (hz : z1 ≤ z2) (h0 : 0 < S.nc → ∀ k, u0.ownBlock = some k → k < z1) (h1 : 0 < S.nl → ∀ k, u1.ownBlock = some k → z1 ≤ k ∧ k < z2) (h2 : 0 < S.nw → ∀ k, u2.ownBlock = some k → z2 ≤ k) (r0 : Row w B0 3 S.nc S.c u0) (r1 : Row w B1 5 S.nl S.l u1) : ApartD S u0 u1 u2 := by
  have own : ∀ {B m n : Nat} {F : Nat → Int} {u : Value}, Row w B m n F u → 0 < n → ∃ k, u.ownBlock = some k := fun hr hn => by
    obtain ⟨ao, cp, rfl, hr⟩ := hr
    obtain ⟨g, o, rfl, _⟩ := hr hn
    exact ⟨g, rfl⟩
  refine ⟨fun ha hb e => ?_, fun ha hb e => ?_, fun ha hb e => ?_⟩
  · obtain ⟨k, hk⟩ := own r0 ha
    have := h0 ha k hk; have := h1 hb k (e ▸ hk); omega
  · obtain ⟨k, hk⟩ := own r0 ha
    have := h0 ha k hk; have := h2 hb k (e ▸ hk); omega
  · obtain ⟨k, hk⟩ := own r1 ha
    have := h1 ha k hk; have := h2 hb k (e ▸ hk); omega
theorem placeAt.one {p : Nat → Prop} {n i k : Nat} (h : placeAt p n i) (h' : placeAt p n k) : i = k := by
  rcases Nat.lt_trichotomy i k with q | q | q
  · exact (h.2.2 (by have := h'.1; omega) (h'.2.1 i q)).elim
  · exact q
  · exact (h'.2.2 (by have := h.1; omega) (h.2.1 k q)).elim
end

section
open Go.RowKit
-- Own text. What the model's CommitKey answers: a code and a store, at every argument.
/-- What a commit comes to on a store without a fault: a code and a store. -/
def CommitRes (S : Sto) (a s c : Int) (r : Int) (R : Sto) : Prop :=
  (∃ i : Nat, FirstAt (writeIs S.k a s) S.nw i ∧ S.k (i * 4 + 1) = c ∧ r = 0 ∧ R = S) ∨
  (∃ i : Nat, FirstAt (writeIs S.k a s) S.nw i ∧ S.k (i * 4 + 1) ≠ c ∧ r = 6 ∧ R = emptyS) ∨
  (FirstAt (writeIs S.k a s) S.nw (-1) ∧ (FirstAt (lockIs S.l a) S.nl (-1) ∨ ∃ j : Nat, FirstAt (lockIs S.l a) S.nl j ∧ S.l (j * 5 + 1) ≠ s) ∧ r = 4 ∧ R = emptyS) ∨
  (∃ j : Nat, FirstAt (writeIs S.k a s) S.nw (-1) ∧ FirstAt (lockIs S.l a) S.nl j ∧ S.l (j * 5 + 1) = s ∧ (∃ i, i < S.nw ∧ writeAt S.k a c i) ∧ r = 6 ∧ R = emptyS) ∨
  (∃ j : Nat, FirstAt (writeIs S.k a s) S.nw (-1) ∧ FirstAt (lockIs S.l a) S.nl j ∧ S.l (j * 5 + 1) = s ∧ (¬ ∃ i, i < S.nw ∧ writeAt S.k a c i) ∧ 200 ≤ S.nw ∧ r = 2 ∧ R = emptyS) ∨
  (∃ j k : Nat, FirstAt (writeIs S.k a s) S.nw (-1) ∧ FirstAt (lockIs S.l a) S.nl j ∧ S.l (j * 5 + 1) = s ∧ (¬ ∃ i, i < S.nw ∧ writeAt S.k a c i) ∧ S.nw < 200 ∧ placeAt (aheadW S.k a c) S.nw k ∧ r = 0 ∧ R = commitS S a s c (S.l (j * 5 + 2)) k)
def CommitAns (S : Sto) (a s c : Int) (r : Int) (R : Sto) : Prop :=
  (askF S a ≠ 0 ∧ r = askF S a ∧ R = emptyS) ∨ (askF S a = 0 ∧ ¬ isT s ∧ r = 3 ∧ R = emptyS) ∨ (askF S a = 0 ∧ isT s ∧ ¬ isT c ∧ r = 3 ∧ R = emptyS) ∨ (askF S a = 0 ∧ isT s ∧ isT c ∧ c ≤ s ∧ r = 1 ∧ R = emptyS) ∨ (askF S a = 0 ∧ isT s ∧ isT c ∧ s < c ∧ CommitRes S a s c r R)
end
end Go.Proofs.YtkbjlnnincknaaaGreatDoor
