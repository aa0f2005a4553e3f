/-
  Own text. What both UnionOf answer: the same code and the same store.
-/
import Derived.Test.YtkaeolbnafhjaaaGreatGrpK
import Derived.Test.YtkaeolbnafhjaaaGreatPartA
namespace Go.Proofs.YtkaeolbnafhjaaaGreat
open Go.RowKit

theorem groupsF_zero {nr : Nat} {F : Nat → Int} {n : Nat} {S : Nat → Sto} (h : groupsF nr F n S = 0) : Good nr F ∧ n = nr ∧ (∀ i, i < n → storeF (S i) = 0 ∧ ¬ strayS (S i) (F (i * 3)) (F (i * 3 + 1))) ∧ ¬ fullG n S := by
  unfold groupsF at h
  split at h
  · rename_i q; exact absurd h q
  rename_i q1
  split at h
  · exact absurd h (by decide)
  rename_i q2
  split at h
  · rename_i q; exact absurd h q
  rename_i q3
  split at h
  · exact absurd h (by decide)
  rename_i q4
  refine ⟨good_of (Classical.not_not.1 q1), Classical.not_not.1 q2, fun i hi => ?_, q4⟩
  have h1 := scan_zero (Classical.not_not.1 q3) i hi
  unfold oneF at h1
  split at h1
  · rename_i q; exact absurd h1 q
  rename_i q5
  split at h1
  · exact absurd h1 (by decide)
  rename_i q6
  exact ⟨Classical.not_not.1 q5, q6⟩
/-- The call's blocks: the groups, and the answer that is under way. -/
def CallGS (w : World) (nr : Nat) (F : Nat → Int) (n : Nat) (S : Nat → Sto) (V : Nat → Nat → Value) (B : Nat) (vr vs : Value) (x : World) : Prop := Blk2 x w.heap.size vr vs ∧ Blk4 x (w.heap.size + 1) (.int .i64 0) (.slice none 0 0) (.slice none 0 0) (.slice none 0 0) ∧ Grs x B nr F n S V vr vs ∧ Below w.heap.size w x
theorem CallGS.new {w : World} {nr : Nat} {F : Nat → Int} {n : Nat} {S : Nat → Sto} {V : Nat → Nat → Value} {B : Nat} {vr vs : Value} (h : Grs w B nr F n S V vr vs) (t t' : TypeId) : CallGS w nr F n S V B vr vs ((w.alloc (.cells #[vr, vs] t)).alloc (.cells #[.int .i64 0, .slice none 0 0, .slice none 0 0, .slice none 0 0] t')) := by
  refine ⟨(Blk2.new _ _ _ _).alloc _, ?_, (h.alloc _).alloc _, (below_alloc _ _).alloc (by simp) _⟩
  have := Blk4.new (w.alloc (.cells #[vr, vs] t)) (.int .i64 0) (.slice none 0 0) (.slice none 0 0) (.slice none 0 0) t'
  rwa [World.size_alloc] at this
theorem CallGS.later {w x x' : World} {nr : Nat} {F : Nat → Int} {n : Nat} {S : Nat → Sto} {V : Nat → Nat → Value} {B : Nat} {vr vs : Value} (h : CallGS w nr F n S V B vr vs x) (hb : Below x.heap.size x x') : CallGS w nr F n S V B vr vs x' := ⟨h.1.later hb, h.2.1.later hb, h.2.2.1.later hb, h.2.2.2.trans (hb.mono h.2.2.2.size)⟩
def UniAns (nr : Nat) (F : Nat → Int) (n : Nat) (S : Nat → Sto) (c : Int) (R : Sto) : Prop :=
  (groupsF nr F n S ≠ 0 ∧ c = groupsF nr F n S ∧ R = emptyS) ∨ (groupsF nr F n S = 0 ∧ c = 0 ∧ R = unionS n S)
theorem UniAns.get (nr : Nat) (F : Nat → Int) (n : Nat) (S : Nat → Sto) : ∃ c R, SmallS R ∧ UniAns nr F n S c R := by
  by_cases hz : groupsF nr F n S = 0
  · refine ⟨0, unionS n S, ?_, Or.inr ⟨hz, rfl, rfl⟩⟩
    have h := (groupsF_zero hz).2.2.2
    unfold fullG at h
    unfold SmallS unionS
    simp only
    omega
  · exact ⟨_, emptyS, by unfold SmallS emptyS; decide, Or.inl ⟨hz, rfl, rfl⟩⟩
end Go.Proofs.YtkaeolbnafhjaaaGreat
