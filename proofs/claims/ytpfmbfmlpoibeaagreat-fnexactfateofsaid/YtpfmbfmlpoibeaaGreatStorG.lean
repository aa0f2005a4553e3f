/-
  Own text. Whether a key is blocked at a time: the program's blocked and BlockedAt, the model's l3Blocked and BlockedAt.
-/
import Derived.Test.YtpfmbfmlpoibeaaGreatStorD
namespace Go.Proofs.YtpfmbfmlpoibeaaGreat
open Go.RowKit

def firstL (l : Nat → Int) (nl : Nat) (key : Int) (i : Nat) : Prop := i < nl ∧ lockIs l key i ∧ ∀ j, j < i → ¬ lockIs l key j
theorem firstL.one {l : Nat → Int} {n : Nat} {a : Int} {i j : Nat} (h : firstL l n a i) (h' : firstL l n a j) : i = j := by
  rcases Nat.lt_trichotomy i j with e | e | e
  · exact absurd h.2.1 (h'.2.2 i e)
  · exact e
  · exact absurd h'.2.1 (h.2.2 j e)
/-- Key has a lock with a start that is not above ts. -/
def blocks (l : Nat → Int) (nl : Nat) (key ts : Int) : Prop := ∃ i, firstL l nl key i ∧ l (i * 5 + 1) ≤ ts
theorem first_or (l : Nat → Int) (nl : Nat) (key : Int) : (∀ i, i < nl → ¬ lockIs l key i) ∨ ∃ i, firstL l nl key i := by
  obtain ⟨r, h⟩ := FirstAt.get (lockIs l key) nl
  rcases h with ⟨_, h⟩ | ⟨i, h1, _, h2, h3⟩
  · exact Or.inl h
  · exact Or.inr ⟨i, h1, h2, h3⟩
def blockedF (S : Sto) (key ts : Int) : Prop := askF S key = 0 ∧ blocks S.l S.nl key ts
end Go.Proofs.YtpfmbfmlpoibeaaGreat
