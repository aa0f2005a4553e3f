/-
  Own text. The laws' helpers over a code and a store: eq, mark, held; mark numbers all three rows, one number behind the other.
-/
import Derived.Test.YtpfmbfmlpoibeaaGreatMarkB
import Derived.Test.YtpfmbfmlpoibeaaGreatStorQ
namespace Go.Proofs.YtpfmbfmlpoibeaaGreat
open Go.RowKit

theorem turn_eq {n : Nat} {v : Value} {b : Nat} (h : turn n v = some b) : 0 < n ∧ v.ownBlock = some b := by
  unfold turn at h
  split at h
  · cases h
  · exact ⟨by omega, h⟩
/-- The three rows of a store lie in three blocks. -/
def ApartD (S : Sto) (u0 u1 u2 : Value) : Prop := (0 < S.nc → 0 < S.nl → u0.ownBlock ≠ u1.ownBlock) ∧ (0 < S.nc → 0 < S.nw → u0.ownBlock ≠ u2.ownBlock) ∧ (0 < S.nl → 0 < S.nw → u1.ownBlock ≠ u2.ownBlock)
theorem apart_rows {w : World} {B m n m' n' : Nat} {F F' : Nat → Int} {u u' : Value} (_ : Row w B m n F u) (_ : Row w B m' n' F' u') (hd : 0 < n → 0 < n' → u.ownBlock ≠ u'.ownBlock) : 0 < n' → ∀ k, u'.ownBlock = some k → some k ≠ turn n u := by
  intro hn k hk e
  obtain ⟨h0, h1⟩ := turn_eq e.symm
  exact hd h0 hn (h1.trans hk.symm)
/-- A store numbered from 1 on. -/
def markS (S : Sto) : Sto := ⟨S.nc, fun p => 1 + (p : Nat), S.nl, fun p => 1 + S.nc * 3 + (p : Nat), S.nw, fun p => 1 + S.nc * 3 + S.nl * 5 + (p : Nat)⟩
end Go.Proofs.YtpfmbfmlpoibeaaGreat
