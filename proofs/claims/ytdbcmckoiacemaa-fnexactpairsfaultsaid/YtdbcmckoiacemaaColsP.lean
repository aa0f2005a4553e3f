/-
  Own text. What StoreFault answers, as a plain function of the numbers of a store.
-/
import Derived.Test.YtdbcmckoiacemaaColsA
import Derived.Test.YtdbcmckoiacemaaKeysA
namespace Go.Proofs.Ytdbcmckoiacemaa
open Go.RowKit

/-- Of g 0, g 1 .. below n the first that is not 0; 0 where there is none. -/
def scan (g : Nat → Int) : Nat → Int
  | 0 => 0
  | n + 1 => if scan g n = 0 then g n else scan g n
theorem scan_go {g : Nat → Int} {k : Nat} (h : scan g k = 0) (h2 : g k = 0) : scan g (k + 1) = 0 := by rw [scan, if_pos h, h2]
theorem scan_stop {g : Nat → Int} {k : Nat} (h : scan g k = 0) (h2 : g k ≠ 0) : ∀ {n : Nat}, k < n → scan g n = g k
  | 0, hn => by omega
  | n + 1, hn => by
    rcases Nat.lt_or_ge k n with h3 | h3
    · have := scan_stop h h2 h3
      rw [scan, this, if_neg h2]
    · obtain rfl : k = n := by omega
      rw [scan, if_pos h]

def cellF (c : Nat → Int) (i : Nat) : Int :=
  if faultOf (c (i * 3)) ≠ 0 then faultOf (c (i * 3))
  else if ¬ (1 ≤ c (i * 3 + 1) ∧ c (i * 3 + 1) ≤ 100000 ∧ 0 ≤ c (i * 3 + 2) ∧ c (i * 3 + 2) ≤ 9999) then 3
  else if 0 < i ∧ ¬ (c ((i - 1) * 3) < c (i * 3) ∨ c ((i - 1) * 3) = c (i * 3) ∧ c ((i - 1) * 3 + 1) < c (i * 3 + 1)) then 1 else 0
def lockF (l : Nat → Int) (i : Nat) : Int :=
  if faultOf (l (i * 5)) ≠ 0 then faultOf (l (i * 5))
  else if faultOf (l (i * 5 + 3)) ≠ 0 then faultOf (l (i * 5 + 3))
  else if ¬ (1 ≤ l (i * 5 + 1) ∧ l (i * 5 + 1) ≤ 100000 ∧ 1 ≤ l (i * 5 + 2) ∧ l (i * 5 + 2) ≤ 3 ∧ 0 ≤ l (i * 5 + 4) ∧ l (i * 5 + 4) ≤ 100000) then 3
  else if 0 < i ∧ ¬ (l ((i - 1) * 5) < l (i * 5)) then 1 else 0
def fits (k : Nat → Int) (i : Nat) : Prop := (k (i * 4 + 3) = 4 → k (i * 4 + 1) = k (i * 4 + 2)) ∧ (k (i * 4 + 3) ≠ 4 → k (i * 4 + 2) < k (i * 4 + 1))
instance (k : Nat → Int) (i : Nat) : Decidable (fits k i) := by unfold fits; exact inferInstance
def writeF (k : Nat → Int) (i : Nat) : Int :=
  if faultOf (k (i * 4)) ≠ 0 then faultOf (k (i * 4))
  else if ¬ (1 ≤ k (i * 4 + 1) ∧ k (i * 4 + 1) ≤ 100000 ∧ 1 ≤ k (i * 4 + 2) ∧ k (i * 4 + 2) ≤ 100000 ∧ 1 ≤ k (i * 4 + 3) ∧ k (i * 4 + 3) ≤ 4) then 3
  else if (0 < i ∧ ¬ (k ((i - 1) * 4) < k (i * 4) ∨ k ((i - 1) * 4) = k (i * 4) ∧ k ((i - 1) * 4 + 1) < k (i * 4 + 1))) ∨ ¬ fits k i then 1 else 0
/-- Cell i is of this key and start; write i is. -/
def cellIs (c : Nat → Int) (a b : Int) (i : Nat) : Prop := c (i * 3) = a ∧ c (i * 3 + 1) = b
def writeIs (k : Nat → Int) (a b : Int) (i : Nat) : Prop := k (i * 4) = a ∧ k (i * 4 + 2) = b
instance (c : Nat → Int) (a b : Int) (i : Nat) : Decidable (cellIs c a b i) := by unfold cellIs; exact inferInstance
instance (c : Nat → Int) (a b : Int) (i : Nat) : Decidable (writeIs c a b i) := by unfold writeIs; exact inferInstance
def hasCell (S : Sto) (n : Nat) (a b : Int) : Prop := ∃ i, i < n ∧ cellIs S.c a b i
def hasWrite (S : Sto) (n : Nat) (a b : Int) : Prop := ∃ i, i < n ∧ writeIs S.k a b i
def putW (S : Sto) (i : Nat) : Prop := S.k (i * 4 + 3) = 1 → hasCell S S.nc (S.k (i * 4)) (S.k (i * 4 + 2))
def putL (S : Sto) (i : Nat) : Prop := S.l (i * 5 + 2) = 1 → hasCell S S.nc (S.l (i * 5)) (S.l (i * 5 + 1))
def onceW (S : Sto) (i : Nat) : Prop := ¬ hasWrite S i (S.k (i * 4)) (S.k (i * 4 + 2))
def onceL (S : Sto) (i : Nat) : Prop := ¬ hasWrite S S.nw (S.l (i * 5)) (S.l (i * 5 + 1))
def needs (S : Sto) : Prop := (∀ i, i < S.nw → putW S i) ∧ ∀ i, i < S.nl → putL S i
def once (S : Sto) : Prop := (∀ i, i < S.nw → onceW S i) ∧ ∀ i, i < S.nl → onceL S i
open Classical in
noncomputable def storeF (S : Sto) : Int :=
  if 200 < S.nc ∨ 200 < S.nl ∨ 200 < S.nw then 2
  else if scan (cellF S.c) S.nc ≠ 0 then scan (cellF S.c) S.nc
  else if scan (lockF S.l) S.nl ≠ 0 then scan (lockF S.l) S.nl
  else if scan (writeF S.k) S.nw ≠ 0 then scan (writeF S.k) S.nw
  else if ¬ needs S then 4 else if ¬ once S then 6 else 0
end Go.Proofs.Ytdbcmckoiacemaa
