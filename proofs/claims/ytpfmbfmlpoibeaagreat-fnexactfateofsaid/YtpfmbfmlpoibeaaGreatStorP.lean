/-
  Own text. Plain facts on stores without a fault: what is asked first, and that cells, locks and writes rise.
-/
import Derived.Test.YtpfmbfmlpoibeaaGreatColsU
namespace Go.Proofs.YtpfmbfmlpoibeaaGreat
open Go.RowKit Go.Maps

open Classical in
/-- What is asked first: the store's fault, then the key's. -/
noncomputable def askF (S : Sto) (key : Int) : Int := if storeF S ≠ 0 then storeF S else faultOf key
theorem storeF_zero {S : Sto} (h : storeF S = 0) : (S.nc ≤ 200 ∧ S.nl ≤ 200 ∧ S.nw ≤ 200) ∧ scan (cellF S.c) S.nc = 0 ∧ scan (lockF S.l) S.nl = 0 ∧ scan (writeF S.k) S.nw = 0 ∧ needs S ∧ once S := by
  unfold storeF at h
  by_cases h0 : 200 < S.nc ∨ 200 < S.nl ∨ 200 < S.nw
  · rw [if_pos h0] at h; exact absurd h (by decide)
  rw [if_neg h0] at h
  by_cases h1 : scan (cellF S.c) S.nc = 0
  case neg => rw [if_pos h1] at h; exact absurd h h1
  rw [if_neg (fun q => q h1)] at h
  by_cases h2 : scan (lockF S.l) S.nl = 0
  case neg => rw [if_pos h2] at h; exact absurd h h2
  rw [if_neg (fun q => q h2)] at h
  by_cases h3 : scan (writeF S.k) S.nw = 0
  case neg => rw [if_pos h3] at h; exact absurd h h3
  rw [if_neg (fun q => q h3)] at h
  by_cases h4 : needs S
  case neg => rw [if_pos h4] at h; exact absurd h (by decide)
  rw [if_neg (fun q => q h4)] at h
  by_cases h5 : once S
  case neg => rw [if_pos h5] at h; exact absurd h (by decide)
  exact ⟨⟨by omega, by omega, by omega⟩, h1, h2, h3, h4, h5⟩
theorem askF_zero {S : Sto} {key : Int} (h : askF S key = 0) : storeF S = 0 ∧ faultOf key = 0 := by
  unfold askF at h
  by_cases h0 : storeF S = 0
  · rw [if_neg (fun q => q h0)] at h; exact ⟨h0, h⟩
  · rw [if_pos h0] at h; exact absurd h h0
/-- The order of two pairs of numbers. -/
def pairLt (a b c d : Int) : Prop := a < c ∨ a = c ∧ b < d
theorem pairLt.trans {a b c d e f : Int} (h : pairLt a b c d) (h' : pairLt c d e f) : pairLt a b e f := by unfold pairLt at *; omega
theorem pairLt.ne {a b c d : Int} (h : pairLt a b c d) : ¬ (a = c ∧ b = d) := by unfold pairLt at h; omega
theorem rise_pairs {p q : Nat → Int} {n : Nat} (h : ∀ i, i + 1 < n → pairLt (p i) (q i) (p (i + 1)) (q (i + 1))) : ∀ j, j < n → ∀ i, i < j → pairLt (p i) (q i) (p j) (q j)
  | 0, _, i, hi => by omega
  | j + 1, hj, i, hi => by
    rcases Nat.lt_or_ge i j with e | e
    · exact (rise_pairs h j (by omega) i e).trans (h j hj)
    · obtain rfl : i = j := by omega
      exact h i hj
theorem cellF_next {c : Nat → Int} {i : Nat} (h : cellF c (i + 1) = 0) : pairLt (c (i * 3)) (c (i * 3 + 1)) (c ((i + 1) * 3)) (c ((i + 1) * 3 + 1)) := by
  have hz := cellF_zero h
  unfold cellF at h
  rw [if_neg (fun q => q hz.1), if_neg (fun q => q hz.2)] at h
  by_cases e : 0 < i + 1 ∧ ¬ (c ((i + 1 - 1) * 3) < c ((i + 1) * 3) ∨ c ((i + 1 - 1) * 3) = c ((i + 1) * 3) ∧ c ((i + 1 - 1) * 3 + 1) < c ((i + 1) * 3 + 1))
  · rw [if_pos e] at h; exact absurd h (by decide)
  · exact Classical.byContradiction fun q => e ⟨Nat.succ_pos i, q⟩
theorem lockF_next {l : Nat → Int} {i : Nat} (h : lockF l (i + 1) = 0) : l (i * 5) < l ((i + 1) * 5) := by
  have hz := lockF_zero h
  unfold lockF at h
  rw [if_neg (fun q => q hz.1)] at h
  by_cases h2 : faultOf (l ((i + 1) * 5 + 3)) = 0
  case neg => rw [if_pos h2] at h; exact absurd h h2
  rw [if_neg (fun q => q h2)] at h
  by_cases h1 : 1 ≤ l ((i + 1) * 5 + 1) ∧ l ((i + 1) * 5 + 1) ≤ 100000 ∧ 1 ≤ l ((i + 1) * 5 + 2) ∧ l ((i + 1) * 5 + 2) ≤ 3 ∧ 0 ≤ l ((i + 1) * 5 + 4) ∧ l ((i + 1) * 5 + 4) ≤ 100000
  case neg => rw [if_pos h1] at h; exact absurd h (by decide)
  rw [if_neg (fun q => q h1)] at h
  by_cases e : 0 < i + 1 ∧ ¬ (l ((i + 1 - 1) * 5) < l ((i + 1) * 5))
  · rw [if_pos e] at h; exact absurd h (by decide)
  · exact Classical.byContradiction fun q => e ⟨Nat.succ_pos i, q⟩
theorem cells_rise {S : Sto} (h : scan (cellF S.c) S.nc = 0) : ∀ j, j < S.nc → ∀ i, i < j → pairLt (S.c (i * 3)) (S.c (i * 3 + 1)) (S.c (j * 3)) (S.c (j * 3 + 1)) :=
  rise_pairs (p := fun i => S.c (i * 3)) (q := fun i => S.c (i * 3 + 1)) (fun i hi => cellF_next (scan_zero h (i + 1) hi))
theorem puts_at {p q v : Nat → Int} {x y : Int} {j : Nat} (hj : p j = x ∧ q j = y) : ∀ n, j < n → (∀ i, j < i → i < n → ¬ (p i = x ∧ q i = y)) → puts p q v n x y = some (v j)
  | 0, h, _ => by omega
  | n + 1, h, hu => by
    unfold puts putM
    by_cases e : j = n
    · subst e; rw [if_pos ⟨hj.1.symm, hj.2.symm⟩]
    · rw [if_neg (fun r => hu n (by omega) (by omega) ⟨r.1.symm, r.2.symm⟩)]
      exact puts_at hj n (by omega) (fun i h1 h2 => hu i h1 (by omega))
theorem cellM_at {S : Sto} (h : scan (cellF S.c) S.nc = 0) {a b : Int} {j : Nat} (hj : j < S.nc) (e : cellIs S.c a b j) : cellM S S.nc a b = some (S.c (j * 3 + 2)) := by
  refine puts_at (p := fun i => S.c (i * 3)) (q := fun i => S.c (i * 3 + 1)) (v := fun i => S.c (i * 3 + 2)) e S.nc hj (fun i h1 h2 q => ?_)
  refine (cells_rise h i h2 j h1).ne ⟨e.1.trans q.1.symm, e.2.trans q.2.symm⟩
open Classical in
noncomputable def cellAtC (S : Sto) (key start : Int) : Int := if askF S key ≠ 0 then askF S key else if hasCell S S.nc key start then 0 else 4
open Classical in
noncomputable def cellAtV (S : Sto) (key start : Int) : Int := if askF S key ≠ 0 then 0 else (cellM S S.nc key start).getD 0
end Go.Proofs.YtpfmbfmlpoibeaaGreat
