/-
  Own text. Chapter 5: the grants of an oracle, one behind the other, as a plain list; spec.GrantMany answers by it: no condition.
-/
import Derived.Test.YtbljhkhpfhphgaaOrcB
import Derived.Test.YtbljhkhpfhphgaaIntsA
namespace Go.Proofs.Ytbljhkhpfhphgaa
open Go.RowKit

/-- A grant: its code, its time, the oracle behind it. -/
abbrev Q4 := Int × Int × Int × Int
def gq (a b : Int) : Q4 := (grantC a b, grantT a b, grantN a b, grantB a b)
/-- Up to n grants; one with a code is the last. -/
def gl : Nat → Int → Int → List Q4
  | 0, _, _ => []
  | n + 1, a, b => gq a b :: (if grantC a b = 0 then gl n (grantN a b) (grantB a b) else [])
theorem gl_good {n : Nat} {a b : Int} (h : grantC a b = 0) : gl (n + 1) a b = gq a b :: gl n (grantN a b) (grantB a b) := by rw [gl, if_pos h]
theorem gl_bad {n : Nat} {a b : Int} (h : grantC a b ≠ 0) : gl (n + 1) a b = [gq a b] := by rw [gl, if_neg h]
theorem gl_le : ∀ (n : Nat) (a b : Int), (gl n a b).length ≤ n
  | 0, _, _ => Nat.le_refl 0
  | n + 1, a, b => by
    have := gl_le n (grantN a b) (grantB a b)
    unfold gl
    split <;> simp <;> omega
theorem grant_next {a b : Int} (h : oFault a b = 0) (hc : grantC a b = 0) : oFault (grantN a b) (grantB a b) = 0 := by
  obtain ⟨h1, h2, h3⟩ := oFault_zero h
  have hn : ¬ (a = b ∧ 99990 < b) := by
    intro k
    unfold grantC at hc
    rw [if_pos k] at hc
    omega
  have e1 : grantN a b = a + 1 := by unfold grantN; rw [if_neg hn]
  have e2 : grantB a b = if a = b then b + 10 else b := by
    unfold grantB
    split
    · rw [if_neg (by omega)]
    · rfl
  rw [e1, e2]
  apply oFault_ok <;> split <;> omega
/-- The times of a list of grants, and the oracle behind the last. -/
def tms (xs : List Q4) : List Int := xs.map fun q => q.2.1
def orA (a : Int) (xs : List Q4) : Int := match xs.getLast? with | some q => q.2.2.1 | none => a
def orB (b : Int) (xs : List Q4) : Int := match xs.getLast? with | some q => q.2.2.2 | none => b
/-- What is answered of a list of grants: the last one's code; where that is 0 the times and the oracle. -/
def ansC (xs : List Q4) : Int := match xs.getLast? with | some q => q.1 | none => 0
def ansL (xs : List Q4) : List Int := if ansC xs = 0 then tms xs else []
def ansA (a : Int) (xs : List Q4) : Int := if ansC xs = 0 then orA a xs else 0
def ansB (b : Int) (xs : List Q4) : Int := if ansC xs = 0 then orB b xs else 0
theorem tms_snoc (pre : List Q4) (q : Q4) : tms (pre ++ [q]) = tms pre ++ [q.2.1] := by simp [tms]
theorem tms_length (xs : List Q4) : (tms xs).length = xs.length := by simp [tms]
theorem orA_snoc (a : Int) (pre : List Q4) (q : Q4) : orA a (pre ++ [q]) = q.2.2.1 := by simp [orA]
theorem orB_snoc (b : Int) (pre : List Q4) (q : Q4) : orB b (pre ++ [q]) = q.2.2.2 := by simp [orB]
theorem ansC_snoc (pre : List Q4) (q : Q4) : ansC (pre ++ [q]) = q.1 := by simp [ansC]
theorem ans_bad {pre : List Q4} {q : Q4} {a b : Int} (h : q.1 ≠ 0) : ansC (pre ++ [q]) = q.1 ∧ ansL (pre ++ [q]) = [] ∧ ansA a (pre ++ [q]) = 0 ∧ ansB b (pre ++ [q]) = 0 := by
  unfold ansL ansA ansB
  rw [ansC_snoc, if_neg h, if_neg h, if_neg h]
  exact ⟨rfl, rfl, rfl, rfl⟩
theorem ansL_le {n : Nat} {a b : Int} : (ansL (gl n a b)).length ≤ n := by
  unfold ansL
  split
  · rw [tms_length]; exact gl_le n a b
  · exact Nat.zero_le _

set_option maxHeartbeats 400000 in
theorem l1In_tell (v lo hi : Int) (w : World) (r : Bool) (h : decide (lo ≤ v ∧ v ≤ hi) = r) :
    Calls Try.prog 32 #[.int .i64 v, .int .i64 lo, .int .i64 hi] w fun e w' => e = .returned (.bool r) ∧ w' = w := by
  by_cases h1 : lo ≤ v
  · by_cases h2 : v ≤ hi
    · obtain rfl : r = true := by rw [← h]; exact decide_eq_true ⟨h1, h2⟩
      have d2 : decide (v ≤ hi) = true := decide_eq_true h2
      clear h
      go_enter Try.func32, Try.ntmps32
      go_wp2
      go_ret
      exact ⟨rfl, rfl⟩
    · obtain rfl : r = false := by rw [← h]; exact decide_eq_false (fun k => h2 k.2)
      have d2 : decide (v ≤ hi) = false := decide_eq_false h2
      clear h
      go_enter Try.func32, Try.ntmps32
      go_wp2
      go_ret
      exact ⟨rfl, rfl⟩
  · obtain rfl : r = false := by rw [← h]; exact decide_eq_false (fun k => h1 k.1)
    have d1 : decide (lo ≤ v) = false := decide_eq_false h1
    clear h
    go_enter Try.func32, Try.ntmps32
    go_wp2
    go_ret
    exact ⟨rfl, rfl⟩

set_option maxHeartbeats 1000000 in
theorem specMany_bad (a b n : Int) (w : World) (h : oFault a b ≠ 0) :
    Calls Try.prog 12 #[.agg #[.int .i64 a, .int .i64 b], .int .i64 n] w fun e w' => e = .returned (.agg #[.int .i64 (oFault a b), .slice none 0 0, .int .i64 0, .int .i64 0]) ∧ Below w.heap.size w w' := by
  have d0 : (oFault a b != 0) = true := by rw [bne_iff_ne]; exact h
  obtain ⟨c, hc⟩ : ∃ c, oFault a b = c := ⟨_, rfl⟩
  rw [hc] at d0 ⊢
  have HC : Hid (oFault a b = c) := hc
  clear h hc
  go_enter Try.func12, Try.ntmps12
  go_wp2_with fail
  refine (l5Fault_any a b _ _ (by simp) (by simp)).mono ?_
  rintro e w1 ⟨rfl, q, rfl⟩
  rw [HC.out]
  go_wp2
  exact bodyPost_ret (v := .agg #[.int .i64 c, .slice none 0 0, .int .i64 0, .int .i64 0]) (by simp [results, Try.results12, go_sem]) rfl ⟨rfl, by repeat (first | exact Below.refl _ _ | refine below_drewN ?_ _ | refine Below.setCell ?_ (by first | omega | (simp <;> omega)) _ | refine Below.alloc ?_ (by first | omega | (simp <;> omega)) _)⟩
set_option maxHeartbeats 1000000 in
theorem specMany_range (a b n : Int) (w : World) (h : oFault a b = 0) (hn : n < 0 ∨ 100 < n) :
    Calls Try.prog 12 #[.agg #[.int .i64 a, .int .i64 b], .int .i64 n] w fun e w' => e = .returned (.agg #[.int .i64 3, .slice none 0 0, .int .i64 0, .int .i64 0]) ∧ Below w.heap.size w w' := by
  have HC : Hid (oFault a b = 0) := h
  have HN : Hid (decide (0 ≤ n ∧ n ≤ 100) = false) := decide_eq_false (by omega)
  clear h hn
  go_enter Try.func12, Try.ntmps12
  go_wp2_with fail
  refine (l5Fault_any a b _ _ (by simp) (by simp)).mono ?_
  rintro e w1 ⟨rfl, q, rfl⟩
  rw [HC.out]
  go_wp2_with fail
  refine (l1In_tell _ _ _ _ _ HN.out).mono ?_
  rintro e w1 ⟨rfl, rfl⟩
  go_wp2
  exact bodyPost_ret (v := .agg #[.int .i64 3, .slice none 0 0, .int .i64 0, .int .i64 0]) (by simp [results, Try.results12, go_sem]) rfl ⟨rfl, by repeat (first | exact Below.refl _ _ | refine below_drewN ?_ _ | refine Below.setCell ?_ (by first | omega | (simp <;> omega)) _ | refine Below.alloc ?_ (by first | omega | (simp <;> omega)) _)⟩
end Go.Proofs.Ytbljhkhpfhphgaa
