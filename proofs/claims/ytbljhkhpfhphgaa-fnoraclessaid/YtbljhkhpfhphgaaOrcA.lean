/-
  Own text. Chapter 5: what the functions of an oracle answer (OracleFault, NewOracle, GrantTs, CrashOracle), the program's and the model's: the same plain functions at every argument; no condition.
-/
import Derived.Test.YtbljhkhpfhphgaaRows
import Derived.WalkKit
import Derived.WalkLawsBesides
import Derived.ProofKit
import Derived.OpenShut
import Derived.Handy
import Derived.BigQuiet
import Derived.Deep.QuietTactic
import Derived.WalkSmall
namespace Go.Proofs.Ytbljhkhpfhphgaa
open Go.RowKit

/-- What is told of an oracle. -/
def oFault (a b : Int) : Int := if (a < 1 ∨ 100000 < a) ∨ (b < 1 ∨ 100000 < b) then 3 else if b < a then 1 else 0
theorem oFault_range {a b : Int} (h : (a < 1 ∨ 100000 < a) ∨ (b < 1 ∨ 100000 < b)) : oFault a b = 3 := by unfold oFault; rw [if_pos h]
theorem oFault_form {a b : Int} (h : ¬ ((a < 1 ∨ 100000 < a) ∨ (b < 1 ∨ 100000 < b))) (h2 : b < a) : oFault a b = 1 := by unfold oFault; rw [if_neg h, if_pos h2]
theorem oFault_ok {a b : Int} (h : ¬ ((a < 1 ∨ 100000 < a) ∨ (b < 1 ∨ 100000 < b))) (h2 : ¬ b < a) : oFault a b = 0 := by unfold oFault; rw [if_neg h, if_neg h2]


set_option maxHeartbeats 1000000 in
theorem l5Fault_any (a b : Int) (g : Nat) (w : World) (c0 : w.cell? ⟨g, 0, none⟩ = some (.int .i64 a)) (c1 : w.cell? ⟨g, 1, none⟩ = some (.int .i64 b)) :
    Calls Try.prog 31 #[.pointer (some ⟨g, 0, none⟩)] w fun e w' => e = .returned (.int .i64 (oFault a b)) ∧ ∃ n, w' = w.drewN n := by
  by_cases h1 : a < 1
  · rw [oFault_range (by omega)]
    go_enter Try.func31, Try.ntmps31
    go_wp2
    first | (go_ret; exact ⟨rfl, rfl⟩) | (go_ret; exact ⟨rfl, 0, rfl⟩) | (go_quiet (fail); go_wp2; go_ret; exact ⟨rfl, _, rfl⟩)
  by_cases h2 : 100000 < a
  · rw [oFault_range (by omega)]
    have d1 : decide (a ≤ 100000) = false := decide_eq_false (by omega)
    go_enter Try.func31, Try.ntmps31
    go_wp2
    first | (go_ret; exact ⟨rfl, rfl⟩) | (go_ret; exact ⟨rfl, 0, rfl⟩) | (go_quiet (fail); go_wp2; go_ret; exact ⟨rfl, _, rfl⟩)
  have d1 : decide (a ≤ 100000) = true := decide_eq_true (by omega)
  by_cases h3 : b < 1
  · rw [oFault_range (by omega)]
    go_enter Try.func31, Try.ntmps31
    go_wp2
    first | (go_ret; exact ⟨rfl, rfl⟩) | (go_ret; exact ⟨rfl, 0, rfl⟩) | (go_quiet (fail); go_wp2; go_ret; exact ⟨rfl, _, rfl⟩)
  by_cases h4 : 100000 < b
  · rw [oFault_range (by omega)]
    have d2 : decide (b ≤ 100000) = false := decide_eq_false (by omega)
    go_enter Try.func31, Try.ntmps31
    go_wp2
    first | (go_ret; exact ⟨rfl, rfl⟩) | (go_ret; exact ⟨rfl, 0, rfl⟩) | (go_quiet (fail); go_wp2; go_ret; exact ⟨rfl, _, rfl⟩)
  have d2 : decide (b ≤ 100000) = true := decide_eq_true (by omega)
  by_cases h5 : b < a
  · rw [oFault_form (by omega) h5]
    go_enter Try.func31, Try.ntmps31
    go_wp2
    first | (go_ret; exact ⟨rfl, rfl⟩) | (go_ret; exact ⟨rfl, 0, rfl⟩) | (go_quiet (fail); go_wp2; go_ret; exact ⟨rfl, _, rfl⟩)
  · rw [oFault_ok (by omega) h5]
    go_enter Try.func31, Try.ntmps31
    go_wp2
    first | (go_ret; exact ⟨rfl, rfl⟩) | (go_ret; exact ⟨rfl, 0, rfl⟩) | (go_quiet (fail); go_wp2; go_ret; exact ⟨rfl, _, rfl⟩)

set_option maxHeartbeats 1000000 in
theorem implOracleFault_any (a b : Int) (w : World) :
    Calls Try.prog 15 #[.agg #[.int .i64 a, .int .i64 b]] w fun e w' => e = .returned (.int .i64 (oFault a b)) ∧ w' = w.alloc (.cells #[.int .i64 a, .int .i64 b] 25) := by
  by_cases h1 : a < 1
  · rw [oFault_range (by omega)]
    go_enter Try.func15, Try.ntmps15
    go_wp2
    first | (go_ret; exact ⟨rfl, rfl⟩) | (go_ret; exact ⟨rfl, 0, rfl⟩) | (go_quiet (fail); go_wp2; go_ret; exact ⟨rfl, _, rfl⟩)
  by_cases h2 : 100000 < a
  · rw [oFault_range (by omega)]
    have d1 : decide (a ≤ 100000) = false := decide_eq_false (by omega)
    go_enter Try.func15, Try.ntmps15
    go_wp2
    first | (go_ret; exact ⟨rfl, rfl⟩) | (go_ret; exact ⟨rfl, 0, rfl⟩) | (go_quiet (fail); go_wp2; go_ret; exact ⟨rfl, _, rfl⟩)
  have d1 : decide (a ≤ 100000) = true := decide_eq_true (by omega)
  by_cases h3 : b < 1
  · rw [oFault_range (by omega)]
    go_enter Try.func15, Try.ntmps15
    go_wp2
    first | (go_ret; exact ⟨rfl, rfl⟩) | (go_ret; exact ⟨rfl, 0, rfl⟩) | (go_quiet (fail); go_wp2; go_ret; exact ⟨rfl, _, rfl⟩)
  by_cases h4 : 100000 < b
  · rw [oFault_range (by omega)]
    have d2 : decide (b ≤ 100000) = false := decide_eq_false (by omega)
    go_enter Try.func15, Try.ntmps15
    go_wp2
    first | (go_ret; exact ⟨rfl, rfl⟩) | (go_ret; exact ⟨rfl, 0, rfl⟩) | (go_quiet (fail); go_wp2; go_ret; exact ⟨rfl, _, rfl⟩)
  have d2 : decide (b ≤ 100000) = true := decide_eq_true (by omega)
  by_cases h5 : b < a
  · rw [oFault_form (by omega) h5]
    go_enter Try.func15, Try.ntmps15
    go_wp2
    first | (go_ret; exact ⟨rfl, rfl⟩) | (go_ret; exact ⟨rfl, 0, rfl⟩) | (go_quiet (fail); go_wp2; go_ret; exact ⟨rfl, _, rfl⟩)
  · rw [oFault_ok (by omega) h5]
    go_enter Try.func15, Try.ntmps15
    go_wp2
    first | (go_ret; exact ⟨rfl, rfl⟩) | (go_ret; exact ⟨rfl, 0, rfl⟩) | (go_quiet (fail); go_wp2; go_ret; exact ⟨rfl, _, rfl⟩)

/-- A code, a time and an oracle. -/
def oRes (c t a b : Int) : Value := .agg #[.int .i64 c, .int .i64 t, .int .i64 a, .int .i64 b]
set_option maxHeartbeats 1000000 in
theorem specOracleFault_any (a b : Int) (w : World) :
    Calls Try.prog 16 #[.agg #[.int .i64 a, .int .i64 b]] w fun e w' => e = .returned (.int .i64 (oFault a b)) ∧ Below w.heap.size w w' := by
  go_enter Try.func16, Try.ntmps16
  go_wp2_with fail
  refine (l5Fault_any a b _ _ (by simp) (by simp)).mono ?_
  rintro e w1 ⟨rfl, n, rfl⟩
  go_wp2
  go_ret
  exact ⟨rfl, below_drewN ((Below.refl _ _).alloc (Nat.le_refl _) _) _⟩
theorem specNewOracle_any (f : Int) (w : World) :
    Calls Try.prog 18 #[.int .i64 f] w fun e w' => e = .returned (.agg #[.int .i64 (if f < 1 ∨ 100000 < f then 3 else 0), .int .i64 0, .int .i64 (if f < 1 ∨ 100000 < f then 0 else f), .int .i64 (if f < 1 ∨ 100000 < f then 0 else f)]) ∧ Below w.heap.size w w' := by
  by_cases h1 : f < 1
  · rw [if_pos (by omega), if_pos (by omega)]
    go_enter Try.func18, Try.ntmps18
    go_wp2
    exact bodyPost_ret (v := .agg #[.int .i64 3, .int .i64 0, .int .i64 0, .int .i64 0]) (by simp [results, Try.results18, go_sem]) rfl ⟨rfl, by repeat (first | exact Below.refl _ _ | assumption | refine Below.setCell ?_ (by first | omega | (simp <;> omega)) _ | refine Below.alloc ?_ (by first | omega | (simp <;> omega)) _)⟩
  by_cases h2 : 100000 < f
  · rw [if_pos (by omega), if_pos (by omega)]
    have d1 : decide (f ≤ 100000) = false := decide_eq_false (by omega)
    go_enter Try.func18, Try.ntmps18
    go_wp2
    exact bodyPost_ret (v := .agg #[.int .i64 3, .int .i64 0, .int .i64 0, .int .i64 0]) (by simp [results, Try.results18, go_sem]) rfl ⟨rfl, by repeat (first | exact Below.refl _ _ | assumption | refine Below.setCell ?_ (by first | omega | (simp <;> omega)) _ | refine Below.alloc ?_ (by first | omega | (simp <;> omega)) _)⟩
  · rw [if_neg (by omega), if_neg (by omega)]
    have d1 : decide (f ≤ 100000) = true := decide_eq_true (by omega)
    go_enter Try.func18, Try.ntmps18
    go_wp2
    exact bodyPost_ret (v := .agg #[.int .i64 0, .int .i64 0, .int .i64 f, .int .i64 f]) (by simp [results, Try.results18, go_sem]) rfl ⟨rfl, by repeat (first | exact Below.refl _ _ | assumption | refine Below.setCell ?_ (by first | omega | (simp <;> omega)) _ | refine Below.alloc ?_ (by first | omega | (simp <;> omega)) _)⟩
theorem implNewOracle_any (f : Int) (w : World) :
    Calls Try.prog 19 #[.int .i64 f] w fun e w' => e = .returned (.agg #[.int .i64 (if f < 1 ∨ 100000 < f then 3 else 0), .int .i64 0, .int .i64 (if f < 1 ∨ 100000 < f then 0 else f), .int .i64 (if f < 1 ∨ 100000 < f then 0 else f)]) ∧ Below w.heap.size w w' := by
  by_cases h1 : f < 1
  · rw [if_pos (by omega), if_pos (by omega)]
    go_enter Try.func19, Try.ntmps19
    go_wp2
    exact bodyPost_ret (v := .agg #[.int .i64 3, .int .i64 0, .int .i64 0, .int .i64 0]) (by simp [results, Try.results19, go_sem]) rfl ⟨rfl, by repeat (first | exact Below.refl _ _ | assumption | refine Below.setCell ?_ (by first | omega | (simp <;> omega)) _ | refine Below.alloc ?_ (by first | omega | (simp <;> omega)) _)⟩
  by_cases h2 : 100000 < f
  · rw [if_pos (by omega), if_pos (by omega)]
    have d1 : decide (f ≤ 100000) = false := decide_eq_false (by omega)
    go_enter Try.func19, Try.ntmps19
    go_wp2
    exact bodyPost_ret (v := .agg #[.int .i64 3, .int .i64 0, .int .i64 0, .int .i64 0]) (by simp [results, Try.results19, go_sem]) rfl ⟨rfl, by repeat (first | exact Below.refl _ _ | assumption | refine Below.setCell ?_ (by first | omega | (simp <;> omega)) _ | refine Below.alloc ?_ (by first | omega | (simp <;> omega)) _)⟩
  · rw [if_neg (by omega), if_neg (by omega)]
    have d1 : decide (f ≤ 100000) = true := decide_eq_true (by omega)
    go_enter Try.func19, Try.ntmps19
    go_wp2
    exact bodyPost_ret (v := .agg #[.int .i64 0, .int .i64 0, .int .i64 f, .int .i64 f]) (by simp [results, Try.results19, go_sem]) rfl ⟨rfl, by repeat (first | exact Below.refl _ _ | assumption | refine Below.setCell ?_ (by first | omega | (simp <;> omega)) _ | refine Below.alloc ?_ (by first | omega | (simp <;> omega)) _)⟩

/-- What a grant is, of an oracle without a fault: a code, a time, the oracle behind it. -/
def grantC (a b : Int) : Int := if a = b ∧ 99990 < b then 2 else 0
def grantT (a b : Int) : Int := if a = b ∧ 99990 < b then 0 else a
def grantN (a b : Int) : Int := if a = b ∧ 99990 < b then 0 else a + 1
def grantB (a b : Int) : Int := if a = b then (if 99990 < b then 0 else b + 10) else b
set_option maxHeartbeats 1000000 in
theorem l5Grant_any (a b : Int) (w : World) (ha : 1 ≤ a) (hab : a ≤ b) (hb : b ≤ 100000) :
    Calls Try.prog 33 #[.agg #[.int .i64 a, .int .i64 b]] w fun e w' => e = .returned (.agg #[.int .i64 (grantC a b), .int .i64 (grantT a b), .int .i64 (grantN a b), .int .i64 (grantB a b)]) ∧ Below w.heap.size w w' := by
  by_cases h1 : a = b
  · subst h1
    by_cases h2 : 99990 < a
    · have e0 : grantC a a = 2 := by unfold grantC; rw [if_pos ⟨rfl, h2⟩]
      have e1 : grantT a a = 0 := by unfold grantT; rw [if_pos ⟨rfl, h2⟩]
      have e2 : grantN a a = 0 := by unfold grantN; rw [if_pos ⟨rfl, h2⟩]
      have e3 : grantB a a = 0 := by unfold grantB; rw [if_pos rfl, if_pos h2]
      rw [e0, e1, e2, e3]
      clear e0 e1 e2 e3
      have d1 : decide (100000 < a + 10) = true := decide_eq_true (by omega)
      go_enter Try.func33, Try.ntmps33
      go_wp2
      exact bodyPost_ret (v := .agg #[.int .i64 2, .int .i64 0, .int .i64 0, .int .i64 0]) (by simp [results, Try.results33, go_sem]) rfl ⟨rfl, by repeat (first | exact Below.refl _ _ | assumption | refine Below.setCell ?_ (by first | omega | (simp <;> omega)) _ | refine Below.alloc ?_ (by first | omega | (simp <;> omega)) _)⟩
    · have e0 : grantC a a = 0 := by unfold grantC; rw [if_neg (by omega)]
      have e1 : grantT a a = a := by unfold grantT; rw [if_neg (by omega)]
      have e2 : grantN a a = a + 1 := by unfold grantN; rw [if_neg (by omega)]
      have e3 : grantB a a = a + 10 := by unfold grantB; rw [if_pos rfl, if_neg h2]
      rw [e0, e1, e2, e3]
      clear e0 e1 e2 e3
      have d1 : decide (100000 < a + 10) = false := decide_eq_false (by omega)
      go_enter Try.func33, Try.ntmps33
      go_wp2
      exact bodyPost_ret (v := .agg #[.int .i64 0, .int .i64 a, .int .i64 (a + 1), .int .i64 (a + 10)]) (by simp [results, Try.results33, go_sem]) rfl ⟨rfl, by repeat (first | exact Below.refl _ _ | assumption | refine Below.setCell ?_ (by first | omega | (simp <;> omega)) _ | refine Below.alloc ?_ (by first | omega | (simp <;> omega)) _)⟩
  · have e0 : grantC a b = 0 := by unfold grantC; rw [if_neg (by omega)]
    have e1 : grantT a b = a := by unfold grantT; rw [if_neg (by omega)]
    have e2 : grantN a b = a + 1 := by unfold grantN; rw [if_neg (by omega)]
    have e3 : grantB a b = b := by unfold grantB; rw [if_neg (by omega)]
    rw [e0, e1, e2, e3]
    clear e0 e1 e2 e3
    have d1 : (a == b) = false := beq_eq_false_iff_ne.2 h1
    go_enter Try.func33, Try.ntmps33
    go_wp2
    exact bodyPost_ret (v := .agg #[.int .i64 0, .int .i64 a, .int .i64 (a + 1), .int .i64 b]) (by simp [results, Try.results33, go_sem]) rfl ⟨rfl, by repeat (first | exact Below.refl _ _ | assumption | refine Below.setCell ?_ (by first | omega | (simp <;> omega)) _ | refine Below.alloc ?_ (by first | omega | (simp <;> omega)) _)⟩
end Go.Proofs.Ytbljhkhpfhphgaa
