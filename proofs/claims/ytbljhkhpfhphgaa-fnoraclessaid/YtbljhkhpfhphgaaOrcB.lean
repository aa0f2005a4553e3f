/-
  Own text. Chapter 5: GrantTs and CrashOracle of the program and of the model, and the helpers of the laws over an oracle: what they answer at every argument; no condition.
-/
import Derived.Test.YtbljhkhpfhphgaaOrcA
namespace Go.Proofs.Ytbljhkhpfhphgaa
open Go.RowKit

theorem oFault_zero {a b : Int} (h : oFault a b = 0) : 1 ≤ a ∧ a ≤ b ∧ b ≤ 100000 := by
  unfold oFault at h
  split at h
  · omega
  · split at h
    · omega
    · omega
set_option maxHeartbeats 1000000 in
theorem implGrantTs_bad (a b : Int) (w : World) (h : oFault a b ≠ 0) :
    Calls Try.prog 14 #[.agg #[.int .i64 a, .int .i64 b]] w fun e w' => e = .returned (.agg #[.int .i64 (oFault a b), .int .i64 0, .int .i64 0, .int .i64 0]) ∧ Below w.heap.size w w' := by
  have d0 : (oFault a b != 0) = true := by rw [bne_iff_ne]; exact h
  obtain ⟨c, hc⟩ : ∃ c, oFault a b = c := ⟨_, rfl⟩
  rw [hc] at d0 ⊢
  have HC : Hid (oFault a b = c) := hc
  clear h hc
  go_enter Try.func14, Try.ntmps14
  go_wp2_with fail
  refine (implOracleFault_any a b _).mono ?_
  rintro e w1 ⟨rfl, rfl⟩
  rw [HC.out]
  go_wp2
  exact bodyPost_ret (v := .agg #[.int .i64 c, .int .i64 0, .int .i64 0, .int .i64 0]) (by simp [results, Try.results14, go_sem]) rfl ⟨rfl, by repeat (first | exact Below.refl _ _ | refine below_drewN ?_ _ | refine Below.setCell ?_ (by first | omega | (simp <;> omega)) _ | refine Below.alloc ?_ (by first | omega | (simp <;> omega)) _)⟩
set_option maxHeartbeats 1000000 in
theorem implCrash_bad (a b : Int) (w : World) (h : oFault a b ≠ 0) :
    Calls Try.prog 13 #[.agg #[.int .i64 a, .int .i64 b]] w fun e w' => e = .returned (.agg #[.int .i64 (oFault a b), .int .i64 0, .int .i64 0, .int .i64 0]) ∧ Below w.heap.size w w' := by
  have d0 : (oFault a b != 0) = true := by rw [bne_iff_ne]; exact h
  obtain ⟨c, hc⟩ : ∃ c, oFault a b = c := ⟨_, rfl⟩
  rw [hc] at d0 ⊢
  have HC : Hid (oFault a b = c) := hc
  clear h hc
  go_enter Try.func13, Try.ntmps13
  go_wp2_with fail
  refine (implOracleFault_any a b _).mono ?_
  rintro e w1 ⟨rfl, rfl⟩
  rw [HC.out]
  go_wp2
  exact bodyPost_ret (v := .agg #[.int .i64 c, .int .i64 0, .int .i64 0, .int .i64 0]) (by simp [results, Try.results13, go_sem]) rfl ⟨rfl, by repeat (first | exact Below.refl _ _ | refine below_drewN ?_ _ | refine Below.setCell ?_ (by first | omega | (simp <;> omega)) _ | refine Below.alloc ?_ (by first | omega | (simp <;> omega)) _)⟩
set_option maxHeartbeats 1000000 in
theorem implCrash_ok (a b : Int) (w : World) (h : oFault a b = 0) :
    Calls Try.prog 13 #[.agg #[.int .i64 a, .int .i64 b]] w fun e w' => e = .returned (.agg #[.int .i64 0, .int .i64 0, .int .i64 b, .int .i64 b]) ∧ Below w.heap.size w w' := by
  have HC : Hid (oFault a b = 0) := h
  clear h
  go_enter Try.func13, Try.ntmps13
  go_wp2_with fail
  refine (implOracleFault_any a b _).mono ?_
  rintro e w1 ⟨rfl, rfl⟩
  rw [HC.out]
  go_wp2
  exact bodyPost_ret (v := .agg #[.int .i64 0, .int .i64 0, .int .i64 b, .int .i64 b]) (by simp [results, Try.results13, go_sem]) rfl ⟨rfl, by repeat (first | exact Below.refl _ _ | refine below_drewN ?_ _ | refine Below.setCell ?_ (by first | omega | (simp <;> omega)) _ | refine Below.alloc ?_ (by first | omega | (simp <;> omega)) _)⟩
set_option maxHeartbeats 1000000 in
theorem specGrantTs_bad (a b : Int) (w : World) (h : oFault a b ≠ 0) :
    Calls Try.prog 21 #[.agg #[.int .i64 a, .int .i64 b]] w fun e w' => e = .returned (.agg #[.int .i64 (oFault a b), .int .i64 0, .int .i64 0, .int .i64 0]) ∧ Below w.heap.size w w' := by
  have d0 : (oFault a b != 0) = true := by rw [bne_iff_ne]; exact h
  obtain ⟨c, hc⟩ : ∃ c, oFault a b = c := ⟨_, rfl⟩
  rw [hc] at d0 ⊢
  have HC : Hid (oFault a b = c) := hc
  clear h hc
  go_enter Try.func21, Try.ntmps21
  go_wp2_with fail
  refine (l5Fault_any a b _ _ (by simp) (by simp)).mono ?_
  rintro e w1 ⟨rfl, q, rfl⟩
  rw [HC.out]
  go_wp2
  exact bodyPost_ret (v := .agg #[.int .i64 c, .int .i64 0, .int .i64 0, .int .i64 0]) (by simp [results, Try.results21, go_sem]) rfl ⟨rfl, by repeat (first | exact Below.refl _ _ | refine below_drewN ?_ _ | refine Below.setCell ?_ (by first | omega | (simp <;> omega)) _ | refine Below.alloc ?_ (by first | omega | (simp <;> omega)) _)⟩
set_option maxHeartbeats 1000000 in
theorem specCrash_bad (a b : Int) (w : World) (h : oFault a b ≠ 0) :
    Calls Try.prog 22 #[.agg #[.int .i64 a, .int .i64 b]] w fun e w' => e = .returned (.agg #[.int .i64 (oFault a b), .int .i64 0, .int .i64 0, .int .i64 0]) ∧ Below w.heap.size w w' := by
  have d0 : (oFault a b != 0) = true := by rw [bne_iff_ne]; exact h
  obtain ⟨c, hc⟩ : ∃ c, oFault a b = c := ⟨_, rfl⟩
  rw [hc] at d0 ⊢
  have HC : Hid (oFault a b = c) := hc
  clear h hc
  go_enter Try.func22, Try.ntmps22
  go_wp2_with fail
  refine (l5Fault_any a b _ _ (by simp) (by simp)).mono ?_
  rintro e w1 ⟨rfl, q, rfl⟩
  rw [HC.out]
  go_wp2
  exact bodyPost_ret (v := .agg #[.int .i64 c, .int .i64 0, .int .i64 0, .int .i64 0]) (by simp [results, Try.results22, go_sem]) rfl ⟨rfl, by repeat (first | exact Below.refl _ _ | refine below_drewN ?_ _ | refine Below.setCell ?_ (by first | omega | (simp <;> omega)) _ | refine Below.alloc ?_ (by first | omega | (simp <;> omega)) _)⟩
set_option maxHeartbeats 1000000 in
theorem specCrash_ok (a b : Int) (w : World) (h : oFault a b = 0) :
    Calls Try.prog 22 #[.agg #[.int .i64 a, .int .i64 b]] w fun e w' => e = .returned (.agg #[.int .i64 0, .int .i64 0, .int .i64 b, .int .i64 b]) ∧ Below w.heap.size w w' := by
  have HC : Hid (oFault a b = 0) := h
  clear h
  go_enter Try.func22, Try.ntmps22
  go_wp2_with fail
  refine (l5Fault_any a b _ _ (by simp) (by simp)).mono ?_
  rintro e w1 ⟨rfl, q, rfl⟩
  rw [HC.out]
  go_wp2
  exact bodyPost_ret (v := .agg #[.int .i64 0, .int .i64 0, .int .i64 b, .int .i64 b]) (by simp [results, Try.results22, go_sem]) rfl ⟨rfl, by repeat (first | exact Below.refl _ _ | refine below_drewN ?_ _ | refine Below.setCell ?_ (by first | omega | (simp <;> omega)) _ | refine Below.alloc ?_ (by first | omega | (simp <;> omega)) _)⟩
set_option maxHeartbeats 1000000 in
theorem implGrantTs_ok (a b : Int) (w : World) (h : oFault a b = 0) :
    Calls Try.prog 14 #[.agg #[.int .i64 a, .int .i64 b]] w fun e w' => e = .returned (.agg #[.int .i64 (grantC a b), .int .i64 (grantT a b), .int .i64 (grantN a b), .int .i64 (grantB a b)]) ∧ Below w.heap.size w w' := by
  obtain ⟨ha, hab, hb⟩ := oFault_zero h
  have HC : Hid (oFault a b = 0) := h
  clear h
  by_cases h1 : a = b
  · subst h1
    by_cases h2 : 99990 < a
    · have e0 : grantC a a = 2 := by unfold grantC; rw [if_pos ⟨rfl, h2⟩]
      have e1 : grantT a a = 0 := by unfold grantT; rw [if_pos ⟨rfl, h2⟩]
      have e2 : grantN a a = 0 := by unfold grantN; rw [if_pos ⟨rfl, h2⟩]
      have e3 : grantB a a = 0 := by unfold grantB; rw [if_pos rfl, if_pos h2]
      rw [e0, e1, e2, e3]
      clear e0 e1 e2 e3
      go_enter Try.func14, Try.ntmps14
      go_wp2_with fail
      refine (implOracleFault_any _ _ _).mono ?_
      rintro e w1 ⟨rfl, rfl⟩
      rw [HC.out]
      go_wp2
      exact bodyPost_ret (v := .agg #[.int .i64 2, .int .i64 0, .int .i64 0, .int .i64 0]) (by simp [results, Try.results14, go_sem]) rfl ⟨rfl, by repeat (first | exact Below.refl _ _ | refine below_drewN ?_ _ | refine Below.setCell ?_ (by first | omega | (simp <;> omega)) _ | refine Below.alloc ?_ (by first | omega | (simp <;> omega)) _)⟩
    · have e0 : grantC a a = 0 := by unfold grantC; rw [if_neg (by omega)]
      have e1 : grantT a a = a := by unfold grantT; rw [if_neg (by omega)]
      have e2 : grantN a a = a + 1 := by unfold grantN; rw [if_neg (by omega)]
      have e3 : grantB a a = a + 10 := by unfold grantB; rw [if_pos rfl, if_neg h2]
      rw [e0, e1, e2, e3]
      clear e0 e1 e2 e3
      go_enter Try.func14, Try.ntmps14
      go_wp2_with fail
      refine (implOracleFault_any _ _ _).mono ?_
      rintro e w1 ⟨rfl, rfl⟩
      rw [HC.out]
      go_wp2
      exact bodyPost_ret (v := .agg #[.int .i64 0, .int .i64 a, .int .i64 (a + 1), .int .i64 (a + 10)]) (by simp [results, Try.results14, go_sem]) rfl ⟨rfl, by repeat (first | exact Below.refl _ _ | refine below_drewN ?_ _ | refine Below.setCell ?_ (by first | omega | (simp <;> omega)) _ | refine Below.alloc ?_ (by first | omega | (simp <;> omega)) _)⟩
  · have e0 : grantC a b = 0 := by unfold grantC; rw [if_neg (by omega)]
    have e1 : grantT a b = a := by unfold grantT; rw [if_neg (by omega)]
    have e2 : grantN a b = a + 1 := by unfold grantN; rw [if_neg (by omega)]
    have e3 : grantB a b = b := by unfold grantB; rw [if_neg (by omega)]
    rw [e0, e1, e2, e3]
    clear e0 e1 e2 e3
    have d1 : (a == b) = false := beq_eq_false_iff_ne.2 h1
    go_enter Try.func14, Try.ntmps14
    go_wp2_with fail
    refine (implOracleFault_any _ _ _).mono ?_
    rintro e w1 ⟨rfl, rfl⟩
    rw [HC.out]
    go_wp2
    exact bodyPost_ret (v := .agg #[.int .i64 0, .int .i64 a, .int .i64 (a + 1), .int .i64 b]) (by simp [results, Try.results14, go_sem]) rfl ⟨rfl, by repeat (first | exact Below.refl _ _ | refine below_drewN ?_ _ | refine Below.setCell ?_ (by first | omega | (simp <;> omega)) _ | refine Below.alloc ?_ (by first | omega | (simp <;> omega)) _)⟩
set_option maxHeartbeats 1000000 in
theorem specGrantTs_ok (a b : Int) (w : World) (h : oFault a b = 0) :
    Calls Try.prog 21 #[.agg #[.int .i64 a, .int .i64 b]] w fun e w' => e = .returned (.agg #[.int .i64 (grantC a b), .int .i64 (grantT a b), .int .i64 (grantN a b), .int .i64 (grantB a b)]) ∧ Below w.heap.size w w' := by
  obtain ⟨ha, hab, hb⟩ := oFault_zero h
  have HC : Hid (oFault a b = 0) := h
  have HG : Hid (∀ w, Calls Try.prog 33 #[.agg #[.int .i64 a, .int .i64 b]] w fun e w' => e = .returned (.agg #[.int .i64 (grantC a b), .int .i64 (grantT a b), .int .i64 (grantN a b), .int .i64 (grantB a b)]) ∧ Below w.heap.size w w') := fun w => l5Grant_any a b w ha hab hb
  clear h ha hab hb
  generalize grantC a b = x0 at *
  generalize grantT a b = x1 at *
  generalize grantN a b = x2 at *
  generalize grantB a b = x3 at *
  go_enter Try.func21, Try.ntmps21
  go_wp2_with fail
  refine (l5Fault_any a b _ _ (by simp) (by simp)).mono ?_
  rintro e w1 ⟨rfl, q, rfl⟩
  rw [HC.out]
  go_wp2_with fail
  refine (HG.out _).mono ?_
  rintro e w2 ⟨rfl, b2⟩
  have c0 : w2.cell? ⟨w.heap.size + 1, 0, none⟩ = some (.int .i64 0) := (b2.cell (p := ⟨w.heap.size + 1, 0, none⟩) (by simp)).trans (by simp)
  have c1 : w2.cell? ⟨w.heap.size + 1, 1, none⟩ = some (.int .i64 0) := (b2.cell (p := ⟨w.heap.size + 1, 1, none⟩) (by simp)).trans (by simp)
  have c2 : w2.cell? ⟨w.heap.size + 1, 2, none⟩ = some (.int .i64 0) := (b2.cell (p := ⟨w.heap.size + 1, 2, none⟩) (by simp)).trans (by simp)
  have c3 : w2.cell? ⟨w.heap.size + 1, 3, none⟩ = some (.int .i64 0) := (b2.cell (p := ⟨w.heap.size + 1, 3, none⟩) (by simp)).trans (by simp)
  have f0 : w2.frozen? ⟨w.heap.size + 1, 0, none⟩ = false := (b2.frozen (p := ⟨w.heap.size + 1, 0, none⟩) (by simp)).trans (by simp)
  have f1 : w2.frozen? ⟨w.heap.size + 1, 1, none⟩ = false := (b2.frozen (p := ⟨w.heap.size + 1, 1, none⟩) (by simp)).trans (by simp)
  have f2 : w2.frozen? ⟨w.heap.size + 1, 2, none⟩ = false := (b2.frozen (p := ⟨w.heap.size + 1, 2, none⟩) (by simp)).trans (by simp)
  have f3 : w2.frozen? ⟨w.heap.size + 1, 3, none⟩ = false := (b2.frozen (p := ⟨w.heap.size + 1, 3, none⟩) (by simp)).trans (by simp)
  have B2 : Hid (Below w.heap.size w w2) := (below_drewN (((Below.refl _ _).alloc (Nat.le_refl _) _).alloc (by simp) _) _).trans (b2.mono (by simp <;> omega))
  clear b2
  go_wp2
  exact bodyPost_ret (v := .agg #[.int .i64 x0, .int .i64 x1, .int .i64 x2, .int .i64 x3]) (by simp [results, Try.results21, go_sem, c0, c1, c2, c3]) rfl ⟨rfl, (((B2.out.setCell (by simp) _).setCell (by simp) _).setCell (by simp) _).setCell (by simp) _⟩

theorem toOracle_any (a b : Int) (w : World) :
    Calls Try.prog 17 #[.agg #[.int .i64 a, .int .i64 b]] w fun e w' => e = .returned (.agg #[.int .i64 a, .int .i64 b]) ∧ Below w.heap.size w w' := by
  go_enter Try.func17, Try.ntmps17
  go_wp2
  exact bodyPost_ret (v := .agg #[.int .i64 a, .int .i64 b]) (by simp [results, Try.results17, go_sem]) rfl ⟨rfl, by repeat (first | exact Below.refl _ _ | refine Below.setCell ?_ (by first | omega | (simp <;> omega)) _ | refine Below.alloc ?_ (by first | omega | (simp <;> omega)) _)⟩
theorem eqOracle_same (a b : Int) (w : World) :
    Calls Try.prog 36 #[.agg #[.int .i64 a, .int .i64 b], .agg #[.int .i64 a, .int .i64 b]] w fun e w' => e = .returned (.bool true) ∧ w' = (w.alloc (.cells #[.int .i64 a, .int .i64 b] 25)).alloc (.cells #[.int .i64 a, .int .i64 b] 25) := by
  go_enter Try.func36, Try.ntmps36
  go_wp2
  go_ret
  exact ⟨rfl, rfl⟩
theorem eqOracleResult_same (c t a b : Int) (w : World) :
    Calls Try.prog 20 #[.agg #[.int .i64 c, .int .i64 t, .int .i64 a, .int .i64 b], .agg #[.int .i64 c, .int .i64 t, .int .i64 a, .int .i64 b]] w fun e w' => e = .returned (.bool true) ∧ Below w.heap.size w w' := by
  go_enter Try.func20, Try.ntmps20
  go_wp2_with fail
  refine (eqOracle_same a b _).mono ?_
  rintro e w1 ⟨rfl, rfl⟩
  go_wp2
  go_ret
  exact ⟨rfl, by repeat (first | exact Below.refl _ _ | refine Below.setCell ?_ (by first | omega | (simp <;> omega)) _ | refine Below.alloc ?_ (by first | omega | (simp <;> omega)) _)⟩
end Go.Proofs.Ytbljhkhpfhphgaa
