/-
  Own text. The walks of the laws of chapter 6 whose answer is a number, a code and a value, or a truth: over every row of ranges they return true and turn nothing that was there.
-/
import Derived.Test.YtabenplbibhbiaaRngB
import Derived.Test.YtabenplbibhbiaaRngE
namespace Go.Proofs.Ytabenplbibhbiaa
open Go.RowKit

theorem specRanges_any (v : Value) (B n : Nat) (F : Nat → Int) (w : World) (h : Row w B 3 n F v) (hn : n ≤ 9223372036854775807) :
    Calls Try.prog 18 #[v] w fun e w' => e = .returned (.int .i64 (rangesF n F)) ∧ Below w.heap.size w w' := by
  have H : Hid (Row w B 3 n F v) := h
  clear h
  obtain ⟨f, hf⟩ : ∃ f, rangesF n F = f := ⟨_, rfl⟩
  rw [hf]
  go_enter Try.func18, Try.ntmps18
  go_wp2_with fail
  refine (l6Fault_any _ B n F _ H.out hn).mono ?_
  rintro e w1 ⟨rfl, q1⟩
  rw [hf]
  have Q : Hid (Below w.heap.size w w1) := q1
  clear q1 hf
  go_wp2
  go_ret
  exact ⟨rfl, Q.out⟩
set_option maxRecDepth 100000 in
set_option maxHeartbeats 2000000 in
theorem exactRangesFault_walk (v : Value) (n : Nat) (F : Nat → Int) (w : World) (h : Row w 0 3 n F v) (hn : n ≤ 9223372036854775807) (_ : ∀ p, (Lit.int .i64 (F p)).wf = true)  :
    Calls Try.prog 4 #[v] w fun e w' => e = .returned (.bool true) ∧ Below w.heap.size w w' := by
  obtain ⟨ao, cp, rfl⟩ := h.form
  have H : Hid (Row w 0 3 n F (.slice ao n cp)) := h
  clear h
  by_cases hs : (1048576 : Int) < n
  · go_enter Try.func4, Try.ntmps4
    go_wp2_with fail
    refine (szRangeS_no _ _ _ _ _ hs (by omega) (by omega) hn).mono ?_
    rintro e w1 ⟨rfl, rfl⟩
    go_wp2
    go_ret
    exact ⟨rfl, Below.refl _ _⟩
  have hb : n ≤ 1048576 := by omega
  have dz : decide ((1048576 : Int) - n < 0) = false := decide_eq_false (by omega)
  clear hs
  obtain ⟨f, hf⟩ : ∃ f, rangesF n F = f := ⟨_, rfl⟩
  have HF : Hid (rangesF n F = f) := hf
  clear hf
  go_enter Try.func4, Try.ntmps4
  go_wp2_with fail
  refine (szRangeS_ok _ _ _ _ _ (by omega) (by omega)).mono ?_
  rintro e w1 ⟨rfl, hw1⟩
  obtain rfl := hw1.symm
  go_wp2_with fail
  refine (toRangeS_any _ 0 n F _ H.out hb).mono ?_
  rintro e w2 ⟨u2, rfl, r2, _, q2⟩
  have Q2 : Hid (Below w.heap.size w w2) := q2
  have R2 : Hid (Row w2 0 3 n F u2) := r2.mono (Nat.zero_le _)
  clear r2 q2
  go_wp2_with fail
  refine (specRanges_any _ 0 n F _ R2.out hn).mono ?_
  rintro e w3 ⟨rfl, q3⟩
  rw [HF.out]
  have Q3 : Hid (Below w.heap.size w w3) := Q2.out.trans (q3.mono Q2.out.size)
  clear q3 Q2 R2
  go_wp2_with fail
  refine (toRangeS_any _ 0 n F _ (H.out.later Q3.out) hb).mono ?_
  rintro e w4 ⟨u4, rfl, r4, _, q4⟩
  have Q4 : Hid (Below w.heap.size w w4) := Q3.out.trans (q4.mono Q3.out.size)
  have R4 : Hid (Row w4 0 3 n F u4) := r4.mono (Nat.zero_le _)
  clear r4
  go_wp2_with fail
  refine (implRanges_any _ 0 n F _ R4.out hn).mono ?_
  rintro e w5 ⟨rfl, q5⟩
  rw [HF.out]
  have Q5 : Hid (Below w.heap.size w w5) := Q4.out.trans (q5.mono Q4.out.size)
  have R5 : Hid (Row w5 0 3 n F u4) := R4.out.later q5
  clear q5 Q4 R4 q4 Q3
  go_wp2_with fail
  refine (toRangeS_any _ 0 n F _ (H.out.later Q5.out) hb).mono ?_
  rintro e w6 ⟨u6, rfl, r6, _, q6⟩
  have Q6 : Hid (Below w.heap.size w w6) := Q5.out.trans (q6.mono Q5.out.size)
  have R6 : Hid (Row w6 0 3 n F u4 ∧ Row w6 0 3 n F u6) := ⟨R5.out.later q6, r6.mono (Nat.zero_le _)⟩
  clear r6 q6 Q5 R5
  go_wp2_with fail
  refine (eqRangeS_same _ _ 0 0 n F _ R6.out.1 R6.out.2 hb).mono ?_
  rintro e w7 ⟨rfl, q7⟩
  have Q7 : Hid (Below w.heap.size w w7) := Q6.out.trans (q7.mono Q6.out.size)
  clear q7 Q6 R6
  go_wp2
  go_ret
  exact ⟨rfl, Q7.out⟩
theorem eqIntR_same (c v : Int) (w : World) :
    Calls Try.prog 27 #[.agg #[.int .i64 c, .int .i64 v], .agg #[.int .i64 c, .int .i64 v]] w fun e w' => e = .returned (.bool true) ∧ Below w.heap.size w w' := by
  go_enter Try.func27, Try.ntmps27
  go_wp2
  go_ret
  exact ⟨rfl, (below_alloc _ _).alloc (by simp) _⟩
set_option maxRecDepth 100000 in
set_option maxHeartbeats 2000000 in
theorem exactRouteOf_walk (v : Value) (n : Nat) (F : Nat → Int) (key : Int) (w : World) (h : Row w 0 3 n F v) (hn : n ≤ 9223372036854775807) (_ : ∀ p, (Lit.int .i64 (F p)).wf = true) (_ : (Lit.int .i64 key).wf = true) :
    Calls Try.prog 6 #[v, .int .i64 key] w fun e w' => e = .returned (.bool true) ∧ Below w.heap.size w w' := by
  obtain ⟨ao, cp, rfl⟩ := h.form
  have H : Hid (Row w 0 3 n F (.slice ao n cp)) := h
  clear h
  by_cases hs : (1048576 : Int) < n
  · go_enter Try.func6, Try.ntmps6
    go_wp2_with fail
    refine (szRangeS_no _ _ _ _ _ hs (by omega) (by omega) hn).mono ?_
    rintro e w1 ⟨rfl, rfl⟩
    go_wp2
    go_ret
    exact ⟨rfl, Below.refl _ _⟩
  have hb : n ≤ 1048576 := by omega
  have dz : decide ((1048576 : Int) - n < 0) = false := decide_eq_false (by omega)
  clear hs
  obtain ⟨c, z, ha⟩ := RouteAns.get n F key
  have HA : Hid (RouteAns n F key c z) := ha
  clear ha
  go_enter Try.func6, Try.ntmps6
  go_wp2_with fail
  refine (szRangeS_ok _ _ _ _ _ (by omega) (by omega)).mono ?_
  rintro e w1 ⟨rfl, hw1⟩
  obtain rfl := hw1.symm
  go_wp2_with fail
  refine (toRangeS_any _ 0 n F _ H.out hb).mono ?_
  rintro e w2 ⟨u2, rfl, r2, _, q2⟩
  have Q2 : Hid (Below w.heap.size w w2) := q2
  have R2 : Hid (Row w2 0 3 n F u2) := r2.mono (Nat.zero_le _)
  clear r2 q2
  go_wp2_with fail
  refine (specRoute_is _ 0 n F key c z _ R2.out hb HA.out).mono ?_
  rintro e w3 ⟨rfl, q3⟩
  have Q3 : Hid (Below w.heap.size w (w3.alloc (.cells #[.int .i64 c, .int .i64 z] 31))) := (Q2.out.trans (q3.mono Q2.out.size)).alloc (Q2.out.trans (q3.mono Q2.out.size)).size _
  have K3 : Hid (Blk2 (w3.alloc (.cells #[.int .i64 c, .int .i64 z] 31)) w3.heap.size (.int .i64 c) (.int .i64 z)) := Blk2.new _ _ _ _
  clear q3 Q2 R2
  go_wp2_with fail
  refine (toRangeS_any _ 0 n F _ (H.out.later Q3.out) hb).mono ?_
  rintro e w4 ⟨u4, rfl, r4, _, q4⟩
  have Q4 : Hid (Below w.heap.size w w4) := Q3.out.trans (q4.mono Q3.out.size)
  have R4 : Hid (Row w4 0 3 n F u4) := r4.mono (Nat.zero_le _)
  clear r4
  have K4 : Hid (Blk2 w4 w3.heap.size (.int .i64 c) (.int .i64 z)) := K3.out.later q4
  clear q4 K3 Q3
  go_wp2_with fail
  refine (implRoute_is _ 0 n F key c z _ R4.out hb HA.out).mono ?_
  rintro e w5 ⟨rfl, q5⟩
  obtain ⟨⟨b0, b1⟩, _, _⟩ := K4.out.later q5
  have hl := (K4.out.later q5).lt
  have Q5' : Hid (Below w.heap.size w w5) := Q4.out.trans (q5.mono Q4.out.size)
  have R5' : Hid (Row w5 0 3 n F u4) := R4.out.later q5
  clear q5 Q4 R4 K4
  go_wp2_with fail
  refine (eqIntR_same c z _).mono ?_
  rintro e w55 ⟨rfl, q5⟩
  have q5' := (below_alloc w5 (.cells #[.int .i64 c, .int .i64 z] 31)).trans (q5.mono (by simp))
  have Q5 : Hid (Below w.heap.size w w55) := Q5'.out.trans (q5'.mono Q5'.out.size)
  have R5 : Hid (Row w55 0 3 n F u4) := R5'.out.later q5'
  clear q5 q5' Q5' R5' b0 b1 hl
  go_wp2_with fail
  refine (toRangeS_any _ 0 n F _ (H.out.later Q5.out) hb).mono ?_
  rintro e w6 ⟨u6, rfl, r6, _, q6⟩
  have Q6 : Hid (Below w.heap.size w w6) := Q5.out.trans (q6.mono Q5.out.size)
  have R6 : Hid (Row w6 0 3 n F u4 ∧ Row w6 0 3 n F u6) := ⟨R5.out.later q6, r6.mono (Nat.zero_le _)⟩
  clear r6 q6 Q5 R5
  go_wp2_with fail
  refine (eqRangeS_same _ _ 0 0 n F _ R6.out.1 R6.out.2 hb).mono ?_
  rintro e w7 ⟨rfl, q7⟩
  have Q7 : Hid (Below w.heap.size w w7) := Q6.out.trans (q7.mono Q6.out.size)
  clear q7 Q6 R6
  go_wp2
  go_ret
  exact ⟨rfl, Q7.out⟩
end Go.Proofs.Ytabenplbibhbiaa
