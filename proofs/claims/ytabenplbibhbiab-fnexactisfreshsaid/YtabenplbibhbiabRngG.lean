/-
  Own text. IsFresh: the program's and the model's answer the same truth, and the law's walk.
-/
import Derived.Test.YtabenplbibhbiabRngF
namespace Go.Proofs.Ytabenplbibhbiab
open Go.RowKit

/-- What IsFresh answers. -/
def FreshAns (n : Nat) (F : Nat → Int) (p q key : Int) (r : Bool) : Prop := ∃ c z, RouteAns n F key c z ∧ ((c ≠ 0 ∧ r = false) ∨ (c = 0 ∧ z ≠ p ∧ r = false) ∨ (c = 0 ∧ z = p ∧ ∃ j : Nat, j < n ∧ p = j ∧ r = (F (j * 3 + 2) == q)))
theorem FreshAns.get (n : Nat) (F : Nat → Int) (p q key : Int) : ∃ r, FreshAns n F p q key r := by
  obtain ⟨c, z, ha⟩ := RouteAns.get n F key
  by_cases hc : c = 0
  · by_cases hz : z = p
    · rcases ha with ⟨h0, h1, _⟩ | ⟨_, _, h1, _⟩ | ⟨h0, h1, h2, j, hj, hv⟩
      · exact absurd (h1.symm.trans hc) h0
      · omega
      · exact ⟨_, c, z, Or.inr (Or.inr ⟨h0, h1, h2, j, hj, hv⟩), Or.inr (Or.inr ⟨hc, hz, j, hj.1, by omega, rfl⟩)⟩
    · exact ⟨false, c, z, ha, Or.inr (Or.inl ⟨hc, hz, rfl⟩)⟩
  · exact ⟨false, c, z, ha, Or.inl ⟨hc, rfl⟩⟩
set_option maxRecDepth 100000 in
set_option maxHeartbeats 1000000 in
theorem specFresh_is (y : Value) (B n : Nat) (F : Nat → Int) (p q key : Int) (r : Bool) (w : World) (h : Row w B 3 n F y) (hn : n ≤ 1048576) (ha : FreshAns n F p q key r) :
    Calls Try.prog 5 #[y, .int .i64 p, .int .i64 q, .int .i64 key] w fun e w' => e = .returned (.bool r) ∧ Below w.heap.size w w' := by
  obtain ⟨ao, cp, rfl⟩ := h.form
  have H : Hid (Row w B 3 n F (.slice ao n cp)) := h
  clear h
  obtain ⟨c, z, ha, hr⟩ := ha
  have HA : Hid (RouteAns n F key c z) := ha
  clear ha
  rcases hr with ⟨hc, rfl⟩ | ⟨hc, hz, rfl⟩ | ⟨rfl, rfl, j, hj, rfl, hr⟩
  · have d : (c == 0) = false := beq_eq_false_iff_ne.2 hc
    go_enter Try.func5, Try.ntmps5
    go_wp2_with fail
    refine (specRoute_is _ B n F key c z _ H.out hn HA.out).mono ?_
    rintro e w1 ⟨rfl, q1⟩
    have Q : Hid (Below w.heap.size w w1) := q1
    clear q1
    go_wp2
    go_ret
    exact ⟨rfl, Q.out.alloc Q.out.size _⟩
  · subst hc
    have d : (z == p) = false := beq_eq_false_iff_ne.2 hz
    go_enter Try.func5, Try.ntmps5
    go_wp2_with fail
    refine (specRoute_is _ B n F key 0 z _ H.out hn HA.out).mono ?_
    rintro e w1 ⟨rfl, q1⟩
    have Q : Hid (Below w.heap.size w w1) := q1
    clear q1
    go_wp2
    go_ret
    exact ⟨rfl, Q.out.alloc Q.out.size _⟩
  · obtain ⟨f, hf⟩ : ∃ f, F (j * 3 + 2) = f := ⟨_, rfl⟩
    have HF : Hid (F (j * 3 + 2) = f) := hf
    rw [hf] at hr
    subst hr
    clear hf
    go_enter Try.func5, Try.ntmps5
    go_wp2_with fail
    refine (specRoute_is _ B n F key 0 j _ H.out hn HA.out).mono ?_
    rintro e w1 ⟨rfl, q1⟩
    have Q : Hid (Below w.heap.size w w1) := q1
    obtain ⟨g, o, rfl, _, hg, x0, x1, x2⟩ := ((H.out.later q1).alloc (.cells #[.int .i64 0, .int .i64 (j : Int)] 30)).at3 hj
    rw [HF.out] at x2
    clear q1
    go_wp2
    go_ret
    exact ⟨rfl, Q.out.alloc Q.out.size _⟩
set_option maxRecDepth 100000 in
set_option maxHeartbeats 1000000 in
theorem implFresh_is (y : Value) (B n : Nat) (F : Nat → Int) (p q key : Int) (r : Bool) (w : World) (h : Row w B 3 n F y) (hn : n ≤ 1048576) (ha : FreshAns n F p q key r) :
    Calls Try.prog 7 #[y, .int .i64 p, .int .i64 q, .int .i64 key] w fun e w' => e = .returned (.bool r) ∧ Below w.heap.size w w' := by
  obtain ⟨ao, cp, rfl⟩ := h.form
  have H : Hid (Row w B 3 n F (.slice ao n cp)) := h
  clear h
  obtain ⟨c, z, ha, hr⟩ := ha
  have HA : Hid (RouteAns n F key c z) := ha
  clear ha
  rcases hr with ⟨hc, rfl⟩ | ⟨hc, hz, rfl⟩ | ⟨rfl, rfl, j, hj, rfl, hr⟩
  · have d : (c == 0) = false := beq_eq_false_iff_ne.2 hc
    go_enter Try.func7, Try.ntmps7
    go_wp2_with fail
    refine (implRoute_is _ B n F key c z _ H.out hn HA.out).mono ?_
    rintro e w1 ⟨rfl, q1⟩
    have Q : Hid (Below w.heap.size w w1) := q1
    clear q1
    go_wp2
    go_ret
    exact ⟨rfl, Q.out.alloc Q.out.size _⟩
  · subst hc
    have d : (z == p) = false := beq_eq_false_iff_ne.2 hz
    go_enter Try.func7, Try.ntmps7
    go_wp2_with fail
    refine (implRoute_is _ B n F key 0 z _ H.out hn HA.out).mono ?_
    rintro e w1 ⟨rfl, q1⟩
    have Q : Hid (Below w.heap.size w w1) := q1
    clear q1
    go_wp2
    go_ret
    exact ⟨rfl, Q.out.alloc Q.out.size _⟩
  · obtain ⟨f, hf⟩ : ∃ f, F (j * 3 + 2) = f := ⟨_, rfl⟩
    have HF : Hid (F (j * 3 + 2) = f) := hf
    rw [hf] at hr
    subst hr
    clear hf
    go_enter Try.func7, Try.ntmps7
    go_wp2_with fail
    refine (implRoute_is _ B n F key 0 j _ H.out hn HA.out).mono ?_
    rintro e w1 ⟨rfl, q1⟩
    have Q : Hid (Below w.heap.size w w1) := q1
    obtain ⟨g, o, rfl, _, hg, x0, x1, x2⟩ := ((H.out.later q1).alloc (.cells #[.int .i64 0, .int .i64 (j : Int)] 30)).at3 hj
    rw [HF.out] at x2
    clear q1
    go_wp2
    go_ret
    exact ⟨rfl, Q.out.alloc Q.out.size _⟩
set_option maxRecDepth 100000 in
set_option maxHeartbeats 2000000 in
theorem exactIsFresh_walk (v : Value) (n : Nat) (F : Nat → Int) (p q key : Int) (w : World) (h : Row w 0 3 n F v) (hn : n ≤ 9223372036854775807) (_ : ∀ p, (Lit.int .i64 (F p)).wf = true) (_ : (Lit.int .i64 p).wf = true) (_ : (Lit.int .i64 q).wf = true) (_ : (Lit.int .i64 key).wf = true)  :
    Calls Try.prog 3 #[v, .int .i64 p, .int .i64 q, .int .i64 key] w fun e w' => e = .returned (.bool true) ∧ Below w.heap.size w w' := by
  obtain ⟨ao, cp, rfl⟩ := h.form
  have H : Hid (Row w 0 3 n F (.slice ao n cp)) := h
  clear h
  by_cases hs : (1048576 : Int) < n
  · go_enter Try.func3, Try.ntmps3
    go_wp2_with fail
    refine (szRangeS_no _ _ _ _ _ hs (by omega) (by omega) hn).mono ?_
    rintro e w1 ⟨rfl, rfl⟩
    go_wp2
    go_ret
    exact ⟨rfl, Below.refl _ _⟩
  have hb : n ≤ 1048576 := by omega
  have dz : decide ((1048576 : Int) - n < 0) = false := decide_eq_false (by omega)
  clear hs
  obtain ⟨r, ha⟩ := FreshAns.get n F p q key
  have HA : Hid (FreshAns n F p q key r) := ha
  clear ha
  go_enter Try.func3, Try.ntmps3
  go_wp2_with fail
  refine (szRangeS_ok _ _ _ _ _ (by omega) (by omega)).mono ?_
  rintro e w1 ⟨rfl, hw1⟩
  obtain rfl := hw1.symm
  go_wp2_with fail
  refine (toRangeS_any _ 0 n F _ H.out hb).mono ?_
  rintro e w2 ⟨u2, rfl, r2, _, q2⟩
  have Q2 : Hid (Below w.heap.size w w2) := q2
  have R2 : Hid (Row w2 0 3 n F u2) := r2.mono (Nat.zero_le _)
  clear r2 q2
  go_wp2_with fail
  refine (specFresh_is _ 0 n F p q key r _ R2.out hb HA.out).mono ?_
  rintro e w3 ⟨rfl, q3⟩
  have Q3 : Hid (Below w.heap.size w w3) := Q2.out.trans (q3.mono Q2.out.size)
  clear q3 Q2 R2
  go_wp2_with fail
  refine (toRangeS_any _ 0 n F _ (H.out.later Q3.out) hb).mono ?_
  rintro e w4 ⟨u4, rfl, r4, _, q4⟩
  have Q4 : Hid (Below w.heap.size w w4) := Q3.out.trans (q4.mono Q3.out.size)
  have R4 : Hid (Row w4 0 3 n F u4) := r4.mono (Nat.zero_le _)
  clear r4
  go_wp2_with fail
  refine (implFresh_is _ 0 n F p q key r _ R4.out hb HA.out).mono ?_
  rintro e w5 ⟨rfl, q5⟩
  have Q5 : Hid (Below w.heap.size w w5) := Q4.out.trans (q5.mono Q4.out.size)
  have R5 : Hid (Row w5 0 3 n F u4) := R4.out.later q5
  clear q5 Q4 R4 q4 Q3
  go_wp2_with fail
  refine (toRangeS_any _ 0 n F _ (H.out.later Q5.out) hb).mono ?_
  rintro e w6 ⟨u6, rfl, r6, _, q6⟩
  have Q6 : Hid (Below w.heap.size w w6) := Q5.out.trans (q6.mono Q5.out.size)
  have R6 : Hid (Row w6 0 3 n F u4 ∧ Row w6 0 3 n F u6) := ⟨R5.out.later q6, r6.mono (Nat.zero_le _)⟩
  clear r6 q6 Q5 R5
  go_wp2_with fail
  refine (eqRangeS_same _ _ 0 0 n F _ R6.out.1 R6.out.2 hb).mono ?_
  rintro e w7 ⟨rfl, q7⟩
  have Q7 : Hid (Below w.heap.size w w7) := Q6.out.trans (q7.mono Q6.out.size)
  clear q7 Q6 R6
  go_wp2
  go_ret
  exact ⟨rfl, Q7.out⟩
end Go.Proofs.Ytabenplbibhbiab
