/-
  Own text. Chapter 8: what PrimaryOf, IsOver, StepsLeft and HasKey answer, the program's and the model's.
-/
import Derived.Test.YtjimckfkbkfggaaTxnH
namespace Go.Proofs.Ytjimckfkbkfggaa
open Go.RowKit

theorem txnF_zero {s c u st a : Int} {n : Nat} {F : Nat → Int} (h : txnF s c u st a n F = 0) : InB s c u st ∧ (1 ≤ n ∧ n ≤ 12) ∧ itemsF F n 0 = 0 ∧ (0 ≤ a ∧ a ≤ n) ∧ ¬ ((st = 2 ∨ st = 3 ∨ st = 4) ∧ c ≤ s ∨ st = 1 ∧ c ≠ 0) := by
  unfold txnF at h
  split at h
  · omega
  rename_i h0
  split at h
  · omega
  rename_i h1
  split at h
  · exact absurd h (by assumption)
  rename_i h2
  split at h
  · omega
  rename_i h3
  split at h
  · omega
  rename_i h4
  refine ⟨?_, ⟨by omega, by omega⟩, Decidable.not_not.1 h2, Decidable.not_not.1 h3, h4⟩
  unfold InB
  omega
theorem mapF (f : Int) : f = 0 ∨ (f ≠ 0 ∧ (f != 0) = true ∧ (f == 0) = false) := by
  by_cases h0 : f = 0
  · exact Or.inl h0
  · exact Or.inr ⟨h0, bne_iff_ne.2 h0, beq_eq_false_iff_ne.2 h0⟩
/-- A truth beside TxnFault. -/
def TruthT (f : Int) (q r : Bool) : Prop := (f ≠ 0 ∧ r = false) ∨ (f = 0 ∧ r = q)
/-- A code and a value beside TxnFault. -/
def ValT (f q r v : Int) : Prop := (f ≠ 0 ∧ r = f ∧ v = 0) ∨ (f = 0 ∧ r = 0 ∧ v = q)
theorem TruthT.get (f : Int) (q : Bool) : ∃ r, TruthT f q r := by
  by_cases h : f = 0
  · exact ⟨_, Or.inr ⟨h, rfl⟩⟩
  · exact ⟨_, Or.inl ⟨h, rfl⟩⟩
theorem ValT.get (f q : Int) : ∃ r v, ValT f q r v := by
  by_cases h : f = 0
  · exact ⟨_, _, Or.inr ⟨h, rfl, rfl⟩⟩
  · exact ⟨_, _, Or.inl ⟨h, rfl, rfl⟩⟩
set_option maxHeartbeats 1000000 in
theorem implIsOver_is (s c u st a : Int) (n : Nat) (F : Nat → Int) (y : Value) (f : Int) (hf : txnF s c u st a n F = f) (w : World) (h : Row w 0 3 n F y) (hcap : CapOk y) (r : Bool) (hr : TruthT f (decide (st = 4 ∨ st = 6 ∨ st = 7)) r) :
    Calls Try.prog 17 #[.agg #[.int .i64 s, .int .i64 c, .int .i64 u, .int .i64 st, .int .i64 a, y]] w fun e w' => e = .returned (.bool r) ∧ Below w.heap.size w w' := by
  obtain ⟨ao, cp, rfl⟩ := h.form
  have H : Hid (Row w 0 3 n F (.slice ao n cp)) := h
  clear h
  have HF : Hid (txnF s c u st a n F = f) := hf
  rcases mapF f with rfl | ⟨h0, h1, h2⟩
  · obtain ⟨⟨_, _, _, hst⟩, ⟨_, hn12⟩, _⟩ := txnF_zero hf
    obtain ⟨t, ht⟩ := StT.get hst
    have HT : Hid (StT st t) := ht
    obtain ⟨b, hb⟩ : ∃ b, decide (st = 4 ∨ st = 6 ∨ st = 7) = b := ⟨_, rfl⟩
    have HB : Hid (decide (st = 4 ∨ st = 6 ∨ st = 7) = b) := hb
    obtain rfl : r = b := by
      rcases hr with ⟨q, _⟩ | ⟨_, q⟩
      · exact absurd rfl q
      · exact q.trans hb
    clear hf ht hst hb hr
    go_enter Try.func17, Try.ntmps17
    go_wp2_with fail
    refine (implTxnFault_any s c u st a n F _ _ (H.out.alloc _) hcap).mono ?_
    rintro e w1 ⟨rfl, q1⟩
    rw [HF.out]
    have Q : Hid (Below w.heap.size w w1) := (below_alloc _ _).trans (q1.mono (by simp))
    have K1 : Hid (Blk6 w1 w.heap.size (.int .i64 s) (.int .i64 c) (.int .i64 u) (.int .i64 st) (.int .i64 a) (.slice ao n cp)) := (Blk6.new w _ _ _ _ _ _ _).later q1
    obtain ⟨⟨k0, k1, k2, k3, k4, k5⟩, _⟩ := K1.out
    have hlt1 := K1.out.lt
    clear q1
    go_wp2_with fail
    refine (stateOf_is _ _ _ _ _ _ _ _ t HT.out hn12 _).mono ?_
    rintro e w2 ⟨rfl, q2⟩
    have Q : Hid (Below w.heap.size w w2) := Q.out.trans (q2.mono Q.out.size)
    clear q2
    go_wp2_with fail
    refine (isEnd_is st a n t HT.out _).mono ?_
    rintro e w9 ⟨rfl, hw9⟩
    obtain rfl := hw9.symm
    rw [HB.out]
    go_wp2
    go_ret
    exact ⟨rfl, Q.out⟩
  · obtain rfl : r = false := by
      rcases hr with ⟨_, q⟩ | ⟨q, _⟩
      · exact q
      · exact absurd q h0
    clear hf h0 h1 hr
    go_enter Try.func17, Try.ntmps17
    go_wp2_with fail
    refine (implTxnFault_any s c u st a n F _ _ (H.out.alloc _) hcap).mono ?_
    rintro e w1 ⟨rfl, q1⟩
    rw [HF.out]
    have Q : Hid (Below w.heap.size w w1) := (below_alloc _ _).trans (q1.mono (by simp))
    have K1 : Hid (Blk6 w1 w.heap.size (.int .i64 s) (.int .i64 c) (.int .i64 u) (.int .i64 st) (.int .i64 a) (.slice ao n cp)) := (Blk6.new w _ _ _ _ _ _ _).later q1
    obtain ⟨⟨k0, k1, k2, k3, k4, k5⟩, _⟩ := K1.out
    have hlt1 := K1.out.lt
    clear q1
    go_wp2
    go_ret
    exact ⟨rfl, Q.out⟩
set_option maxHeartbeats 1000000 in
theorem l8Over_is (b : Nat) (v0 v1 v2 v4 v5 : Value) (st : Int) (w : World) (h : Blk6 w b v0 v1 v2 (.int .i64 st) v4 v5) :
    Calls Try.prog 57 #[.pointer (some ⟨b, 0, none⟩)] w fun e w' => e = .returned (.bool (decide (st = 4 ∨ st = 6 ∨ st = 7))) ∧ w' = w := by
  obtain ⟨⟨_, _, _, k3, _, _⟩, _⟩ := h
  by_cases h4 : st = 4
  · subst h4
    go_enter Try.func57, Try.ntmps57
    go_wp2
    go_ret
    exact ⟨rfl, rfl⟩
  by_cases h6 : st = 6
  · subst h6
    go_enter Try.func57, Try.ntmps57
    go_wp2
    go_ret
    exact ⟨rfl, rfl⟩
  by_cases h7 : st = 7
  · subst h7
    go_enter Try.func57, Try.ntmps57
    go_wp2
    go_ret
    exact ⟨rfl, rfl⟩
  have E : Hid (decide (st = 4 ∨ st = 6 ∨ st = 7) = false) := decide_eq_false (by omega)
  have d4 : (st == 4) = false := beq_eq_false_iff_ne.2 h4
  have d6 : (st == 6) = false := beq_eq_false_iff_ne.2 h6
  have d7 : (st == 7) = false := beq_eq_false_iff_ne.2 h7
  clear h4 h6 h7
  go_enter Try.func57, Try.ntmps57
  go_wp2
  go_ret
  exact ⟨by rw [E.out]; rfl, rfl⟩
set_option maxHeartbeats 1000000 in
theorem specIsOver_is (s c u st a : Int) (n : Nat) (F : Nat → Int) (y : Value) (f : Int) (hf : txnF s c u st a n F = f) (w : World) (h : Row w 0 3 n F y) (hcap : CapOk y) (hn : n ≤ 9223372036854775807) (r : Bool) (hr : TruthT f (decide (st = 4 ∨ st = 6 ∨ st = 7)) r) :
    Calls Try.prog 34 #[.agg #[.int .i64 s, .int .i64 c, .int .i64 u, .int .i64 st, .int .i64 a, y]] w fun e w' => e = .returned (.bool r) ∧ Below w.heap.size w w' := by
  obtain ⟨ao, cp, rfl⟩ := h.form
  have H : Hid (Row w 0 3 n F (.slice ao n cp)) := h
  clear h
  have HF : Hid (txnF s c u st a n F = f) := hf
  rcases mapF f with rfl | ⟨h0, h1, h2⟩
  · obtain ⟨b, hb⟩ : ∃ b, decide (st = 4 ∨ st = 6 ∨ st = 7) = b := ⟨_, rfl⟩
    have HB : Hid (decide (st = 4 ∨ st = 6 ∨ st = 7) = b) := hb
    obtain rfl : r = b := by
      rcases hr with ⟨q, _⟩ | ⟨_, q⟩
      · exact absurd rfl q
      · exact q.trans hb
    clear hf hb hr
    go_enter Try.func34, Try.ntmps34
    go_wp2_with fail
    refine (l8Fault_any w.heap.size s c u st a n F _ _ ⟨Blk6.new w _ _ _ _ _ _ _, H.out.alloc _, hcap⟩ hn).mono ?_
    rintro e w1 ⟨rfl, q1⟩
    rw [HF.out]
    have Q : Hid (Below w.heap.size w w1) := (below_alloc _ _).trans (q1.mono (by simp))
    have K1 : Hid (Blk6 w1 w.heap.size (.int .i64 s) (.int .i64 c) (.int .i64 u) (.int .i64 st) (.int .i64 a) (.slice ao n cp)) := (Blk6.new w _ _ _ _ _ _ _).later q1
    obtain ⟨⟨k0, k1, k2, k3, k4, k5⟩, _⟩ := K1.out
    have hlt1 := K1.out.lt
    clear q1
    go_wp2_with fail
    refine (l8Over_is w.heap.size _ _ _ _ _ st _ K1.out).mono ?_
    rintro e w9 ⟨rfl, hw9⟩
    obtain rfl := hw9.symm
    rw [HB.out]
    go_wp2
    go_ret
    exact ⟨rfl, Q.out⟩
  · obtain rfl : r = false := by
      rcases hr with ⟨_, q⟩ | ⟨q, _⟩
      · exact q
      · exact absurd q h0
    clear hf h0 h1 hr
    go_enter Try.func34, Try.ntmps34
    go_wp2_with fail
    refine (l8Fault_any w.heap.size s c u st a n F _ _ ⟨Blk6.new w _ _ _ _ _ _ _, H.out.alloc _, hcap⟩ hn).mono ?_
    rintro e w1 ⟨rfl, q1⟩
    rw [HF.out]
    have Q : Hid (Below w.heap.size w w1) := (below_alloc _ _).trans (q1.mono (by simp))
    have K1 : Hid (Blk6 w1 w.heap.size (.int .i64 s) (.int .i64 c) (.int .i64 u) (.int .i64 st) (.int .i64 a) (.slice ao n cp)) := (Blk6.new w _ _ _ _ _ _ _).later q1
    obtain ⟨⟨k0, k1, k2, k3, k4, k5⟩, _⟩ := K1.out
    have hlt1 := K1.out.lt
    clear q1
    go_wp2
    go_ret
    exact ⟨rfl, Q.out⟩
set_option maxHeartbeats 1000000 in
theorem implHasKey_is (s c u st a : Int) (n : Nat) (F : Nat → Int) (y : Value) (key : Int) (f : Int) (hf : txnF s c u st a n F = f) (w : World) (h : Row w 0 3 n F y) (hcap : CapOk y) (hn : n ≤ 9223372036854775807) (r : Bool) (hr : TruthT f (hasI F key n) r) :
    Calls Try.prog 13 #[.agg #[.int .i64 s, .int .i64 c, .int .i64 u, .int .i64 st, .int .i64 a, y], .int .i64 key] w fun e w' => e = .returned (.bool r) ∧ Below w.heap.size w w' := by
  obtain ⟨ao, cp, rfl⟩ := h.form
  have H : Hid (Row w 0 3 n F (.slice ao n cp)) := h
  clear h
  have HF : Hid (txnF s c u st a n F = f) := hf
  rcases mapF f with rfl | ⟨h0, h1, h2⟩
  · have HB : Hid (hasI F key n = r) := by
      rcases hr with ⟨q, _⟩ | ⟨_, q⟩
      · exact absurd rfl q
      · exact q.symm
    clear hf hr
    go_enter Try.func13, Try.ntmps13
    go_wp2_with fail
    refine (implTxnFault_any s c u st a n F _ _ (H.out.alloc _) hcap).mono ?_
    rintro e w1 ⟨rfl, q1⟩
    rw [HF.out]
    have Q : Hid (Below w.heap.size w w1) := (below_alloc _ _).trans (q1.mono (by simp))
    have K1 : Hid (Blk6 w1 w.heap.size (.int .i64 s) (.int .i64 c) (.int .i64 u) (.int .i64 st) (.int .i64 a) (.slice ao n cp)) := (Blk6.new w _ _ _ _ _ _ _).later q1
    obtain ⟨⟨k0, k1, k2, k3, k4, k5⟩, _⟩ := K1.out
    have hlt1 := K1.out.lt
    clear q1
    go_wp2_with fail
    refine (keyAmong_is _ 0 n F key r HB.out _ (H.out.later Q.out) hn).mono ?_
    rintro e w2 ⟨rfl, q2⟩
    have Q : Hid (Below w.heap.size w w2) := Q.out.trans (q2.mono Q.out.size)
    clear q2
    go_wp2
    go_ret
    exact ⟨rfl, Q.out⟩
  · obtain rfl : r = false := by
      rcases hr with ⟨_, q⟩ | ⟨q, _⟩
      · exact q
      · exact absurd q h0
    clear hf h0 h1 hr
    go_enter Try.func13, Try.ntmps13
    go_wp2_with fail
    refine (implTxnFault_any s c u st a n F _ _ (H.out.alloc _) hcap).mono ?_
    rintro e w1 ⟨rfl, q1⟩
    rw [HF.out]
    have Q : Hid (Below w.heap.size w w1) := (below_alloc _ _).trans (q1.mono (by simp))
    have K1 : Hid (Blk6 w1 w.heap.size (.int .i64 s) (.int .i64 c) (.int .i64 u) (.int .i64 st) (.int .i64 a) (.slice ao n cp)) := (Blk6.new w _ _ _ _ _ _ _).later q1
    obtain ⟨⟨k0, k1, k2, k3, k4, k5⟩, _⟩ := K1.out
    have hlt1 := K1.out.lt
    clear q1
    go_wp2
    go_ret
    exact ⟨rfl, Q.out⟩
end Go.Proofs.Ytjimckfkbkfggaa
