/-
  Own text. Chapter 8: what PrimaryOf, IsOver, StepsLeft and HasKey answer, the program's and the model's.
-/
import Derived.Test.YtjimckfkbkfggabTxnH
namespace Go.Proofs.Ytjimckfkbkfggab
open Go.RowKit

theorem txnF_zero {s c u st a : Int} {n : Nat} {F : Nat → Int} (h : txnF s c u st a n F = 0) : InB s c u st ∧ (1 ≤ n ∧ n ≤ 12) ∧ itemsF F n 0 = 0 ∧ (0 ≤ a ∧ a ≤ n) ∧ ¬ ((st = 2 ∨ st = 3 ∨ st = 4) ∧ c ≤ s ∨ st = 1 ∧ c ≠ 0) := by
  unfold txnF at h
  split at h
  · omega
  rename_i h0
  split at h
  · omega
  rename_i h1
  split at h
  · exact absurd h (by assumption)
  rename_i h2
  split at h
  · omega
  rename_i h3
  split at h
  · omega
  rename_i h4
  refine ⟨?_, ⟨by omega, by omega⟩, Decidable.not_not.1 h2, Decidable.not_not.1 h3, h4⟩
  unfold InB
  omega
theorem mapF (f : Int) : f = 0 ∨ (f ≠ 0 ∧ (f != 0) = true ∧ (f == 0) = false) := by
  by_cases h0 : f = 0
  · exact Or.inl h0
  · exact Or.inr ⟨h0, bne_iff_ne.2 h0, beq_eq_false_iff_ne.2 h0⟩
/-- A truth beside TxnFault. -/
def TruthT (f : Int) (q r : Bool) : Prop := (f ≠ 0 ∧ r = false) ∨ (f = 0 ∧ r = q)
/-- A code and a value beside TxnFault. -/
def ValT (f q r v : Int) : Prop := (f ≠ 0 ∧ r = f ∧ v = 0) ∨ (f = 0 ∧ r = 0 ∧ v = q)
theorem TruthT.get (f : Int) (q : Bool) : ∃ r, TruthT f q r := by
  by_cases h : f = 0
  · exact ⟨_, Or.inr ⟨h, rfl⟩⟩
  · exact ⟨_, Or.inl ⟨h, rfl⟩⟩
theorem ValT.get (f q : Int) : ∃ r v, ValT f q r v := by
  by_cases h : f = 0
  · exact ⟨_, _, Or.inr ⟨h, rfl, rfl⟩⟩
  · exact ⟨_, _, Or.inl ⟨h, rfl, rfl⟩⟩
set_option maxHeartbeats 1000000 in
theorem implHasKey_is (s c u st a : Int) (n : Nat) (F : Nat → Int) (y : Value) (key : Int) (f : Int) (hf : txnF s c u st a n F = f) (w : World) (h : Row w 0 3 n F y) (hcap : CapOk y) (hn : n ≤ 9223372036854775807) (r : Bool) (hr : TruthT f (hasI F key n) r) :
    Calls Try.prog 7 #[.agg #[.int .i64 s, .int .i64 c, .int .i64 u, .int .i64 st, .int .i64 a, y], .int .i64 key] w fun e w' => e = .returned (.bool r) ∧ Below w.heap.size w w' := by
  obtain ⟨ao, cp, rfl⟩ := h.form
  have H : Hid (Row w 0 3 n F (.slice ao n cp)) := h
  clear h
  have HF : Hid (txnF s c u st a n F = f) := hf
  rcases mapF f with rfl | ⟨h0, h1, h2⟩
  · have HB : Hid (hasI F key n = r) := by
      rcases hr with ⟨q, _⟩ | ⟨_, q⟩
      · exact absurd rfl q
      · exact q.symm
    clear hf hr
    go_enter Try.func7, Try.ntmps7
    go_wp2_with fail
    refine (implTxnFault_any s c u st a n F _ _ (H.out.alloc _) hcap).mono ?_
    rintro e w1 ⟨rfl, q1⟩
    rw [HF.out]
    have Q : Hid (Below w.heap.size w w1) := (below_alloc _ _).trans (q1.mono (by simp))
    have K1 : Hid (Blk6 w1 w.heap.size (.int .i64 s) (.int .i64 c) (.int .i64 u) (.int .i64 st) (.int .i64 a) (.slice ao n cp)) := (Blk6.new w _ _ _ _ _ _ _).later q1
    obtain ⟨⟨k0, k1, k2, k3, k4, k5⟩, _⟩ := K1.out
    have hlt1 := K1.out.lt
    clear q1
    go_wp2_with fail
    refine (keyAmong_is _ 0 n F key r HB.out _ (H.out.later Q.out) hn).mono ?_
    rintro e w2 ⟨rfl, q2⟩
    have Q : Hid (Below w.heap.size w w2) := Q.out.trans (q2.mono Q.out.size)
    clear q2
    go_wp2
    go_ret
    exact ⟨rfl, Q.out⟩
  · obtain rfl : r = false := by
      rcases hr with ⟨_, q⟩ | ⟨q, _⟩
      · exact q
      · exact absurd q h0
    clear hf h0 h1 hr
    go_enter Try.func7, Try.ntmps7
    go_wp2_with fail
    refine (implTxnFault_any s c u st a n F _ _ (H.out.alloc _) hcap).mono ?_
    rintro e w1 ⟨rfl, q1⟩
    rw [HF.out]
    have Q : Hid (Below w.heap.size w w1) := (below_alloc _ _).trans (q1.mono (by simp))
    have K1 : Hid (Blk6 w1 w.heap.size (.int .i64 s) (.int .i64 c) (.int .i64 u) (.int .i64 st) (.int .i64 a) (.slice ao n cp)) := (Blk6.new w _ _ _ _ _ _ _).later q1
    obtain ⟨⟨k0, k1, k2, k3, k4, k5⟩, _⟩ := K1.out
    have hlt1 := K1.out.lt
    clear q1
    go_wp2
    go_ret
    exact ⟨rfl, Q.out⟩
set_option maxHeartbeats 1000000 in
theorem specHasKey_is (s c u st a : Int) (n : Nat) (F : Nat → Int) (y : Value) (key : Int) (f : Int) (hf : txnF s c u st a n F = f) (w : World) (h : Row w 0 3 n F y) (hcap : CapOk y) (hn : n ≤ 9223372036854775807) (r : Bool) (hr : TruthT f (hasI F key n) r) :
    Calls Try.prog 5 #[.agg #[.int .i64 s, .int .i64 c, .int .i64 u, .int .i64 st, .int .i64 a, y], .int .i64 key] w fun e w' => e = .returned (.bool r) ∧ Below w.heap.size w w' := by
  obtain ⟨ao, cp, rfl⟩ := h.form
  have H : Hid (Row w 0 3 n F (.slice ao n cp)) := h
  clear h
  have HF : Hid (txnF s c u st a n F = f) := hf
  rcases mapF f with rfl | ⟨h0, h1, h2⟩
  · have HB : Hid (hasI F key n = r) := by
      rcases hr with ⟨q, _⟩ | ⟨_, q⟩
      · exact absurd rfl q
      · exact q.symm
    clear hf hr
    go_enter Try.func5, Try.ntmps5
    go_wp2_with fail
    refine (l8Fault_any w.heap.size s c u st a n F _ _ ⟨Blk6.new w _ _ _ _ _ _ _, H.out.alloc _, hcap⟩ hn).mono ?_
    rintro e w1 ⟨rfl, q1⟩
    rw [HF.out]
    have Q : Hid (Below w.heap.size w w1) := (below_alloc _ _).trans (q1.mono (by simp))
    have K1 : Hid (Blk6 w1 w.heap.size (.int .i64 s) (.int .i64 c) (.int .i64 u) (.int .i64 st) (.int .i64 a) (.slice ao n cp)) := (Blk6.new w _ _ _ _ _ _ _).later q1
    obtain ⟨⟨k0, k1, k2, k3, k4, k5⟩, _⟩ := K1.out
    have hlt1 := K1.out.lt
    clear q1
    go_wp2_with fail
    refine (l8Has_is _ 0 n F key r HB.out _ (H.out.later Q.out) hn).mono ?_
    rintro e w9 ⟨rfl, hw9⟩
    obtain rfl := hw9.symm
    go_wp2
    go_ret
    exact ⟨rfl, Q.out⟩
  · obtain rfl : r = false := by
      rcases hr with ⟨_, q⟩ | ⟨q, _⟩
      · exact q
      · exact absurd q h0
    clear hf h0 h1 hr
    go_enter Try.func5, Try.ntmps5
    go_wp2_with fail
    refine (l8Fault_any w.heap.size s c u st a n F _ _ ⟨Blk6.new w _ _ _ _ _ _ _, H.out.alloc _, hcap⟩ hn).mono ?_
    rintro e w1 ⟨rfl, q1⟩
    rw [HF.out]
    have Q : Hid (Below w.heap.size w w1) := (below_alloc _ _).trans (q1.mono (by simp))
    have K1 : Hid (Blk6 w1 w.heap.size (.int .i64 s) (.int .i64 c) (.int .i64 u) (.int .i64 st) (.int .i64 a) (.slice ao n cp)) := (Blk6.new w _ _ _ _ _ _ _).later q1
    obtain ⟨⟨k0, k1, k2, k3, k4, k5⟩, _⟩ := K1.out
    have hlt1 := K1.out.lt
    clear q1
    go_wp2
    go_ret
    exact ⟨rfl, Q.out⟩
end Go.Proofs.Ytjimckfkbkfggab
