/-
  Own text. Chapter 8, the program: the states, and TxnFault.
-/
import Derived.Test.YtjimckfkbkfggabTxnE
namespace Go.Proofs.Ytjimckfkbkfggab
open Go.RowKit

/-- The type that stands for a state. -/
def StT (st : Int) (t : TypeId) : Prop := (st = 1 ∧ t = 59) ∨ (st = 2 ∧ t = 60) ∨ (st = 3 ∧ t = 61) ∨ (st = 4 ∧ t = 62) ∨ (st = 5 ∧ t = 68) ∨ (st = 6 ∧ t = 69) ∨ (st = 7 ∧ t = 70)
theorem StT.get {st : Int} (h : 1 ≤ st ∧ st ≤ 7) : ∃ t, StT st t := by
  have h7 : st = 1 ∨ st = 2 ∨ st = 3 ∨ st = 4 ∨ st = 5 ∨ st = 6 ∨ st = 7 := by omega
  unfold StT
  rcases h7 with h | h | h | h | h | h | h
  · exact ⟨_, Or.inl ⟨h, rfl⟩⟩
  · exact ⟨_, Or.inr (Or.inl ⟨h, rfl⟩)⟩
  · exact ⟨_, Or.inr (Or.inr (Or.inl ⟨h, rfl⟩))⟩
  · exact ⟨_, Or.inr (Or.inr (Or.inr (Or.inl ⟨h, rfl⟩)))⟩
  · exact ⟨_, Or.inr (Or.inr (Or.inr (Or.inr (Or.inl ⟨h, rfl⟩))))⟩
  · exact ⟨_, Or.inr (Or.inr (Or.inr (Or.inr (Or.inr (Or.inl ⟨h, rfl⟩)))))⟩
  · exact ⟨_, Or.inr (Or.inr (Or.inr (Or.inr (Or.inr (Or.inr ⟨h, rfl⟩)))))⟩
set_option maxHeartbeats 1000000 in
theorem stateOf_is (s c u st a : Int) (ao : Option Addr) (n cp : Nat) (t : TypeId) (ht : StT st t) (_ : n ≤ 12) (w : World) :
    Calls Try.prog 30 #[.agg #[.int .i64 s, .int .i64 c, .int .i64 u, .int .i64 st, .int .i64 a, .slice ao n cp]] w fun e w' => e = .returned (.iface t (.agg #[.int .i64 n, .int .i64 a])) ∧ Below w.heap.size w w' := by
  rcases ht with ⟨rfl, rfl⟩ | ⟨rfl, rfl⟩ | ⟨rfl, rfl⟩ | ⟨rfl, rfl⟩ | ⟨rfl, rfl⟩ | ⟨rfl, rfl⟩ | ⟨rfl, rfl⟩
  all_goals
    go_enter Try.func30, Try.ntmps30
    go_wp2
    go_ret
    exact ⟨rfl, (below_alloc _ _).alloc (by simp) _⟩
theorem as_first_first (v : Value) (w : World) : (Instr.typeAssert (.iface 59 v) 54 59 true).run Try.prog w = .ok (.tuple #[v, .bool true]) w := by kernel_rfl
theorem as_first_second (v : Value) (w : World) : (Instr.typeAssert (.iface 59 v) 54 60 true).run Try.prog w = .ok (.tuple #[.agg #[.int .i64 0, .int .i64 0], .bool false]) w := by kernel_rfl
theorem as_first_rest (v : Value) (w : World) : (Instr.typeAssert (.iface 59 v) 54 61 true).run Try.prog w = .ok (.tuple #[.agg #[.int .i64 0, .int .i64 0], .bool false]) w := by kernel_rfl
theorem as_first_done (v : Value) (w : World) : (Instr.typeAssert (.iface 59 v) 54 62 true).run Try.prog w = .ok (.tuple #[.agg #[.int .i64 0, .int .i64 0], .bool false]) w := by kernel_rfl
theorem as_first_undo (v : Value) (w : World) : (Instr.typeAssert (.iface 59 v) 54 68 true).run Try.prog w = .ok (.tuple #[.agg #[.int .i64 0, .int .i64 0], .bool false]) w := by kernel_rfl
theorem as_first_gone (v : Value) (w : World) : (Instr.typeAssert (.iface 59 v) 54 69 true).run Try.prog w = .ok (.tuple #[.agg #[.int .i64 0, .int .i64 0], .bool false]) w := by kernel_rfl
theorem as_first_left (v : Value) (w : World) : (Instr.typeAssert (.iface 59 v) 54 70 true).run Try.prog w = .ok (.tuple #[.agg #[.int .i64 0, .int .i64 0], .bool false]) w := by kernel_rfl
theorem as_second_first (v : Value) (w : World) : (Instr.typeAssert (.iface 60 v) 54 59 true).run Try.prog w = .ok (.tuple #[.agg #[.int .i64 0, .int .i64 0], .bool false]) w := by kernel_rfl
theorem as_second_second (v : Value) (w : World) : (Instr.typeAssert (.iface 60 v) 54 60 true).run Try.prog w = .ok (.tuple #[v, .bool true]) w := by kernel_rfl
theorem as_second_rest (v : Value) (w : World) : (Instr.typeAssert (.iface 60 v) 54 61 true).run Try.prog w = .ok (.tuple #[.agg #[.int .i64 0, .int .i64 0], .bool false]) w := by kernel_rfl
theorem as_second_done (v : Value) (w : World) : (Instr.typeAssert (.iface 60 v) 54 62 true).run Try.prog w = .ok (.tuple #[.agg #[.int .i64 0, .int .i64 0], .bool false]) w := by kernel_rfl
theorem as_second_undo (v : Value) (w : World) : (Instr.typeAssert (.iface 60 v) 54 68 true).run Try.prog w = .ok (.tuple #[.agg #[.int .i64 0, .int .i64 0], .bool false]) w := by kernel_rfl
theorem as_second_gone (v : Value) (w : World) : (Instr.typeAssert (.iface 60 v) 54 69 true).run Try.prog w = .ok (.tuple #[.agg #[.int .i64 0, .int .i64 0], .bool false]) w := by kernel_rfl
theorem as_second_left (v : Value) (w : World) : (Instr.typeAssert (.iface 60 v) 54 70 true).run Try.prog w = .ok (.tuple #[.agg #[.int .i64 0, .int .i64 0], .bool false]) w := by kernel_rfl
theorem as_rest_first (v : Value) (w : World) : (Instr.typeAssert (.iface 61 v) 54 59 true).run Try.prog w = .ok (.tuple #[.agg #[.int .i64 0, .int .i64 0], .bool false]) w := by kernel_rfl
theorem as_rest_second (v : Value) (w : World) : (Instr.typeAssert (.iface 61 v) 54 60 true).run Try.prog w = .ok (.tuple #[.agg #[.int .i64 0, .int .i64 0], .bool false]) w := by kernel_rfl
theorem as_rest_rest (v : Value) (w : World) : (Instr.typeAssert (.iface 61 v) 54 61 true).run Try.prog w = .ok (.tuple #[v, .bool true]) w := by kernel_rfl
theorem as_rest_done (v : Value) (w : World) : (Instr.typeAssert (.iface 61 v) 54 62 true).run Try.prog w = .ok (.tuple #[.agg #[.int .i64 0, .int .i64 0], .bool false]) w := by kernel_rfl
theorem as_rest_undo (v : Value) (w : World) : (Instr.typeAssert (.iface 61 v) 54 68 true).run Try.prog w = .ok (.tuple #[.agg #[.int .i64 0, .int .i64 0], .bool false]) w := by kernel_rfl
theorem as_rest_gone (v : Value) (w : World) : (Instr.typeAssert (.iface 61 v) 54 69 true).run Try.prog w = .ok (.tuple #[.agg #[.int .i64 0, .int .i64 0], .bool false]) w := by kernel_rfl
theorem as_rest_left (v : Value) (w : World) : (Instr.typeAssert (.iface 61 v) 54 70 true).run Try.prog w = .ok (.tuple #[.agg #[.int .i64 0, .int .i64 0], .bool false]) w := by kernel_rfl
theorem as_done_first (v : Value) (w : World) : (Instr.typeAssert (.iface 62 v) 54 59 true).run Try.prog w = .ok (.tuple #[.agg #[.int .i64 0, .int .i64 0], .bool false]) w := by kernel_rfl
theorem as_done_second (v : Value) (w : World) : (Instr.typeAssert (.iface 62 v) 54 60 true).run Try.prog w = .ok (.tuple #[.agg #[.int .i64 0, .int .i64 0], .bool false]) w := by kernel_rfl
theorem as_done_rest (v : Value) (w : World) : (Instr.typeAssert (.iface 62 v) 54 61 true).run Try.prog w = .ok (.tuple #[.agg #[.int .i64 0, .int .i64 0], .bool false]) w := by kernel_rfl
theorem as_done_done (v : Value) (w : World) : (Instr.typeAssert (.iface 62 v) 54 62 true).run Try.prog w = .ok (.tuple #[v, .bool true]) w := by kernel_rfl
theorem as_done_undo (v : Value) (w : World) : (Instr.typeAssert (.iface 62 v) 54 68 true).run Try.prog w = .ok (.tuple #[.agg #[.int .i64 0, .int .i64 0], .bool false]) w := by kernel_rfl
theorem as_done_gone (v : Value) (w : World) : (Instr.typeAssert (.iface 62 v) 54 69 true).run Try.prog w = .ok (.tuple #[.agg #[.int .i64 0, .int .i64 0], .bool false]) w := by kernel_rfl
theorem as_done_left (v : Value) (w : World) : (Instr.typeAssert (.iface 62 v) 54 70 true).run Try.prog w = .ok (.tuple #[.agg #[.int .i64 0, .int .i64 0], .bool false]) w := by kernel_rfl
theorem as_undo_first (v : Value) (w : World) : (Instr.typeAssert (.iface 68 v) 54 59 true).run Try.prog w = .ok (.tuple #[.agg #[.int .i64 0, .int .i64 0], .bool false]) w := by kernel_rfl
theorem as_undo_second (v : Value) (w : World) : (Instr.typeAssert (.iface 68 v) 54 60 true).run Try.prog w = .ok (.tuple #[.agg #[.int .i64 0, .int .i64 0], .bool false]) w := by kernel_rfl
theorem as_undo_rest (v : Value) (w : World) : (Instr.typeAssert (.iface 68 v) 54 61 true).run Try.prog w = .ok (.tuple #[.agg #[.int .i64 0, .int .i64 0], .bool false]) w := by kernel_rfl
theorem as_undo_done (v : Value) (w : World) : (Instr.typeAssert (.iface 68 v) 54 62 true).run Try.prog w = .ok (.tuple #[.agg #[.int .i64 0, .int .i64 0], .bool false]) w := by kernel_rfl
theorem as_undo_undo (v : Value) (w : World) : (Instr.typeAssert (.iface 68 v) 54 68 true).run Try.prog w = .ok (.tuple #[v, .bool true]) w := by kernel_rfl
theorem as_undo_gone (v : Value) (w : World) : (Instr.typeAssert (.iface 68 v) 54 69 true).run Try.prog w = .ok (.tuple #[.agg #[.int .i64 0, .int .i64 0], .bool false]) w := by kernel_rfl
theorem as_undo_left (v : Value) (w : World) : (Instr.typeAssert (.iface 68 v) 54 70 true).run Try.prog w = .ok (.tuple #[.agg #[.int .i64 0, .int .i64 0], .bool false]) w := by kernel_rfl
theorem as_gone_first (v : Value) (w : World) : (Instr.typeAssert (.iface 69 v) 54 59 true).run Try.prog w = .ok (.tuple #[.agg #[.int .i64 0, .int .i64 0], .bool false]) w := by kernel_rfl
theorem as_gone_second (v : Value) (w : World) : (Instr.typeAssert (.iface 69 v) 54 60 true).run Try.prog w = .ok (.tuple #[.agg #[.int .i64 0, .int .i64 0], .bool false]) w := by kernel_rfl
theorem as_gone_rest (v : Value) (w : World) : (Instr.typeAssert (.iface 69 v) 54 61 true).run Try.prog w = .ok (.tuple #[.agg #[.int .i64 0, .int .i64 0], .bool false]) w := by kernel_rfl
theorem as_gone_done (v : Value) (w : World) : (Instr.typeAssert (.iface 69 v) 54 62 true).run Try.prog w = .ok (.tuple #[.agg #[.int .i64 0, .int .i64 0], .bool false]) w := by kernel_rfl
theorem as_gone_undo (v : Value) (w : World) : (Instr.typeAssert (.iface 69 v) 54 68 true).run Try.prog w = .ok (.tuple #[.agg #[.int .i64 0, .int .i64 0], .bool false]) w := by kernel_rfl
theorem as_gone_gone (v : Value) (w : World) : (Instr.typeAssert (.iface 69 v) 54 69 true).run Try.prog w = .ok (.tuple #[v, .bool true]) w := by kernel_rfl
theorem as_gone_left (v : Value) (w : World) : (Instr.typeAssert (.iface 69 v) 54 70 true).run Try.prog w = .ok (.tuple #[.agg #[.int .i64 0, .int .i64 0], .bool false]) w := by kernel_rfl
theorem as_left_first (v : Value) (w : World) : (Instr.typeAssert (.iface 70 v) 54 59 true).run Try.prog w = .ok (.tuple #[.agg #[.int .i64 0, .int .i64 0], .bool false]) w := by kernel_rfl
theorem as_left_second (v : Value) (w : World) : (Instr.typeAssert (.iface 70 v) 54 60 true).run Try.prog w = .ok (.tuple #[.agg #[.int .i64 0, .int .i64 0], .bool false]) w := by kernel_rfl
theorem as_left_rest (v : Value) (w : World) : (Instr.typeAssert (.iface 70 v) 54 61 true).run Try.prog w = .ok (.tuple #[.agg #[.int .i64 0, .int .i64 0], .bool false]) w := by kernel_rfl
theorem as_left_done (v : Value) (w : World) : (Instr.typeAssert (.iface 70 v) 54 62 true).run Try.prog w = .ok (.tuple #[.agg #[.int .i64 0, .int .i64 0], .bool false]) w := by kernel_rfl
theorem as_left_undo (v : Value) (w : World) : (Instr.typeAssert (.iface 70 v) 54 68 true).run Try.prog w = .ok (.tuple #[.agg #[.int .i64 0, .int .i64 0], .bool false]) w := by kernel_rfl
theorem as_left_gone (v : Value) (w : World) : (Instr.typeAssert (.iface 70 v) 54 69 true).run Try.prog w = .ok (.tuple #[.agg #[.int .i64 0, .int .i64 0], .bool false]) w := by kernel_rfl
theorem as_left_left (v : Value) (w : World) : (Instr.typeAssert (.iface 70 v) 54 70 true).run Try.prog w = .ok (.tuple #[v, .bool true]) w := by kernel_rfl
/-- Whether Commit suits the state. -/
def SuitsT (s c st : Int) (r : Bool) : Prop := (st = 1 ∧ r = (c == 0)) ∨ ((st = 2 ∨ st = 3 ∨ st = 4) ∧ r = decide (s < c)) ∨ ((st = 5 ∨ st = 6 ∨ st = 7) ∧ r = true)
set_option maxHeartbeats 1000000 in
theorem commitSuits_is (s c u st a : Int) (ao : Option Addr) (n cp : Nat) (r : Bool) (hr : SuitsT s c st r) (hn : n ≤ 12) (w : World) :
    Calls Try.prog 23 #[.agg #[.int .i64 s, .int .i64 c, .int .i64 u, .int .i64 st, .int .i64 a, .slice ao n cp]] w fun e w' => e = .returned (.bool r) ∧ Below w.heap.size w w' := by
  obtain ⟨t, ht⟩ : ∃ t, StT st t := StT.get (by rcases hr with ⟨h, _⟩ | ⟨h, _⟩ | ⟨h, _⟩ <;> omega)
  rcases hr with ⟨rfl, rfl⟩ | ⟨h, rfl⟩ | ⟨h, rfl⟩
  · have HT : Hid (StT _ t) := ht
    clear ht
    go_enter Try.func23, Try.ntmps23
    go_wp2_with fail
    refine (stateOf_is _ _ _ _ _ _ _ _ t HT.out hn _).mono ?_
    rintro e w1 ⟨rfl, q1⟩
    have Q : Hid (Below w.heap.size w w1) := (below_alloc _ _).trans (q1.mono (by simp))
    obtain ⟨⟨k0, k1, k2, k3, k4, k5⟩, _⟩ := (Blk6.new w (.int .i64 s) (.int .i64 c) (.int .i64 u) (.int .i64 1) (.int .i64 a) (.slice ao n cp) 29).later q1
    clear q1
    obtain rfl : t = 59 := by
      rcases HT.out with h | h | h | h | h | h | h
      · exact h.2
      all_goals omega
    have t0 := as_first_first
    have t1 := as_first_second
    have t2 := as_first_rest
    have t3 := as_first_done
    go_wp2
    go_ret
    exact ⟨rfl, Q.out⟩
  · rcases h with rfl | rfl | rfl
    · have HT : Hid (StT _ t) := ht
      clear ht
      go_enter Try.func23, Try.ntmps23
      go_wp2_with fail
      refine (stateOf_is _ _ _ _ _ _ _ _ t HT.out hn _).mono ?_
      rintro e w1 ⟨rfl, q1⟩
      have Q : Hid (Below w.heap.size w w1) := (below_alloc _ _).trans (q1.mono (by simp))
      obtain ⟨⟨k0, k1, k2, k3, k4, k5⟩, _⟩ := (Blk6.new w (.int .i64 s) (.int .i64 c) (.int .i64 u) (.int .i64 2) (.int .i64 a) (.slice ao n cp) 29).later q1
      clear q1
      obtain rfl : t = 60 := by
        rcases HT.out with h | h | h | h | h | h | h
        · omega
        · exact h.2
        all_goals omega
      have t0 := as_second_first
      have t1 := as_second_second
      have t2 := as_second_rest
      have t3 := as_second_done
      go_wp2
      go_ret
      exact ⟨rfl, Q.out⟩
    · have HT : Hid (StT _ t) := ht
      clear ht
      go_enter Try.func23, Try.ntmps23
      go_wp2_with fail
      refine (stateOf_is _ _ _ _ _ _ _ _ t HT.out hn _).mono ?_
      rintro e w1 ⟨rfl, q1⟩
      have Q : Hid (Below w.heap.size w w1) := (below_alloc _ _).trans (q1.mono (by simp))
      obtain ⟨⟨k0, k1, k2, k3, k4, k5⟩, _⟩ := (Blk6.new w (.int .i64 s) (.int .i64 c) (.int .i64 u) (.int .i64 3) (.int .i64 a) (.slice ao n cp) 29).later q1
      clear q1
      obtain rfl : t = 61 := by
        rcases HT.out with h | h | h | h | h | h | h
        · omega
        · omega
        · exact h.2
        all_goals omega
      have t0 := as_rest_first
      have t1 := as_rest_second
      have t2 := as_rest_rest
      have t3 := as_rest_done
      go_wp2
      go_ret
      exact ⟨rfl, Q.out⟩
    · have HT : Hid (StT _ t) := ht
      clear ht
      go_enter Try.func23, Try.ntmps23
      go_wp2_with fail
      refine (stateOf_is _ _ _ _ _ _ _ _ t HT.out hn _).mono ?_
      rintro e w1 ⟨rfl, q1⟩
      have Q : Hid (Below w.heap.size w w1) := (below_alloc _ _).trans (q1.mono (by simp))
      obtain ⟨⟨k0, k1, k2, k3, k4, k5⟩, _⟩ := (Blk6.new w (.int .i64 s) (.int .i64 c) (.int .i64 u) (.int .i64 4) (.int .i64 a) (.slice ao n cp) 29).later q1
      clear q1
      obtain rfl : t = 62 := by
        rcases HT.out with h | h | h | h | h | h | h
        · omega
        · omega
        · omega
        · exact h.2
        all_goals omega
      have t0 := as_done_first
      have t1 := as_done_second
      have t2 := as_done_rest
      have t3 := as_done_done
      go_wp2
      go_ret
      exact ⟨rfl, Q.out⟩
  · rcases h with rfl | rfl | rfl
    · have HT : Hid (StT _ t) := ht
      clear ht
      go_enter Try.func23, Try.ntmps23
      go_wp2_with fail
      refine (stateOf_is _ _ _ _ _ _ _ _ t HT.out hn _).mono ?_
      rintro e w1 ⟨rfl, q1⟩
      have Q : Hid (Below w.heap.size w w1) := (below_alloc _ _).trans (q1.mono (by simp))
      obtain ⟨⟨k0, k1, k2, k3, k4, k5⟩, _⟩ := (Blk6.new w (.int .i64 s) (.int .i64 c) (.int .i64 u) (.int .i64 5) (.int .i64 a) (.slice ao n cp) 29).later q1
      clear q1
      obtain rfl : t = 68 := by
        rcases HT.out with h | h | h | h | h | h | h
        · omega
        · omega
        · omega
        · omega
        · exact h.2
        all_goals omega
      have t0 := as_undo_first
      have t1 := as_undo_second
      have t2 := as_undo_rest
      have t3 := as_undo_done
      go_wp2
      go_ret
      exact ⟨rfl, Q.out⟩
    · have HT : Hid (StT _ t) := ht
      clear ht
      go_enter Try.func23, Try.ntmps23
      go_wp2_with fail
      refine (stateOf_is _ _ _ _ _ _ _ _ t HT.out hn _).mono ?_
      rintro e w1 ⟨rfl, q1⟩
      have Q : Hid (Below w.heap.size w w1) := (below_alloc _ _).trans (q1.mono (by simp))
      obtain ⟨⟨k0, k1, k2, k3, k4, k5⟩, _⟩ := (Blk6.new w (.int .i64 s) (.int .i64 c) (.int .i64 u) (.int .i64 6) (.int .i64 a) (.slice ao n cp) 29).later q1
      clear q1
      obtain rfl : t = 69 := by
        rcases HT.out with h | h | h | h | h | h | h
        · omega
        · omega
        · omega
        · omega
        · omega
        · exact h.2
        · omega
      have t0 := as_gone_first
      have t1 := as_gone_second
      have t2 := as_gone_rest
      have t3 := as_gone_done
      go_wp2
      go_ret
      exact ⟨rfl, Q.out⟩
    · have HT : Hid (StT _ t) := ht
      clear ht
      go_enter Try.func23, Try.ntmps23
      go_wp2_with fail
      refine (stateOf_is _ _ _ _ _ _ _ _ t HT.out hn _).mono ?_
      rintro e w1 ⟨rfl, q1⟩
      have Q : Hid (Below w.heap.size w w1) := (below_alloc _ _).trans (q1.mono (by simp))
      obtain ⟨⟨k0, k1, k2, k3, k4, k5⟩, _⟩ := (Blk6.new w (.int .i64 s) (.int .i64 c) (.int .i64 u) (.int .i64 7) (.int .i64 a) (.slice ao n cp) 29).later q1
      clear q1
      obtain rfl : t = 70 := by
        rcases HT.out with h | h | h | h | h | h | h
        · omega
        · omega
        · omega
        · omega
        · omega
        · omega
        · exact h.2
      have t0 := as_left_first
      have t1 := as_left_second
      have t2 := as_left_rest
      have t3 := as_left_done
      go_wp2
      go_ret
      exact ⟨rfl, Q.out⟩
theorem lt_progress : 57 < Try.prog.types.size := of_decide_eq_true (by kernel_rfl)
theorem sz_progress : (Try.prog.types[57]'lt_progress).size = 2 := by kernel_rfl
end Go.Proofs.Ytjimckfkbkfggab
