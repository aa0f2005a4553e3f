/-
  Own text. Chapter 8, the program: the states, and TxnFault.
-/
import Derived.Test.YtjimckfkbkfggaaTxnE
namespace Go.Proofs.Ytjimckfkbkfggaa
open Go.RowKit

/-- The type that stands for a state. -/
def StT (st : Int) (t : TypeId) : Prop := (st = 1 ∧ t = 93) ∨ (st = 2 ∧ t = 95) ∨ (st = 3 ∧ t = 96) ∨ (st = 4 ∧ t = 98) ∨ (st = 5 ∧ t = 97) ∨ (st = 6 ∧ t = 99) ∨ (st = 7 ∧ t = 100)
theorem StT.get {st : Int} (h : 1 ≤ st ∧ st ≤ 7) : ∃ t, StT st t := by
  have h7 : st = 1 ∨ st = 2 ∨ st = 3 ∨ st = 4 ∨ st = 5 ∨ st = 6 ∨ st = 7 := by omega
  unfold StT
  rcases h7 with h | h | h | h | h | h | h
  · exact ⟨_, Or.inl ⟨h, rfl⟩⟩
  · exact ⟨_, Or.inr (Or.inl ⟨h, rfl⟩)⟩
  · exact ⟨_, Or.inr (Or.inr (Or.inl ⟨h, rfl⟩))⟩
  · exact ⟨_, Or.inr (Or.inr (Or.inr (Or.inl ⟨h, rfl⟩)))⟩
  · exact ⟨_, Or.inr (Or.inr (Or.inr (Or.inr (Or.inl ⟨h, rfl⟩))))⟩
  · exact ⟨_, Or.inr (Or.inr (Or.inr (Or.inr (Or.inr (Or.inl ⟨h, rfl⟩)))))⟩
  · exact ⟨_, Or.inr (Or.inr (Or.inr (Or.inr (Or.inr (Or.inr ⟨h, rfl⟩)))))⟩
set_option maxHeartbeats 1000000 in
theorem stateOf_is (s c u st a : Int) (ao : Option Addr) (n cp : Nat) (t : TypeId) (ht : StT st t) (_ : n ≤ 12) (w : World) :
    Calls Try.prog 47 #[.agg #[.int .i64 s, .int .i64 c, .int .i64 u, .int .i64 st, .int .i64 a, .slice ao n cp]] w fun e w' => e = .returned (.iface t (.agg #[.int .i64 n, .int .i64 a])) ∧ Below w.heap.size w w' := by
  rcases ht with ⟨rfl, rfl⟩ | ⟨rfl, rfl⟩ | ⟨rfl, rfl⟩ | ⟨rfl, rfl⟩ | ⟨rfl, rfl⟩ | ⟨rfl, rfl⟩ | ⟨rfl, rfl⟩
  all_goals
    go_enter Try.func47, Try.ntmps47
    go_wp2
    go_ret
    exact ⟨rfl, (below_alloc _ _).alloc (by simp) _⟩
theorem as_first_first (v : Value) (w : World) : (Instr.typeAssert (.iface 93 v) 72 93 true).run Try.prog w = .ok (.tuple #[v, .bool true]) w := by kernel_rfl
theorem as_first_second (v : Value) (w : World) : (Instr.typeAssert (.iface 93 v) 72 95 true).run Try.prog w = .ok (.tuple #[.agg #[.int .i64 0, .int .i64 0], .bool false]) w := by kernel_rfl
theorem as_first_rest (v : Value) (w : World) : (Instr.typeAssert (.iface 93 v) 72 96 true).run Try.prog w = .ok (.tuple #[.agg #[.int .i64 0, .int .i64 0], .bool false]) w := by kernel_rfl
theorem as_first_done (v : Value) (w : World) : (Instr.typeAssert (.iface 93 v) 72 98 true).run Try.prog w = .ok (.tuple #[.agg #[.int .i64 0, .int .i64 0], .bool false]) w := by kernel_rfl
theorem as_first_undo (v : Value) (w : World) : (Instr.typeAssert (.iface 93 v) 72 97 true).run Try.prog w = .ok (.tuple #[.agg #[.int .i64 0, .int .i64 0], .bool false]) w := by kernel_rfl
theorem as_first_gone (v : Value) (w : World) : (Instr.typeAssert (.iface 93 v) 72 99 true).run Try.prog w = .ok (.tuple #[.agg #[.int .i64 0, .int .i64 0], .bool false]) w := by kernel_rfl
theorem as_first_left (v : Value) (w : World) : (Instr.typeAssert (.iface 93 v) 72 100 true).run Try.prog w = .ok (.tuple #[.agg #[.int .i64 0, .int .i64 0], .bool false]) w := by kernel_rfl
theorem as_second_first (v : Value) (w : World) : (Instr.typeAssert (.iface 95 v) 72 93 true).run Try.prog w = .ok (.tuple #[.agg #[.int .i64 0, .int .i64 0], .bool false]) w := by kernel_rfl
theorem as_second_second (v : Value) (w : World) : (Instr.typeAssert (.iface 95 v) 72 95 true).run Try.prog w = .ok (.tuple #[v, .bool true]) w := by kernel_rfl
theorem as_second_rest (v : Value) (w : World) : (Instr.typeAssert (.iface 95 v) 72 96 true).run Try.prog w = .ok (.tuple #[.agg #[.int .i64 0, .int .i64 0], .bool false]) w := by kernel_rfl
theorem as_second_done (v : Value) (w : World) : (Instr.typeAssert (.iface 95 v) 72 98 true).run Try.prog w = .ok (.tuple #[.agg #[.int .i64 0, .int .i64 0], .bool false]) w := by kernel_rfl
theorem as_second_undo (v : Value) (w : World) : (Instr.typeAssert (.iface 95 v) 72 97 true).run Try.prog w = .ok (.tuple #[.agg #[.int .i64 0, .int .i64 0], .bool false]) w := by kernel_rfl
theorem as_second_gone (v : Value) (w : World) : (Instr.typeAssert (.iface 95 v) 72 99 true).run Try.prog w = .ok (.tuple #[.agg #[.int .i64 0, .int .i64 0], .bool false]) w := by kernel_rfl
theorem as_second_left (v : Value) (w : World) : (Instr.typeAssert (.iface 95 v) 72 100 true).run Try.prog w = .ok (.tuple #[.agg #[.int .i64 0, .int .i64 0], .bool false]) w := by kernel_rfl
theorem as_rest_first (v : Value) (w : World) : (Instr.typeAssert (.iface 96 v) 72 93 true).run Try.prog w = .ok (.tuple #[.agg #[.int .i64 0, .int .i64 0], .bool false]) w := by kernel_rfl
theorem as_rest_second (v : Value) (w : World) : (Instr.typeAssert (.iface 96 v) 72 95 true).run Try.prog w = .ok (.tuple #[.agg #[.int .i64 0, .int .i64 0], .bool false]) w := by kernel_rfl
theorem as_rest_rest (v : Value) (w : World) : (Instr.typeAssert (.iface 96 v) 72 96 true).run Try.prog w = .ok (.tuple #[v, .bool true]) w := by kernel_rfl
theorem as_rest_done (v : Value) (w : World) : (Instr.typeAssert (.iface 96 v) 72 98 true).run Try.prog w = .ok (.tuple #[.agg #[.int .i64 0, .int .i64 0], .bool false]) w := by kernel_rfl
theorem as_rest_undo (v : Value) (w : World) : (Instr.typeAssert (.iface 96 v) 72 97 true).run Try.prog w = .ok (.tuple #[.agg #[.int .i64 0, .int .i64 0], .bool false]) w := by kernel_rfl
theorem as_rest_gone (v : Value) (w : World) : (Instr.typeAssert (.iface 96 v) 72 99 true).run Try.prog w = .ok (.tuple #[.agg #[.int .i64 0, .int .i64 0], .bool false]) w := by kernel_rfl
theorem as_rest_left (v : Value) (w : World) : (Instr.typeAssert (.iface 96 v) 72 100 true).run Try.prog w = .ok (.tuple #[.agg #[.int .i64 0, .int .i64 0], .bool false]) w := by kernel_rfl
theorem as_done_first (v : Value) (w : World) : (Instr.typeAssert (.iface 98 v) 72 93 true).run Try.prog w = .ok (.tuple #[.agg #[.int .i64 0, .int .i64 0], .bool false]) w := by kernel_rfl
theorem as_done_second (v : Value) (w : World) : (Instr.typeAssert (.iface 98 v) 72 95 true).run Try.prog w = .ok (.tuple #[.agg #[.int .i64 0, .int .i64 0], .bool false]) w := by kernel_rfl
theorem as_done_rest (v : Value) (w : World) : (Instr.typeAssert (.iface 98 v) 72 96 true).run Try.prog w = .ok (.tuple #[.agg #[.int .i64 0, .int .i64 0], .bool false]) w := by kernel_rfl
theorem as_done_done (v : Value) (w : World) : (Instr.typeAssert (.iface 98 v) 72 98 true).run Try.prog w = .ok (.tuple #[v, .bool true]) w := by kernel_rfl
theorem as_done_undo (v : Value) (w : World) : (Instr.typeAssert (.iface 98 v) 72 97 true).run Try.prog w = .ok (.tuple #[.agg #[.int .i64 0, .int .i64 0], .bool false]) w := by kernel_rfl
theorem as_done_gone (v : Value) (w : World) : (Instr.typeAssert (.iface 98 v) 72 99 true).run Try.prog w = .ok (.tuple #[.agg #[.int .i64 0, .int .i64 0], .bool false]) w := by kernel_rfl
theorem as_done_left (v : Value) (w : World) : (Instr.typeAssert (.iface 98 v) 72 100 true).run Try.prog w = .ok (.tuple #[.agg #[.int .i64 0, .int .i64 0], .bool false]) w := by kernel_rfl
theorem as_undo_first (v : Value) (w : World) : (Instr.typeAssert (.iface 97 v) 72 93 true).run Try.prog w = .ok (.tuple #[.agg #[.int .i64 0, .int .i64 0], .bool false]) w := by kernel_rfl
theorem as_undo_second (v : Value) (w : World) : (Instr.typeAssert (.iface 97 v) 72 95 true).run Try.prog w = .ok (.tuple #[.agg #[.int .i64 0, .int .i64 0], .bool false]) w := by kernel_rfl
theorem as_undo_rest (v : Value) (w : World) : (Instr.typeAssert (.iface 97 v) 72 96 true).run Try.prog w = .ok (.tuple #[.agg #[.int .i64 0, .int .i64 0], .bool false]) w := by kernel_rfl
theorem as_undo_done (v : Value) (w : World) : (Instr.typeAssert (.iface 97 v) 72 98 true).run Try.prog w = .ok (.tuple #[.agg #[.int .i64 0, .int .i64 0], .bool false]) w := by kernel_rfl
theorem as_undo_undo (v : Value) (w : World) : (Instr.typeAssert (.iface 97 v) 72 97 true).run Try.prog w = .ok (.tuple #[v, .bool true]) w := by kernel_rfl
theorem as_undo_gone (v : Value) (w : World) : (Instr.typeAssert (.iface 97 v) 72 99 true).run Try.prog w = .ok (.tuple #[.agg #[.int .i64 0, .int .i64 0], .bool false]) w := by kernel_rfl
theorem as_undo_left (v : Value) (w : World) : (Instr.typeAssert (.iface 97 v) 72 100 true).run Try.prog w = .ok (.tuple #[.agg #[.int .i64 0, .int .i64 0], .bool false]) w := by kernel_rfl
theorem as_gone_first (v : Value) (w : World) : (Instr.typeAssert (.iface 99 v) 72 93 true).run Try.prog w = .ok (.tuple #[.agg #[.int .i64 0, .int .i64 0], .bool false]) w := by kernel_rfl
theorem as_gone_second (v : Value) (w : World) : (Instr.typeAssert (.iface 99 v) 72 95 true).run Try.prog w = .ok (.tuple #[.agg #[.int .i64 0, .int .i64 0], .bool false]) w := by kernel_rfl
theorem as_gone_rest (v : Value) (w : World) : (Instr.typeAssert (.iface 99 v) 72 96 true).run Try.prog w = .ok (.tuple #[.agg #[.int .i64 0, .int .i64 0], .bool false]) w := by kernel_rfl
theorem as_gone_done (v : Value) (w : World) : (Instr.typeAssert (.iface 99 v) 72 98 true).run Try.prog w = .ok (.tuple #[.agg #[.int .i64 0, .int .i64 0], .bool false]) w := by kernel_rfl
theorem as_gone_undo (v : Value) (w : World) : (Instr.typeAssert (.iface 99 v) 72 97 true).run Try.prog w = .ok (.tuple #[.agg #[.int .i64 0, .int .i64 0], .bool false]) w := by kernel_rfl
theorem as_gone_gone (v : Value) (w : World) : (Instr.typeAssert (.iface 99 v) 72 99 true).run Try.prog w = .ok (.tuple #[v, .bool true]) w := by kernel_rfl
theorem as_gone_left (v : Value) (w : World) : (Instr.typeAssert (.iface 99 v) 72 100 true).run Try.prog w = .ok (.tuple #[.agg #[.int .i64 0, .int .i64 0], .bool false]) w := by kernel_rfl
theorem as_left_first (v : Value) (w : World) : (Instr.typeAssert (.iface 100 v) 72 93 true).run Try.prog w = .ok (.tuple #[.agg #[.int .i64 0, .int .i64 0], .bool false]) w := by kernel_rfl
theorem as_left_second (v : Value) (w : World) : (Instr.typeAssert (.iface 100 v) 72 95 true).run Try.prog w = .ok (.tuple #[.agg #[.int .i64 0, .int .i64 0], .bool false]) w := by kernel_rfl
theorem as_left_rest (v : Value) (w : World) : (Instr.typeAssert (.iface 100 v) 72 96 true).run Try.prog w = .ok (.tuple #[.agg #[.int .i64 0, .int .i64 0], .bool false]) w := by kernel_rfl
theorem as_left_done (v : Value) (w : World) : (Instr.typeAssert (.iface 100 v) 72 98 true).run Try.prog w = .ok (.tuple #[.agg #[.int .i64 0, .int .i64 0], .bool false]) w := by kernel_rfl
theorem as_left_undo (v : Value) (w : World) : (Instr.typeAssert (.iface 100 v) 72 97 true).run Try.prog w = .ok (.tuple #[.agg #[.int .i64 0, .int .i64 0], .bool false]) w := by kernel_rfl
theorem as_left_gone (v : Value) (w : World) : (Instr.typeAssert (.iface 100 v) 72 99 true).run Try.prog w = .ok (.tuple #[.agg #[.int .i64 0, .int .i64 0], .bool false]) w := by kernel_rfl
theorem as_left_left (v : Value) (w : World) : (Instr.typeAssert (.iface 100 v) 72 100 true).run Try.prog w = .ok (.tuple #[v, .bool true]) w := by kernel_rfl
set_option maxHeartbeats 1000000 in
theorem isEnd_is (st a : Int) (n : Nat) (t : TypeId) (ht : StT st t) (w : World) :
    Calls Try.prog 52 #[.iface t (.agg #[.int .i64 n, .int .i64 a])] w fun e w' => e = .returned (.bool (decide (st = 4 ∨ st = 6 ∨ st = 7))) ∧ w' = w := by
  rcases ht with ⟨rfl, rfl⟩ | ⟨rfl, rfl⟩ | ⟨rfl, rfl⟩ | ⟨rfl, rfl⟩ | ⟨rfl, rfl⟩ | ⟨rfl, rfl⟩ | ⟨rfl, rfl⟩
  · have t0 := as_first_done
    have t1 := as_first_gone
    have t2 := as_first_left
    go_enter Try.func52, Try.ntmps52
    go_wp2
    go_ret
    exact ⟨rfl, rfl⟩
  · have t0 := as_second_done
    have t1 := as_second_gone
    have t2 := as_second_left
    go_enter Try.func52, Try.ntmps52
    go_wp2
    go_ret
    exact ⟨rfl, rfl⟩
  · have t0 := as_rest_done
    have t1 := as_rest_gone
    have t2 := as_rest_left
    go_enter Try.func52, Try.ntmps52
    go_wp2
    go_ret
    exact ⟨rfl, rfl⟩
  · have t0 := as_done_done
    have t1 := as_done_gone
    have t2 := as_done_left
    go_enter Try.func52, Try.ntmps52
    go_wp2
    go_ret
    exact ⟨rfl, rfl⟩
  · have t0 := as_undo_done
    have t1 := as_undo_gone
    have t2 := as_undo_left
    go_enter Try.func52, Try.ntmps52
    go_wp2
    go_ret
    exact ⟨rfl, rfl⟩
  · have t0 := as_gone_done
    have t1 := as_gone_gone
    have t2 := as_gone_left
    go_enter Try.func52, Try.ntmps52
    go_wp2
    go_ret
    exact ⟨rfl, rfl⟩
  · have t0 := as_left_done
    have t1 := as_left_gone
    have t2 := as_left_left
    go_enter Try.func52, Try.ntmps52
    go_wp2
    go_ret
    exact ⟨rfl, rfl⟩
/-- Whether Commit suits the state. -/
def SuitsT (s c st : Int) (r : Bool) : Prop := (st = 1 ∧ r = (c == 0)) ∨ ((st = 2 ∨ st = 3 ∨ st = 4) ∧ r = decide (s < c)) ∨ ((st = 5 ∨ st = 6 ∨ st = 7) ∧ r = true)
set_option maxHeartbeats 1000000 in
theorem commitSuits_is (s c u st a : Int) (ao : Option Addr) (n cp : Nat) (r : Bool) (hr : SuitsT s c st r) (hn : n ≤ 12) (w : World) :
    Calls Try.prog 51 #[.agg #[.int .i64 s, .int .i64 c, .int .i64 u, .int .i64 st, .int .i64 a, .slice ao n cp]] w fun e w' => e = .returned (.bool r) ∧ Below w.heap.size w w' := by
  obtain ⟨t, ht⟩ : ∃ t, StT st t := StT.get (by rcases hr with ⟨h, _⟩ | ⟨h, _⟩ | ⟨h, _⟩ <;> omega)
  rcases hr with ⟨rfl, rfl⟩ | ⟨h, rfl⟩ | ⟨h, rfl⟩
  · have HT : Hid (StT _ t) := ht
    clear ht
    go_enter Try.func51, Try.ntmps51
    go_wp2_with fail
    refine (stateOf_is _ _ _ _ _ _ _ _ t HT.out hn _).mono ?_
    rintro e w1 ⟨rfl, q1⟩
    have Q : Hid (Below w.heap.size w w1) := (below_alloc _ _).trans (q1.mono (by simp))
    obtain ⟨⟨k0, k1, k2, k3, k4, k5⟩, _⟩ := (Blk6.new w (.int .i64 s) (.int .i64 c) (.int .i64 u) (.int .i64 1) (.int .i64 a) (.slice ao n cp) 29).later q1
    clear q1
    obtain rfl : t = 93 := by
      rcases HT.out with h | h | h | h | h | h | h
      · exact h.2
      all_goals omega
    have t0 := as_first_first
    have t1 := as_first_second
    have t2 := as_first_rest
    have t3 := as_first_done
    go_wp2
    go_ret
    exact ⟨rfl, Q.out⟩
  · rcases h with rfl | rfl | rfl
    · have HT : Hid (StT _ t) := ht
      clear ht
      go_enter Try.func51, Try.ntmps51
      go_wp2_with fail
      refine (stateOf_is _ _ _ _ _ _ _ _ t HT.out hn _).mono ?_
      rintro e w1 ⟨rfl, q1⟩
      have Q : Hid (Below w.heap.size w w1) := (below_alloc _ _).trans (q1.mono (by simp))
      obtain ⟨⟨k0, k1, k2, k3, k4, k5⟩, _⟩ := (Blk6.new w (.int .i64 s) (.int .i64 c) (.int .i64 u) (.int .i64 2) (.int .i64 a) (.slice ao n cp) 29).later q1
      clear q1
      obtain rfl : t = 95 := by
        rcases HT.out with h | h | h | h | h | h | h
        · omega
        · exact h.2
        all_goals omega
      have t0 := as_second_first
      have t1 := as_second_second
      have t2 := as_second_rest
      have t3 := as_second_done
      go_wp2
      go_ret
      exact ⟨rfl, Q.out⟩
    · have HT : Hid (StT _ t) := ht
      clear ht
      go_enter Try.func51, Try.ntmps51
      go_wp2_with fail
      refine (stateOf_is _ _ _ _ _ _ _ _ t HT.out hn _).mono ?_
      rintro e w1 ⟨rfl, q1⟩
      have Q : Hid (Below w.heap.size w w1) := (below_alloc _ _).trans (q1.mono (by simp))
      obtain ⟨⟨k0, k1, k2, k3, k4, k5⟩, _⟩ := (Blk6.new w (.int .i64 s) (.int .i64 c) (.int .i64 u) (.int .i64 3) (.int .i64 a) (.slice ao n cp) 29).later q1
      clear q1
      obtain rfl : t = 96 := by
        rcases HT.out with h | h | h | h | h | h | h
        · omega
        · omega
        · exact h.2
        all_goals omega
      have t0 := as_rest_first
      have t1 := as_rest_second
      have t2 := as_rest_rest
      have t3 := as_rest_done
      go_wp2
      go_ret
      exact ⟨rfl, Q.out⟩
    · have HT : Hid (StT _ t) := ht
      clear ht
      go_enter Try.func51, Try.ntmps51
      go_wp2_with fail
      refine (stateOf_is _ _ _ _ _ _ _ _ t HT.out hn _).mono ?_
      rintro e w1 ⟨rfl, q1⟩
      have Q : Hid (Below w.heap.size w w1) := (below_alloc _ _).trans (q1.mono (by simp))
      obtain ⟨⟨k0, k1, k2, k3, k4, k5⟩, _⟩ := (Blk6.new w (.int .i64 s) (.int .i64 c) (.int .i64 u) (.int .i64 4) (.int .i64 a) (.slice ao n cp) 29).later q1
      clear q1
      obtain rfl : t = 98 := by
        rcases HT.out with h | h | h | h | h | h | h
        · omega
        · omega
        · omega
        · exact h.2
        all_goals omega
      have t0 := as_done_first
      have t1 := as_done_second
      have t2 := as_done_rest
      have t3 := as_done_done
      go_wp2
      go_ret
      exact ⟨rfl, Q.out⟩
  · rcases h with rfl | rfl | rfl
    · have HT : Hid (StT _ t) := ht
      clear ht
      go_enter Try.func51, Try.ntmps51
      go_wp2_with fail
      refine (stateOf_is _ _ _ _ _ _ _ _ t HT.out hn _).mono ?_
      rintro e w1 ⟨rfl, q1⟩
      have Q : Hid (Below w.heap.size w w1) := (below_alloc _ _).trans (q1.mono (by simp))
      obtain ⟨⟨k0, k1, k2, k3, k4, k5⟩, _⟩ := (Blk6.new w (.int .i64 s) (.int .i64 c) (.int .i64 u) (.int .i64 5) (.int .i64 a) (.slice ao n cp) 29).later q1
      clear q1
      obtain rfl : t = 97 := by
        rcases HT.out with h | h | h | h | h | h | h
        · omega
        · omega
        · omega
        · omega
        · exact h.2
        all_goals omega
      have t0 := as_undo_first
      have t1 := as_undo_second
      have t2 := as_undo_rest
      have t3 := as_undo_done
      go_wp2
      go_ret
      exact ⟨rfl, Q.out⟩
    · have HT : Hid (StT _ t) := ht
      clear ht
      go_enter Try.func51, Try.ntmps51
      go_wp2_with fail
      refine (stateOf_is _ _ _ _ _ _ _ _ t HT.out hn _).mono ?_
      rintro e w1 ⟨rfl, q1⟩
      have Q : Hid (Below w.heap.size w w1) := (below_alloc _ _).trans (q1.mono (by simp))
      obtain ⟨⟨k0, k1, k2, k3, k4, k5⟩, _⟩ := (Blk6.new w (.int .i64 s) (.int .i64 c) (.int .i64 u) (.int .i64 6) (.int .i64 a) (.slice ao n cp) 29).later q1
      clear q1
      obtain rfl : t = 99 := by
        rcases HT.out with h | h | h | h | h | h | h
        · omega
        · omega
        · omega
        · omega
        · omega
        · exact h.2
        · omega
      have t0 := as_gone_first
      have t1 := as_gone_second
      have t2 := as_gone_rest
      have t3 := as_gone_done
      go_wp2
      go_ret
      exact ⟨rfl, Q.out⟩
    · have HT : Hid (StT _ t) := ht
      clear ht
      go_enter Try.func51, Try.ntmps51
      go_wp2_with fail
      refine (stateOf_is _ _ _ _ _ _ _ _ t HT.out hn _).mono ?_
      rintro e w1 ⟨rfl, q1⟩
      have Q : Hid (Below w.heap.size w w1) := (below_alloc _ _).trans (q1.mono (by simp))
      obtain ⟨⟨k0, k1, k2, k3, k4, k5⟩, _⟩ := (Blk6.new w (.int .i64 s) (.int .i64 c) (.int .i64 u) (.int .i64 7) (.int .i64 a) (.slice ao n cp) 29).later q1
      clear q1
      obtain rfl : t = 100 := by
        rcases HT.out with h | h | h | h | h | h | h
        · omega
        · omega
        · omega
        · omega
        · omega
        · omega
        · exact h.2
      have t0 := as_left_first
      have t1 := as_left_second
      have t2 := as_left_rest
      have t3 := as_left_done
      go_wp2
      go_ret
      exact ⟨rfl, Q.out⟩
set_option maxHeartbeats 1000000 in
theorem itemsLeft_is (n : Nat) (a : Int) (hn : n ≤ 12) (ha : 0 ≤ a ∧ a ≤ n) (w : World) :
    Calls Try.prog 66 #[.agg #[.int .i64 n, .int .i64 a]] w fun e w' => e = .returned (.int .i64 (n - a)) ∧ Below w.heap.size w w' := by
  go_enter Try.func66, Try.ntmps66
  go_wp2
  go_ret
  exact ⟨rfl, below_alloc _ _⟩
theorem lt_progress : 91 < Try.prog.types.size := of_decide_eq_true (by kernel_rfl)
theorem sz_progress : (Try.prog.types[91]'lt_progress).size = 2 := by kernel_rfl
set_option maxHeartbeats 1000000 in
theorem stepsFrom_3 (n : Nat) (a : Int) (hn : n ≤ 12) (ha : 0 ≤ a ∧ a ≤ n) (w : World) :
    Calls Try.prog 46 #[.iface 96 (.agg #[.int .i64 n, .int .i64 a])] w fun e w' => e = .returned (.int .i64 (n - a + 1)) ∧ Below w.heap.size w w' := by
  have hs := sz_progress
  have t0 := as_rest_first
  have t1 := as_rest_second
  have t2 := as_rest_rest
  have t3 := as_rest_undo
  go_enter Try.func46, Try.ntmps46
  go_wp2_with fail
  refine (itemsLeft_is n a hn ha _).mono ?_
  rintro e w1 ⟨rfl, q1⟩
  have Q : Hid (Below w.heap.size w w1) := q1
  clear q1 hs
  go_wp2
  go_ret
  exact ⟨rfl, Q.out⟩
set_option maxHeartbeats 1000000 in
theorem stepsFrom_5 (n : Nat) (a : Int) (hn : n ≤ 12) (ha : 0 ≤ a ∧ a ≤ n) (w : World) :
    Calls Try.prog 46 #[.iface 97 (.agg #[.int .i64 n, .int .i64 a])] w fun e w' => e = .returned (.int .i64 (n - a + 1)) ∧ Below w.heap.size w w' := by
  have hs := sz_progress
  have t0 := as_undo_first
  have t1 := as_undo_second
  have t2 := as_undo_rest
  have t3 := as_undo_undo
  go_enter Try.func46, Try.ntmps46
  go_wp2_with fail
  refine (itemsLeft_is n a hn ha _).mono ?_
  rintro e w1 ⟨rfl, q1⟩
  have Q : Hid (Below w.heap.size w w1) := q1
  clear q1 hs
  go_wp2
  go_ret
  exact ⟨rfl, Q.out⟩
set_option maxHeartbeats 1000000 in
theorem stepsFrom_4 (n : Nat) (a : Int) (w : World) :
    Calls Try.prog 46 #[.iface 98 (.agg #[.int .i64 n, .int .i64 a])] w fun e w' => e = .returned (.int .i64 0) ∧ Below w.heap.size w w' := by
  have t0 := as_done_first
  have t1 := as_done_second
  have t2 := as_done_rest
  have t3 := as_done_undo
  go_enter Try.func46, Try.ntmps46
  go_wp2
  go_ret
  exact ⟨rfl, Below.refl _ _⟩
set_option maxHeartbeats 1000000 in
theorem stepsFrom_6 (n : Nat) (a : Int) (w : World) :
    Calls Try.prog 46 #[.iface 99 (.agg #[.int .i64 n, .int .i64 a])] w fun e w' => e = .returned (.int .i64 0) ∧ Below w.heap.size w w' := by
  have t0 := as_gone_first
  have t1 := as_gone_second
  have t2 := as_gone_rest
  have t3 := as_gone_undo
  go_enter Try.func46, Try.ntmps46
  go_wp2
  go_ret
  exact ⟨rfl, Below.refl _ _⟩
set_option maxHeartbeats 1000000 in
theorem stepsFrom_7 (n : Nat) (a : Int) (w : World) :
    Calls Try.prog 46 #[.iface 100 (.agg #[.int .i64 n, .int .i64 a])] w fun e w' => e = .returned (.int .i64 0) ∧ Below w.heap.size w w' := by
  have t0 := as_left_first
  have t1 := as_left_second
  have t2 := as_left_rest
  have t3 := as_left_undo
  go_enter Try.func46, Try.ntmps46
  go_wp2
  go_ret
  exact ⟨rfl, Below.refl _ _⟩
set_option maxHeartbeats 1000000 in
theorem stepsFrom_2 (n : Nat) (a : Int) (w : World) :
    Calls Try.prog 46 #[.iface 95 (.agg #[.int .i64 n, .int .i64 a])] w fun e w' => e = .returned (.int .i64 n) ∧ Below w.heap.size w w' := by
  have t0 := as_second_first
  have t1 := as_second_second
  have t2 := as_second_rest
  have t3 := as_second_undo
  go_enter Try.func46, Try.ntmps46
  go_wp2
  go_ret
  exact ⟨rfl, below_alloc _ _⟩
set_option maxRecDepth 100000 in
set_option maxHeartbeats 2000000 in
theorem stepsFrom_1 (n : Nat) (a : Int) (hn : n ≤ 12) (ha : 0 ≤ a ∧ a ≤ n) (w : World) :
    Calls Try.prog 46 #[.iface 93 (.agg #[.int .i64 n, .int .i64 a])] w fun e w' => e = .returned (.int .i64 (n + (n - a) + 1)) ∧ Below w.heap.size w w' := by
  have t0 := as_first_first
  have t1 := as_first_second
  have t2 := as_first_rest
  have t3 := as_first_undo
  go_enter Try.func46, Try.ntmps46
  have hw1 : IntKind.i64.wrap ((n : Int) + (n - a)) = n + (n - a) := by simp [IntKind.wrap, IntKind.bits, IntKind.signed]; omega
  have hw2 : IntKind.i64.wrap ((n : Int) + (n - a) + 1) = n + (n - a) + 1 := by simp [IntKind.wrap, IntKind.bits, IntKind.signed]; omega
  have h0S : (fun x : World => x.cell? ⟨w.heap.size, 0, none⟩ = some (.int .i64 n) ∧ x.cell? ⟨w.heap.size, 1, none⟩ = some (.int .i64 a) ∧ Below w.heap.size w x ∧ w.heap.size < x.heap.size) (w.alloc (.cells #[.int .i64 n, .int .i64 a] 93)).drew := ⟨World.cell?_alloc_mark w _ _ _ 0, World.cell?_alloc_mark w _ _ _ 1, (below_alloc _ _).drew, by show w.heap.size < (w.alloc _).heap.size; simp⟩
  go_wp2_with fail
  refine wp_region_held_drew (S := fun x : World => x.cell? ⟨w.heap.size, 0, none⟩ = some (.int .i64 n) ∧ x.cell? ⟨w.heap.size, 1, none⟩ = some (.int .i64 a) ∧ Below w.heap.size w x ∧ w.heap.size < x.heap.size) (by kernel_rfl) h0S (fun hS => ?_)
  clear h0S
  refine wpAnyH_take (i := 0) (v := ?_) rfl (by kernel_rfl) (by kernel_rfl) (by kernel_rfl) (fun _ _ _ h => h) (Or.inl ⟨by kernel_rfl, ?_⟩) hS ?_
  rotate_left
  · intro wx hx
    obtain ⟨hx0, hx1, _⟩ := hx
    go_simp
    try with_reducible rfl
  refine wpAnyH_take (i := 1) (v := ?_) rfl (by kernel_rfl) (by kernel_rfl) (by kernel_rfl) (fun _ _ _ h => h) (Or.inl ⟨by kernel_rfl, ?_⟩) hS ?_
  rotate_left
  · intro wx hx
    obtain ⟨hx0, hx1, _⟩ := hx
    go_simp
    try with_reducible rfl
  refine wpAnyH_take (i := 2) (v := ?_) rfl (by kernel_rfl) (by kernel_rfl) (by kernel_rfl) (fun _ _ _ h => h) (Or.inl ⟨by kernel_rfl, ?_⟩) hS ?_
  rotate_left
  · intro wx hx
    obtain ⟨hx0, hx1, _⟩ := hx
    go_simp
    try with_reducible rfl
  refine wpAnyH_take (i := 3) (v := ?_) rfl (by kernel_rfl) (by kernel_rfl) (by kernel_rfl) (fun _ _ _ h => h) (Or.inl ⟨by kernel_rfl, ?_⟩) hS ?_
  rotate_left
  · intro wx hx
    obtain ⟨hx0, hx1, _⟩ := hx
    go_simp
    try with_reducible rfl
  refine wpAnyH_take (i := 4) (v := ?_) rfl (by kernel_rfl) (by kernel_rfl) (by kernel_rfl) (fun _ _ _ h => h) (Or.inl ⟨by kernel_rfl, ?_⟩) hS ?_
  rotate_left
  · intro wx hx
    obtain ⟨hx0, hx1, _⟩ := hx
    go_simp
    try with_reducible rfl
  refine wpAnyH_ready (rs := [5]) (by kernel_rfl) (by simp) ?_
  refine AllReadyH.cons rfl (fun K hK => ?_) AllReadyH.nil
  go_simp
  go_wp2_with fail
  refine (itemsLeft_is n a hn ha _).mono ?_
  rintro e w2 ⟨rfl, q2⟩
  go_wp2_with fail
  refine hK.out _ _ ⟨(q2.cell (p := ⟨w.heap.size, 0, none⟩) hS.2.2.2).trans hS.1, (q2.cell (p := ⟨w.heap.size, 1, none⟩) hS.2.2.2).trans hS.2.1, hS.2.2.1.trans (q2.mono hS.2.2.1.size), Nat.lt_of_lt_of_le hS.2.2.2 q2.size⟩ (fun hS => ?_)
  clear hK K q2
  refine wpAnyH_take (i := 6) (v := ?_) rfl (by kernel_rfl) (by kernel_rfl) (by kernel_rfl) (fun _ _ _ h => h) (Or.inl ⟨by kernel_rfl, ?_⟩) hS ?_
  rotate_left
  · intro wx hx
    obtain ⟨hx0, hx1, _⟩ := hx
    go_simp
    try with_reducible rfl
  refine wpAnyH_take (i := 7) (v := ?_) rfl (by kernel_rfl) (by kernel_rfl) (by kernel_rfl) (fun _ _ _ h => h) (Or.inl ⟨by kernel_rfl, ?_⟩) hS ?_
  rotate_left
  · intro wx hx
    obtain ⟨hx0, hx1, _⟩ := hx
    go_simp
    try with_reducible rfl
  refine wpAnyH_take (i := 8) (v := ?_) rfl (by kernel_rfl) (by kernel_rfl) (by kernel_rfl) (fun _ _ _ h => h) (Or.inl ⟨by kernel_rfl, ?_⟩) hS ?_
  rotate_left
  · intro wx hx
    obtain ⟨hx0, hx1, _⟩ := hx
    go_simp
    try with_reducible rfl
  refine wpAnyH_done (by kernel_rfl) ?_ _
  have HB : Hid (Below w.heap.size w w2) := hS.2.2.1
  go_simp
  go_wp2
  go_ret
  exact ⟨rfl, HB.out⟩
end Go.Proofs.Ytjimckfkbkfggaa
