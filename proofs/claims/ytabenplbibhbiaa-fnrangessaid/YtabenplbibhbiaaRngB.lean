/-
  Own text. What the laws' helpers over a code and a row of ranges do: eq, mark, held.
-/
import Derived.Test.YtabenplbibhbiaaRngA
import Derived.Test.YtabenplbibhbiaaStorQ
namespace Go.Proofs.Ytabenplbibhbiaa
open Go.RowKit

set_option maxHeartbeats 1000000 in
theorem eqRangesResult_same (c : Int) (n : Nat) (a b : Option Addr) (p q : Nat) (Ba Bb : Nat) (F : Nat → Int) (w : World) (ha : Row w Ba 3 n F (.slice a n p)) (hb : Row w Bb 3 n F (.slice b n q)) (hn : n ≤ 1048576) :
    Calls Try.prog 23 #[.agg #[.int .i64 c, .slice a n p], .agg #[.int .i64 c, .slice b n q]] w fun e w' => e = .returned (.bool true) ∧ Below w.heap.size w w' := by
  have HA : Hid (Row w Ba 3 n F (.slice a n p) ∧ Row w Bb 3 n F (.slice b n q)) := ⟨ha, hb⟩
  clear ha hb
  go_enter Try.func23, Try.ntmps23
  go_wp2_with fail
  refine (eqRangeS_same _ _ Ba Bb n F _ ((HA.out.1.alloc _).alloc _) ((HA.out.2.alloc _).alloc _) hn).mono ?_
  rintro e w1 ⟨rfl, q1⟩
  have Q : Hid (Below w.heap.size w w1) := ((below_alloc _ _).alloc (by simp) _).trans (q1.mono (by simp; omega))
  clear q1
  go_wp2
  go_ret
  exact ⟨rfl, Q.out⟩
set_option maxHeartbeats 1000000 in
theorem markRangesResult_any (c : Int) (n : Nat) (a : Option Addr) (p : Nat) (B : Nat) (F : Nat → Int) (w : World) (h : Row w B 3 n F (.slice a n p)) (hf : Free w (n * 3) (.slice a n p)) (hn : n ≤ 1048576) :
    Calls Try.prog 24 #[.agg #[.int .i64 c, .slice a n p], .int .i64 1] w fun e w' => e = .returned (.int .i64 (1 + n * 3)) ∧ Row w' B 3 n (fun p => 1 + (p : Nat)) (.slice a n p) ∧ w.grownBy w' (turn n (.slice a n p)) := by
  have HA : Hid (Row w B 3 n F (.slice a n p) ∧ Free w (n * 3) (.slice a n p)) := ⟨h, hf⟩
  clear h hf
  go_enter Try.func24, Try.ntmps24
  go_wp2_with fail
  refine (markRangeS_turn _ B n F 1 _ (HA.out.1.alloc _) (HA.out.2.ofRow HA.out.1 (below_alloc _ _)) hn (by omega) (by omega)).mono ?_
  rintro e w1 ⟨rfl, r1, _, g1⟩
  have Q : Hid (w.grownBy w1 (turn n (.slice a n p))) := ⟨g1.os, g1.tape, g1.output, Nat.le_trans (by simp) g1.size, fun k hk hne => (g1.block k (by simp; omega) hne).trans ((below_alloc w _).block k hk)⟩
  have R : Hid (Row w1 B 3 n (fun p => 1 + (p : Nat)) (.slice a n p)) := r1
  clear r1 g1
  go_wp2
  go_ret
  exact ⟨rfl, R.out, Q.out⟩
set_option maxHeartbeats 1000000 in
theorem heldRangesResult_any (c : Int) (n : Nat) (a : Option Addr) (p : Nat) (B : Nat) (w : World) (h : Row w B 3 n (fun p => 1 + (p : Nat)) (.slice a n p)) (hn : n ≤ 1048576) :
    Calls Try.prog 25 #[.agg #[.int .i64 c, .slice a n p], .int .i64 1] w fun e w' => e = .returned (.int .i64 (1 + n * 3)) ∧ Below w.heap.size w w' := by
  have HA : Hid (Row w B 3 n (fun p => 1 + (p : Nat)) (.slice a n p)) := h
  clear h
  go_enter Try.func25, Try.ntmps25
  go_wp2_with fail
  refine (heldRangeS_any _ B n 1 _ (HA.out.alloc _) hn (by omega) (by omega)).mono ?_
  rintro e w1 ⟨rfl, rfl⟩
  have hnn : decide ((1 : Int) + n * 3 < 0) = false := decide_eq_false (by omega)
  go_wp2
  go_ret
  exact ⟨rfl, below_alloc _ _⟩
end Go.Proofs.Ytabenplbibhbiaa
