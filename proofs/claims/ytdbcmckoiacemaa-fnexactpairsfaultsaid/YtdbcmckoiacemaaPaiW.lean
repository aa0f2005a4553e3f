/-
  Own text. The walk of the law FnExactPairsFault.
-/
import Derived.Test.YtdbcmckoiacemaaPaiC
namespace Go.Proofs.Ytdbcmckoiacemaa
open Go.RowKit

set_option maxRecDepth 100000 in
set_option maxHeartbeats 2000000 in
theorem exactPairsFault_walk (v : Value) (n : Nat) (F : Nat → Int) (w : World) (h : Row w 0 2 n F v) (hn : n ≤ 9223372036854775807) (_ : ∀ p, (Lit.int .i64 (F p)).wf = true)  :
    Calls Try.prog 4 #[v] w fun e w' => e = .returned (.bool true) ∧ Below w.heap.size w w' := by
  obtain ⟨ao, cp, rfl⟩ := h.form
  have H : Hid (Row w 0 2 n F (.slice ao n cp)) := h
  clear h
  by_cases hs : (1048576 : Int) < n
  · go_enter Try.func4, Try.ntmps4
    go_wp2_with fail
    refine (szPairS_no _ _ _ _ _ hs (by omega) (by omega) hn).mono ?_
    rintro e w1 ⟨rfl, rfl⟩
    go_wp2
    go_ret
    exact ⟨rfl, Below.refl _ _⟩
  have hb : n ≤ 1048576 := by omega
  have dz : decide ((1048576 : Int) - n < 0) = false := decide_eq_false (by omega)
  clear hs
  obtain ⟨f, hf⟩ : ∃ f, pairsF F n 0 = f := ⟨_, rfl⟩
  have HF : Hid (pairsF F n 0 = f) := hf
  clear hf
  go_enter Try.func4, Try.ntmps4
  go_wp2_with fail
  refine (szPairS_ok _ _ _ _ _ (by omega) (by omega)).mono ?_
  rintro e w1 ⟨rfl, hw1⟩
  obtain rfl := hw1.symm
  go_wp2_with fail
  refine (toPairS_any _ 0 n F _ H.out hb).mono ?_
  rintro e w2 ⟨u2, rfl, r2, _, q2⟩
  have Q2 : Hid (Below w.heap.size w w2) := q2
  have R2 : Hid (Row w2 0 2 n F u2) := r2.mono (Nat.zero_le _)
  clear r2 q2
  go_wp2_with fail
  refine (specPairs_any _ 0 n F _ R2.out hb).mono ?_
  rintro e w3 ⟨rfl, q3⟩
  rw [HF.out]
  have Q3 : Hid (Below w.heap.size w w3) := Q2.out.trans (q3.mono Q2.out.size)
  clear q3 Q2 R2
  go_wp2_with fail
  refine (toPairS_any _ 0 n F _ (H.out.later Q3.out) hb).mono ?_
  rintro e w4 ⟨u4, rfl, r4, _, q4⟩
  have Q4 : Hid (Below w.heap.size w w4) := Q3.out.trans (q4.mono Q3.out.size)
  have R4 : Hid (Row w4 0 2 n F u4) := r4.mono (Nat.zero_le _)
  clear r4
  go_wp2_with fail
  refine (implPairs_any _ 0 n F _ R4.out hb).mono ?_
  rintro e w5 ⟨rfl, q5⟩
  rw [HF.out]
  have Q5 : Hid (Below w.heap.size w w5) := Q4.out.trans (q5.mono Q4.out.size)
  have R5 : Hid (Row w5 0 2 n F u4) := R4.out.later q5
  clear q5 Q4 R4 q4 Q3
  go_wp2_with fail
  refine (toPairS_any _ 0 n F _ (H.out.later Q5.out) hb).mono ?_
  rintro e w6 ⟨u6, rfl, r6, _, q6⟩
  have Q6 : Hid (Below w.heap.size w w6) := Q5.out.trans (q6.mono Q5.out.size)
  have R6 : Hid (Row w6 0 2 n F u4 ∧ Row w6 0 2 n F u6) := ⟨R5.out.later q6, r6.mono (Nat.zero_le _)⟩
  clear r6 q6 Q5 R5
  go_wp2_with fail
  refine (eqPairS_same _ _ 0 0 n F _ R6.out.1 R6.out.2 hb).mono ?_
  rintro e w7 ⟨rfl, q7⟩
  have Q7 : Hid (Below w.heap.size w w7) := Q6.out.trans (q7.mono Q6.out.size)
  clear q7 Q6 R6
  go_wp2
  go_ret
  exact ⟨rfl, Q7.out⟩
end Go.Proofs.Ytdbcmckoiacemaa
