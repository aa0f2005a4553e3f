/-
  Own text. What the laws' helpers over lists of whole numbers and over a new transaction do: to, eq, mark, held.
-/
import Derived.Test.YtjimckfkbkfggaaTxnI
import Derived.Test.YtjimckfkbkfggaaTxnN
namespace Go.Proofs.Ytjimckfkbkfggaa
open Go.RowKit

theorem info_i64T : (Try.prog.info? 2).map (fun i => (i.zero, i.size, i.bytes)) = some (some (.int .i64 0), 1, 8) := by kernel_rfl
set_option maxHeartbeats 400000 in
theorem toInts_cap (v : Value) (B n : Nat) (F : Nat → Int) (w : World) (h : Row w B 1 n F v) (hn : n ≤ 1048576) :
    Calls Try.prog 23 #[v] w fun e w' => ∃ uo, e = .returned (.slice uo n n) ∧ Row w' w.heap.size 1 n F (.slice uo n n) ∧ Free w' (n * 1) (.slice uo n n) ∧ Below w.heap.size w w' := by
  obtain ⟨ao, cp, rfl⟩ := h.form
  have H : Hid (Row w B 1 n F (.slice ao n cp)) := h
  clear h
  have hmk := make_rowT Try.underlying24 info_i64T n (by omega) (by omega)
  have hmk' : ∀ w : World, (Instr.makeSlice 24 (.int .i64 (n : Int)) (.int .i64 (n : Int))).run Try.prog w = .ok (.slice (some ⟨w.heap.size, 0, none⟩) n n) (w.alloc (.cells (madeCells #[.int .i64 0] (n * 1)) 2)) := hmk
  clear hmk
  go_enter Try.func23, Try.ntmps23
  go_wp2
  go_loopw [4] (fun i wr => ∃ k : Nat, k ≤ n ∧ i = .int .i64 k ∧ Hid (Below w.heap.size w wr ∧ Fill wr w.heap.size 0 (n * 1) (k * 1) F)) (fun i _ => n - (intOf i).toNat)
  case atStart => exact ⟨0, Nat.zero_le _, rfl, below_alloc _ _, by rw [Nat.zero_mul]; first | exact Fill.made _ _ _ _ _ | (have := Fill.made w #[.int .i64 0] (n * 1) 2 F; simpa using this)⟩
  case round =>
    obtain ⟨k, hk, rfl, hR⟩ := hrel
    by_cases hlt : k < n
    · obtain ⟨g, o, rfl, _, hg, c0⟩ := H.out.at1 hlt
      have b0 := hR.out.1.cell (p := ⟨g, o + k, none⟩) hg
      rw [c0] at b0
      obtain ⟨v0, d0, e0⟩ := hR.out.2.at (p := k) (by omega)
      simp only [Nat.zero_add] at d0 e0
      clear c0
      go_wp2
      go_roundw
      case rel =>
        refine ⟨k + 1, by omega, by go_num, hR.out.1.setCell (Nat.le_refl _) _, ?_⟩
        have hq := hR.out.2.put (by omega)
        rw [Nat.succ_mul]
        simpa using hq
      case measure => simp [intOf]; omega
    · obtain rfl : k = n := by omega
      go_wp2
      go_ret
      exact ⟨_, rfl, (hR.out.2.row (Nat.le_refl _) _).1, (hR.out.2.row (B := 0) (Nat.zero_le _) _).2, hR.out.1⟩
set_option maxHeartbeats 400000 in
theorem eqInts_same (va vb : Value) (Ba Bb n : Nat) (F : Nat → Int) (w : World) (ha : Row w Ba 1 n F va) (hb : Row w Bb 1 n F vb) (hn : n ≤ 1048576) :
    Calls Try.prog 26 #[va, vb] w fun e w' => e = .returned (.bool true) ∧ Below w.heap.size w w' := by
  obtain ⟨ao, ca, rfl⟩ := ha.form
  obtain ⟨bo, cb, rfl⟩ := hb.form
  have HA : Hid (Row w Ba 1 n F (.slice ao n ca)) := ha
  have HB : Hid (Row w Bb 1 n F (.slice bo n cb)) := hb
  clear ha hb
  go_enter Try.func26, Try.ntmps26
  go_wp2
  go_loopw [5] (fun i wr => ∃ k : Nat, k ≤ n ∧ i = .int .i64 k ∧ Hid (Below w.heap.size w wr)) (fun i _ => n - (intOf i).toNat)
  case atStart => exact ⟨0, Nat.zero_le _, rfl, Below.refl _ _⟩
  case round =>
    obtain ⟨k, hk, rfl, HW⟩ := hrel
    by_cases hlt : k < n
    · obtain ⟨g, o, rfl, _, hg, c0⟩ := (HA.out.later HW.out).at1 hlt
      obtain ⟨g', o', rfl, _, hg', d0⟩ := (HB.out.later HW.out).at1 hlt
      first
        | (go_wp2_with fail
           go_quiet (fail)
           go_wp2
           go_roundw
           case rel => exact ⟨k + 1, by omega, by go_num, below_dt HW.out _⟩
           case measure => simp [intOf]; omega)
        | (go_wp2
           go_roundw
           case rel => exact ⟨k + 1, by omega, by go_num, HW⟩
           case measure => simp [intOf]; omega)
    · go_wp2
      go_ret
      exact ⟨rfl, HW.out⟩
set_option maxRecDepth 100000 in
set_option maxHeartbeats 2000000 in
theorem markInts_row (v : Value) (B n : Nat) (F : Nat → Int) (k0 : Int) (w : World) (h : Row w B 1 n F v) (hf : Free w (n * 1) v) (hn : n ≤ 1048576) (hk0 : 0 ≤ k0) (hk1 : k0 ≤ 100000000) :
    Calls Try.prog 28 #[v, .int .i64 k0] w fun e w' => e = .returned (.int .i64 (k0 + n)) ∧ w.grownBy w' (turn n v) := by
  obtain ⟨ao, cp, rfl⟩ := h.form
  have H0 : Hid (Marked w w B 1 n 0 k0 ao cp) := Marked.start h hf k0
  clear h hf
  go_enter Try.func28, Try.ntmps28
  go_wp2
  go_loopw [1, 5] (fun k i wr => ∃ j : Nat, j ≤ n ∧ i = .int .i64 j ∧ k = .int .i64 (k0 + j) ∧ Hid (Marked w wr B 1 n j k0 ao cp ∧ (n = 0 → wr = w))) (fun _ i _ => n - (intOf i).toNat)
  case atStart => exact ⟨0, Nat.zero_le _, rfl, by go_num, H0.out, fun _ => rfl⟩
  case round =>
    obtain ⟨j, hj, rfl, rfl, hM⟩ := hrel
    by_cases hlt : j < n
    · obtain ⟨g, o, rfl, hB, hF⟩ := hM.out.1.1 (by omega)
      obtain ⟨u0, c0, e0⟩ := hF.at (p := j) (by omega)
      have HF : Hid (Fill wr g o (n * 1) (j * 1) (fun p => k0 + (p : Nat)) ∧ w.grownBy wr (some g)) := ⟨hF, hM.out.1.2⟩
      clear hF hM H0
      go_wp2
      go_roundw
      case rel => exact ⟨j + 1, by omega, by go_num, by go_num, ⟨fun _ => ⟨g, o, rfl, hB, by rw [Nat.succ_mul]; exact HF.out.1.step (by omega) (by omega) (by omega)⟩, grownBy_set HF.out.2 _ _⟩, fun e => by omega⟩
      case measure => simp [intOf]; omega
    · obtain rfl : j = n := by omega
      go_wp2
      go_ret
      refine ⟨rfl, ?_⟩
      unfold turn
      split
      · rename_i e
        rw [hM.out.2 e]
        exact ⟨rfl, rfl, rfl, Nat.le_refl _, fun _ _ _ => rfl⟩
      · exact hM.out.1.2
set_option maxHeartbeats 1000000 in
theorem eqTxnResult_same (c s z u st a : Int) (n : Nat) (F : Nat → Int) (va vb : Value) (Ba Bb : Nat) (w : World) (ha : Row w Ba 3 n F va) (hb : Row w Bb 3 n F vb) (hn : n ≤ 1048576) :
    Calls Try.prog 25 #[.agg #[.int .i64 c, .int .i64 s, .int .i64 z, .int .i64 u, .int .i64 st, .int .i64 a, va], .agg #[.int .i64 c, .int .i64 s, .int .i64 z, .int .i64 u, .int .i64 st, .int .i64 a, vb]] w fun e w' => e = .returned (.bool true) ∧ Below w.heap.size w w' := by
  obtain ⟨ao, ca, rfl⟩ := ha.form
  obtain ⟨bo, cb, rfl⟩ := hb.form
  have HA : Hid (Row w Ba 3 n F (.slice ao n ca) ∧ Row w Bb 3 n F (.slice bo n cb)) := ⟨ha, hb⟩
  clear ha hb
  go_enter Try.func25, Try.ntmps25
  go_wp2_with fail
  refine (eqTxn_same s z u st a n F _ _ Ba Bb _ ((HA.out.1.alloc _).alloc _) ((HA.out.2.alloc _).alloc _) hn).mono ?_
  rintro e w1 ⟨rfl, q1⟩
  have Q : Hid (Below w.heap.size w w1) := ((below_alloc _ _).alloc (by simp) _).trans (q1.mono (by simp; omega))
  clear q1
  go_wp2
  go_ret
  exact ⟨rfl, Q.out⟩
set_option maxHeartbeats 1000000 in
theorem markTxn_any (s z u st a : Int) (n : Nat) (F : Nat → Int) (v : Value) (B : Nat) (w : World) (h : Row w B 3 n F v) (hf : Free w (n * 3) v) (hn : n ≤ 1048576) :
    Calls Try.prog 55 #[.agg #[.int .i64 s, .int .i64 z, .int .i64 u, .int .i64 st, .int .i64 a, v], .int .i64 1] w fun e w' => e = .returned (.int .i64 (1 + n * 3)) ∧ Row w' B 3 n (fun p => 1 + (p : Nat)) v ∧ w.grownBy w' (turn n v) := by
  obtain ⟨ao, cp, rfl⟩ := h.form
  have HA : Hid (Row w B 3 n F (.slice ao n cp) ∧ Free w (n * 3) (.slice ao n cp)) := ⟨h, hf⟩
  clear h hf
  go_enter Try.func55, Try.ntmps55
  go_wp2_with fail
  refine (markItemS_turn _ B n F 1 _ (HA.out.1.alloc _) (HA.out.2.ofRow HA.out.1 (below_alloc _ _)) hn (by omega) (by omega)).mono ?_
  rintro e w1 ⟨rfl, r1, _, g1⟩
  have Q : Hid (w.grownBy w1 (turn n (.slice ao n cp))) := ⟨g1.os, g1.tape, g1.output, Nat.le_trans (by simp) g1.size, fun k hk hne => (g1.block k (by simp; omega) hne).trans ((below_alloc w _).block k hk)⟩
  have R : Hid (Row w1 B 3 n (fun p => 1 + (p : Nat)) (.slice ao n cp)) := r1
  clear r1 g1
  go_wp2
  go_ret
  exact ⟨rfl, R.out, Q.out⟩
set_option maxHeartbeats 1000000 in
theorem markTxnResult_any (c s z u st a : Int) (n : Nat) (F : Nat → Int) (v : Value) (B : Nat) (w : World) (h : Row w B 3 n F v) (hf : Free w (n * 3) v) (hn : n ≤ 1048576) :
    Calls Try.prog 30 #[.agg #[.int .i64 c, .int .i64 s, .int .i64 z, .int .i64 u, .int .i64 st, .int .i64 a, v], .int .i64 1] w fun e w' => e = .returned (.int .i64 (1 + n * 3)) ∧ Row w' B 3 n (fun p => 1 + (p : Nat)) v ∧ w.grownBy w' (turn n v) := by
  obtain ⟨ao, cp, rfl⟩ := h.form
  have HA : Hid (Row w B 3 n F (.slice ao n cp) ∧ Free w (n * 3) (.slice ao n cp)) := ⟨h, hf⟩
  clear h hf
  go_enter Try.func30, Try.ntmps30
  go_wp2_with fail
  refine (markTxn_any s z u st a n F _ B _ (HA.out.1.alloc _) (HA.out.2.ofRow HA.out.1 (below_alloc _ _)) hn).mono ?_
  rintro e w1 ⟨rfl, r1, g1⟩
  have Q : Hid (w.grownBy w1 (turn n (.slice ao n cp))) := ⟨g1.os, g1.tape, g1.output, Nat.le_trans (by simp) g1.size, fun k hk hne => (g1.block k (by simp; omega) hne).trans ((below_alloc w _).block k hk)⟩
  have R : Hid (Row w1 B 3 n (fun p => 1 + (p : Nat)) (.slice ao n cp)) := r1
  clear r1 g1
  go_wp2
  go_ret
  exact ⟨rfl, R.out, Q.out⟩
set_option maxHeartbeats 1000000 in
theorem heldTxn_any (s z u st a : Int) (n : Nat) (v : Value) (B : Nat) (w : World) (h : Row w B 3 n (fun p => 1 + (p : Nat)) v) (hn : n ≤ 1048576) :
    Calls Try.prog 56 #[.agg #[.int .i64 s, .int .i64 z, .int .i64 u, .int .i64 st, .int .i64 a, v], .int .i64 1] w fun e w' => e = .returned (.int .i64 (1 + n * 3)) ∧ Below w.heap.size w w' := by
  obtain ⟨ao, cp, rfl⟩ := h.form
  have HA : Hid (Row w B 3 n (fun p => 1 + (p : Nat)) (.slice ao n cp)) := h
  clear h
  go_enter Try.func56, Try.ntmps56
  go_wp2_with fail
  refine (heldItemS_any _ B n 1 _ (HA.out.alloc _) hn (by omega) (by omega)).mono ?_
  rintro e w1 ⟨rfl, rfl⟩
  have hnn : decide ((1 : Int) + n * 3 < 0) = false := decide_eq_false (by omega)
  go_wp2
  go_ret
  exact ⟨rfl, below_alloc _ _⟩
set_option maxHeartbeats 1000000 in
theorem heldTxnResult_any (c s z u st a : Int) (n : Nat) (v : Value) (B : Nat) (w : World) (h : Row w B 3 n (fun p => 1 + (p : Nat)) v) (hn : n ≤ 1048576) :
    Calls Try.prog 31 #[.agg #[.int .i64 c, .int .i64 s, .int .i64 z, .int .i64 u, .int .i64 st, .int .i64 a, v], .int .i64 1] w fun e w' => e = .returned (.int .i64 (1 + n * 3)) ∧ Below w.heap.size w w' := by
  obtain ⟨ao, cp, rfl⟩ := h.form
  have HA : Hid (Row w B 3 n (fun p => 1 + (p : Nat)) (.slice ao n cp)) := h
  clear h
  go_enter Try.func31, Try.ntmps31
  go_wp2_with fail
  refine (heldTxn_any s z u st a n _ B _ (HA.out.alloc _) hn).mono ?_
  rintro e w1 ⟨rfl, q1⟩
  have Q : Hid (Below w.heap.size w w1) := (below_alloc _ _).trans (q1.mono (by simp))
  have hnn : decide ((1 : Int) + n * 3 < 0) = false := decide_eq_false (by omega)
  clear q1
  go_wp2
  go_ret
  exact ⟨rfl, Q.out⟩
end Go.Proofs.Ytjimckfkbkfggaa
