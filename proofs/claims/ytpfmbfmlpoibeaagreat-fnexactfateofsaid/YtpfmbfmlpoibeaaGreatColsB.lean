/-
  Own text. What the law's helpers over a store do: toStore lays an equal store in new memory, szStore tells how much room is left.
-/
import Derived.Test.YtpfmbfmlpoibeaaGreatColsA
import Derived.Laws.OwnMore
namespace Go.Proofs.YtpfmbfmlpoibeaaGreat
open Go.RowKit

theorem make_row {P : Program} {t e : TypeId} {z : Value} {size bytes : Nat} (ht : P.underlying t = some (.slice e)) (hinfo : (P.info? e).map (fun i => (i.zero, i.size, i.bytes)) = some (some z, size, bytes)) (n : Nat) (hn : bytes * n ≤ 281474976710656) (hm : n ≤ 9223372036854775807) (w : World) :
    (Instr.makeSlice t (.int .i64 (n : Int)) (.int .i64 (n : Int))).run P w = .ok (.slice (some ⟨w.heap.size, 0, none⟩) n n) (w.alloc (.cells (madeCells z.cells (n * size)) e)) := by
  obtain ⟨i, hi, hz, hs, hb⟩ := info_parts hinfo
  have hb' : (i.bytes : Int) * (n : Int) ≤ 281474976710656 := by
    have h : ((i.bytes * n : Nat) : Int) ≤ 281474976710656 := by rw [hb]; omega
    rwa [Int.natCast_mul] at h
  have hr := run_make (P := P) w t e i z ht hi hz .i64 .i64 n n (by omega) (Int.le_refl _) hb' (by omega)
  simp only [Int.toNat_natCast, hs] at hr
  exact hr

theorem info_Cell : (Tryz.prog.info? 140).map (fun i => (i.zero, i.size, i.bytes)) = some (some (.agg #[.int .i64 0, .int .i64 0, .int .i64 0]), 3, 24) := by kernel_rfl
set_option maxHeartbeats 400000 in
theorem toCell_any (x0 x1 x2 : Int) (w : World) :
    Calls Tryz.prog 160 #[.agg #[.int .i64 x0, .int .i64 x1, .int .i64 x2]] w fun e w' => e = .returned (.agg #[.int .i64 x0, .int .i64 x1, .int .i64 x2]) ∧ Below w.heap.size w w' := by
  go_enter Tryz.func160, Tryz.ntmps160
  go_wp2
  exact bodyPost_ret (v := .agg #[.int .i64 x0, .int .i64 x1, .int .i64 x2]) (by simp [results, Tryz.results160, go_sem]) rfl ⟨rfl, (((Below.refl _ _).alloc (Nat.le_refl _) _).alloc (by simp) _).alloc (by simp; omega) _⟩
set_option maxHeartbeats 400000 in
theorem toCellS_any (v : Value) (B n : Nat) (F : Nat → Int) (w : World) (h : Row w B 3 n F v) (hn : n ≤ 1048576) :
    Calls Tryz.prog 138 #[v] w fun e w' => ∃ u, e = .returned u ∧ Row w' w.heap.size 3 n F u ∧ Free w' (n * 3) u ∧ Below w.heap.size w w' := by
  obtain ⟨ao, cp, rfl⟩ := h.form
  have H : Hid (Row w B 3 n F (.slice ao n cp)) := h
  clear h
  have hmk := make_row Tryz.underlying33 info_Cell n (by omega) (by omega)
  go_enter Tryz.func138, Tryz.ntmps138
  go_wp2
  go_loopw [4] (fun i wr => ∃ k : Nat, k ≤ n ∧ i = .int .i64 k ∧ Hid (Below w.heap.size w wr ∧ Fill wr w.heap.size 0 (n * 3) (k * 3) F)) (fun i _ => n - (intOf i).toNat)
  case atStart => exact ⟨0, Nat.zero_le _, rfl, below_alloc _ _, by rw [Nat.zero_mul]; exact Fill.made _ _ _ _ _⟩
  case round =>
    obtain ⟨k, hk, rfl, hR⟩ := hrel
    by_cases hlt : k < n
    · obtain ⟨g, o, rfl, _, hg, c0, c1, c2⟩ := H.out.at3 hlt
      have b0 := hR.out.1.cell (p := ⟨g, o + k * 3, none⟩) hg
      rw [c0] at b0
      have b1 := hR.out.1.cell (p := ⟨g, o + k * 3 + 1, none⟩) hg
      rw [c1] at b1
      have b2 := hR.out.1.cell (p := ⟨g, o + k * 3 + 2, none⟩) hg
      rw [c2] at b2
      clear c0 c1 c2
      go_wp2_with fail
      refine (toCell_any _ _ _ _).mono ?_
      rintro e w1 ⟨rfl, q1⟩
      have f1 := hR.out.2.later q1
      obtain ⟨v0, d0, e0⟩ := f1.at (p := k * 3) (by omega)
      obtain ⟨v1, d1, e1⟩ := f1.at (p := k * 3 + 1) (by omega)
      obtain ⟨v2, d2, e2⟩ := f1.at (p := k * 3 + 2) (by omega)
      have HF : Hid (Below w.heap.size w w1 ∧ Fill w1 w.heap.size 0 (n * 3) (k * 3) F) := ⟨hR.out.1.trans (q1.mono hR.out.1.size), f1⟩
      clear q1 f1 b0 b1 b2
      simp only [Nat.zero_add] at d0 e0 d1 e1 d2 e2
      go_wp2
      go_roundw
      case rel =>
        refine ⟨k + 1, by omega, by go_num, (((HF.out.1.setCell (Nat.le_refl _) _).setCell (Nat.le_refl _) _).setCell (Nat.le_refl _) _), ?_⟩
        have hq := (((HF.out.2.put0 (by omega)).put0 (by omega)).put0 (by omega))
        rwa [show k * 3 + 1 + 1 + 1 = (k + 1) * 3 by omega] at hq
      case measure => simp [intOf]; omega
    · obtain rfl : k = n := by omega
      go_wp2
      go_ret
      exact ⟨_, rfl, (hR.out.2.row (Nat.le_refl _) _).1, (hR.out.2.row (B := 0) (Nat.zero_le _) _).2, hR.out.1⟩
set_option maxHeartbeats 400000 in
theorem szCellS_ok (a : Option Addr) (n c : Nat) (left : Int) (w : World) (h : (n : Int) ≤ left) (h2 : left ≤ 1048576) :
    Calls Tryz.prog 135 #[.slice a n c, .int .i64 left] w fun e w' => e = .returned (.int .i64 (left - n)) ∧ w' = w := by
  have d : decide (left - n < 0) = false := decide_eq_false (by omega)
  go_enter Tryz.func135, Tryz.ntmps135
  go_wp2
  go_ret
  exact ⟨rfl, rfl⟩
set_option maxHeartbeats 400000 in
theorem szCellS_no (a : Option Addr) (n c : Nat) (left : Int) (w : World) (h : left < n) (h0 : 0 ≤ left) (h2 : left ≤ 1048576) (hn : n ≤ 9223372036854775807) :
    Calls Tryz.prog 135 #[.slice a n c, .int .i64 left] w fun e w' => e = .returned (.int .i64 (-1)) ∧ w' = w := by
  have d : decide (left - n < 0) = true := decide_eq_true (by omega)
  go_enter Tryz.func135, Tryz.ntmps135
  go_wp2
  go_ret
  exact ⟨rfl, rfl⟩

theorem info_Lock : (Tryz.prog.info? 96).map (fun i => (i.zero, i.size, i.bytes)) = some (some (.agg #[.int .i64 0, .int .i64 0, .int .i64 0, .int .i64 0, .int .i64 0]), 5, 40) := by kernel_rfl
set_option maxHeartbeats 400000 in
theorem toLock_any (x0 x1 x2 x3 x4 : Int) (w : World) :
    Calls Tryz.prog 161 #[.agg #[.int .i64 x0, .int .i64 x1, .int .i64 x2, .int .i64 x3, .int .i64 x4]] w fun e w' => e = .returned (.agg #[.int .i64 x0, .int .i64 x1, .int .i64 x2, .int .i64 x3, .int .i64 x4]) ∧ Below w.heap.size w w' := by
  go_enter Tryz.func161, Tryz.ntmps161
  go_wp2
  exact bodyPost_ret (v := .agg #[.int .i64 x0, .int .i64 x1, .int .i64 x2, .int .i64 x3, .int .i64 x4]) (by simp [results, Tryz.results161, go_sem]) rfl ⟨rfl, (((Below.refl _ _).alloc (Nat.le_refl _) _).alloc (by simp) _).alloc (by simp; omega) _⟩
set_option maxHeartbeats 400000 in
theorem toLockS_any (v : Value) (B n : Nat) (F : Nat → Int) (w : World) (h : Row w B 5 n F v) (hn : n ≤ 1048576) :
    Calls Tryz.prog 139 #[v] w fun e w' => ∃ u, e = .returned u ∧ Row w' w.heap.size 5 n F u ∧ Free w' (n * 5) u ∧ Below w.heap.size w w' := by
  obtain ⟨ao, cp, rfl⟩ := h.form
  have H : Hid (Row w B 5 n F (.slice ao n cp)) := h
  clear h
  have hmk := make_row Tryz.underlying34 info_Lock n (by omega) (by omega)
  go_enter Tryz.func139, Tryz.ntmps139
  go_wp2
  go_loopw [4] (fun i wr => ∃ k : Nat, k ≤ n ∧ i = .int .i64 k ∧ Hid (Below w.heap.size w wr ∧ Fill wr w.heap.size 0 (n * 5) (k * 5) F)) (fun i _ => n - (intOf i).toNat)
  case atStart => exact ⟨0, Nat.zero_le _, rfl, below_alloc _ _, by rw [Nat.zero_mul]; exact Fill.made _ _ _ _ _⟩
  case round =>
    obtain ⟨k, hk, rfl, hR⟩ := hrel
    by_cases hlt : k < n
    · obtain ⟨g, o, rfl, _, hg, c0, c1, c2, c3, c4⟩ := H.out.at5 hlt
      have b0 := hR.out.1.cell (p := ⟨g, o + k * 5, none⟩) hg
      rw [c0] at b0
      have b1 := hR.out.1.cell (p := ⟨g, o + k * 5 + 1, none⟩) hg
      rw [c1] at b1
      have b2 := hR.out.1.cell (p := ⟨g, o + k * 5 + 2, none⟩) hg
      rw [c2] at b2
      have b3 := hR.out.1.cell (p := ⟨g, o + k * 5 + 3, none⟩) hg
      rw [c3] at b3
      have b4 := hR.out.1.cell (p := ⟨g, o + k * 5 + 4, none⟩) hg
      rw [c4] at b4
      clear c0 c1 c2 c3 c4
      go_wp2_with fail
      refine (toLock_any _ _ _ _ _ _).mono ?_
      rintro e w1 ⟨rfl, q1⟩
      have f1 := hR.out.2.later q1
      obtain ⟨v0, d0, e0⟩ := f1.at (p := k * 5) (by omega)
      obtain ⟨v1, d1, e1⟩ := f1.at (p := k * 5 + 1) (by omega)
      obtain ⟨v2, d2, e2⟩ := f1.at (p := k * 5 + 2) (by omega)
      obtain ⟨v3, d3, e3⟩ := f1.at (p := k * 5 + 3) (by omega)
      obtain ⟨v4, d4, e4⟩ := f1.at (p := k * 5 + 4) (by omega)
      have HF : Hid (Below w.heap.size w w1 ∧ Fill w1 w.heap.size 0 (n * 5) (k * 5) F) := ⟨hR.out.1.trans (q1.mono hR.out.1.size), f1⟩
      clear q1 f1 b0 b1 b2 b3 b4
      simp only [Nat.zero_add] at d0 e0 d1 e1 d2 e2 d3 e3 d4 e4
      go_wp2
      go_roundw
      case rel =>
        refine ⟨k + 1, by omega, by go_num, (((((HF.out.1.setCell (Nat.le_refl _) _).setCell (Nat.le_refl _) _).setCell (Nat.le_refl _) _).setCell (Nat.le_refl _) _).setCell (Nat.le_refl _) _), ?_⟩
        have hq := (((((HF.out.2.put0 (by omega)).put0 (by omega)).put0 (by omega)).put0 (by omega)).put0 (by omega))
        rwa [show k * 5 + 1 + 1 + 1 + 1 + 1 = (k + 1) * 5 by omega] at hq
      case measure => simp [intOf]; omega
    · obtain rfl : k = n := by omega
      go_wp2
      go_ret
      exact ⟨_, rfl, (hR.out.2.row (Nat.le_refl _) _).1, (hR.out.2.row (B := 0) (Nat.zero_le _) _).2, hR.out.1⟩
set_option maxHeartbeats 400000 in
theorem szLockS_ok (a : Option Addr) (n c : Nat) (left : Int) (w : World) (h : (n : Int) ≤ left) (h2 : left ≤ 1048576) :
    Calls Tryz.prog 136 #[.slice a n c, .int .i64 left] w fun e w' => e = .returned (.int .i64 (left - n)) ∧ w' = w := by
  have d : decide (left - n < 0) = false := decide_eq_false (by omega)
  go_enter Tryz.func136, Tryz.ntmps136
  go_wp2
  go_ret
  exact ⟨rfl, rfl⟩
set_option maxHeartbeats 400000 in
theorem szLockS_no (a : Option Addr) (n c : Nat) (left : Int) (w : World) (h : left < n) (h0 : 0 ≤ left) (h2 : left ≤ 1048576) (hn : n ≤ 9223372036854775807) :
    Calls Tryz.prog 136 #[.slice a n c, .int .i64 left] w fun e w' => e = .returned (.int .i64 (-1)) ∧ w' = w := by
  have d : decide (left - n < 0) = true := decide_eq_true (by omega)
  go_enter Tryz.func136, Tryz.ntmps136
  go_wp2
  go_ret
  exact ⟨rfl, rfl⟩

theorem info_Write : (Tryz.prog.info? 45).map (fun i => (i.zero, i.size, i.bytes)) = some (some (.agg #[.int .i64 0, .int .i64 0, .int .i64 0, .int .i64 0]), 4, 32) := by kernel_rfl
set_option maxHeartbeats 400000 in
theorem toWrite_any (x0 x1 x2 x3 : Int) (w : World) :
    Calls Tryz.prog 162 #[.agg #[.int .i64 x0, .int .i64 x1, .int .i64 x2, .int .i64 x3]] w fun e w' => e = .returned (.agg #[.int .i64 x0, .int .i64 x1, .int .i64 x2, .int .i64 x3]) ∧ Below w.heap.size w w' := by
  go_enter Tryz.func162, Tryz.ntmps162
  go_wp2
  exact bodyPost_ret (v := .agg #[.int .i64 x0, .int .i64 x1, .int .i64 x2, .int .i64 x3]) (by simp [results, Tryz.results162, go_sem]) rfl ⟨rfl, (((Below.refl _ _).alloc (Nat.le_refl _) _).alloc (by simp) _).alloc (by simp; omega) _⟩
set_option maxHeartbeats 400000 in
theorem toWriteS_any (v : Value) (B n : Nat) (F : Nat → Int) (w : World) (h : Row w B 4 n F v) (hn : n ≤ 1048576) :
    Calls Tryz.prog 140 #[v] w fun e w' => ∃ u, e = .returned u ∧ Row w' w.heap.size 4 n F u ∧ Free w' (n * 4) u ∧ Below w.heap.size w w' := by
  obtain ⟨ao, cp, rfl⟩ := h.form
  have H : Hid (Row w B 4 n F (.slice ao n cp)) := h
  clear h
  have hmk := make_row Tryz.underlying35 info_Write n (by omega) (by omega)
  go_enter Tryz.func140, Tryz.ntmps140
  go_wp2
  go_loopw [4] (fun i wr => ∃ k : Nat, k ≤ n ∧ i = .int .i64 k ∧ Hid (Below w.heap.size w wr ∧ Fill wr w.heap.size 0 (n * 4) (k * 4) F)) (fun i _ => n - (intOf i).toNat)
  case atStart => exact ⟨0, Nat.zero_le _, rfl, below_alloc _ _, by rw [Nat.zero_mul]; exact Fill.made _ _ _ _ _⟩
  case round =>
    obtain ⟨k, hk, rfl, hR⟩ := hrel
    by_cases hlt : k < n
    · obtain ⟨g, o, rfl, _, hg, c0, c1, c2, c3⟩ := H.out.at4 hlt
      have b0 := hR.out.1.cell (p := ⟨g, o + k * 4, none⟩) hg
      rw [c0] at b0
      have b1 := hR.out.1.cell (p := ⟨g, o + k * 4 + 1, none⟩) hg
      rw [c1] at b1
      have b2 := hR.out.1.cell (p := ⟨g, o + k * 4 + 2, none⟩) hg
      rw [c2] at b2
      have b3 := hR.out.1.cell (p := ⟨g, o + k * 4 + 3, none⟩) hg
      rw [c3] at b3
      clear c0 c1 c2 c3
      go_wp2_with fail
      refine (toWrite_any _ _ _ _ _).mono ?_
      rintro e w1 ⟨rfl, q1⟩
      have f1 := hR.out.2.later q1
      obtain ⟨v0, d0, e0⟩ := f1.at (p := k * 4) (by omega)
      obtain ⟨v1, d1, e1⟩ := f1.at (p := k * 4 + 1) (by omega)
      obtain ⟨v2, d2, e2⟩ := f1.at (p := k * 4 + 2) (by omega)
      obtain ⟨v3, d3, e3⟩ := f1.at (p := k * 4 + 3) (by omega)
      have HF : Hid (Below w.heap.size w w1 ∧ Fill w1 w.heap.size 0 (n * 4) (k * 4) F) := ⟨hR.out.1.trans (q1.mono hR.out.1.size), f1⟩
      clear q1 f1 b0 b1 b2 b3
      simp only [Nat.zero_add] at d0 e0 d1 e1 d2 e2 d3 e3
      go_wp2
      go_roundw
      case rel =>
        refine ⟨k + 1, by omega, by go_num, ((((HF.out.1.setCell (Nat.le_refl _) _).setCell (Nat.le_refl _) _).setCell (Nat.le_refl _) _).setCell (Nat.le_refl _) _), ?_⟩
        have hq := ((((HF.out.2.put0 (by omega)).put0 (by omega)).put0 (by omega)).put0 (by omega))
        rwa [show k * 4 + 1 + 1 + 1 + 1 = (k + 1) * 4 by omega] at hq
      case measure => simp [intOf]; omega
    · obtain rfl : k = n := by omega
      go_wp2
      go_ret
      exact ⟨_, rfl, (hR.out.2.row (Nat.le_refl _) _).1, (hR.out.2.row (B := 0) (Nat.zero_le _) _).2, hR.out.1⟩
set_option maxHeartbeats 400000 in
theorem szWriteS_ok (a : Option Addr) (n c : Nat) (left : Int) (w : World) (h : (n : Int) ≤ left) (h2 : left ≤ 1048576) :
    Calls Tryz.prog 137 #[.slice a n c, .int .i64 left] w fun e w' => e = .returned (.int .i64 (left - n)) ∧ w' = w := by
  have d : decide (left - n < 0) = false := decide_eq_false (by omega)
  go_enter Tryz.func137, Tryz.ntmps137
  go_wp2
  go_ret
  exact ⟨rfl, rfl⟩
set_option maxHeartbeats 400000 in
theorem szWriteS_no (a : Option Addr) (n c : Nat) (left : Int) (w : World) (h : left < n) (h0 : 0 ≤ left) (h2 : left ≤ 1048576) (hn : n ≤ 9223372036854775807) :
    Calls Tryz.prog 137 #[.slice a n c, .int .i64 left] w fun e w' => e = .returned (.int .i64 (-1)) ∧ w' = w := by
  have d : decide (left - n < 0) = true := decide_eq_true (by omega)
  go_enter Tryz.func137, Tryz.ntmps137
  go_wp2
  go_ret
  exact ⟨rfl, rfl⟩

end Go.Proofs.YtpfmbfmlpoibeaaGreat
