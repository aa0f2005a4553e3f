/-
  Own text. What the laws' helpers over rows of pairs do: to lays an equal row in new memory, sz tells how much room is left.
-/
import Derived.Test.YtdbcmckoiacemabPairC
import Derived.Laws.OwnMore
import Derived.Deep.RegionHeld
namespace Go.Proofs.Ytdbcmckoiacemab
open Go.RowKit

theorem make_rowP {P : Program} {t e : TypeId} {z : Value} {size bytes : Nat} (ht : P.underlying t = some (.slice e)) (hinfo : (P.info? e).map (fun i => (i.zero, i.size, i.bytes)) = some (some z, size, bytes)) (n : Nat) (hn : bytes * n ≤ 281474976710656) (hm : n ≤ 9223372036854775807) (w : World) :
    (Instr.makeSlice t (.int .i64 (n : Int)) (.int .i64 (n : Int))).run P w = .ok (.slice (some ⟨w.heap.size, 0, none⟩) n n) (w.alloc (.cells (madeCells z.cells (n * size)) e)) := by
  obtain ⟨i, hi, hz, hs, hb⟩ := info_parts hinfo
  have hb' : (i.bytes : Int) * (n : Int) ≤ 281474976710656 := by
    have h : ((i.bytes * n : Nat) : Int) ≤ 281474976710656 := by rw [hb]; omega
    rwa [Int.natCast_mul] at h
  have hr := run_make (P := P) w t e i z ht hi hz .i64 .i64 n n (by omega) (Int.le_refl _) hb' (by omega)
  simp only [Int.toNat_natCast, hs] at hr
  exact hr

theorem info_PairA : (Try.prog.info? 29).map (fun i => (i.zero, i.size, i.bytes)) = some (some (.agg #[.int .i64 0, .int .i64 0]), 2, 16) := by kernel_rfl
set_option maxHeartbeats 400000 in
theorem toPair_any (x0 x1 : Int) (w : World) :
    Calls Try.prog 9 #[.agg #[.int .i64 x0, .int .i64 x1]] w fun e w' => e = .returned (.agg #[.int .i64 x0, .int .i64 x1]) ∧ Below w.heap.size w w' := by
  go_enter Try.func9, Try.ntmps9
  go_wp2
  exact bodyPost_ret (v := .agg #[.int .i64 x0, .int .i64 x1]) (by simp [results, Try.results9, go_sem]) rfl ⟨rfl, (((Below.refl _ _).alloc (Nat.le_refl _) _).alloc (by simp) _).alloc (by simp; omega) _⟩
set_option maxHeartbeats 400000 in
theorem toPairS_cap (v : Value) (B n : Nat) (F : Nat → Int) (w : World) (h : Row w B 2 n F v) (hn : n ≤ 1048576) :
    Calls Try.prog 6 #[v] w fun e w' => ∃ uo, e = .returned (.slice uo n n) ∧ Row w' w.heap.size 2 n F (.slice uo n n) ∧ Free w' (n * 2) (.slice uo n n) ∧ Below w.heap.size w w' := by
  obtain ⟨ao, cp, rfl⟩ := h.form
  have H : Hid (Row w B 2 n F (.slice ao n cp)) := h
  clear h
  have hmk := make_rowP Try.underlying25 info_PairA n (by omega) (by omega)
  go_enter Try.func6, Try.ntmps6
  go_wp2
  go_loopw [4] (fun i wr => ∃ k : Nat, k ≤ n ∧ i = .int .i64 k ∧ Hid (Below w.heap.size w wr ∧ Fill wr w.heap.size 0 (n * 2) (k * 2) F)) (fun i _ => n - (intOf i).toNat)
  case atStart => exact ⟨0, Nat.zero_le _, rfl, below_alloc _ _, by rw [Nat.zero_mul]; exact Fill.made _ _ _ _ _⟩
  case round =>
    obtain ⟨k, hk, rfl, hR⟩ := hrel
    by_cases hlt : k < n
    · obtain ⟨g, o, rfl, _, hg, c0, c1⟩ := H.out.at2 hlt
      have b0 := hR.out.1.cell (p := ⟨g, o + k * 2, none⟩) hg
      rw [c0] at b0
      have b1 := hR.out.1.cell (p := ⟨g, o + k * 2 + 1, none⟩) hg
      rw [c1] at b1
      clear c0 c1
      go_wp2_with fail
      refine (toPair_any _ _ _).mono ?_
      rintro e w1 ⟨rfl, q1⟩
      have f1 := hR.out.2.later q1
      obtain ⟨v0, d0, e0⟩ := f1.at (p := k * 2) (by omega)
      obtain ⟨v1, d1, e1⟩ := f1.at (p := k * 2 + 1) (by omega)
      have HF : Hid (Below w.heap.size w w1 ∧ Fill w1 w.heap.size 0 (n * 2) (k * 2) F) := ⟨hR.out.1.trans (q1.mono hR.out.1.size), f1⟩
      clear q1 f1 b0 b1
      simp only [Nat.zero_add] at d0 e0 d1 e1
      go_wp2
      go_roundw
      case rel =>
        refine ⟨k + 1, by omega, by go_num, ((HF.out.1.setCell (Nat.le_refl _) _).setCell (Nat.le_refl _) _), ?_⟩
        have hq := ((HF.out.2.put0 (by omega)).put0 (by omega))
        rwa [show k * 2 + 1 + 1 = (k + 1) * 2 by omega] at hq
      case measure => simp [intOf]; omega
    · obtain rfl : k = n := by omega
      go_wp2
      go_ret
      exact ⟨_, rfl, (hR.out.2.row (Nat.le_refl _) _).1, (hR.out.2.row (B := 0) (Nat.zero_le _) _).2, hR.out.1⟩
theorem toPairS_any (v : Value) (B n : Nat) (F : Nat → Int) (w : World) (h : Row w B 2 n F v) (hn : n ≤ 1048576) :
    Calls Try.prog 6 #[v] w fun e w' => ∃ u, e = .returned u ∧ Row w' w.heap.size 2 n F u ∧ Free w' (n * 2) u ∧ Below w.heap.size w w' :=
  (toPairS_cap v B n F w h hn).mono fun _ _ ⟨uo, h1, h2, h3, h4⟩ => ⟨.slice uo n n, h1, h2, h3, h4⟩
set_option maxHeartbeats 400000 in
theorem szPairS_ok (a : Option Addr) (n c : Nat) (left : Int) (w : World) (h : (n : Int) ≤ left) (h2 : left ≤ 1048576) :
    Calls Try.prog 4 #[.slice a n c, .int .i64 left] w fun e w' => e = .returned (.int .i64 (left - n)) ∧ w' = w := by
  have d : decide (left - n < 0) = false := decide_eq_false (by omega)
  go_enter Try.func4, Try.ntmps4
  go_wp2
  go_ret
  exact ⟨rfl, rfl⟩
set_option maxHeartbeats 400000 in
theorem szPairS_no (a : Option Addr) (n c : Nat) (left : Int) (w : World) (h : left < n) (h0 : 0 ≤ left) (h2 : left ≤ 1048576) (hn : n ≤ 9223372036854775807) :
    Calls Try.prog 4 #[.slice a n c, .int .i64 left] w fun e w' => e = .returned (.int .i64 (-1)) ∧ w' = w := by
  have d : decide (left - n < 0) = true := decide_eq_true (by omega)
  go_enter Try.func4, Try.ntmps4
  go_wp2
  go_ret
  exact ⟨rfl, rfl⟩

end Go.Proofs.Ytdbcmckoiacemab
