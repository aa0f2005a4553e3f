/-
  Own text. The program's list: the ranges of an array that has them at its front.
-/
import Derived.Test.YtabenplbibhbiaaArrC
namespace Go.Proofs.Ytabenplbibhbiaa
open Go.RowKit

set_option maxRecDepth 100000 in
theorem run_indexA (A : Nat → Int) (q : Nat) (hq : q < 6) (w : World) : (Instr.index 57 (.agg (arrV A)) (.int .i64 (q : Int))).run Try.prog w = .ok (.agg #[.int .i64 (A (q * 3)), .int .i64 (A (q * 3 + 1)), .int .i64 (A (q * 3 + 2))]) w := by
  have hc : q = 0 ∨ q = 1 ∨ q = 2 ∨ q = 3 ∨ q = 4 ∨ q = 5 := by omega
  rcases hc with rfl | rfl | rfl | rfl | rfl | rfl <;> rfl
theorem row_lit3 (w : World) (x0 x1 x2 : Int) (t : TypeId) (b : Nat) (hb : w.heap.size = b) : Row (w.alloc (.cells #[.int .i64 x0, .int .i64 x1, .int .i64 x2] t)) 0 3 1 (fun p => [x0, x1, x2].getD p 0) (.slice (some ⟨b, 0, none⟩) 1 1) := by
  subst hb
  refine ⟨_, _, rfl, fun _ => ⟨w.heap.size, 0, rfl, Nat.zero_le _, by simp, fun p hp => ?_⟩⟩
  rw [Nat.zero_add, World.cell?_alloc_mark]
  match p, hp with
  | 0, _ => rfl
  | 1, _ => rfl
  | 2, _ => rfl
theorem nums_three (A : Nat → Int) (q : Nat) : nums A (q * 3) ++ nums (fun p => [A (q * 3), A (q * 3 + 1), A (q * 3 + 2)].getD p 0) (1 * 3) = nums A ((q + 1) * 3) := by
  rw [show (q + 1) * 3 = q * 3 + 1 + 1 + 1 by omega]
  simp [nums, List.range_succ]
set_option maxRecDepth 100000 in
set_option maxHeartbeats 1000000 in
theorem list_is (A : Nat → Int) (m : Nat) (hm : m ≤ 6) (h1 : ∀ i, i < m → A (i * 3 + 2) ≠ 0) (h0 : ∀ i, m ≤ i → i < 6 → A (i * 3 + 2) = 0) (w : World) :
    Calls Try.prog 38 #[.agg (arrV A)] w fun e w' => ∃ ao cp, e = .returned (.slice ao m cp) ∧ OwnM w' w.heap.size 34 3 (.slice ao m cp) m (nums A (m * 3)) ∧ Below w.heap.size w w' := by
  have H1 : Hid ((∀ i, i < m → A (i * 3 + 2) ≠ 0) ∧ ∀ i, m ≤ i → i < 6 → A (i * 3 + 2) = 0) := ⟨h1, h0⟩
  clear h1 h0
  obtain ⟨i0, hi, hz0, hz1, hz2⟩ := info_parts info_Range
  go_enter Try.func38, Try.ntmps38
  go_upto_region 2 with fail
  have X0 : (w.alloc (.cells (arrV A) 57)).heap[w.heap.size]? = some (.cells (arrV A) 57) := heap_alloc_new w _
  go_wp2_with (refine wpList_load_row rfl 57 _ rfl w.heap.size rfl _ _ _ _ X0 Try.underlying57 rfl (by rw [arrV_size]; kernel_rfl) ?_)
  clear X0
  go_loopw [3, 7] (fun l i wr => ∃ (q c : Nat) (ao : Option Addr) (cp : Nat), q ≤ 6 ∧ i = .int .i64 q ∧ l = .slice ao c cp ∧ Hid (c ≤ m ∧ (q ≤ m → c = q) ∧ (m ≤ q → c = m)) ∧ Hid (OwnM wr w.heap.size 34 3 (.slice ao c cp) c (nums A (c * 3)) ∧ Below w.heap.size w wr)) (fun _ i _ => 6 - (intOf i).toNat)
  case atStart => exact ⟨0, 0, none, 0, by omega, rfl, rfl, ⟨by omega, fun _ => rfl, fun h => by omega⟩, OwnM.nil _ _ _ _, below_alloc _ _⟩
  case round =>
    obtain ⟨q, c, ao, cp, hq, rfl, rfl, HC, HO⟩ := hrel
    by_cases hlt : q < 6
    case neg =>
      obtain rfl : q = 6 := by omega
      obtain rfl : c = m := HC.out.2.2 (by omega)
      go_wp2
      go_ret
      exact ⟨_, _, rfl, HO.out.1, HO.out.2⟩
    have hidx := run_indexA A q hlt
    by_cases hqm : q < m
    · obtain rfl : c = q := HC.out.2.1 (by omega)
      have hne : (A (c * 3 + 2) == 0) = false := beq_eq_false_iff_ne.2 (H1.out.1 c hqm)
      obtain ⟨x0, N0⟩ : ∃ x, A (c * 3) = x := ⟨_, rfl⟩
      obtain ⟨x1, N1⟩ : ∃ x, A (c * 3 + 1) = x := ⟨_, rfl⟩
      obtain ⟨x2, N2⟩ : ∃ x, A (c * 3 + 2) = x := ⟨_, rfl⟩
      have E : Hid (nums A (c * 3) ++ nums (fun p => [x0, x1, x2].getD p 0) (1 * 3) = nums A ((c + 1) * 3)) := by
        unfold Hid
        rw [← N0, ← N1, ← N2]
        exact nums_three A c
      rw [N0, N1, N2] at hidx
      rw [N2] at hne
      clear N0 N1 N2
      go_wp2_with (at_builtin; refine wpList_app 34 i0 (.agg #[.int .i64 0, .int .i64 0, .int .i64 0]) 3 24 rfl _ _ 24 rfl Try.underlying24 hi hz0 hz1 hz2 rfl (by omega) (by omega) _ w.heap.size c (nums A (c * 3)) _ rfl ((HO.out.1.later (below_alloc _ _)).later (below_alloc _ _)) 0 1 (fun p => [x0, x1, x2].getD p 0) _ rfl (row_lit3 _ x0 x1 x2 _ _ (by simp)) (by omega) (by have := HO.out.2.size; simp; omega) ?_; intro ao1 cp1 w2 O2 G2)
      rw [E.out] at O2
      have hb := ((HO.out.2.alloc HO.out.2.size (.cells #[.int .i64 x0, .int .i64 x1, .int .i64 x2] 34)).alloc (by have := HO.out.2.size; simp; omega) (.cells #[.int .i64 x0, .int .i64 x1, .int .i64 x2] 34)).grown G2 (by have := HO.out.2.size; simp; omega) (fun r e => (HO.out.1.block r e).1)
      go_roundw
      case rel => exact ⟨c + 1, c + 1, ao1, cp1, by omega, by go_num, rfl, ⟨by omega, fun _ => rfl, fun _ => by omega⟩, O2, hb⟩
      case measure => simp [intOf]; omega
    · obtain rfl : c = m := HC.out.2.2 (by omega)
      have hz := H1.out.2 q (by omega) hlt
      rw [hz] at hidx
      go_wp2
      go_roundw
      case rel => exact ⟨q + 1, c, ao, cp, by omega, by go_num, rfl, ⟨by omega, fun _ => by omega, fun _ => rfl⟩, HO.out.1.later (below_alloc _ _), HO.out.2.alloc HO.out.2.size _⟩
      case measure => simp [intOf]; omega
end Go.Proofs.Ytabenplbibhbiaa
