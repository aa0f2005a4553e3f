/-
  Own text. WholeRange: the program's and the model's answer the same code and the same row; the law's walk.
-/
import Derived.Test.YtkaeolbnafhjaaaGreatRngH
import Derived.Test.YtkaeolbnafhjaaaGreatRngE
namespace Go.Proofs.YtkaeolbnafhjaaaGreat
open Go.RowKit

theorem ResRow.none {w w' : World} {c : Int} {e : Ending} {F : Nat → Int} (he : e = .returned (.agg #[.int .i64 c, .slice none 0 0])) (hb : Below w.heap.size w w') : ResRow 3 w c 0 F e w' :=
  ⟨Option.none, 0, he, ⟨_, _, rfl, fun q => absurd q (Nat.lt_irrefl 0)⟩, Free.of0 _ _, hb⟩
theorem Blk3.row {x : World} {b B : Nat} {F : Nat → Int} (h : Blk3 x b (.int .i64 (F 0)) (.int .i64 (F 1)) (.int .i64 (F 2))) (hB : B ≤ b) (cp : Nat) : Row x B 3 1 F (.slice (some ⟨b, 0, none⟩) 1 cp) ∧ Free x (1 * 3) (.slice (some ⟨b, 0, none⟩) 1 cp) := by
  have hl := h.lt
  obtain ⟨⟨h0, h1, h2⟩, f0, f1, f2⟩ := h
  refine ⟨⟨_, _, rfl, fun _ => ⟨b, 0, rfl, hB, hl, fun p hp => ?_⟩⟩, ?_⟩
  · match p, hp with
    | 0, _ => exact h0
    | 1, _ => exact h1
    | 2, _ => exact h2
  · intro g o n c hv p hp
    simp only [Value.slice.injEq, Option.some.injEq, Addr.mk.injEq] at hv
    obtain ⟨⟨rfl, rfl, _⟩, _, _⟩ := hv
    match p, hp with
    | 0, _ => exact f0
    | 1, _ => exact f1
    | 2, _ => exact f2
def wholeF (e : Int) (p : Nat) : Int := if p = 0 then 0 else if p = 1 then 200 else e
set_option maxRecDepth 100000 in
set_option maxHeartbeats 1000000 in
theorem specWhole_ok (ep : Int) (h : 1 ≤ ep ∧ ep ≤ 9999) (w : World) : Calls Tryz.prog 37 #[.int .i64 ep] w (ResRow 3 w 0 1 (wholeF ep)) := by
  have L0 : Hid (decide (1 ≤ ep ∧ ep ≤ 9999) = true) := decide_eq_true h
  go_enter Tryz.func37, Tryz.ntmps37
  go_wp2_with fail
  refine (l6Epoch_is _ _ L0.out _).mono ?_
  rintro e w1 ⟨rfl, rfl⟩
  go_wp2
  refine bodyPost_ret (v := .agg #[.int .i64 0, .slice (some ⟨w.heap.size + 1, 0, none⟩) 1 1]) (by simp [results, Tryz.results37, go_sem]) rfl ⟨_, _, rfl, ?_⟩
  have K := Blk3.row (F := wholeF ep) (B := w.heap.size) (Blk3.new (w.alloc (.cells #[.int .i64 0, .slice (some ⟨w.heap.size + 1, 0, none⟩) 1 1] 70)) (.int .i64 0) (.int .i64 200) (.int .i64 ep) 81) (by simp) 1
  rw [World.size_alloc] at K
  exact ⟨K.1, K.2, (below_alloc _ _).alloc (by simp) _⟩
set_option maxHeartbeats 1000000 in
theorem specWhole_bad (ep : Int) (h : ¬ (1 ≤ ep ∧ ep ≤ 9999)) (w : World) : Calls Tryz.prog 37 #[.int .i64 ep] w (ResRow 3 w 3 0 (wholeF ep)) := by
  have L0 : Hid (decide (1 ≤ ep ∧ ep ≤ 9999) = false) := decide_eq_false h
  go_enter Tryz.func37, Tryz.ntmps37
  go_wp2_with fail
  refine (l6Epoch_is _ _ L0.out _).mono ?_
  rintro e w1 ⟨rfl, rfl⟩
  go_wp2
  exact bodyPost_ret (v := .agg #[.int .i64 3, .slice none 0 0]) (by simp [results, Tryz.results37, go_sem]) rfl (ResRow.none rfl ((below_alloc _ _)))
set_option maxRecDepth 100000 in
set_option maxHeartbeats 1000000 in
theorem implWhole_ok (ep : Int) (h : 1 ≤ ep ∧ ep ≤ 9999) (w : World) : Calls Tryz.prog 43 #[.int .i64 ep] w (ResRow 3 w 0 1 (wholeF ep)) := by
  have L0 : Hid (decide (1 ≤ ep ∧ ep ≤ 9999) = true) := decide_eq_true h
  go_enter Tryz.func43, Tryz.ntmps43
  go_wp2_with fail
  refine (isEpoch_is _ _ L0.out _).mono ?_
  rintro e w1 ⟨rfl, rfl⟩
  go_wp2
  refine bodyPost_ret (v := .agg #[.int .i64 0, .slice (some ⟨w.heap.size + 1, 0, none⟩) 1 1]) (by simp [results, Tryz.results43, go_sem]) rfl ⟨_, _, rfl, ?_⟩
  have K := Blk3.row (F := wholeF ep) (B := w.heap.size) (Blk3.new (w.alloc (.cells #[.int .i64 0, .slice (some ⟨w.heap.size + 1, 0, none⟩) 1 1] 70)) (.int .i64 0) (.int .i64 200) (.int .i64 ep) 81) (by simp) 1
  rw [World.size_alloc] at K
  exact ⟨K.1, K.2, (below_alloc _ _).alloc (by simp) _⟩
set_option maxHeartbeats 1000000 in
theorem implWhole_bad (ep : Int) (h : ¬ (1 ≤ ep ∧ ep ≤ 9999)) (w : World) : Calls Tryz.prog 43 #[.int .i64 ep] w (ResRow 3 w 3 0 (wholeF ep)) := by
  have L0 : Hid (decide (1 ≤ ep ∧ ep ≤ 9999) = false) := decide_eq_false h
  go_enter Tryz.func43, Tryz.ntmps43
  go_wp2_with fail
  refine (isEpoch_is _ _ L0.out _).mono ?_
  rintro e w1 ⟨rfl, rfl⟩
  go_wp2
  exact bodyPost_ret (v := .agg #[.int .i64 3, .slice none 0 0]) (by simp [results, Tryz.results43, go_sem]) rfl (ResRow.none rfl ((below_alloc _ _)))
end Go.Proofs.YtkaeolbnafhjaaaGreat
