/-
  Own text. Chapter 6: the next epoch, RouteOf, IsFresh and WholeRange: the program's and the model's answer the same.
-/
import Derived.Test.YtabenplbibhbiabRngD
namespace Go.Proofs.Ytabenplbibhbiab
open Go.RowKit

/-- A code and a value. -/
def ResIv (w : World) (c v : Int) (e : Ending) (w' : World) : Prop := e = .returned (.agg #[.int .i64 c, .int .i64 v]) ∧ Below w.heap.size w w'
/-- What RouteOf answers: a code and a place. -/
def RouteAns (n : Nat) (F : Nat → Int) (key c v : Int) : Prop :=
  (rangesF n F ≠ 0 ∧ c = rangesF n F ∧ v = 0) ∨ (rangesF n F = 0 ∧ (key < 0 ∨ 199 < key) ∧ c = 3 ∧ v = 0) ∨ (rangesF n F = 0 ∧ ¬ (key < 0 ∨ 199 < key) ∧ c = 0 ∧ ∃ j : Nat, AtR n F key j ∧ v = j)
theorem RouteAns.get (n : Nat) (F : Nat → Int) (key : Int) : ∃ c v, RouteAns n F key c v := by
  by_cases h0 : rangesF n F = 0
  · by_cases h1 : key < 0 ∨ 199 < key
    · exact ⟨3, 0, Or.inr (Or.inl ⟨h0, h1, rfl, rfl⟩)⟩
    · obtain ⟨j, hj⟩ := (good_of h0).at (key := key) (by omega)
      exact ⟨0, j, Or.inr (Or.inr ⟨h0, h1, rfl, j, hj, rfl⟩)⟩
  · exact ⟨_, 0, Or.inl ⟨h0, rfl, rfl⟩⟩
set_option maxRecDepth 100000 in
set_option maxHeartbeats 1000000 in
theorem specRoute_is (y : Value) (B n : Nat) (F : Nat → Int) (key c v : Int) (w : World) (h : Row w B 3 n F y) (hn : n ≤ 1048576) (ha : RouteAns n F key c v) :
    Calls Try.prog 9 #[y, .int .i64 key] w (ResIv w c v) := by
  obtain ⟨ao, cp, rfl⟩ := h.form
  have H : Hid (Row w B 3 n F (.slice ao n cp)) := h
  clear h
  rcases ha with ⟨h0, rfl, rfl⟩ | ⟨h0, h1, rfl, rfl⟩ | ⟨h0, h1, rfl, j, hj, rfl⟩
  · have L0 : Hid (∀ x, Below w.heap.size w x → Calls Try.prog 13 #[.slice ao n cp] x fun e w' => e = .returned (.int .i64 (rangesF n F)) ∧ Below x.heap.size x w') := fun x hb => l6Fault_any _ B n F x (H.out.later hb) (by omega)
    obtain ⟨f, hf⟩ : ∃ f, rangesF n F = f := ⟨_, rfl⟩
    rw [hf] at h0 L0 ⊢
    have d : (f == 0) = false := beq_eq_false_iff_ne.2 h0
    clear hf
    go_enter Try.func9, Try.ntmps9
    go_wp2_with fail
    refine (L0.out _ (below_alloc _ _)).mono ?_
    rintro e w1 ⟨rfl, q1⟩
    have Q : Hid (Below w.heap.size w w1) := (below_alloc _ _).trans (q1.mono (by simp))
    have KB : Hid (Blk2 w1 w.heap.size (.int .i64 0) (.int .i64 0)) := (Blk2.new w (.int .i64 0) (.int .i64 0) 30).later q1
    obtain ⟨⟨b0, b1⟩, f0, f1⟩ := KB.out
    clear q1 L0
    go_wp2
    obtain ⟨⟨r0, r1⟩, _, _⟩ := KB.out.put (.int .i64 f) (.int .i64 0)
    exact bodyPost_ret (v := .agg #[.int .i64 f, .int .i64 0]) (by simp [results, Try.results9, go_sem, r0, r1]) rfl ⟨rfl, (Q.out.setCell (Nat.le_refl _) _).setCell (Nat.le_refl _) _⟩
  · have L0 : Hid (∀ x, Below w.heap.size w x → Calls Try.prog 13 #[.slice ao n cp] x fun e w' => e = .returned (.int .i64 0) ∧ Below x.heap.size x w') := fun x hb => h0 ▸ l6Fault_any _ B n F x (H.out.later hb) (by omega)
    clear h0
    go_enter Try.func9, Try.ntmps9
    go_wp2_with fail
    refine (L0.out _ (below_alloc _ _)).mono ?_
    rintro e w1 ⟨rfl, q1⟩
    have Q : Hid (Below w.heap.size w w1) := (below_alloc _ _).trans (q1.mono (by simp))
    have KB : Hid (Blk2 w1 w.heap.size (.int .i64 0) (.int .i64 0)) := (Blk2.new w (.int .i64 0) (.int .i64 0) 30).later q1
    obtain ⟨⟨b0, b1⟩, f0, f1⟩ := KB.out
    clear q1 L0
    have dd : Hid (decide ((0 : Int) ≤ key ∧ key ≤ 199) = false) := decide_eq_false (by omega)
    go_wp2_with fail
    refine (inR_is _ _ _ false dd.out _).mono ?_
    rintro e w2 ⟨rfl, rfl⟩
    go_wp2
    obtain ⟨⟨r0, r1⟩, _, _⟩ := KB.out.put (.int .i64 3) (.int .i64 0)
    exact bodyPost_ret (v := .agg #[.int .i64 3, .int .i64 0]) (by simp [results, Try.results9, go_sem, r0, r1]) rfl ⟨rfl, (Q.out.setCell (Nat.le_refl _) _).setCell (Nat.le_refl _) _⟩
  · have L0 : Hid (∀ x, Below w.heap.size w x → Calls Try.prog 13 #[.slice ao n cp] x fun e w' => e = .returned (.int .i64 0) ∧ Below x.heap.size x w') := fun x hb => h0 ▸ l6Fault_any _ B n F x (H.out.later hb) (by omega)
    have HJ : Hid (AtR n F key j) := hj
    clear h0 hj
    go_enter Try.func9, Try.ntmps9
    go_wp2_with fail
    refine (L0.out _ (below_alloc _ _)).mono ?_
    rintro e w1 ⟨rfl, q1⟩
    have Q : Hid (Below w.heap.size w w1) := (below_alloc _ _).trans (q1.mono (by simp))
    have KB : Hid (Blk2 w1 w.heap.size (.int .i64 0) (.int .i64 0)) := (Blk2.new w (.int .i64 0) (.int .i64 0) 30).later q1
    obtain ⟨⟨b0, b1⟩, f0, f1⟩ := KB.out
    clear q1 L0
    have dd : Hid (decide ((0 : Int) ≤ key ∧ key ≤ 199) = true) := decide_eq_true (by omega)
    go_wp2_with fail
    refine (inR_is _ _ _ true dd.out _).mono ?_
    rintro e w2 ⟨rfl, rfl⟩
    go_wp2_with fail
    refine (l6Route_is _ B n F key j _ (H.out.later Q.out) HJ.out hn).mono ?_
    rintro e w2 ⟨rfl, rfl⟩
    go_wp2
    obtain ⟨⟨r0, r1⟩, _, _⟩ := KB.out.put (.int .i64 0) (.int .i64 (j : Int))
    exact bodyPost_ret (v := .agg #[.int .i64 0, .int .i64 (j : Int)]) (by simp [results, Try.results9, go_sem, r0, r1]) rfl ⟨rfl, (Q.out.setCell (Nat.le_refl _) _).setCell (Nat.le_refl _) _⟩
set_option maxRecDepth 100000 in
set_option maxHeartbeats 1000000 in
theorem implRoute_is (y : Value) (B n : Nat) (F : Nat → Int) (key c v : Int) (w : World) (h : Row w B 3 n F y) (hn : n ≤ 1048576) (ha : RouteAns n F key c v) :
    Calls Try.prog 11 #[y, .int .i64 key] w (ResIv w c v) := by
  obtain ⟨ao, cp, rfl⟩ := h.form
  have H : Hid (Row w B 3 n F (.slice ao n cp)) := h
  clear h
  rcases ha with ⟨h0, rfl, rfl⟩ | ⟨h0, h1, rfl, rfl⟩ | ⟨h0, h1, rfl, j, hj, rfl⟩
  · have L0 : Hid (∀ x, Below w.heap.size w x → Calls Try.prog 16 #[.slice ao n cp] x fun e w' => e = .returned (.int .i64 (rangesF n F)) ∧ Below x.heap.size x w') := fun x hb => implRanges_any _ B n F x (H.out.later hb) (by omega)
    obtain ⟨f, hf⟩ : ∃ f, rangesF n F = f := ⟨_, rfl⟩
    rw [hf] at h0 L0 ⊢
    have d : (f == 0) = false := beq_eq_false_iff_ne.2 h0
    clear hf
    go_enter Try.func11, Try.ntmps11
    go_wp2_with fail
    refine (L0.out _ (below_alloc _ _)).mono ?_
    rintro e w1 ⟨rfl, q1⟩
    have Q : Hid (Below w.heap.size w w1) := (below_alloc _ _).trans (q1.mono (by simp))
    have KB : Hid (Blk2 w1 w.heap.size (.int .i64 0) (.int .i64 0)) := (Blk2.new w (.int .i64 0) (.int .i64 0) 30).later q1
    obtain ⟨⟨b0, b1⟩, f0, f1⟩ := KB.out
    clear q1 L0
    go_wp2
    obtain ⟨⟨r0, r1⟩, _, _⟩ := KB.out.put (.int .i64 f) (.int .i64 0)
    exact bodyPost_ret (v := .agg #[.int .i64 f, .int .i64 0]) (by simp [results, Try.results11, go_sem, r0, r1]) rfl ⟨rfl, (Q.out.setCell (Nat.le_refl _) _).setCell (Nat.le_refl _) _⟩
  · have L0 : Hid (∀ x, Below w.heap.size w x → Calls Try.prog 16 #[.slice ao n cp] x fun e w' => e = .returned (.int .i64 0) ∧ Below x.heap.size x w') := fun x hb => h0 ▸ implRanges_any _ B n F x (H.out.later hb) (by omega)
    clear h0
    go_enter Try.func11, Try.ntmps11
    go_wp2_with fail
    refine (L0.out _ (below_alloc _ _)).mono ?_
    rintro e w1 ⟨rfl, q1⟩
    have Q : Hid (Below w.heap.size w w1) := (below_alloc _ _).trans (q1.mono (by simp))
    have KB : Hid (Blk2 w1 w.heap.size (.int .i64 0) (.int .i64 0)) := (Blk2.new w (.int .i64 0) (.int .i64 0) 30).later q1
    obtain ⟨⟨b0, b1⟩, f0, f1⟩ := KB.out
    clear q1 L0
    rcases h1 with h1 | h1
    · go_wp2
      obtain ⟨⟨r0, r1⟩, _, _⟩ := KB.out.put (.int .i64 3) (.int .i64 0)
      exact bodyPost_ret (v := .agg #[.int .i64 3, .int .i64 0]) (by simp [results, Try.results11, go_sem, r0, r1]) rfl ⟨rfl, (Q.out.setCell (Nat.le_refl _) _).setCell (Nat.le_refl _) _⟩
    · have d1 : decide (key > 199) = true := decide_eq_true (by omega)
      go_wp2
      obtain ⟨⟨r0, r1⟩, _, _⟩ := KB.out.put (.int .i64 3) (.int .i64 0)
      exact bodyPost_ret (v := .agg #[.int .i64 3, .int .i64 0]) (by simp [results, Try.results11, go_sem, r0, r1]) rfl ⟨rfl, (Q.out.setCell (Nat.le_refl _) _).setCell (Nat.le_refl _) _⟩
  · have L0 : Hid (∀ x, Below w.heap.size w x → Calls Try.prog 16 #[.slice ao n cp] x fun e w' => e = .returned (.int .i64 0) ∧ Below x.heap.size x w') := fun x hb => h0 ▸ implRanges_any _ B n F x (H.out.later hb) (by omega)
    have HJ : Hid (AtR n F key j) := hj
    clear h0 hj
    go_enter Try.func11, Try.ntmps11
    go_wp2_with fail
    refine (L0.out _ (below_alloc _ _)).mono ?_
    rintro e w1 ⟨rfl, q1⟩
    have Q : Hid (Below w.heap.size w w1) := (below_alloc _ _).trans (q1.mono (by simp))
    have KB : Hid (Blk2 w1 w.heap.size (.int .i64 0) (.int .i64 0)) := (Blk2.new w (.int .i64 0) (.int .i64 0) 30).later q1
    obtain ⟨⟨b0, b1⟩, f0, f1⟩ := KB.out
    clear q1 L0
    have d1 : decide (key > 199) = false := decide_eq_false (by omega)
    go_wp2_with fail
    refine (placeOf_is _ B n F key j _ (H.out.later Q.out) HJ.out hn).mono ?_
    rintro e w2 ⟨rfl, rfl⟩
    go_wp2
    obtain ⟨⟨r0, r1⟩, _, _⟩ := KB.out.put (.int .i64 0) (.int .i64 (j : Int))
    exact bodyPost_ret (v := .agg #[.int .i64 0, .int .i64 (j : Int)]) (by simp [results, Try.results11, go_sem, r0, r1]) rfl ⟨rfl, (Q.out.setCell (Nat.le_refl _) _).setCell (Nat.le_refl _) _⟩
end Go.Proofs.Ytabenplbibhbiab
