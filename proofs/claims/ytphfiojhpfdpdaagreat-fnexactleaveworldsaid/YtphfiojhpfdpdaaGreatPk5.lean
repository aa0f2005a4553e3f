/-
  Own text, merged of TxnH, WldL, GrpF, AppR, GrpG, ColsQ.
-/
import Derived.Test.YtphfiojhpfdpdaaGreatPk4
namespace Go.Proofs.YtphfiojhpfdpdaaGreat
open Go.RowKit

theorem SuitsT.get {s c st : Int} (h : 1 ≤ st ∧ st ≤ 7) : ∃ r, SuitsT s c st r := by
  have h7 : st = 1 ∨ (st = 2 ∨ st = 3 ∨ st = 4) ∨ (st = 5 ∨ st = 6 ∨ st = 7) := by omega
  rcases h7 with h | h | h
  · exact ⟨_, Or.inl ⟨h, rfl⟩⟩
  · exact ⟨_, Or.inr (Or.inl ⟨h, rfl⟩)⟩
  · exact ⟨_, Or.inr (Or.inr ⟨h, rfl⟩)⟩
theorem SuitsT.no {s c st : Int} (h : SuitsT s c st false) : (st = 2 ∨ st = 3 ∨ st = 4) ∧ c ≤ s ∨ st = 1 ∧ c ≠ 0 := by
  rcases h with ⟨h, e⟩ | ⟨h, e⟩ | ⟨h, e⟩
  · exact Or.inr ⟨h, beq_eq_false_iff_ne.1 e.symm⟩
  · exact Or.inl ⟨h, by have := of_decide_eq_false e.symm; omega⟩
  · cases e
theorem SuitsT.yes {s c st : Int} (h : SuitsT s c st true) : ¬ ((st = 2 ∨ st = 3 ∨ st = 4) ∧ c ≤ s ∨ st = 1 ∧ c ≠ 0) := by
  rcases h with ⟨h, e⟩ | ⟨h, e⟩ | ⟨h, e⟩
  · have := eq_of_beq e.symm; omega
  · have := of_decide_eq_true e.symm; omega
  · omega
set_option maxRecDepth 100000 in
set_option maxHeartbeats 4000000 in
theorem implTxnFault_none (s u st a : Int) (n : Nat) (F : Nat → Int) (y : Value) (w : World) (h : Row w 0 3 n F y) (hcap : CapOk y) :
    Calls Tryz.prog 59 #[.agg #[.int .i64 s, .int .i64 0, .int .i64 u, .int .i64 st, .int .i64 a, y]] w fun e w' => e = .returned (.int .i64 (txnF s 0 u st a n F)) ∧ Below w.heap.size w w' := by
  obtain ⟨ao, cp, rfl⟩ := h.form
  have H : Hid (Row w 0 3 n F (.slice ao n cp)) := h
  clear h
  by_cases h0 : 1 ≤ s ∧ s ≤ 100000
  case neg =>
    have D0 : Hid (decide (1 ≤ s ∧ s ≤ 100000) = false) := decide_eq_false h0
    have E : Hid (txnF s 0 u st a n F = 3) := txnF_range (Or.inl h0)
    clear h0
    go_enter Tryz.func59, Tryz.ntmps59
    go_wp2_with fail
    refine (isTimeT_is _ _ D0.out _).mono ?_
    rintro e w9 ⟨rfl, hw9⟩
    obtain rfl := hw9.symm
    go_wp2
    go_ret
    exact ⟨by rw [E.out]; rfl, below_alloc _ _⟩
  have D0 : Hid (decide (1 ≤ s ∧ s ≤ 100000) = true) := decide_eq_true h0
  by_cases h2 : 0 ≤ u ∧ u ≤ 100000
  case neg =>
    have D2 : Hid (decide (0 ≤ u ∧ u ≤ 100000) = false) := decide_eq_false h2
    have E : Hid (txnF s 0 u st a n F = 3) := txnF_range (Or.inr (Or.inr (Or.inl h2)))
    clear h0 h2
    go_enter Tryz.func59, Tryz.ntmps59
    go_wp2_with fail
    refine (isTimeT_is _ _ D0.out _).mono ?_
    rintro e w9 ⟨rfl, hw9⟩
    obtain rfl := hw9.symm
    go_wp2_with fail
    refine (isUntilT_is _ _ D2.out _).mono ?_
    rintro e w9 ⟨rfl, hw9⟩
    obtain rfl := hw9.symm
    go_wp2
    go_ret
    exact ⟨by rw [E.out]; rfl, below_alloc _ _⟩
  have D2 : Hid (decide (0 ≤ u ∧ u ≤ 100000) = true) := decide_eq_true h2
  by_cases h3 : 1 ≤ st ∧ st ≤ 7
  case neg =>
    have E : Hid (txnF s 0 u st a n F = 3) := txnF_range (Or.inr (Or.inr (Or.inr h3)))
    by_cases h4 : st < 1
    focus
      have d : decide (st < 1) = true := decide_eq_true h4
    rotate_left
    focus
      have d : decide (st < 1) = false := decide_eq_false h4
      have d7 : decide (7 < st) = true := decide_eq_true (by omega)
    rotate_left
    all_goals
      clear h0 h2 h3 h4
      go_enter Tryz.func59, Tryz.ntmps59
      go_wp2_with fail
      refine (isTimeT_is _ _ D0.out _).mono ?_
      rintro e w9 ⟨rfl, hw9⟩
      obtain rfl := hw9.symm
      go_wp2_with fail
      refine (isUntilT_is _ _ D2.out _).mono ?_
      rintro e w9 ⟨rfl, hw9⟩
      obtain rfl := hw9.symm
      go_wp2
      go_ret
      exact ⟨by rw [E.out]; rfl, below_alloc _ _⟩
  have d : decide (st < 1) = false := decide_eq_false (by omega)
  have d7 : decide (7 < st) = false := decide_eq_false (by omega)
  have HI : Hid (InB s 0 u st) := ⟨h0, ⟨by omega, by omega⟩, h2, h3⟩
  clear h0 h2
  by_cases hm : n < 1 ∨ 12 < n
  · have E : Hid (txnF s 0 u st a n F = 2) := txnF_many HI.out hm
    clear h3
    by_cases hm1 : n < 1
    · obtain rfl : n = 0 := by omega
      clear hm hm1
      go_enter Tryz.func59, Tryz.ntmps59
      go_wp2_with fail
      refine (isTimeT_is _ _ D0.out _).mono ?_
      rintro e w9 ⟨rfl, hw9⟩
      obtain rfl := hw9.symm
      go_wp2_with fail
      refine (isUntilT_is _ _ D2.out _).mono ?_
      rintro e w9 ⟨rfl, hw9⟩
      obtain rfl := hw9.symm
      go_wp2
      go_ret
      exact ⟨by rw [E.out]; rfl, below_alloc _ _⟩
    · have e1 : decide ((n : Int) < 1) = false := decide_eq_false (by omega)
      have e2 : decide ((12 : Int) < (n : Int)) = true := decide_eq_true (by omega)
      clear hm hm1
      go_enter Tryz.func59, Tryz.ntmps59
      go_wp2_with fail
      refine (isTimeT_is _ _ D0.out _).mono ?_
      rintro e w9 ⟨rfl, hw9⟩
      obtain rfl := hw9.symm
      go_wp2_with fail
      refine (isUntilT_is _ _ D2.out _).mono ?_
      rintro e w9 ⟨rfl, hw9⟩
      obtain rfl := hw9.symm
      go_wp2
      go_ret
      exact ⟨by rw [E.out]; rfl, below_alloc _ _⟩
  have HM : Hid (¬ (n < 1 ∨ 12 < n)) := hm
  have e1 : decide ((n : Int) < 1) = false := decide_eq_false (by omega)
  have e2 : decide ((12 : Int) < (n : Int)) = false := decide_eq_false (by omega)
  have hn12 : n ≤ 12 := by omega
  clear hm
  obtain ⟨f, hf⟩ : ∃ f, itemsF F n 0 = f := ⟨_, rfl⟩
  have HF : Hid (itemsF F n 0 = f) := hf
  clear hf
  by_cases hf : f = 0
  case neg =>
    have E : Hid (txnF s 0 u st a n F = f) := txnF_item HI.out HM.out HF.out hf
    have df : (f != 0) = true := bne_iff_ne.2 hf
    clear hf h3
    go_enter Tryz.func59, Tryz.ntmps59
    go_wp2_with fail
    refine (isTimeT_is _ _ D0.out _).mono ?_
    rintro e w9 ⟨rfl, hw9⟩
    obtain rfl := hw9.symm
    go_wp2_with fail
    refine (isUntilT_is _ _ D2.out _).mono ?_
    rintro e w9 ⟨rfl, hw9⟩
    obtain rfl := hw9.symm
    go_wp2_with fail
    refine (itemsFault_is _ 0 n F _ (H.out.alloc _) hcap hn12).mono ?_
    rintro e w1 ⟨rfl, q1⟩
    rw [HF.out]
    have Q : Hid (Below w.heap.size w w1) := (below_alloc _ _).trans (q1.mono (by simp))
    obtain ⟨⟨k0, k1, k2, k3, k4, k5⟩, _⟩ := (Blk6.new w (.int .i64 s) (.int .i64 0) (.int .i64 u) (.int .i64 st) (.int .i64 a) (.slice ao n cp) 69).later q1
    clear q1
    go_wp2
    go_ret
    exact ⟨by rw [E.out]; rfl, Q.out⟩
  subst hf
  by_cases ha : 0 ≤ a ∧ a ≤ n
  case neg =>
    have E : Hid (txnF s 0 u st a n F = 3) := txnF_at HI.out HM.out HF.out ha
    by_cases ha0 : a < 0
    focus
      have da : decide (a < 0) = true := decide_eq_true ha0
    rotate_left
    focus
      have da : decide (a < 0) = false := decide_eq_false ha0
      have db : decide ((n : Int) < a) = true := decide_eq_true (by omega)
    rotate_left
    all_goals
      clear ha ha0 h3
      go_enter Tryz.func59, Tryz.ntmps59
      go_wp2_with fail
      refine (isTimeT_is _ _ D0.out _).mono ?_
      rintro e w9 ⟨rfl, hw9⟩
      obtain rfl := hw9.symm
      go_wp2_with fail
      refine (isUntilT_is _ _ D2.out _).mono ?_
      rintro e w9 ⟨rfl, hw9⟩
      obtain rfl := hw9.symm
      go_wp2_with fail
      refine (itemsFault_is _ 0 n F _ (H.out.alloc _) hcap hn12).mono ?_
      rintro e w1 ⟨rfl, q1⟩
      rw [HF.out]
      have Q : Hid (Below w.heap.size w w1) := (below_alloc _ _).trans (q1.mono (by simp))
      obtain ⟨⟨k0, k1, k2, k3, k4, k5⟩, _⟩ := (Blk6.new w (.int .i64 s) (.int .i64 0) (.int .i64 u) (.int .i64 st) (.int .i64 a) (.slice ao n cp) 69).later q1
      clear q1
      go_wp2
      go_ret
      exact ⟨by rw [E.out]; rfl, Q.out⟩
  have da : decide (a < 0) = false := decide_eq_false (by omega)
  have db : decide ((n : Int) < a) = false := decide_eq_false (by omega)
  obtain ⟨r, hr⟩ : ∃ r, SuitsT s 0 st r := SuitsT.get h3
  have HR : Hid (SuitsT s 0 st r) := hr
  have HA : Hid (0 ≤ a ∧ a ≤ n) := ha
  clear ha h3 hr
  cases r with
  | false =>
    have E : Hid (txnF s 0 u st a n F = 1) := txnF_form HI.out HM.out HF.out HA.out HR.out.no
    go_enter Tryz.func59, Tryz.ntmps59
    go_wp2_with fail
    refine (isTimeT_is _ _ D0.out _).mono ?_
    rintro e w9 ⟨rfl, hw9⟩
    obtain rfl := hw9.symm
    go_wp2_with fail
    refine (isUntilT_is _ _ D2.out _).mono ?_
    rintro e w9 ⟨rfl, hw9⟩
    obtain rfl := hw9.symm
    go_wp2_with fail
    refine (itemsFault_is _ 0 n F _ (H.out.alloc _) hcap hn12).mono ?_
    rintro e w1 ⟨rfl, q1⟩
    rw [HF.out]
    have Q : Hid (Below w.heap.size w w1) := (below_alloc _ _).trans (q1.mono (by simp))
    obtain ⟨⟨k0, k1, k2, k3, k4, k5⟩, _⟩ := (Blk6.new w (.int .i64 s) (.int .i64 0) (.int .i64 u) (.int .i64 st) (.int .i64 a) (.slice ao n cp) 69).later q1
    clear q1
    go_wp2_with fail
    refine (commitSuits_is s 0 u st a ao n cp _ HR.out hn12 _).mono ?_
    rintro e w2 ⟨rfl, q2⟩
    have Q : Hid (Below w.heap.size w w2) := Q.out.trans (q2.mono Q.out.size)
    clear q2
    go_wp2
    go_ret
    exact ⟨by rw [E.out]; rfl, Q.out⟩
  | true =>
    have E : Hid (txnF s 0 u st a n F = 0) := txnF_ok HI.out HM.out HF.out HA.out HR.out.yes
    go_enter Tryz.func59, Tryz.ntmps59
    go_wp2_with fail
    refine (isTimeT_is _ _ D0.out _).mono ?_
    rintro e w9 ⟨rfl, hw9⟩
    obtain rfl := hw9.symm
    go_wp2_with fail
    refine (isUntilT_is _ _ D2.out _).mono ?_
    rintro e w9 ⟨rfl, hw9⟩
    obtain rfl := hw9.symm
    go_wp2_with fail
    refine (itemsFault_is _ 0 n F _ (H.out.alloc _) hcap hn12).mono ?_
    rintro e w1 ⟨rfl, q1⟩
    rw [HF.out]
    have Q : Hid (Below w.heap.size w w1) := (below_alloc _ _).trans (q1.mono (by simp))
    obtain ⟨⟨k0, k1, k2, k3, k4, k5⟩, _⟩ := (Blk6.new w (.int .i64 s) (.int .i64 0) (.int .i64 u) (.int .i64 st) (.int .i64 a) (.slice ao n cp) 69).later q1
    clear q1
    go_wp2_with fail
    refine (commitSuits_is s 0 u st a ao n cp _ HR.out hn12 _).mono ?_
    rintro e w2 ⟨rfl, q2⟩
    have Q : Hid (Below w.heap.size w w2) := Q.out.trans (q2.mono Q.out.size)
    clear q2
    go_wp2
    go_ret
    exact ⟨by rw [E.out]; rfl, Q.out⟩
set_option maxRecDepth 100000 in
set_option maxHeartbeats 4000000 in
theorem implTxnFault_some (s c u st a : Int) (n : Nat) (F : Nat → Int) (y : Value) (w : World) (h : Row w 0 3 n F y) (hcap : CapOk y) (hc0 : c ≠ 0) (h1 : 0 ≤ c ∧ c ≤ 100000) :
    Calls Tryz.prog 59 #[.agg #[.int .i64 s, .int .i64 c, .int .i64 u, .int .i64 st, .int .i64 a, y]] w fun e w' => e = .returned (.int .i64 (txnF s c u st a n F)) ∧ Below w.heap.size w w' := by
  obtain ⟨ao, cp, rfl⟩ := h.form
  have H : Hid (Row w 0 3 n F (.slice ao n cp)) := h
  clear h
  have dc : (c != 0) = true := bne_iff_ne.2 hc0
  have DC : Hid (decide (1 ≤ c ∧ c ≤ 100000) = true) := decide_eq_true (by omega)
  by_cases h0 : 1 ≤ s ∧ s ≤ 100000
  case neg =>
    have D0 : Hid (decide (1 ≤ s ∧ s ≤ 100000) = false) := decide_eq_false h0
    have E : Hid (txnF s c u st a n F = 3) := txnF_range (Or.inl h0)
    clear h0
    go_enter Tryz.func59, Tryz.ntmps59
    go_wp2_with fail
    refine (isTimeT_is _ _ DC.out _).mono ?_
    rintro e w9 ⟨rfl, hw9⟩
    obtain rfl := hw9.symm
    go_wp2_with fail
    refine (isTimeT_is _ _ D0.out _).mono ?_
    rintro e w9 ⟨rfl, hw9⟩
    obtain rfl := hw9.symm
    go_wp2
    go_ret
    exact ⟨by rw [E.out]; rfl, below_alloc _ _⟩
  have D0 : Hid (decide (1 ≤ s ∧ s ≤ 100000) = true) := decide_eq_true h0
  by_cases h2 : 0 ≤ u ∧ u ≤ 100000
  case neg =>
    have D2 : Hid (decide (0 ≤ u ∧ u ≤ 100000) = false) := decide_eq_false h2
    have E : Hid (txnF s c u st a n F = 3) := txnF_range (Or.inr (Or.inr (Or.inl h2)))
    clear h0 h2
    go_enter Tryz.func59, Tryz.ntmps59
    go_wp2_with fail
    refine (isTimeT_is _ _ DC.out _).mono ?_
    rintro e w9 ⟨rfl, hw9⟩
    obtain rfl := hw9.symm
    go_wp2_with fail
    refine (isTimeT_is _ _ D0.out _).mono ?_
    rintro e w9 ⟨rfl, hw9⟩
    obtain rfl := hw9.symm
    go_wp2_with fail
    refine (isUntilT_is _ _ D2.out _).mono ?_
    rintro e w9 ⟨rfl, hw9⟩
    obtain rfl := hw9.symm
    go_wp2
    go_ret
    exact ⟨by rw [E.out]; rfl, below_alloc _ _⟩
  have D2 : Hid (decide (0 ≤ u ∧ u ≤ 100000) = true) := decide_eq_true h2
  by_cases h3 : 1 ≤ st ∧ st ≤ 7
  case neg =>
    have E : Hid (txnF s c u st a n F = 3) := txnF_range (Or.inr (Or.inr (Or.inr h3)))
    by_cases h4 : st < 1
    focus
      have d : decide (st < 1) = true := decide_eq_true h4
    rotate_left
    focus
      have d : decide (st < 1) = false := decide_eq_false h4
      have d7 : decide (7 < st) = true := decide_eq_true (by omega)
    rotate_left
    all_goals
      clear h0 h2 h3 h4
      go_enter Tryz.func59, Tryz.ntmps59
      go_wp2_with fail
      refine (isTimeT_is _ _ DC.out _).mono ?_
      rintro e w9 ⟨rfl, hw9⟩
      obtain rfl := hw9.symm
      go_wp2_with fail
      refine (isTimeT_is _ _ D0.out _).mono ?_
      rintro e w9 ⟨rfl, hw9⟩
      obtain rfl := hw9.symm
      go_wp2_with fail
      refine (isUntilT_is _ _ D2.out _).mono ?_
      rintro e w9 ⟨rfl, hw9⟩
      obtain rfl := hw9.symm
      go_wp2
      go_ret
      exact ⟨by rw [E.out]; rfl, below_alloc _ _⟩
  have d : decide (st < 1) = false := decide_eq_false (by omega)
  have d7 : decide (7 < st) = false := decide_eq_false (by omega)
  have HI : Hid (InB s c u st) := ⟨h0, h1, h2, h3⟩
  clear h0 h2
  by_cases hm : n < 1 ∨ 12 < n
  · have E : Hid (txnF s c u st a n F = 2) := txnF_many HI.out hm
    clear h3
    by_cases hm1 : n < 1
    · obtain rfl : n = 0 := by omega
      clear hm hm1
      go_enter Tryz.func59, Tryz.ntmps59
      go_wp2_with fail
      refine (isTimeT_is _ _ DC.out _).mono ?_
      rintro e w9 ⟨rfl, hw9⟩
      obtain rfl := hw9.symm
      go_wp2_with fail
      refine (isTimeT_is _ _ D0.out _).mono ?_
      rintro e w9 ⟨rfl, hw9⟩
      obtain rfl := hw9.symm
      go_wp2_with fail
      refine (isUntilT_is _ _ D2.out _).mono ?_
      rintro e w9 ⟨rfl, hw9⟩
      obtain rfl := hw9.symm
      go_wp2
      go_ret
      exact ⟨by rw [E.out]; rfl, below_alloc _ _⟩
    · have e1 : decide ((n : Int) < 1) = false := decide_eq_false (by omega)
      have e2 : decide ((12 : Int) < (n : Int)) = true := decide_eq_true (by omega)
      clear hm hm1
      go_enter Tryz.func59, Tryz.ntmps59
      go_wp2_with fail
      refine (isTimeT_is _ _ DC.out _).mono ?_
      rintro e w9 ⟨rfl, hw9⟩
      obtain rfl := hw9.symm
      go_wp2_with fail
      refine (isTimeT_is _ _ D0.out _).mono ?_
      rintro e w9 ⟨rfl, hw9⟩
      obtain rfl := hw9.symm
      go_wp2_with fail
      refine (isUntilT_is _ _ D2.out _).mono ?_
      rintro e w9 ⟨rfl, hw9⟩
      obtain rfl := hw9.symm
      go_wp2
      go_ret
      exact ⟨by rw [E.out]; rfl, below_alloc _ _⟩
  have HM : Hid (¬ (n < 1 ∨ 12 < n)) := hm
  have e1 : decide ((n : Int) < 1) = false := decide_eq_false (by omega)
  have e2 : decide ((12 : Int) < (n : Int)) = false := decide_eq_false (by omega)
  have hn12 : n ≤ 12 := by omega
  clear hm
  obtain ⟨f, hf⟩ : ∃ f, itemsF F n 0 = f := ⟨_, rfl⟩
  have HF : Hid (itemsF F n 0 = f) := hf
  clear hf
  by_cases hf : f = 0
  case neg =>
    have E : Hid (txnF s c u st a n F = f) := txnF_item HI.out HM.out HF.out hf
    have df : (f != 0) = true := bne_iff_ne.2 hf
    clear hf h3
    go_enter Tryz.func59, Tryz.ntmps59
    go_wp2_with fail
    refine (isTimeT_is _ _ DC.out _).mono ?_
    rintro e w9 ⟨rfl, hw9⟩
    obtain rfl := hw9.symm
    go_wp2_with fail
    refine (isTimeT_is _ _ D0.out _).mono ?_
    rintro e w9 ⟨rfl, hw9⟩
    obtain rfl := hw9.symm
    go_wp2_with fail
    refine (isUntilT_is _ _ D2.out _).mono ?_
    rintro e w9 ⟨rfl, hw9⟩
    obtain rfl := hw9.symm
    go_wp2_with fail
    refine (itemsFault_is _ 0 n F _ (H.out.alloc _) hcap hn12).mono ?_
    rintro e w1 ⟨rfl, q1⟩
    rw [HF.out]
    have Q : Hid (Below w.heap.size w w1) := (below_alloc _ _).trans (q1.mono (by simp))
    obtain ⟨⟨k0, k1, k2, k3, k4, k5⟩, _⟩ := (Blk6.new w (.int .i64 s) (.int .i64 c) (.int .i64 u) (.int .i64 st) (.int .i64 a) (.slice ao n cp) 69).later q1
    clear q1
    go_wp2
    go_ret
    exact ⟨by rw [E.out]; rfl, Q.out⟩
  subst hf
  by_cases ha : 0 ≤ a ∧ a ≤ n
  case neg =>
    have E : Hid (txnF s c u st a n F = 3) := txnF_at HI.out HM.out HF.out ha
    by_cases ha0 : a < 0
    focus
      have da : decide (a < 0) = true := decide_eq_true ha0
    rotate_left
    focus
      have da : decide (a < 0) = false := decide_eq_false ha0
      have db : decide ((n : Int) < a) = true := decide_eq_true (by omega)
    rotate_left
    all_goals
      clear ha ha0 h3
      go_enter Tryz.func59, Tryz.ntmps59
      go_wp2_with fail
      refine (isTimeT_is _ _ DC.out _).mono ?_
      rintro e w9 ⟨rfl, hw9⟩
      obtain rfl := hw9.symm
      go_wp2_with fail
      refine (isTimeT_is _ _ D0.out _).mono ?_
      rintro e w9 ⟨rfl, hw9⟩
      obtain rfl := hw9.symm
      go_wp2_with fail
      refine (isUntilT_is _ _ D2.out _).mono ?_
      rintro e w9 ⟨rfl, hw9⟩
      obtain rfl := hw9.symm
      go_wp2_with fail
      refine (itemsFault_is _ 0 n F _ (H.out.alloc _) hcap hn12).mono ?_
      rintro e w1 ⟨rfl, q1⟩
      rw [HF.out]
      have Q : Hid (Below w.heap.size w w1) := (below_alloc _ _).trans (q1.mono (by simp))
      obtain ⟨⟨k0, k1, k2, k3, k4, k5⟩, _⟩ := (Blk6.new w (.int .i64 s) (.int .i64 c) (.int .i64 u) (.int .i64 st) (.int .i64 a) (.slice ao n cp) 69).later q1
      clear q1
      go_wp2
      go_ret
      exact ⟨by rw [E.out]; rfl, Q.out⟩
  have da : decide (a < 0) = false := decide_eq_false (by omega)
  have db : decide ((n : Int) < a) = false := decide_eq_false (by omega)
  obtain ⟨r, hr⟩ : ∃ r, SuitsT s c st r := SuitsT.get h3
  have HR : Hid (SuitsT s c st r) := hr
  have HA : Hid (0 ≤ a ∧ a ≤ n) := ha
  clear ha h3 hr
  cases r with
  | false =>
    have E : Hid (txnF s c u st a n F = 1) := txnF_form HI.out HM.out HF.out HA.out HR.out.no
    go_enter Tryz.func59, Tryz.ntmps59
    go_wp2_with fail
    refine (isTimeT_is _ _ DC.out _).mono ?_
    rintro e w9 ⟨rfl, hw9⟩
    obtain rfl := hw9.symm
    go_wp2_with fail
    refine (isTimeT_is _ _ D0.out _).mono ?_
    rintro e w9 ⟨rfl, hw9⟩
    obtain rfl := hw9.symm
    go_wp2_with fail
    refine (isUntilT_is _ _ D2.out _).mono ?_
    rintro e w9 ⟨rfl, hw9⟩
    obtain rfl := hw9.symm
    go_wp2_with fail
    refine (itemsFault_is _ 0 n F _ (H.out.alloc _) hcap hn12).mono ?_
    rintro e w1 ⟨rfl, q1⟩
    rw [HF.out]
    have Q : Hid (Below w.heap.size w w1) := (below_alloc _ _).trans (q1.mono (by simp))
    obtain ⟨⟨k0, k1, k2, k3, k4, k5⟩, _⟩ := (Blk6.new w (.int .i64 s) (.int .i64 c) (.int .i64 u) (.int .i64 st) (.int .i64 a) (.slice ao n cp) 69).later q1
    clear q1
    go_wp2_with fail
    refine (commitSuits_is s c u st a ao n cp _ HR.out hn12 _).mono ?_
    rintro e w2 ⟨rfl, q2⟩
    have Q : Hid (Below w.heap.size w w2) := Q.out.trans (q2.mono Q.out.size)
    clear q2
    go_wp2
    go_ret
    exact ⟨by rw [E.out]; rfl, Q.out⟩
  | true =>
    have E : Hid (txnF s c u st a n F = 0) := txnF_ok HI.out HM.out HF.out HA.out HR.out.yes
    go_enter Tryz.func59, Tryz.ntmps59
    go_wp2_with fail
    refine (isTimeT_is _ _ DC.out _).mono ?_
    rintro e w9 ⟨rfl, hw9⟩
    obtain rfl := hw9.symm
    go_wp2_with fail
    refine (isTimeT_is _ _ D0.out _).mono ?_
    rintro e w9 ⟨rfl, hw9⟩
    obtain rfl := hw9.symm
    go_wp2_with fail
    refine (isUntilT_is _ _ D2.out _).mono ?_
    rintro e w9 ⟨rfl, hw9⟩
    obtain rfl := hw9.symm
    go_wp2_with fail
    refine (itemsFault_is _ 0 n F _ (H.out.alloc _) hcap hn12).mono ?_
    rintro e w1 ⟨rfl, q1⟩
    rw [HF.out]
    have Q : Hid (Below w.heap.size w w1) := (below_alloc _ _).trans (q1.mono (by simp))
    obtain ⟨⟨k0, k1, k2, k3, k4, k5⟩, _⟩ := (Blk6.new w (.int .i64 s) (.int .i64 c) (.int .i64 u) (.int .i64 st) (.int .i64 a) (.slice ao n cp) 69).later q1
    clear q1
    go_wp2_with fail
    refine (commitSuits_is s c u st a ao n cp _ HR.out hn12 _).mono ?_
    rintro e w2 ⟨rfl, q2⟩
    have Q : Hid (Below w.heap.size w w2) := Q.out.trans (q2.mono Q.out.size)
    clear q2
    go_wp2
    go_ret
    exact ⟨by rw [E.out]; rfl, Q.out⟩
set_option maxHeartbeats 1000000 in
theorem implTxnFault_any (s c u st a : Int) (n : Nat) (F : Nat → Int) (y : Value) (w : World) (h : Row w 0 3 n F y) (hcap : CapOk y) :
    Calls Tryz.prog 59 #[.agg #[.int .i64 s, .int .i64 c, .int .i64 u, .int .i64 st, .int .i64 a, y]] w fun e w' => e = .returned (.int .i64 (txnF s c u st a n F)) ∧ Below w.heap.size w w' := by
  by_cases hc : c = 0
  · subst hc
    exact implTxnFault_none s u st a n F y w h hcap
  by_cases h1 : 0 ≤ c ∧ c ≤ 100000
  · exact implTxnFault_some s c u st a n F y w h hcap hc h1
  obtain ⟨ao, cp, rfl⟩ := h.form
  have dc : (c != 0) = true := bne_iff_ne.2 hc
  have DC : Hid (decide (1 ≤ c ∧ c ≤ 100000) = false) := decide_eq_false (by omega)
  have E : Hid (txnF s c u st a n F = 3) := txnF_range (Or.inr (Or.inl h1))
  clear h hcap
  obtain ⟨r, hr⟩ : ∃ r, decide (1 ≤ s ∧ s ≤ 100000) = r := ⟨_, rfl⟩
  have D0 : Hid (decide (1 ≤ s ∧ s ≤ 100000) = r) := hr
  clear hr hc h1
  cases r with
  | false =>
    go_enter Tryz.func59, Tryz.ntmps59
    go_wp2_with fail
    refine (isTimeT_is _ _ DC.out _).mono ?_
    rintro e w9 ⟨rfl, hw9⟩
    obtain rfl := hw9.symm
    go_wp2_with fail
    refine (isTimeT_is _ _ D0.out _).mono ?_
    rintro e w9 ⟨rfl, hw9⟩
    obtain rfl := hw9.symm
    go_wp2
    go_ret
    exact ⟨by rw [E.out]; rfl, below_alloc _ _⟩
  | true =>
    go_enter Tryz.func59, Tryz.ntmps59
    go_wp2_with fail
    refine (isTimeT_is _ _ DC.out _).mono ?_
    rintro e w9 ⟨rfl, hw9⟩
    obtain rfl := hw9.symm
    go_wp2_with fail
    refine (isTimeT_is _ _ D0.out _).mono ?_
    rintro e w9 ⟨rfl, hw9⟩
    obtain rfl := hw9.symm
    go_wp2
    go_ret
    exact ⟨by rw [E.out]; rfl, below_alloc _ _⟩
end Go.Proofs.YtphfiojhpfdpdaaGreat

namespace Go.Proofs.YtphfiojhpfdpdaaGreat
open Go.RowKit

theorem isNowW_is (now : Int) (r : Bool) (hr : decide (0 ≤ now ∧ now ≤ 100000) = r) (w : World) :
    Calls Tryz.prog 78 #[.int .i64 now] w fun e w' => e = .returned (.bool r) ∧ w' = w := by
  go_enter Tryz.func78, Tryz.ntmps78
  go_wp2_with fail
  refine (isUntil_is now r hr _).mono ?_
  rintro e w1 ⟨rfl, hw1⟩
  obtain rfl := hw1.symm
  go_wp2
  go_ret
  exact ⟨rfl, rfl⟩
/-- The box of a world, the box of one of its transactions, and the rows; nothing old has turned. -/
structure PlE (w : World) (nw nx bd : Int) (vr vs : Value) (nt : Nat) (T : Nat → Tx) (X : Nat → Value) (vt : Value) (t : Tx) (y : Value) (x : World) : Prop where
  below : Below w.heap.size w x
  kw : Blk6 x w.heap.size (.int .i64 nw) (.int .i64 nx) (.int .i64 bd) vr vs vt
  kt : Blk6 x (w.heap.size + 1) (.int .i64 t.s) (.int .i64 t.c) (.int .i64 t.u) (.int .i64 t.st) (.int .i64 t.a) y
  txs : Txs x 0 nt T X vt
theorem PlE.later {w : World} {nw nx bd : Int} {vr vs : Value} {nt : Nat} {T : Nat → Tx} {X : Nat → Value} {vt : Value} {t : Tx} {y : Value} {x x' : World} (h : PlE w nw nx bd vr vs nt T X vt t y x) (hb : Below x.heap.size x x') : PlE w nw nx bd vr vs nt T X vt t y x' :=
  ⟨h.below.trans (hb.mono h.below.size), h.kw.later hb, h.kt.later hb, h.txs.later hb⟩
theorem below_pl {B : Nat} {a w : World} (h : Below B a w) (q : Nat) : Below B a (w.drewN q) := ⟨h.os, h.tape, h.output, h.size, h.block⟩
set_option maxRecDepth 100000 in
set_option maxHeartbeats 8000000 in
theorem implPlace_any (nw nx bd : Int) (vr vs : Value) (nt : Nat) (T : Nat → Tx) (X : Nat → Value) (vt : Value) (k : Nat) (w : World) (hx : Txs w 0 nt T X vt) (hk : k < nt) (hn16 : nt ≤ 16) :
    Calls Tryz.prog 81 #[.agg #[.int .i64 nw, .int .i64 nx, .int .i64 bd, vr, vs, vt], .int .i64 k] w fun e w' => e = .returned (.int .i64 (placeF nx T k)) ∧ Below w.heap.size w w' := by
  obtain ⟨a2, c2, rfl⟩ := hx.form
  have H : Hid (Txs w 0 nt T X (.slice a2 nt c2)) := hx
  obtain ⟨g, o, ha2, _, hg, ⟨x0, x1, x2, x3, x4, x5⟩, hrow, hcap⟩ := hx.at hk
  subst ha2
  clear hx
  obtain ⟨t, ht⟩ : ∃ t, T k = t := ⟨_, rfl⟩
  have HT : Hid (T k = t) := ht
  rw [ht] at x0 x1 x2 x3 x4 hrow
  obtain ⟨y, hy⟩ : ∃ y, X k = y := ⟨_, rfl⟩
  rw [hy] at x5 hrow hcap
  clear ht hy
  obtain ⟨yo, yc, rfl⟩ := hrow.form
  have HR : Hid (Row w 0 3 t.m t.L (.slice yo t.m yc) ∧ CapOk (.slice yo t.m yc)) := ⟨hrow, hcap⟩
  have P0 : Hid (PlE w nw nx bd vr vs nt T X (.slice (some ⟨g, o, none⟩) nt c2) t (.slice yo t.m yc) ((w.alloc (.cells #[.int .i64 nw, .int .i64 nx, .int .i64 bd, vr, vs, .slice (some ⟨g, o, none⟩) nt c2] 39)).alloc (.cells #[.int .i64 t.s, .int .i64 t.c, .int .i64 t.u, .int .i64 t.st, .int .i64 t.a, .slice yo t.m yc] 69))) :=
    ⟨(below_alloc _ _).alloc (by simp) _, (Blk6.new w _ _ _ _ _ _ _).alloc _, by have := Blk6.new (w.alloc (.cells #[.int .i64 nw, .int .i64 nx, .int .i64 bd, vr, vs, .slice (some ⟨g, o, none⟩) nt c2] 39)) (.int .i64 t.s) (.int .i64 t.c) (.int .i64 t.u) (.int .i64 t.st) (.int .i64 t.a) (.slice yo t.m yc) 69; rwa [World.size_alloc] at this, (H.out.alloc _).alloc _⟩
  clear hrow hcap
  obtain ⟨f, hf⟩ : ∃ f, txnF t.s t.c t.u t.st t.a t.m t.L = f := ⟨_, rfl⟩
  have HF : Hid (txnF t.s t.c t.u t.st t.a t.m t.L = f) := hf
  have HF' : Hid (txF (T k) = f) := by unfold Hid; rw [HT.out]; exact hf
  clear hf
  go_enter Tryz.func81, Tryz.ntmps81
  go_wp2_with fail
  refine (implTxnFault_any _ _ _ _ _ _ _ _ _ ((HR.out.1.alloc _).alloc _) HR.out.2).mono ?_
  rw [HF.out]
  rintro e w1 ⟨rfl, q1⟩
  have P1 : Hid (PlE w nw nx bd vr vs nt T X (.slice (some ⟨g, o, none⟩) nt c2) t (.slice yo t.m yc) w1) := P0.out.later q1
  clear q1 P0 x0 x1 x2 x3 x4 x5
  by_cases hz : f = 0
  case neg =>
    have d' : (f != 0) = true := bne_iff_ne.2 hz
    have E : Hid (placeF nx T k = f) := (placeF_txn (by rw [HF'.out]; exact hz)).trans HF'.out
    clear hz HF HF'
    go_wp2
    go_ret
    exact ⟨by rw [E.out]; rfl, P1.out.below⟩
  subst hz
  obtain ⟨⟨p0, p1, p2, p3, p4, p5⟩, _⟩ := P1.out.kw
  obtain ⟨⟨t0, t1, t2, t3, t4, t5⟩, _⟩ := P1.out.kt
  obtain ⟨s, hs⟩ : ∃ x, t.s = x := ⟨_, rfl⟩
  obtain ⟨c, hc⟩ : ∃ x, t.c = x := ⟨_, rfl⟩
  rw [hs] at t0
  rw [hc] at t1
  have HSC : Hid (t.s = s ∧ t.c = c) := ⟨hs, hc⟩
  clear hs hc
  by_cases h1 : nx ≤ s
  · have d1 : decide (s ≥ nx) = true := decide_eq_true h1
    have E : Hid (placeF nx T k = 3) := placeF_next HF'.out (Or.inl (by rw [HT.out, HSC.out.1]; exact h1))
    clear HF HF'
    go_wp2
    go_ret
    exact ⟨by rw [E.out]; rfl, P1.out.below⟩
  have d1 : decide (s ≥ nx) = false := decide_eq_false h1
  by_cases h2 : nx ≤ c
  · have d2 : decide (c ≥ nx) = true := decide_eq_true h2
    have E : Hid (placeF nx T k = 3) := placeF_next HF'.out (Or.inr (by rw [HT.out, HSC.out.2]; exact h2))
    clear HF HF'
    go_wp2
    go_ret
    exact ⟨by rw [E.out]; rfl, P1.out.below⟩
  have d2 : decide (c ≥ nx) = false := decide_eq_false h2
  have HX : Hid (¬ (nx ≤ (T k).s ∨ nx ≤ (T k).c)) := by
    unfold Hid
    rw [HT.out, HSC.out.1, HSC.out.2]
    omega
  go_wp2
  clear p0 p1 p2 p3 p4 p5 t0 t1 t2 t3 t4 t5 h1 h2 d1 d2
  go_loopw [33] (fun i wr => ∃ m : Nat, m ≤ k ∧ i = .int .i64 m ∧ Hid (¬ takenT T k m) ∧ Hid (PlE w nw nx bd vr vs nt T X (.slice (some ⟨g, o, none⟩) nt c2) t (.slice yo t.m yc) wr)) (fun i _ => k - (intOf i).toNat)
  case atStart => exact ⟨0, Nat.zero_le _, rfl, takenT_none T k, P1⟩
  case round =>
    clear P1
    obtain ⟨m, hmk, rfl, HN, HB⟩ := hrel
    by_cases hlm : m < k
    case neg =>
      obtain rfl : m = k := by omega
      have E : Hid (placeF nx T m = 0) := placeF_ok HF'.out HX.out HN.out
      go_wp2
      go_ret
      exact ⟨by rw [E.out]; rfl, HB.out.below⟩
    obtain ⟨⟨p0, p1, p2, p3, p4, p5⟩, _⟩ := HB.out.kw
    obtain ⟨⟨t0, t1, t2, t3, t4, t5⟩, _⟩ := HB.out.kt
    rw [HSC.out.1] at t0
    obtain ⟨g1, o1, e1, _, _, ⟨y0, _⟩, _⟩ := HB.out.txs.at (i := m) (by omega)
    simp only [Option.some.injEq, Addr.mk.injEq, and_true] at e1
    obtain ⟨rfl, rfl⟩ := e1
    obtain ⟨r, hr'⟩ : ∃ x, (T m).s = x := ⟨_, rfl⟩
    rw [hr'] at y0
    have HRR : Hid ((T m).s = r) := hr'
    clear hr'
    have hmn : m < nt := by omega
    by_cases he : r = s
    · have E : Hid (placeF nx T k = 6) := placeF_taken HF'.out HX.out ⟨m, hlm, by rw [HRR.out, HT.out, HSC.out.1]; exact he⟩
      have d1 : (r == s) = true := beq_iff_eq.2 he
      clear he HF HF' HN HX HRR
      go_wp2_with fail
      go_quiet (fail)
      go_wp2
      go_ret
      exact ⟨by rw [E.out]; rfl, below_pl HB.out.below _⟩
    · have HN1 : Hid (¬ takenT T k (m + 1)) := takenT_go HN.out (by rw [HRR.out, HT.out, HSC.out.1]; exact he)
      have d1 : (r == s) = false := beq_eq_false_iff_ne.2 he
      clear he HN HRR
      go_wp2_with fail
      go_quiet (fail)
      go_wp2
      go_roundw
      case rel => exact ⟨m + 1, by omega, by go_num, HN1, HB.out.later (below_pl (Below.refl _ _) _)⟩
      case measure => simp [intOf]; omega
end Go.Proofs.YtphfiojhpfdpdaaGreat

namespace Go.Proofs.YtphfiojhpfdpdaaGreat
open Go.RowKit

/-- The closure that is told a key: the range lies in block br. -/
def strayV (br : Nat) : Value := .func (.func 146) #[] #[.pointer (some ⟨br, 0, none⟩)]
/-- The closures' blocks. -/
def StrE (br bq : Nat) (fr tto : Int) (x : World) : Prop := x.cell? ⟨bq, 0, none⟩ = some (strayV br) ∧ x.cell? ⟨br, 0, none⟩ = some (.int .i64 fr) ∧ x.cell? ⟨br, 1, none⟩ = some (.int .i64 tto)
theorem StrE.later {x x' : World} {br bq : Nat} {fr tto : Int} (h : StrE br bq fr tto x) (hb : Below x.heap.size x x') : StrE br bq fr tto x' :=
  ⟨(hb.cell (p := ⟨bq, 0, none⟩) (World.block_lt_of_cell? x _ h.1)).trans h.1, (hb.cell (p := ⟨br, 0, none⟩) (World.block_lt_of_cell? x _ h.2.1)).trans h.2.1, (hb.cell (p := ⟨br, 1, none⟩) (World.block_lt_of_cell? x _ h.2.2)).trans h.2.2⟩
def outK (fr tto key : Int) : Bool := decide (key < fr ∨ tto ≤ key)
set_option maxHeartbeats 1000000 in
theorem stray1_is (br : Nat) (fr tto key : Int) (w : World) (h0 : w.cell? ⟨br, 0, none⟩ = some (.int .i64 fr)) (h1 : w.cell? ⟨br, 1, none⟩ = some (.int .i64 tto)) :
    Calls Tryz.prog 146 #[.int .i64 key, .pointer (some ⟨br, 0, none⟩)] w fun e w' => e = .returned (.bool (outK fr tto key)) ∧ w' = w := by
  by_cases q0 : key < fr
  · have E : Hid (outK fr tto key = true) := decide_eq_true (Or.inl q0)
    have d : decide (key < fr) = true := decide_eq_true q0
    clear q0
    go_enter Tryz.func146, Tryz.ntmps146
    go_wp2
    go_ret
    exact ⟨by rw [E.out]; rfl, rfl⟩
  have d : decide (key < fr) = false := decide_eq_false q0
  by_cases q1 : tto ≤ key
  · have E : Hid (outK fr tto key = true) := decide_eq_true (Or.inr q1)
    have d1 : decide (tto ≤ key) = true := decide_eq_true q1
    clear q0 q1
    go_enter Tryz.func146, Tryz.ntmps146
    go_wp2
    go_ret
    exact ⟨by rw [E.out]; rfl, rfl⟩
  · have E : Hid (outK fr tto key = false) := decide_eq_false (fun q => by omega)
    have d1 : decide (tto ≤ key) = false := decide_eq_false q1
    clear q0 q1
    go_enter Tryz.func146, Tryz.ntmps146
    go_wp2
    go_ret
    exact ⟨by rw [E.out]; rfl, rfl⟩
set_option maxHeartbeats 1000000 in
theorem strayCell_is (br bq : Nat) (fr tto : Int) (n0 n1 n2 : Int) (w : World) (h : StrE br bq fr tto w) :
    Calls Tryz.prog 148 #[.agg #[.int .i64 n0, .int .i64 n1, .int .i64 n2], .pointer (some ⟨bq, 0, none⟩)] w fun e w' => e = .returned (.bool (outK fr tto n0)) ∧ Below w.heap.size w w' := by
  have H : Hid (StrE br bq fr tto (w.alloc (.cells #[.int .i64 n0, .int .i64 n1, .int .i64 n2] 202))) := h.later (below_alloc _ _)
  obtain ⟨h0, _⟩ := H.out
  have hq : bq < w.heap.size := World.block_lt_of_cell? w _ h.1
  clear h
  unfold strayV at h0
  obtain ⟨r, hr⟩ : ∃ r, outK fr tto n0 = r := ⟨_, rfl⟩
  have HR : Hid (outK fr tto n0 = r) := hr
  clear hr
  go_enter Tryz.func148, Tryz.ntmps148
  go_wp2_with fail
  refine (stray1_is br fr tto n0 _ H.out.2.1 H.out.2.2).mono ?_
  rw [HR.out]
  rintro e w1 ⟨rfl, rfl⟩
  go_wp2
  go_ret
  exact ⟨by rw [HR.out]; rfl, below_alloc _ _⟩
set_option maxRecDepth 100000 in
set_option maxHeartbeats 4000000 in
theorem indexStrayCell_is (br bq : Nat) (fr tto : Int) (B n : Nat) (F : Nat → Int) (v : Value) (w : World) (h : Row w B 3 n F v) (hn : n ≤ 1048576) (hw : StrE br bq fr tto w) :
    Calls Tryz.prog 179 #[v, .func (.func 148) #[] #[.pointer (some ⟨bq, 0, none⟩)]] w fun e w' => ∃ r : Int, e = .returned (.int .i64 r) ∧ ((r = -1 ∧ ∀ i, i < n → outK fr tto (F (i * 3)) = false) ∨ (0 ≤ r ∧ ∃ i, i < n ∧ outK fr tto (F (i * 3)) = true)) ∧ Below w.heap.size w w' := by
  obtain ⟨ao, cp, rfl⟩ := h.form
  have H : Hid (Row w B 3 n F (.slice ao n cp)) := h
  have HW : Hid (StrE br bq fr tto w) := hw
  clear h hw
  go_enter Tryz.func179, Tryz.ntmps179
  go_wp2
  go_loopw [8] (fun i wr => ∃ k : Nat, k ≤ n ∧ i = .int .i64 k ∧ Hid (∀ j, j < k → outK fr tto (F (j * 3)) = false) ∧ Hid (Below w.heap.size w wr)) (fun i _ => n - (intOf i).toNat)
  case atStart => exact ⟨0, Nat.zero_le _, rfl, fun j hj => absurd hj (Nat.not_lt_zero j), Below.refl _ _⟩
  case round =>
    obtain ⟨k, hk, rfl, HS, HB⟩ := hrel
    by_cases hlt : k < n
    case neg =>
      obtain rfl : n = k := by omega
      go_wp2
      go_ret
      exact ⟨-1, rfl, Or.inl ⟨rfl, HS.out⟩, HB.out⟩
    obtain ⟨g, o, rfl, _, hg, x0, x1, x2⟩ := (H.out.later HB.out).at3 hlt
    obtain ⟨n0, N0⟩ : ∃ x, F (k * 3) = x := ⟨_, rfl⟩
    rw [N0] at x0
    obtain ⟨n1, N1⟩ : ∃ x, F (k * 3 + 1) = x := ⟨_, rfl⟩
    rw [N1] at x1
    obtain ⟨n2, N2⟩ : ∃ x, F (k * 3 + 2) = x := ⟨_, rfl⟩
    rw [N2] at x2
    obtain ⟨r, hr⟩ : ∃ r, outK fr tto n0 = r := ⟨_, rfl⟩
    have HR : Hid (outK fr tto n0 = r) := hr
    have HN : Hid (F (k * 3) = n0) := N0
    clear N0 N1 N2 hr
    cases r with
    | true =>
      go_wp2_with fail
      refine (strayCell_is br bq fr tto n0 n1 n2 _ (HW.out.later HB.out)).mono ?_
      rw [HR.out]
      rintro e w1 ⟨rfl, q1⟩
      have HB1 : Hid (Below w.heap.size w w1) := HB.out.trans (q1.mono HB.out.size)
      clear q1
      go_wp2
      go_ret
      exact ⟨k, rfl, Or.inr ⟨by omega, k, hlt, by rw [HN.out]; exact HR.out⟩, HB1.out⟩
    | false =>
      have HS1 : Hid (∀ j, j < k + 1 → outK fr tto (F (j * 3)) = false) := fun j hj => by
        by_cases q : j = k
        · subst q; rw [HN.out]; exact HR.out
        · exact HS.out j (by omega)
      go_wp2_with fail
      refine (strayCell_is br bq fr tto n0 n1 n2 _ (HW.out.later HB.out)).mono ?_
      rw [HR.out]
      rintro e w1 ⟨rfl, q1⟩
      have HB1 : Hid (Below w.heap.size w w1) := HB.out.trans (q1.mono HB.out.size)
      clear q1
      go_wp2
      go_roundw
      case rel => exact ⟨k + 1, by omega, by go_num, HS1, HB1⟩
      case measure => simp [intOf]; omega
set_option maxHeartbeats 1000000 in
theorem containsStrayCell_is (br bq : Nat) (fr tto : Int) (B n : Nat) (F : Nat → Int) (v : Value) (w : World) (h : Row w B 3 n F v) (hn : n ≤ 1048576) (hw : StrE br bq fr tto w) :
    Calls Tryz.prog 147 #[v, .func (.func 148) #[] #[.pointer (some ⟨bq, 0, none⟩)]] w fun e w' => e = .returned (.bool (decide (keepN F 3 fr (tto - 1) n ≠ n))) ∧ Below w.heap.size w w' := by
  obtain ⟨ao, cp, rfl⟩ := h.form
  have H : Hid (Row w B 3 n F (.slice ao n cp)) := h
  have HW : Hid (StrE br bq fr tto w) := hw
  clear h hw
  go_enter Tryz.func147, Tryz.ntmps147
  go_wp2_with fail
  refine (indexStrayCell_is br bq fr tto B n F _ _ H.out hn HW.out).mono ?_
  rintro e w1 ⟨r, rfl, hr, q1⟩
  have HB : Hid (Below w.heap.size w w1) := q1
  clear q1
  rcases hr with ⟨rfl, hr⟩ | ⟨h0, i, hi, hr⟩
  · have E : Hid (decide (keepN F 3 fr (tto - 1) n ≠ n) = false) := decide_eq_false (fun q => q ((keep_all n).2 (fun i hi => by have := of_decide_eq_false (hr i hi); omega)))
    clear hr
    go_wp2
    go_ret
    exact ⟨by rw [E.out]; rfl, HB.out⟩
  · have E : Hid (decide (keepN F 3 fr (tto - 1) n ≠ n) = true) := decide_eq_true (fun q => by have h1 := (keep_all n).1 q i hi; have h2 := of_decide_eq_true hr; omega)
    have d : decide ((0 : Int) ≤ r) = true := decide_eq_true h0
    clear hr h0
    go_wp2
    go_ret
    exact ⟨by rw [E.out]; rfl, HB.out⟩
set_option maxHeartbeats 1000000 in
theorem strayLock_is (br bq : Nat) (fr tto : Int) (n0 n1 n2 n3 n4 : Int) (w : World) (h : StrE br bq fr tto w) :
    Calls Tryz.prog 150 #[.agg #[.int .i64 n0, .int .i64 n1, .int .i64 n2, .int .i64 n3, .int .i64 n4], .pointer (some ⟨bq, 0, none⟩)] w fun e w' => e = .returned (.bool (outK fr tto n0)) ∧ Below w.heap.size w w' := by
  have H : Hid (StrE br bq fr tto (w.alloc (.cells #[.int .i64 n0, .int .i64 n1, .int .i64 n2, .int .i64 n3, .int .i64 n4] 209))) := h.later (below_alloc _ _)
  obtain ⟨h0, _⟩ := H.out
  have hq : bq < w.heap.size := World.block_lt_of_cell? w _ h.1
  clear h
  unfold strayV at h0
  obtain ⟨r, hr⟩ : ∃ r, outK fr tto n0 = r := ⟨_, rfl⟩
  have HR : Hid (outK fr tto n0 = r) := hr
  clear hr
  go_enter Tryz.func150, Tryz.ntmps150
  go_wp2_with fail
  refine (stray1_is br fr tto n0 _ H.out.2.1 H.out.2.2).mono ?_
  rw [HR.out]
  rintro e w1 ⟨rfl, rfl⟩
  go_wp2
  go_ret
  exact ⟨by rw [HR.out]; rfl, below_alloc _ _⟩
set_option maxRecDepth 100000 in
set_option maxHeartbeats 4000000 in
theorem indexStrayLock_is (br bq : Nat) (fr tto : Int) (B n : Nat) (F : Nat → Int) (v : Value) (w : World) (h : Row w B 5 n F v) (hn : n ≤ 1048576) (hw : StrE br bq fr tto w) :
    Calls Tryz.prog 180 #[v, .func (.func 150) #[] #[.pointer (some ⟨bq, 0, none⟩)]] w fun e w' => ∃ r : Int, e = .returned (.int .i64 r) ∧ ((r = -1 ∧ ∀ i, i < n → outK fr tto (F (i * 5)) = false) ∨ (0 ≤ r ∧ ∃ i, i < n ∧ outK fr tto (F (i * 5)) = true)) ∧ Below w.heap.size w w' := by
  obtain ⟨ao, cp, rfl⟩ := h.form
  have H : Hid (Row w B 5 n F (.slice ao n cp)) := h
  have HW : Hid (StrE br bq fr tto w) := hw
  clear h hw
  go_enter Tryz.func180, Tryz.ntmps180
  go_wp2
  go_loopw [8] (fun i wr => ∃ k : Nat, k ≤ n ∧ i = .int .i64 k ∧ Hid (∀ j, j < k → outK fr tto (F (j * 5)) = false) ∧ Hid (Below w.heap.size w wr)) (fun i _ => n - (intOf i).toNat)
  case atStart => exact ⟨0, Nat.zero_le _, rfl, fun j hj => absurd hj (Nat.not_lt_zero j), Below.refl _ _⟩
  case round =>
    obtain ⟨k, hk, rfl, HS, HB⟩ := hrel
    by_cases hlt : k < n
    case neg =>
      obtain rfl : n = k := by omega
      go_wp2
      go_ret
      exact ⟨-1, rfl, Or.inl ⟨rfl, HS.out⟩, HB.out⟩
    obtain ⟨g, o, rfl, _, hg, x0, x1, x2, x3, x4⟩ := (H.out.later HB.out).at5 hlt
    obtain ⟨n0, N0⟩ : ∃ x, F (k * 5) = x := ⟨_, rfl⟩
    rw [N0] at x0
    obtain ⟨n1, N1⟩ : ∃ x, F (k * 5 + 1) = x := ⟨_, rfl⟩
    rw [N1] at x1
    obtain ⟨n2, N2⟩ : ∃ x, F (k * 5 + 2) = x := ⟨_, rfl⟩
    rw [N2] at x2
    obtain ⟨n3, N3⟩ : ∃ x, F (k * 5 + 3) = x := ⟨_, rfl⟩
    rw [N3] at x3
    obtain ⟨n4, N4⟩ : ∃ x, F (k * 5 + 4) = x := ⟨_, rfl⟩
    rw [N4] at x4
    obtain ⟨r, hr⟩ : ∃ r, outK fr tto n0 = r := ⟨_, rfl⟩
    have HR : Hid (outK fr tto n0 = r) := hr
    have HN : Hid (F (k * 5) = n0) := N0
    clear N0 N1 N2 N3 N4 hr
    cases r with
    | true =>
      go_wp2_with fail
      refine (strayLock_is br bq fr tto n0 n1 n2 n3 n4 _ (HW.out.later HB.out)).mono ?_
      rw [HR.out]
      rintro e w1 ⟨rfl, q1⟩
      have HB1 : Hid (Below w.heap.size w w1) := HB.out.trans (q1.mono HB.out.size)
      clear q1
      go_wp2
      go_ret
      exact ⟨k, rfl, Or.inr ⟨by omega, k, hlt, by rw [HN.out]; exact HR.out⟩, HB1.out⟩
    | false =>
      have HS1 : Hid (∀ j, j < k + 1 → outK fr tto (F (j * 5)) = false) := fun j hj => by
        by_cases q : j = k
        · subst q; rw [HN.out]; exact HR.out
        · exact HS.out j (by omega)
      go_wp2_with fail
      refine (strayLock_is br bq fr tto n0 n1 n2 n3 n4 _ (HW.out.later HB.out)).mono ?_
      rw [HR.out]
      rintro e w1 ⟨rfl, q1⟩
      have HB1 : Hid (Below w.heap.size w w1) := HB.out.trans (q1.mono HB.out.size)
      clear q1
      go_wp2
      go_roundw
      case rel => exact ⟨k + 1, by omega, by go_num, HS1, HB1⟩
      case measure => simp [intOf]; omega
set_option maxHeartbeats 1000000 in
theorem containsStrayLock_is (br bq : Nat) (fr tto : Int) (B n : Nat) (F : Nat → Int) (v : Value) (w : World) (h : Row w B 5 n F v) (hn : n ≤ 1048576) (hw : StrE br bq fr tto w) :
    Calls Tryz.prog 149 #[v, .func (.func 150) #[] #[.pointer (some ⟨bq, 0, none⟩)]] w fun e w' => e = .returned (.bool (decide (keepN F 5 fr (tto - 1) n ≠ n))) ∧ Below w.heap.size w w' := by
  obtain ⟨ao, cp, rfl⟩ := h.form
  have H : Hid (Row w B 5 n F (.slice ao n cp)) := h
  have HW : Hid (StrE br bq fr tto w) := hw
  clear h hw
  go_enter Tryz.func149, Tryz.ntmps149
  go_wp2_with fail
  refine (indexStrayLock_is br bq fr tto B n F _ _ H.out hn HW.out).mono ?_
  rintro e w1 ⟨r, rfl, hr, q1⟩
  have HB : Hid (Below w.heap.size w w1) := q1
  clear q1
  rcases hr with ⟨rfl, hr⟩ | ⟨h0, i, hi, hr⟩
  · have E : Hid (decide (keepN F 5 fr (tto - 1) n ≠ n) = false) := decide_eq_false (fun q => q ((keep_all n).2 (fun i hi => by have := of_decide_eq_false (hr i hi); omega)))
    clear hr
    go_wp2
    go_ret
    exact ⟨by rw [E.out]; rfl, HB.out⟩
  · have E : Hid (decide (keepN F 5 fr (tto - 1) n ≠ n) = true) := decide_eq_true (fun q => by have h1 := (keep_all n).1 q i hi; have h2 := of_decide_eq_true hr; omega)
    have d : decide ((0 : Int) ≤ r) = true := decide_eq_true h0
    clear hr h0
    go_wp2
    go_ret
    exact ⟨by rw [E.out]; rfl, HB.out⟩
set_option maxHeartbeats 1000000 in
theorem strayWrite_is (br bq : Nat) (fr tto : Int) (n0 n1 n2 n3 : Int) (w : World) (h : StrE br bq fr tto w) :
    Calls Tryz.prog 152 #[.agg #[.int .i64 n0, .int .i64 n1, .int .i64 n2, .int .i64 n3], .pointer (some ⟨bq, 0, none⟩)] w fun e w' => e = .returned (.bool (outK fr tto n0)) ∧ Below w.heap.size w w' := by
  have H : Hid (StrE br bq fr tto (w.alloc (.cells #[.int .i64 n0, .int .i64 n1, .int .i64 n2, .int .i64 n3] 211))) := h.later (below_alloc _ _)
  obtain ⟨h0, _⟩ := H.out
  have hq : bq < w.heap.size := World.block_lt_of_cell? w _ h.1
  clear h
  unfold strayV at h0
  obtain ⟨r, hr⟩ : ∃ r, outK fr tto n0 = r := ⟨_, rfl⟩
  have HR : Hid (outK fr tto n0 = r) := hr
  clear hr
  go_enter Tryz.func152, Tryz.ntmps152
  go_wp2_with fail
  refine (stray1_is br fr tto n0 _ H.out.2.1 H.out.2.2).mono ?_
  rw [HR.out]
  rintro e w1 ⟨rfl, rfl⟩
  go_wp2
  go_ret
  exact ⟨by rw [HR.out]; rfl, below_alloc _ _⟩
set_option maxRecDepth 100000 in
set_option maxHeartbeats 4000000 in
theorem indexStrayWrite_is (br bq : Nat) (fr tto : Int) (B n : Nat) (F : Nat → Int) (v : Value) (w : World) (h : Row w B 4 n F v) (hn : n ≤ 1048576) (hw : StrE br bq fr tto w) :
    Calls Tryz.prog 181 #[v, .func (.func 152) #[] #[.pointer (some ⟨bq, 0, none⟩)]] w fun e w' => ∃ r : Int, e = .returned (.int .i64 r) ∧ ((r = -1 ∧ ∀ i, i < n → outK fr tto (F (i * 4)) = false) ∨ (0 ≤ r ∧ ∃ i, i < n ∧ outK fr tto (F (i * 4)) = true)) ∧ Below w.heap.size w w' := by
  obtain ⟨ao, cp, rfl⟩ := h.form
  have H : Hid (Row w B 4 n F (.slice ao n cp)) := h
  have HW : Hid (StrE br bq fr tto w) := hw
  clear h hw
  go_enter Tryz.func181, Tryz.ntmps181
  go_wp2
  go_loopw [8] (fun i wr => ∃ k : Nat, k ≤ n ∧ i = .int .i64 k ∧ Hid (∀ j, j < k → outK fr tto (F (j * 4)) = false) ∧ Hid (Below w.heap.size w wr)) (fun i _ => n - (intOf i).toNat)
  case atStart => exact ⟨0, Nat.zero_le _, rfl, fun j hj => absurd hj (Nat.not_lt_zero j), Below.refl _ _⟩
  case round =>
    obtain ⟨k, hk, rfl, HS, HB⟩ := hrel
    by_cases hlt : k < n
    case neg =>
      obtain rfl : n = k := by omega
      go_wp2
      go_ret
      exact ⟨-1, rfl, Or.inl ⟨rfl, HS.out⟩, HB.out⟩
    obtain ⟨g, o, rfl, _, hg, x0, x1, x2, x3⟩ := (H.out.later HB.out).at4 hlt
    obtain ⟨n0, N0⟩ : ∃ x, F (k * 4) = x := ⟨_, rfl⟩
    rw [N0] at x0
    obtain ⟨n1, N1⟩ : ∃ x, F (k * 4 + 1) = x := ⟨_, rfl⟩
    rw [N1] at x1
    obtain ⟨n2, N2⟩ : ∃ x, F (k * 4 + 2) = x := ⟨_, rfl⟩
    rw [N2] at x2
    obtain ⟨n3, N3⟩ : ∃ x, F (k * 4 + 3) = x := ⟨_, rfl⟩
    rw [N3] at x3
    obtain ⟨r, hr⟩ : ∃ r, outK fr tto n0 = r := ⟨_, rfl⟩
    have HR : Hid (outK fr tto n0 = r) := hr
    have HN : Hid (F (k * 4) = n0) := N0
    clear N0 N1 N2 N3 hr
    cases r with
    | true =>
      go_wp2_with fail
      refine (strayWrite_is br bq fr tto n0 n1 n2 n3 _ (HW.out.later HB.out)).mono ?_
      rw [HR.out]
      rintro e w1 ⟨rfl, q1⟩
      have HB1 : Hid (Below w.heap.size w w1) := HB.out.trans (q1.mono HB.out.size)
      clear q1
      go_wp2
      go_ret
      exact ⟨k, rfl, Or.inr ⟨by omega, k, hlt, by rw [HN.out]; exact HR.out⟩, HB1.out⟩
    | false =>
      have HS1 : Hid (∀ j, j < k + 1 → outK fr tto (F (j * 4)) = false) := fun j hj => by
        by_cases q : j = k
        · subst q; rw [HN.out]; exact HR.out
        · exact HS.out j (by omega)
      go_wp2_with fail
      refine (strayWrite_is br bq fr tto n0 n1 n2 n3 _ (HW.out.later HB.out)).mono ?_
      rw [HR.out]
      rintro e w1 ⟨rfl, q1⟩
      have HB1 : Hid (Below w.heap.size w w1) := HB.out.trans (q1.mono HB.out.size)
      clear q1
      go_wp2
      go_roundw
      case rel => exact ⟨k + 1, by omega, by go_num, HS1, HB1⟩
      case measure => simp [intOf]; omega
set_option maxHeartbeats 1000000 in
theorem containsStrayWrite_is (br bq : Nat) (fr tto : Int) (B n : Nat) (F : Nat → Int) (v : Value) (w : World) (h : Row w B 4 n F v) (hn : n ≤ 1048576) (hw : StrE br bq fr tto w) :
    Calls Tryz.prog 151 #[v, .func (.func 152) #[] #[.pointer (some ⟨bq, 0, none⟩)]] w fun e w' => e = .returned (.bool (decide (keepN F 4 fr (tto - 1) n ≠ n))) ∧ Below w.heap.size w w' := by
  obtain ⟨ao, cp, rfl⟩ := h.form
  have H : Hid (Row w B 4 n F (.slice ao n cp)) := h
  have HW : Hid (StrE br bq fr tto w) := hw
  clear h hw
  go_enter Tryz.func151, Tryz.ntmps151
  go_wp2_with fail
  refine (indexStrayWrite_is br bq fr tto B n F _ _ H.out hn HW.out).mono ?_
  rintro e w1 ⟨r, rfl, hr, q1⟩
  have HB : Hid (Below w.heap.size w w1) := q1
  clear q1
  rcases hr with ⟨rfl, hr⟩ | ⟨h0, i, hi, hr⟩
  · have E : Hid (decide (keepN F 4 fr (tto - 1) n ≠ n) = false) := decide_eq_false (fun q => q ((keep_all n).2 (fun i hi => by have := of_decide_eq_false (hr i hi); omega)))
    clear hr
    go_wp2
    go_ret
    exact ⟨by rw [E.out]; rfl, HB.out⟩
  · have E : Hid (decide (keepN F 4 fr (tto - 1) n ≠ n) = true) := decide_eq_true (fun q => by have h1 := (keep_all n).1 q i hi; have h2 := of_decide_eq_true hr; omega)
    have d : decide ((0 : Int) ≤ r) = true := decide_eq_true h0
    clear hr h0
    go_wp2
    go_ret
    exact ⟨by rw [E.out]; rfl, HB.out⟩
set_option maxRecDepth 100000 in
set_option maxHeartbeats 4000000 in
theorem hasStray_any (S : Sto) (v0 v1 v2 : Value) (fr tto ep : Int) (B : Nat) (w : World) (h : St w B S v0 v1 v2) (hn : S.nc ≤ 200 ∧ S.nl ≤ 200 ∧ S.nw ≤ 200) :
    Calls Tryz.prog 111 #[.agg #[v0, v1, v2], .agg #[.int .i64 fr, .int .i64 tto, .int .i64 ep]] w fun e w' => e = .returned (.bool (decide (strayS S fr tto))) ∧ Below w.heap.size w w' := by
  obtain ⟨a0, c0, a1, c1, a2, c2, rfl, rfl, rfl⟩ := h.form
  have H : Hid (St w B S (.slice a0 S.nc c0) (.slice a1 S.nl c1) (.slice a2 S.nw c2)) := h
  have HT : Hid (S.nc ≤ 1048576 ∧ S.nl ≤ 1048576 ∧ S.nw ≤ 1048576) := ⟨by omega, by omega, by omega⟩
  obtain ⟨x0, hx0⟩ : ∃ x, decide (keepN S.c 3 fr (tto - 1) S.nc ≠ S.nc) = x := ⟨_, rfl⟩
  obtain ⟨x1, hx1⟩ : ∃ x, decide (keepN S.l 5 fr (tto - 1) S.nl ≠ S.nl) = x := ⟨_, rfl⟩
  obtain ⟨x2, hx2⟩ : ∃ x, decide (keepN S.k 4 fr (tto - 1) S.nw ≠ S.nw) = x := ⟨_, rfl⟩
  have HX : Hid (decide (keepN S.c 3 fr (tto - 1) S.nc ≠ S.nc) = x0 ∧ decide (keepN S.l 5 fr (tto - 1) S.nl ≠ S.nl) = x1 ∧ decide (keepN S.k 4 fr (tto - 1) S.nw ≠ S.nw) = x2) := ⟨hx0, hx1, hx2⟩
  have HS : Hid (decide (strayS S fr tto) = (x0 || (x1 || x2))) := by
    unfold Hid
    rw [← hx0, ← hx1, ← hx2, ← Bool.decide_or, ← Bool.decide_or]
    exact decide_eq_decide.2 Iff.rfl
  clear h hn hx0 hx1 hx2
  have HE : Hid (StrE (w.heap.size + 1) (w.heap.size + 2) fr tto (((w.alloc (.cells #[.slice a0 S.nc c0, .slice a1 S.nl c1, .slice a2 S.nw c2] 149)).alloc (.cells #[.int .i64 fr, .int .i64 tto, .int .i64 ep] 152)).alloc (.cells #[strayV (w.heap.size + 1)] 127))) := by
    have h1 := ((Blk3.new (w.alloc (.cells #[.slice a0 S.nc c0, .slice a1 S.nl c1, .slice a2 S.nw c2] 149)) (.int .i64 fr) (.int .i64 tto) (.int .i64 ep) 152).alloc (.cells #[strayV (w.heap.size + 1)] 127)).1
    have h3 := World.cell?_alloc_mark ((w.alloc (.cells #[.slice a0 S.nc c0, .slice a1 S.nl c1, .slice a2 S.nw c2] 149)).alloc (.cells #[.int .i64 fr, .int .i64 tto, .int .i64 ep] 152)) #[strayV (w.heap.size + 1)] 127 (0, 0) 0
    simp only [World.size_alloc] at h1 h3
    exact ⟨h3, h1.1, h1.2.1⟩
  have HK : Hid (Blk3 (((w.alloc (.cells #[.slice a0 S.nc c0, .slice a1 S.nl c1, .slice a2 S.nw c2] 149)).alloc (.cells #[.int .i64 fr, .int .i64 tto, .int .i64 ep] 152)).alloc (.cells #[strayV (w.heap.size + 1)] 127)) w.heap.size (.slice a0 S.nc c0) (.slice a1 S.nl c1) (.slice a2 S.nw c2) ∧ Below w.heap.size w (((w.alloc (.cells #[.slice a0 S.nc c0, .slice a1 S.nl c1, .slice a2 S.nw c2] 149)).alloc (.cells #[.int .i64 fr, .int .i64 tto, .int .i64 ep] 152)).alloc (.cells #[strayV (w.heap.size + 1)] 127))) := ⟨((Blk3.new w _ _ _ _).alloc _).alloc _, ((below_alloc _ _).alloc (by simp) _).alloc (by simp; omega) _⟩
  have hst := fun (W : World) (a : Addr) => run_store Tryz.prog W a (strayV (w.heap.size + 1)) .plain rfl
  have hex : strayV (w.heap.size + 1) = .func (.func 146) #[] #[.pointer (some ⟨w.heap.size + 1, 0, none⟩)] := rfl
  rw [hex] at HE HK hst
  clear hex
  go_enter Tryz.func111, Tryz.ntmps111
  go_wp2_with fail
  obtain ⟨⟨p0, p1, p2⟩, _⟩ := HK.out.1
  refine (containsStrayCell_is (w.heap.size + 1) (w.heap.size + 2) fr tto B S.nc S.c _ _ (H.out.1.later HK.out.2) HT.out.1 HE.out).mono ?_
  rw [HX.out.1]
  rintro e w1 ⟨rfl, q1⟩
  have HE1 : Hid (StrE (w.heap.size + 1) (w.heap.size + 2) fr tto w1) := HE.out.later q1
  have HK1 : Hid (Blk3 w1 w.heap.size (.slice a0 S.nc c0) (.slice a1 S.nl c1) (.slice a2 S.nw c2) ∧ Below w.heap.size w w1) := ⟨HK.out.1.later q1, HK.out.2.trans (q1.mono HK.out.2.size)⟩
  clear q1 p0 p1 p2 HE HK
  obtain ⟨⟨p0, p1, p2⟩, _⟩ := HK1.out.1
  cases x0 with
  | true =>
    have E : Hid (decide (strayS S fr tto) = true) := HS.out
    clear HS HX
    go_wp2
    go_ret
    exact ⟨by rw [E.out]; rfl, HK1.out.2⟩
  | false =>
  go_wp2_with fail
  refine (containsStrayLock_is (w.heap.size + 1) (w.heap.size + 2) fr tto B S.nl S.l _ _ (H.out.2.1.later HK1.out.2) HT.out.2.1 HE1.out).mono ?_
  rw [HX.out.2.1]
  rintro e w2 ⟨rfl, q1⟩
  have HE2 : Hid (StrE (w.heap.size + 1) (w.heap.size + 2) fr tto w2) := HE1.out.later q1
  have HK2 : Hid (Blk3 w2 w.heap.size (.slice a0 S.nc c0) (.slice a1 S.nl c1) (.slice a2 S.nw c2) ∧ Below w.heap.size w w2) := ⟨HK1.out.1.later q1, HK1.out.2.trans (q1.mono HK1.out.2.size)⟩
  clear q1 p0 p1 p2 HE1 HK1
  obtain ⟨⟨p0, p1, p2⟩, _⟩ := HK2.out.1
  cases x1 with
  | true =>
    have E : Hid (decide (strayS S fr tto) = true) := HS.out
    clear HS HX
    go_wp2
    go_ret
    exact ⟨by rw [E.out]; rfl, HK2.out.2⟩
  | false =>
  go_wp2_with fail
  refine (containsStrayWrite_is (w.heap.size + 1) (w.heap.size + 2) fr tto B S.nw S.k _ _ (H.out.2.2.later HK2.out.2) HT.out.2.2 HE2.out).mono ?_
  rw [HX.out.2.2]
  rintro e w3 ⟨rfl, q1⟩
  have HB : Hid (Below w.heap.size w w3) := HK2.out.2.trans (q1.mono HK2.out.2.size)
  have E : Hid (decide (strayS S fr tto) = x2) := HS.out
  clear q1 HS HX HE2 HK2 p0 p1 p2
  go_wp2
  go_ret
  exact ⟨by rw [E.out]; rfl, HB.out⟩
end Go.Proofs.YtphfiojhpfdpdaaGreat

namespace Go.Proofs.YtphfiojhpfdpdaaGreat
section
open Go.RowKit
/-- The first N numbers. -/
def nums (F : Nat → Int) (N : Nat) : List Int := (List.range N).map F
theorem nums_length (F : Nat → Int) (N : Nat) : (nums F N).length = N := by simp [nums]
theorem nums_vals (F : Nat → Int) (N : Nat) : (nums F N).map (Value.int .i64) = vals F N := by simp [nums, vals]
theorem OwnM.lit0 (Y : World) (b : Nat) (e : TypeId) (m : Nat) (hb : Y.heap.size = b) : OwnM (Y.alloc (.cells #[] e)) b e m (.slice (some ⟨b, 0, none⟩) 0 0) 0 [] := by
  subst hb
  exact World.ownsRow_lit Y #[] 0 (Nat.le_refl _) (Nat.zero_le _) (by simp)
theorem Row.over (w : World) (B m n k : Nat) (F : Nat → Int) (ao : Option Addr) (c : Nat) (hk : ¬ k < n) : Row w B m (n - k) F (.slice ao (n - k) c) := ⟨_, _, rfl, fun q => by omega⟩
theorem OwnM.keptB {w w' : World} {B : Nat} {e : TypeId} {m : Nat} {v : Value} {n : Nat} {L : List Int} (h : OwnM w B e m v n L) (hb : ∀ k, v.ownBlock = some k → w'.heap[k]? = w.heap[k]?) : OwnM w' B e m v n L := by
  obtain ⟨h1, h2⟩ := h
  refine ⟨h1, ?_⟩
  rcases h2 with q | ⟨g, cap, cur, rfl, q1, q2, q3⟩
  · exact Or.inl q
  · exact Or.inr ⟨g, cap, cur, rfl, q1, (hb g rfl).trans q2, q3⟩
theorem OwnM.set {w : World} {B : Nat} {e : TypeId} {m : Nat} {v : Value} {n : Nat} {L : List Int} (h : OwnM w B e m v n L) {c : Nat} (hc : ∀ k, v.ownBlock = some k → k ≠ c) (j : Nat) (u : Value) : OwnM (w.setCell ⟨c, j, none⟩ u) B e m v n L :=
  h.keptB (fun k hk => Below.heap_setCell w _ u k (hc k hk))
theorem OwnM.cap {w : World} {B : Nat} {e : TypeId} {m n : Nat} {ao : Option Addr} {cp : Nat} {L : List Int} (h : OwnM w B e m (.slice ao n cp) n L) : n ≤ cp := by
  rcases h.2 with ⟨q, e⟩ | ⟨g, cap, cur, q, _, _, hn, _⟩
  · cases q; exact Nat.le_refl _
  · cases q; exact hn
theorem run_appL (t ty e : TypeId) (i : TypeInfo) (z : Value) (m bytes : Nat) (ht : Tryz.prog.underlying t = some (.slice e)) (hi : Tryz.prog.info? e = some i) (hz : i.zero = some z) (hsize : i.size = m) (hby : i.bytes = bytes) (hzs : z.cells.size = m) (hm : 0 < m) (hb5 : bytes ≤ 1000)
    (w : World) (base n0 : Nat) (L : List Int) (v : Value) (hown : OwnM w base e m v n0 L) (B n : Nat) (F : Nat → Int) (x : Value) (h : Row w B m n F x) (hn : n0 + n ≤ 1048576) (hbase : base ≤ w.heap.size) :
    ∃ ao cp w', (Builtin.append_ #[t, t] ty #[v, x]).run Tryz.prog w = .ok (.slice ao (n0 + n) cp) w' ∧ OwnM w' base e m (.slice ao (n0 + n) cp) (n0 + n) (L ++ nums F (n * m)) ∧ w.grownBy w' v.ownBlock ∧ ((Value.slice ao (n0 + n) cp).ownBlock = v.ownBlock ∨ (Value.slice ao (n0 + n) cp).ownBlock = some w.heap.size) := by
  have hbb : (n0 + n) * bytes ≤ 1048576 * 1000 := Nat.mul_le_mul hn hb5
  obtain ⟨ao, cp, rfl⟩ := h.form
  cases ao with
  | none =>
    have e0 : n = 0 := by
      rcases Nat.eq_zero_or_pos n with q | q
      · exact q
      · obtain ⟨g, o, hg, _⟩ := h.at q
        cases hg
    subst e0
    obtain ⟨av, cv, rfl⟩ := hown.form
    refine ⟨av, cv, w, ?_, ?_, ⟨rfl, rfl, rfl, Nat.le_refl _, fun _ _ _ => rfl⟩, Or.inl rfl⟩
    · rcases hown.2 with ⟨q, _⟩ | ⟨g, cap, cur, q, _, _, hnc, _⟩
      · cases q
        simp [Builtin.append_, run_underlying ht, sizeOf, typeInfo, hi, Builtin.lenOf, Builtin.firstCells]
      · cases q
        simp [Builtin.append_, run_underlying ht, sizeOf, typeInfo, hi, Builtin.lenOf, Builtin.firstCells, hnc, storeCells]
    · simpa [nums] using hown
  | some a =>
    obtain ⟨v', w', h1, h2, h3, _, h5⟩ := run_append_own_at (P := Tryz.prog) w base t ty e i z m bytes ht hi hz hsize hby hzs hm v n0 _ hown a n cp (vals F (n * m)) (vals_length _ _) (row_cells h) (vals_one _ _) (by unfold maxLen; omega) (by omega) hbase
    have h2' : OwnM w' base e m v' (n0 + n) (L ++ nums F (n * m)) := by
      unfold OwnM
      rw [List.map_append, nums_vals]
      exact h2
    obtain ⟨ao', cp', rfl⟩ := h2'.form
    exact ⟨ao', cp', w', h1, h2', h3, h5⟩
/-- .. with the word where the new row lies, for the walk. -/
theorem wpList_appL (e : TypeId) (i : TypeInfo) (z : Value) (m bytes : Nat) {ops : Array Oper} {rest : List Oper} {o : Oper} {a : Act} {Q : Exit → Act → World → Prop} (hgd : o.guard = none) (s x : Operand) (t : TypeId) (ho : o.op = .call { callee := .builtin .append, args := #[s, x], argTypes := #[t, t] })
    (ht : Tryz.prog.underlying t = some (.slice e)) (hi : Tryz.prog.info? e = some i) (hz : i.zero = some z) (hsize : i.size = m) (hby : i.bytes = bytes) (hzs : z.cells.size = m) (hm : 0 < m) (hb5 : bytes ≤ 1000)
    (w : World) (base n0 : Nat) (L : List Int) (v : Value) (hs : a.eval s = v) (hown : OwnM w base e m v n0 L) (B n : Nat) (F : Nat → Int) (u : Value) (hx : a.eval x = u) (h : Row w B m n F u) (hn : n0 + n ≤ 1048576) (hbase : base ≤ w.heap.size)
    (hK : ∀ ao cp w', OwnM w' base e m (.slice ao (n0 + n) cp) (n0 + n) (L ++ nums F (n * m)) → w.grownBy w' v.ownBlock → ((Value.slice ao (n0 + n) cp).ownBlock = v.ownBlock ∨ (Value.slice ao (n0 + n) cp).ownBlock = some w.heap.size) → wpList Tryz.prog ops Q rest (a.put o.dst (.slice ao (n0 + n) cp)) w') : wpList Tryz.prog ops Q (o :: rest) a w := by
  refine wpList_plain hgd fun K hK' => ?_
  obtain ⟨ao, cp, w', hr, h2, h3, h5⟩ := run_appL t o.type e i z m bytes ht hi hz hsize hby hzs hm hb5 w base n0 L v hown B n F u h hn hbase
  unfold Oper.wp execOp
  simp only [ho, resolve, invoke, builtin, Sem.run_bind, Sem.run_pure, Result.andThen_ok, List.map_toArray, List.map_cons, List.map_nil, hs, hx, hr]
  exact hK' _ _ (hK ao cp w' h2 h3 h5)
end
end Go.Proofs.YtphfiojhpfdpdaaGreat

namespace Go.Proofs.YtphfiojhpfdpdaaGreat
open Go.RowKit

/-- All numbers of the first k rows. -/
def allL (m : Nat) (N : Nat → Nat) (F : Nat → Nat → Int) : Nat → List Int
  | 0 => []
  | k + 1 => allL m N F k ++ nums (F k) (N k * m)
theorem all_len (m : Nat) (N : Nat → Nat) (F : Nat → Nat → Int) : ∀ k, (allL m N F k).length = sumN N k * m
  | 0 => by simp [allL, sumN]
  | k + 1 => by
    show (allL m N F k ++ nums (F k) (N k * m)).length = (sumN N k + N k) * m
    rw [List.length_append, nums_length, all_len m N F k, Nat.add_mul]
/-- All stores as one. -/
def unionS (n : Nat) (S : Nat → Sto) : Sto := ⟨sumN (fun i => (S i).nc) n, fun p => (allL 3 (fun i => (S i).nc) (fun i => (S i).c) n).getD p 0, sumN (fun i => (S i).nl) n, fun p => (allL 5 (fun i => (S i).nl) (fun i => (S i).l) n).getD p 0, sumN (fun i => (S i).nw) n, fun p => (allL 4 (fun i => (S i).nw) (fun i => (S i).k) n).getD p 0⟩
def ApaO (u v : Value) : Prop := ∀ q, u.ownBlock = some q → v.ownBlock ≠ some q
/-- Three rows under way: they lie in block b, each is owned from block B on, and they lie apart. -/
structure Tog (w x : World) (b B : Nat) (u0 u1 u2 : Value) (n0 n1 n2 : Nat) (L0 L1 L2 : List Int) : Prop where
  below : Below w.heap.size w x
  blk : Blk3 x b u0 u1 u2
  lo : w.heap.size ≤ b ∧ b < B ∧ B ≤ x.heap.size
  o0 : OwnM x B 202 3 u0 n0 L0
  o1 : OwnM x B 209 5 u1 n1 L1
  o2 : OwnM x B 211 4 u2 n2 L2
  a01 : ApaO u0 u1
  a02 : ApaO u0 u2
  a12 : ApaO u1 u2
theorem Tog.later {w x x' : World} {b B : Nat} {u0 u1 u2 : Value} {n0 n1 n2 : Nat} {L0 L1 L2 : List Int} (h : Tog w x b B u0 u1 u2 n0 n1 n2 L0 L1 L2) (hb : Below x.heap.size x x') : Tog w x' b B u0 u1 u2 n0 n1 n2 L0 L1 L2 :=
  ⟨h.below.trans (hb.mono h.below.size), h.blk.later hb, ⟨h.lo.1, h.lo.2.1, Nat.le_trans h.lo.2.2 hb.size⟩, h.o0.later hb, h.o1.later hb, h.o2.later hb, h.a01, h.a02, h.a12⟩
theorem ApaO.symm {u v : Value} (h : ApaO u v) : ApaO v u := fun q h1 h2 => h q h2 h1
/-- A row that is apart from one that has grown. -/
theorem OwnM.past {x x' : World} {B : Nat} {e : TypeId} {m : Nat} {u v : Value} {n : Nat} {L : List Int} (h : OwnM x B e m v n L) (hg : x.grownBy x' u.ownBlock) (ha : ApaO u v) : OwnM x' B e m v n L :=
  h.keptB (fun k hk => hg.block k (h.block k hk).2 (fun q => ha k q.symm hk))
theorem ApaO.moved {x : World} {B : Nat} {e : TypeId} {m : Nat} {u u' v : Value} {n : Nat} {L : List Int} (h : ApaO u v) (hv : OwnM x B e m v n L) (ho : u'.ownBlock = u.ownBlock ∨ u'.ownBlock = some x.heap.size) : ApaO u' v := fun q h1 h2 => by
  rcases ho with e | e
  · exact h q (e ▸ h1) h2
  · rw [e] at h1
    have := (hv.block q h2).2
    simp at h1
    omega
theorem blk_past {x x' : World} {b B : Nat} {e : TypeId} {m : Nat} {u : Value} {n : Nat} {L : List Int} {a0 a1 a2 : Value} (h : Blk3 x b a0 a1 a2) (hu : OwnM x B e m u n L) (hb : b < B) (hg : x.grownBy x' u.ownBlock) : Blk3 x' b a0 a1 a2 :=
  h.kept (hg.block b h.lt (fun q => by have := (hu.block b q.symm).1; omega))
theorem below_past {w x x' : World} {B : Nat} {e : TypeId} {m : Nat} {u : Value} {n : Nat} {L : List Int} (h : Below w.heap.size w x) (hu : OwnM x B e m u n L) (hB : w.heap.size ≤ B) (hg : x.grownBy x' u.ownBlock) : Below w.heap.size w x' :=
  ⟨hg.os.trans h.os, hg.tape.trans h.tape, hg.output.trans h.output, Nat.le_trans h.size hg.size, fun i hi => (hg.block i (Nat.lt_of_lt_of_le hi h.size) (fun q => by have := (hu.block i q.symm).1; omega)).trans (h.block i hi)⟩
theorem Tog.put0 {w x x' : World} {b B : Nat} {u0 u1 u2 u : Value} {n0 n1 n2 k : Nat} {L0 L1 L2 L : List Int} (h : Tog w x b B u0 u1 u2 n0 n1 n2 L0 L1 L2) (ho : OwnM x' B 202 3 u k L) (hg : x.grownBy x' u0.ownBlock) (hat : u.ownBlock = u0.ownBlock ∨ u.ownBlock = some x.heap.size) : Tog w (x'.setCell ⟨b, 0, none⟩ u) b B u u1 u2 k n1 n2 L L1 L2 :=
  ⟨(below_past h.below h.o0 (by have := h.lo; omega) hg).setCell h.lo.1 _, (blk_past h.blk h.o0 h.lo.2.1 hg).set0 _, ⟨h.lo.1, h.lo.2.1, by have := h.lo.2.2; have := hg.size; simp [World.setCell]; omega⟩, ho.far h.lo.2.1 _, (h.o1.past hg h.a01).far h.lo.2.1 _, (h.o2.past hg h.a02).far h.lo.2.1 _, h.a01.moved h.o1 hat, h.a02.moved h.o2 hat, h.a12⟩
theorem Tog.put1 {w x x' : World} {b B : Nat} {u0 u1 u2 u : Value} {n0 n1 n2 k : Nat} {L0 L1 L2 L : List Int} (h : Tog w x b B u0 u1 u2 n0 n1 n2 L0 L1 L2) (ho : OwnM x' B 209 5 u k L) (hg : x.grownBy x' u1.ownBlock) (hat : u.ownBlock = u1.ownBlock ∨ u.ownBlock = some x.heap.size) : Tog w (x'.setCell ⟨b, 1, none⟩ u) b B u0 u u2 n0 k n2 L0 L L2 :=
  ⟨(below_past h.below h.o1 (by have := h.lo; omega) hg).setCell h.lo.1 _, (blk_past h.blk h.o1 h.lo.2.1 hg).set1 _, ⟨h.lo.1, h.lo.2.1, by have := h.lo.2.2; have := hg.size; simp [World.setCell]; omega⟩, (h.o0.past hg h.a01.symm).far h.lo.2.1 _, ho.far h.lo.2.1 _, (h.o2.past hg h.a12).far h.lo.2.1 _, (h.a01.symm.moved h.o0 hat).symm, h.a02, h.a12.moved h.o2 hat⟩
theorem Tog.put2 {w x x' : World} {b B : Nat} {u0 u1 u2 u : Value} {n0 n1 n2 k : Nat} {L0 L1 L2 L : List Int} (h : Tog w x b B u0 u1 u2 n0 n1 n2 L0 L1 L2) (ho : OwnM x' B 211 4 u k L) (hg : x.grownBy x' u2.ownBlock) (hat : u.ownBlock = u2.ownBlock ∨ u.ownBlock = some x.heap.size) : Tog w (x'.setCell ⟨b, 2, none⟩ u) b B u0 u1 u n0 n1 k L0 L1 L :=
  ⟨(below_past h.below h.o2 (by have := h.lo; omega) hg).setCell h.lo.1 _, (blk_past h.blk h.o2 h.lo.2.1 hg).set2 _, ⟨h.lo.1, h.lo.2.1, by have := h.lo.2.2; have := hg.size; simp [World.setCell]; omega⟩, (h.o0.past hg h.a02.symm).far h.lo.2.1 _, (h.o1.past hg h.a12.symm).far h.lo.2.1 _, ho.far h.lo.2.1 _, h.a01, (h.a02.symm.moved h.o0 hat).symm, (h.a12.symm.moved h.o1 hat).symm⟩
theorem apartD_apa {x : World} {B0 B1 : Nat} {R : Sto} {u0 u1 u2 : Value} (r0 : Row x B0 3 R.nc R.c u0) (r1 : Row x B1 5 R.nl R.l u1) (h01 : ApaO u0 u1) (h02 : ApaO u0 u2) (h12 : ApaO u1 u2) : ApartD R u0 u1 u2 := by
  have own : ∀ {B m n : Nat} {F : Nat → Int} {u : Value}, Row x B m n F u → 0 < n → ∃ k, u.ownBlock = some k := fun hr hn => by
    obtain ⟨ao, cp, rfl, hr⟩ := hr
    obtain ⟨g, o, rfl, _⟩ := hr hn
    exact ⟨g, rfl⟩
  refine ⟨fun h0 _ e => ?_, fun h0 _ e => ?_, fun h1 _ e => ?_⟩
  · obtain ⟨k, hk⟩ := own r0 h0
    exact h01 k hk (e ▸ hk)
  · obtain ⟨k, hk⟩ := own r0 h0
    exact h02 k hk (e ▸ hk)
  · obtain ⟨k, hk⟩ := own r1 h1
    exact h12 k hk (e ▸ hk)
set_option maxRecDepth 100000 in
set_option maxHeartbeats 8000000 in
theorem together_any (n : Nat) (S : Nat → Sto) (V : Nat → Nat → Value) (v : Value) (B : Nat) (w : World) (h : Stos w B n S V v) (hn : n ≤ 6) (hs : ∀ i, i < n → (S i).nc ≤ 200 ∧ (S i).nl ≤ 200 ∧ (S i).nw ≤ 200) :
    Calls Tryz.prog 112 #[v] w (NewSto w (unionS n S)) := by
  obtain ⟨ao, cp, rfl⟩ := h.form
  have H : Hid (Stos w B n S V (.slice ao n cp)) := h
  have HN : Hid (∀ i, i < n → (S i).nc ≤ 200 ∧ (S i).nl ≤ 200 ∧ (S i).nw ≤ 200) := hs
  clear h hs
  go_enter Tryz.func112, Tryz.ntmps112
  go_wp2
  go_loopw [8] (fun i wr => ∃ (k p0 p1 p2 : Nat) (a0 a1 a2 : Option Addr) (c0 c1 c2 : Nat), k ≤ n ∧ i = .int .i64 k ∧ Hid (p0 = sumN (fun i => (S i).nc) k ∧ p1 = sumN (fun i => (S i).nl) k ∧ p2 = sumN (fun i => (S i).nw) k) ∧ Hid (Tog w wr (w.heap.size + 1) (w.heap.size + 2) (.slice a0 p0 c0) (.slice a1 p1 c1) (.slice a2 p2 c2) p0 p1 p2 (allL 3 (fun i => (S i).nc) (fun i => (S i).c) k) (allL 5 (fun i => (S i).nl) (fun i => (S i).l) k) (allL 4 (fun i => (S i).nw) (fun i => (S i).k) k)) ∧ Hid (Blk3 wr w.heap.size (.slice none 0 0) (.slice none 0 0) (.slice none 0 0))) (fun i _ => n - (intOf i).toNat)
  case atStart =>
    refine ⟨0, 0, 0, 0, none, none, none, 0, 0, 0, Nat.zero_le _, rfl, ⟨rfl, rfl, rfl⟩, ⟨(below_alloc _ _).alloc (by simp) _, ?_, ⟨by omega, by omega, by simp⟩, OwnM.nil _ _ _ _, OwnM.nil _ _ _ _, OwnM.nil _ _ _ _, (fun q e => by cases e), (fun q e => by cases e), (fun q e => by cases e)⟩, (Blk3.new w _ _ _ _).alloc _⟩
    have := Blk3.new (w.alloc (.cells #[.slice none 0 0, .slice none 0 0, .slice none 0 0] 149)) (.slice none 0 0) (.slice none 0 0) (.slice none 0 0) 149
    rwa [World.size_alloc] at this
  case round =>
    obtain ⟨k, p0, p1, p2, a0, a1, a2, c0, c1, c2, hk, rfl, HS, HT, HR⟩ := hrel
    have q0 : p0 ≤ 1200 := by rw [HS.out.1]; exact sum_small (fun i hi => (HN.out i hi).1) hn hk
    have q1 : p1 ≤ 1200 := by rw [HS.out.2.1]; exact sum_small (fun i hi => (HN.out i hi).2.1) hn hk
    have q2 : p2 ≤ 1200 := by rw [HS.out.2.2]; exact sum_small (fun i hi => (HN.out i hi).2.2) hn hk
    by_cases hlt : k < n
    · obtain ⟨g, o, rfl, _, hg, ⟨b0, b1, b2⟩, sk⟩ := H.out.at hlt
      replace b0 := (HT.out.below.cell (p := ⟨g, o + k * 3, none⟩) hg).trans b0
      replace b1 := (HT.out.below.cell (p := ⟨g, o + k * 3 + 1, none⟩) hg).trans b1
      replace b2 := (HT.out.below.cell (p := ⟨g, o + k * 3 + 2, none⟩) hg).trans b2
      obtain ⟨i0', d0, i1', d1, i2', d2, e0, e1, e2⟩ := sk.form
      obtain ⟨n0, hn0⟩ : ∃ x, (S k).nc = x := ⟨_, rfl⟩
      obtain ⟨n1, hn1⟩ : ∃ x, (S k).nl = x := ⟨_, rfl⟩
      obtain ⟨n2, hn2⟩ : ∃ x, (S k).nw = x := ⟨_, rfl⟩
      rw [e0, hn0] at b0
      rw [e1, hn1] at b1
      rw [e2, hn2] at b2
      have SK : Hid (Row w B 3 n0 (S k).c (.slice i0' n0 d0) ∧ Row w B 5 n1 (S k).l (.slice i1' n1 d1) ∧ Row w B 4 n2 (S k).k (.slice i2' n2 d2)) := by
        rw [e0, e1, e2] at sk
        obtain ⟨h0, h1, h2⟩ := sk
        rw [hn0] at h0
        rw [hn1] at h1
        rw [hn2] at h2
        exact ⟨h0, h1, h2⟩
      have hB := HN.out k hlt
      rw [hn0, hn1, hn2] at hB
      obtain ⟨m0, m1, m2⟩ := hB
      have HS1 : Hid (p0 + n0 = sumN (fun i => (S i).nc) (k + 1) ∧ p1 + n1 = sumN (fun i => (S i).nl) (k + 1) ∧ p2 + n2 = sumN (fun i => (S i).nw) (k + 1)) := by
        refine ⟨?_, ?_, ?_⟩
        · show _ = sumN (fun i => (S i).nc) k + (S k).nc
          rw [HS.out.1, hn0]
        · show _ = sumN (fun i => (S i).nl) k + (S k).nl
          rw [HS.out.2.1, hn1]
        · show _ = sumN (fun i => (S i).nw) k + (S k).nw
          rw [HS.out.2.2, hn2]
      obtain ⟨L0, hL0⟩ : ∃ L, allL 3 (fun i => (S i).nc) (fun i => (S i).c) k = L := ⟨_, rfl⟩
      obtain ⟨L1, hL1⟩ : ∃ L, allL 5 (fun i => (S i).nl) (fun i => (S i).l) k = L := ⟨_, rfl⟩
      obtain ⟨L2, hL2⟩ : ∃ L, allL 4 (fun i => (S i).nw) (fun i => (S i).k) k = L := ⟨_, rfl⟩
      have HL1 : Hid (L0 ++ nums (S k).c (n0 * 3) = allL 3 (fun i => (S i).nc) (fun i => (S i).c) (k + 1) ∧ L1 ++ nums (S k).l (n1 * 5) = allL 5 (fun i => (S i).nl) (fun i => (S i).l) (k + 1) ∧ L2 ++ nums (S k).k (n2 * 4) = allL 4 (fun i => (S i).nw) (fun i => (S i).k) (k + 1)) := by
        rw [← hn0, ← hn1, ← hn2, ← hL0, ← hL1, ← hL2]
        exact ⟨rfl, rfl, rfl⟩
      have HT := HT.out
      rw [hL0, hL1, hL2] at HT
      clear sk e0 e1 e2 hn0 hn1 hn2 hL0 hL1 hL2 HS
      have hq : Hid (w.heap.size + 2 ≤ wr.heap.size) := HT.lo.2.2
      have NQ : Hid ((∀ q, (Value.slice a0 p0 c0).ownBlock = some q → q ≠ wr.heap.size) ∧ (∀ q, (Value.slice a1 p1 c1).ownBlock = some q → q ≠ wr.heap.size) ∧ (∀ q, (Value.slice a2 p2 c2).ownBlock = some q → q ≠ wr.heap.size)) := ⟨fun q e => by have := (HT.o0.block q e).2; omega, fun q e => by have := (HT.o1.block q e).2; omega, fun q e => by have := (HT.o2.block q e).2; omega⟩
      have TT : Hid (Tog w (wr.alloc (.cells #[.slice i0' n0 d0, .slice i1' n1 d1, .slice i2' n2 d2] 149)) (w.heap.size + 1) (w.heap.size + 2) (.slice a0 p0 c0) (.slice a1 p1 c1) (.slice a2 p2 c2) p0 p1 p2 L0 L1 L2) := HT.later (below_alloc _ _)
      have Q1 : Hid (Blk3 (wr.alloc (.cells #[.slice i0' n0 d0, .slice i1' n1 d1, .slice i2' n2 d2] 149)) wr.heap.size (.slice i0' n0 d0) (.slice i1' n1 d1) (.slice i2' n2 d2)) := Blk3.new _ _ _ _ _
      have RB : Hid (Blk3 (wr.alloc (.cells #[.slice i0' n0 d0, .slice i1' n1 d1, .slice i2' n2 d2] 149)) w.heap.size (.slice none 0 0) (.slice none 0 0) (.slice none 0 0)) := HR.out.alloc _
      clear HT HR
      go_upto_region 5 with fail
      generalize wr.alloc (.cells #[.slice i0' n0 d0, .slice i1' n1 d1, .slice i2' n2 d2] 149) = x1 at TT Q1 RB ⊢
      clear b0 b1 b2
      generalize wr.heap.size = q at hq NQ Q1 ⊢
      obtain ⟨⟨t0, t1, t2⟩, ft0, ft1, ft2⟩ := TT.out.blk
      obtain ⟨⟨s0, s1, s2⟩, _⟩ := Q1.out
      obtain ⟨i0, hi, hz0, hz1, hz2⟩ := info_parts info_Cell
      have hbs : w.heap.size + 2 ≤ x1.heap.size := TT.out.lo.2.2
      go_upto_region 6 with (at_builtin; refine wpList_appL 202 i0 (.agg #[.int .i64 0, .int .i64 0, .int .i64 0]) 3 24 rfl _ _ 145 rfl Tryz.underlying145 hi hz0 hz1 hz2 rfl (by omega) (by omega) _ (w.heap.size + 2) p0 _ (.slice a0 p0 c0) rfl TT.out.o0 B n0 _ _ rfl (SK.out.1.later TT.out.below) (by omega) hbs ?_; intro ao0 cp0 y OY GY AY; obtain ⟨⟨t0, t1, t2⟩, ft0, ft1, ft2⟩ := blk_past TT.out.blk TT.out.o0 TT.out.lo.2.1 GY)
      have TT' : Hid (Tog w (y.setCell ⟨w.heap.size + 1, 0, none⟩ (.slice ao0 (p0 + n0) cp0)) (w.heap.size + 1) (w.heap.size + 2) (.slice ao0 (p0 + n0) cp0) (.slice a1 p1 c1) (.slice a2 p2 c2) (p0 + n0) p1 p2 (L0 ++ nums (S k).c (n0 * 3)) L1 L2) := TT.out.put0 OY GY AY
      have Q1' : Hid (Blk3 (y.setCell ⟨w.heap.size + 1, 0, none⟩ (.slice ao0 (p0 + n0) cp0)) q (.slice i0' n0 d0) (.slice i1' n1 d1) (.slice i2' n2 d2)) := (Q1.out.kept (GY.block q Q1.out.lt (fun e => NQ.out.1 q e.symm rfl))).setFar (by show q ≠ w.heap.size + 1; have := hq.out; omega) _
      have RB' : Hid (Blk3 (y.setCell ⟨w.heap.size + 1, 0, none⟩ (.slice ao0 (p0 + n0) cp0)) w.heap.size (.slice none 0 0) (.slice none 0 0) (.slice none 0 0)) := (blk_past RB.out TT.out.o0 (by omega) GY).setFar (by simp) _
      generalize y.setCell ⟨w.heap.size + 1, 0, none⟩ (.slice ao0 (p0 + n0) cp0) = z0 at TT' Q1' RB' ⊢
      clear TT Q1 RB t0 t1 t2 ft0 ft1 ft2 s0 s1 s2 OY GY AY hi hz0 hz1 hz2 hbs i0
      have TT := TT'
      have Q1 := Q1'
      have RB := RB'
      clear TT' Q1' RB'
      obtain ⟨⟨t0, t1, t2⟩, ft0, ft1, ft2⟩ := TT.out.blk
      obtain ⟨⟨s0, s1, s2⟩, _⟩ := Q1.out
      obtain ⟨i0, hi, hz0, hz1, hz2⟩ := info_parts info_Lock
      have hbs : w.heap.size + 2 ≤ z0.heap.size := TT.out.lo.2.2
      go_upto_region 7 with (at_builtin; refine wpList_appL 209 i0 (.agg #[.int .i64 0, .int .i64 0, .int .i64 0, .int .i64 0, .int .i64 0]) 5 40 rfl _ _ 146 rfl Tryz.underlying146 hi hz0 hz1 hz2 rfl (by omega) (by omega) _ (w.heap.size + 2) p1 _ (.slice a1 p1 c1) rfl TT.out.o1 B n1 _ _ rfl (SK.out.2.1.later TT.out.below) (by omega) hbs ?_; intro ao1 cp1 y OY GY AY; obtain ⟨⟨t0, t1, t2⟩, ft0, ft1, ft2⟩ := blk_past TT.out.blk TT.out.o1 TT.out.lo.2.1 GY)
      have TT' : Hid (Tog w (y.setCell ⟨w.heap.size + 1, 1, none⟩ (.slice ao1 (p1 + n1) cp1)) (w.heap.size + 1) (w.heap.size + 2) (.slice ao0 (p0 + n0) cp0) (.slice ao1 (p1 + n1) cp1) (.slice a2 p2 c2) (p0 + n0) (p1 + n1) p2 (L0 ++ nums (S k).c (n0 * 3)) (L1 ++ nums (S k).l (n1 * 5)) L2) := TT.out.put1 OY GY AY
      have Q1' : Hid (Blk3 (y.setCell ⟨w.heap.size + 1, 1, none⟩ (.slice ao1 (p1 + n1) cp1)) q (.slice i0' n0 d0) (.slice i1' n1 d1) (.slice i2' n2 d2)) := (Q1.out.kept (GY.block q Q1.out.lt (fun e => NQ.out.2.1 q e.symm rfl))).setFar (by show q ≠ w.heap.size + 1; have := hq.out; omega) _
      have RB' : Hid (Blk3 (y.setCell ⟨w.heap.size + 1, 1, none⟩ (.slice ao1 (p1 + n1) cp1)) w.heap.size (.slice none 0 0) (.slice none 0 0) (.slice none 0 0)) := (blk_past RB.out TT.out.o1 (by omega) GY).setFar (by simp) _
      generalize y.setCell ⟨w.heap.size + 1, 1, none⟩ (.slice ao1 (p1 + n1) cp1) = z1 at TT' Q1' RB' ⊢
      clear TT Q1 RB t0 t1 t2 ft0 ft1 ft2 s0 s1 s2 OY GY AY hi hz0 hz1 hz2 hbs i0
      have TT := TT'
      have Q1 := Q1'
      have RB := RB'
      clear TT' Q1' RB'
      obtain ⟨⟨t0, t1, t2⟩, ft0, ft1, ft2⟩ := TT.out.blk
      obtain ⟨⟨s0, s1, s2⟩, _⟩ := Q1.out
      obtain ⟨i0, hi, hz0, hz1, hz2⟩ := info_parts info_Write
      have hbs : w.heap.size + 2 ≤ z1.heap.size := TT.out.lo.2.2
      go_upto_region 8 with (at_builtin; refine wpList_appL 211 i0 (.agg #[.int .i64 0, .int .i64 0, .int .i64 0, .int .i64 0]) 4 32 rfl _ _ 147 rfl Tryz.underlying147 hi hz0 hz1 hz2 rfl (by omega) (by omega) _ (w.heap.size + 2) p2 _ (.slice a2 p2 c2) rfl TT.out.o2 B n2 _ _ rfl (SK.out.2.2.later TT.out.below) (by omega) hbs ?_; intro ao2 cp2 y OY GY AY; obtain ⟨⟨t0, t1, t2⟩, ft0, ft1, ft2⟩ := blk_past TT.out.blk TT.out.o2 TT.out.lo.2.1 GY)
      have TT' : Hid (Tog w (y.setCell ⟨w.heap.size + 1, 2, none⟩ (.slice ao2 (p2 + n2) cp2)) (w.heap.size + 1) (w.heap.size + 2) (.slice ao0 (p0 + n0) cp0) (.slice ao1 (p1 + n1) cp1) (.slice ao2 (p2 + n2) cp2) (p0 + n0) (p1 + n1) (p2 + n2) (L0 ++ nums (S k).c (n0 * 3)) (L1 ++ nums (S k).l (n1 * 5)) (L2 ++ nums (S k).k (n2 * 4))) := TT.out.put2 OY GY AY
      have Q1' : Hid (Blk3 (y.setCell ⟨w.heap.size + 1, 2, none⟩ (.slice ao2 (p2 + n2) cp2)) q (.slice i0' n0 d0) (.slice i1' n1 d1) (.slice i2' n2 d2)) := (Q1.out.kept (GY.block q Q1.out.lt (fun e => NQ.out.2.2 q e.symm rfl))).setFar (by show q ≠ w.heap.size + 1; have := hq.out; omega) _
      have RB' : Hid (Blk3 (y.setCell ⟨w.heap.size + 1, 2, none⟩ (.slice ao2 (p2 + n2) cp2)) w.heap.size (.slice none 0 0) (.slice none 0 0) (.slice none 0 0)) := (blk_past RB.out TT.out.o2 (by omega) GY).setFar (by simp) _
      generalize y.setCell ⟨w.heap.size + 1, 2, none⟩ (.slice ao2 (p2 + n2) cp2) = z2 at TT' Q1' RB' ⊢
      clear TT Q1 RB t0 t1 t2 ft0 ft1 ft2 s0 s1 s2 OY GY AY hi hz0 hz1 hz2 hbs i0
      have TT := TT'
      have Q1 := Q1'
      have RB := RB'
      clear TT' Q1' RB'
      rw [HL1.out.1, HL1.out.2.1, HL1.out.2.2] at TT
      clear Q1 NQ hq SK HL1
      go_wp2
      go_roundw
      case rel => exact ⟨k + 1, p0 + n0, p1 + n1, p2 + n2, ao0, ao1, ao2, cp0, cp1, cp2, by omega, by go_num, HS1, TT, RB⟩
      case measure => simp [intOf]; omega
    · obtain rfl : k = n := by omega
      obtain ⟨⟨t0, t1, t2⟩, ft0, ft1, ft2⟩ := HT.out.blk
      obtain ⟨⟨r0, r1, r2⟩, f0, f1, f2⟩ := HR.out
      have HE : Hid (unionS k S = ⟨p0, fun p => (allL 3 (fun i => (S i).nc) (fun i => (S i).c) k).getD p 0, p1, fun p => (allL 5 (fun i => (S i).nl) (fun i => (S i).l) k).getD p 0, p2, fun p => (allL 4 (fun i => (S i).nw) (fun i => (S i).k) k).getD p 0⟩) := by
        unfold Hid unionS
        rw [← HS.out.1, ← HS.out.2.1, ← HS.out.2.2]
      have o0 := (HT.out.o0.own (by rw [all_len, HS.out.1])).row
      have o1 := (HT.out.o1.own (by rw [all_len, HS.out.2.1])).row
      have o2 := (HT.out.o2.own (by rw [all_len, HS.out.2.2])).row
      have HO : Hid (St wr (w.heap.size + 2) (unionS k S) (.slice a0 p0 c0) (.slice a1 p1 c1) (.slice a2 p2 c2) ∧ FreeS wr (unionS k S) (.slice a0 p0 c0) (.slice a1 p1 c1) (.slice a2 p2 c2) ∧ ApartD (unionS k S) (.slice a0 p0 c0) (.slice a1 p1 c1) (.slice a2 p2 c2)) := by
        rw [HE.out]
        exact ⟨⟨o0.1, o1.1, o2.1⟩, ⟨o0.2, o1.2, o2.2⟩, apartD_apa o0.1 o1.1 HT.out.a01 HT.out.a02 HT.out.a12⟩
      have hn0 : Hid ((unionS k S).nc = p0 ∧ (unionS k S).nl = p1 ∧ (unionS k S).nw = p2) := by rw [HE.out]; exact ⟨rfl, rfl, rfl⟩
      clear o0 o1 o2 HE HS
      unfold NewSto
      go_wp2
      refine bodyPost_ret (v := .agg #[.slice a0 p0 c0, .slice a1 p1 c1, .slice a2 p2 c2]) (by simp [results, Tryz.results112, go_sem, r0, r1, r2]) rfl ?_
      have hlo : w.heap.size < w.heap.size + 2 := by omega
      refine ⟨a0, c0, a1, c1, a2, c2, ?_, ?_, ((HT.out.below.setCell (Nat.le_refl _) _).setCell (Nat.le_refl _) _).setCell (Nat.le_refl _) _⟩
      · rw [hn0.out.1, hn0.out.2.1, hn0.out.2.2]
      · rw [hn0.out.1, hn0.out.2.1, hn0.out.2.2]
        exact ⟨(((HO.out.1.far hlo _).far hlo _).far hlo _).mono (by omega), ((HO.out.2.1.far _ _).far _ _).far _ _, HO.out.2.2⟩
end Go.Proofs.YtphfiojhpfdpdaaGreat

namespace Go.Proofs.YtphfiojhpfdpdaaGreat
open Go.RowKit

/-- The element ahead and the one that is asked, and that nothing old has turned. -/
def PrevWrite (w : World) (g o k N : Nat) (m0 m1 m2 m3 n0 n1 n2 n3 : Int) (x : World) : Prop := (x.cell? ⟨g, o + (k - 1) * 4, none⟩ = some (.int .i64 m0) ∧ x.cell? ⟨g, o + (k - 1) * 4 + 1, none⟩ = some (.int .i64 m1) ∧ x.cell? ⟨g, o + (k - 1) * 4 + 2, none⟩ = some (.int .i64 m2) ∧ x.cell? ⟨g, o + (k - 1) * 4 + 3, none⟩ = some (.int .i64 m3) ∧ x.cell? ⟨N, 0, none⟩ = some (.int .i64 n0) ∧ x.cell? ⟨N, 1, none⟩ = some (.int .i64 n1) ∧ x.cell? ⟨N, 2, none⟩ = some (.int .i64 n2) ∧ x.cell? ⟨N, 3, none⟩ = some (.int .i64 n3)) ∧ Below w.heap.size w x
theorem PrevWrite.later {w x x' : World} {g o k N : Nat} {m0 m1 m2 m3 n0 n1 n2 n3 : Int} (h : PrevWrite w g o k N m0 m1 m2 m3 n0 n1 n2 n3 x) (hb : Below x.heap.size x x') : PrevWrite w g o k N m0 m1 m2 m3 n0 n1 n2 n3 x' := by
  obtain ⟨⟨hx0, hx1, hx2, hx3, hx4, hx5, hx6, hx7⟩, hy⟩ := h
  exact ⟨⟨(hb.cell (World.block_lt_of_cell? x _ hx0)).trans hx0, (hb.cell (World.block_lt_of_cell? x _ hx1)).trans hx1, (hb.cell (World.block_lt_of_cell? x _ hx2)).trans hx2, (hb.cell (World.block_lt_of_cell? x _ hx3)).trans hx3, (hb.cell (World.block_lt_of_cell? x _ hx4)).trans hx4, (hb.cell (World.block_lt_of_cell? x _ hx5)).trans hx5, (hb.cell (World.block_lt_of_cell? x _ hx6)).trans hx6, (hb.cell (World.block_lt_of_cell? x _ hx7)).trans hx7⟩, hy.trans (hb.mono hy.size)⟩
/-- The element that is asked, and that nothing old has turned. -/
def FirstWrite (w : World) (N : Nat) (n0 n1 n2 n3 : Int) (x : World) : Prop := (x.cell? ⟨N, 0, none⟩ = some (.int .i64 n0) ∧ x.cell? ⟨N, 1, none⟩ = some (.int .i64 n1) ∧ x.cell? ⟨N, 2, none⟩ = some (.int .i64 n2) ∧ x.cell? ⟨N, 3, none⟩ = some (.int .i64 n3)) ∧ Below w.heap.size w x
theorem FirstWrite.later {w x x' : World} {N : Nat} {n0 n1 n2 n3 : Int} (h : FirstWrite w N n0 n1 n2 n3 x) (hb : Below x.heap.size x x') : FirstWrite w N n0 n1 n2 n3 x' := by
  obtain ⟨⟨hx0, hx1, hx2, hx3⟩, hy⟩ := h
  exact ⟨⟨(hb.cell (World.block_lt_of_cell? x _ hx0)).trans hx0, (hb.cell (World.block_lt_of_cell? x _ hx1)).trans hx1, (hb.cell (World.block_lt_of_cell? x _ hx2)).trans hx2, (hb.cell (World.block_lt_of_cell? x _ hx3)).trans hx3⟩, hy.trans (hb.mono hy.size)⟩
set_option maxRecDepth 100000 in
set_option maxHeartbeats 8000000 in
theorem writesFault_any (S : Sto) (v : Value) (B : Nat) (w : World) (h : Row w B 4 S.nw S.k v) (hn : S.nw ≤ 200) :
    Calls Tryz.prog 143 #[v] w fun e w' => e = .returned (.int .i64 (scan (writeF S.k) S.nw)) ∧ Below w.heap.size w w' := by
  obtain ⟨ao, cp, rfl⟩ := h.form
  have H : Hid (Row w B 4 S.nw S.k (.slice ao S.nw cp)) := h
  clear h
  go_enter Tryz.func143, Tryz.ntmps143
  go_wp2
  go_loopw [8] (fun i wr => ∃ k : Nat, k ≤ S.nw ∧ i = .int .i64 k ∧ Hid (scan (writeF S.k) k = 0) ∧ Below w.heap.size w wr) (fun i _ => S.nw - (intOf i).toNat)
  case atStart => exact ⟨0, Nat.zero_le _, rfl, rfl, Below.refl _ _⟩
  case round =>
    obtain ⟨k, hk, rfl, HS, hbw⟩ := hrel
    by_cases hlt : k < S.nw
    case neg =>
      have en : k = S.nw := by omega
      have E : Hid (scan (writeF S.k) S.nw = 0) := en ▸ HS.out
      clear HS
      go_wp2
      go_ret
      exact ⟨by rw [E.out]; rfl, hbw⟩
    obtain ⟨g, o, rfl, _, hg, x0, x1, x2, x3⟩ := (H.out.later hbw).at4 hlt
    obtain ⟨n0, N0⟩ : ∃ x, S.k (k * 4) = x := ⟨_, rfl⟩
    rw [N0] at x0
    obtain ⟨n1, N1⟩ : ∃ x, S.k (k * 4 + 1) = x := ⟨_, rfl⟩
    rw [N1] at x1
    obtain ⟨n2, N2⟩ : ∃ x, S.k (k * 4 + 2) = x := ⟨_, rfl⟩
    rw [N2] at x2
    obtain ⟨n3, N3⟩ : ∃ x, S.k (k * 4 + 3) = x := ⟨_, rfl⟩
    rw [N3] at x3
    have NN : Hid (S.k (k * 4) = n0 ∧ S.k (k * 4 + 1) = n1 ∧ S.k (k * 4 + 2) = n2 ∧ S.k (k * 4 + 3) = n3) := ⟨N0, N1, N2, N3⟩
    clear N0 N1 N2 N3
    have FT : Hid (fits S.k k ↔ (n3 = 4 → n1 = n2) ∧ (n3 ≠ 4 → n2 < n1)) := by
      unfold Hid fits
      rw [NN.out.2.1, NN.out.2.2.1, NN.out.2.2.2]
    by_cases h0 : faultOf n0 = 0
    case neg =>
      obtain ⟨f, hff⟩ : ∃ f, faultOf n0 = f := ⟨_, rfl⟩
      have L0 : Hid (∀ w, Calls Tryz.prog 121 #[.int .i64 n0] w fun e w' => e = .returned (.int .i64 f) ∧ w' = w) := fun w => hff ▸ keyFault_any n0 w
      have E : Hid (scan (writeF S.k) S.nw = f) := by
        have : writeF S.k k = f := by
          unfold writeF
          rw [NN.out.1, NN.out.2.1, NN.out.2.2.1, NN.out.2.2.2]
          rw [if_pos h0]; exact hff
        exact (scan_stop HS.out (by rw [this, ← hff]; exact h0) hlt).trans this
      have hfn : (f == 0) = false := beq_eq_false_iff_ne.2 (by rw [← hff]; exact h0)
      clear hff h0 HS NN FT
      go_wp2_with fail
      refine (L0.out _).mono ?_
      rintro e w1 ⟨rfl, rfl⟩
      go_wp2
      go_ret
      exact ⟨by rw [E.out]; rfl, by first | exact hbw.alloc hbw.size _ | exact below_dn (hbw.alloc hbw.size _) _ | exact below_dn (below_dn (hbw.alloc hbw.size _) _) _⟩
    have L0 : Hid (∀ w, Calls Tryz.prog 121 #[.int .i64 n0] w fun e w' => e = .returned (.int .i64 0) ∧ w' = w) := fun w => h0 ▸ keyFault_any n0 w
    have G0 : Hid (faultOf n0 = 0) := h0
    clear h0
    by_cases h1 : 1 ≤ n1 ∧ n1 ≤ 100000
    case neg =>
      have L1 : Hid (decide (1 ≤ n1 ∧ n1 ≤ 100000) = false) := decide_eq_false h1
      have E : Hid (scan (writeF S.k) S.nw = 3) := by
        have : writeF S.k k = 3 := by
          unfold writeF
          rw [NN.out.1, NN.out.2.1, NN.out.2.2.1, NN.out.2.2.2]
          rw [if_neg (fun h => h G0.out)]
          rw [if_pos (by omega)]
        exact (scan_stop HS.out (by rw [this]; decide) hlt).trans this
      clear h1 HS NN FT G0
      go_wp2_with fail
      refine (L0.out _).mono ?_
      rintro e w1 ⟨rfl, rfl⟩
      go_wp2_with fail
      refine (isTime_is _ false L1.out _).mono ?_
      rintro e w1 ⟨rfl, rfl⟩
      go_wp2
      go_ret
      exact ⟨by rw [E.out]; rfl, by first | exact hbw.alloc hbw.size _ | exact below_dn (hbw.alloc hbw.size _) _ | exact below_dn (below_dn (hbw.alloc hbw.size _) _) _⟩
    have L1 : Hid (decide (1 ≤ n1 ∧ n1 ≤ 100000) = true) := decide_eq_true h1
    have G1 : Hid (1 ≤ n1 ∧ n1 ≤ 100000) := h1
    clear h1
    by_cases h2 : 1 ≤ n2 ∧ n2 ≤ 100000
    case neg =>
      have L2 : Hid (decide (1 ≤ n2 ∧ n2 ≤ 100000) = false) := decide_eq_false h2
      have E : Hid (scan (writeF S.k) S.nw = 3) := by
        have : writeF S.k k = 3 := by
          unfold writeF
          rw [NN.out.1, NN.out.2.1, NN.out.2.2.1, NN.out.2.2.2]
          rw [if_neg (fun h => h G0.out)]
          rw [if_pos (by omega)]
        exact (scan_stop HS.out (by rw [this]; decide) hlt).trans this
      clear h2 HS NN FT G0 G1
      go_wp2_with fail
      refine (L0.out _).mono ?_
      rintro e w1 ⟨rfl, rfl⟩
      go_wp2_with fail
      refine (isTime_is _ true L1.out _).mono ?_
      rintro e w1 ⟨rfl, rfl⟩
      go_wp2_with fail
      refine (isTime_is _ false L2.out _).mono ?_
      rintro e w1 ⟨rfl, rfl⟩
      go_wp2
      go_ret
      exact ⟨by rw [E.out]; rfl, by first | exact hbw.alloc hbw.size _ | exact below_dn (hbw.alloc hbw.size _) _ | exact below_dn (below_dn (hbw.alloc hbw.size _) _) _⟩
    have L2 : Hid (decide (1 ≤ n2 ∧ n2 ≤ 100000) = true) := decide_eq_true h2
    have G2 : Hid (1 ≤ n2 ∧ n2 ≤ 100000) := h2
    clear h2
    by_cases h3 : 1 ≤ n3 ∧ n3 ≤ 3
    · have L3 : Hid (decide (1 ≤ n3 ∧ n3 ≤ 3) = true) := decide_eq_true h3
      have G3 : Hid (1 ≤ n3 ∧ n3 ≤ 3) := h3
      clear h3
      by_cases hf : (n3 = 4 → n1 = n2) ∧ (n3 ≠ 4 → n2 < n1)
      · have D : Hid (∀ w, Calls Tryz.prog 177 #[.agg #[.int .i64 n0, .int .i64 n1, .int .i64 n2, .int .i64 n3]] w fun e w' => e = .returned (.bool true) ∧ Below w.heap.size w w') := fun w => commitFits_is n0 n1 n2 n3 true (decide_eq_true hf) w
        have hft : Hid (fits S.k k) := FT.out.2 hf
        clear hf
        rcases Nat.eq_zero_or_pos k with hk0 | hk0
        · have E : Hid (scan (writeF S.k) (k + 1) = 0) := by
            have : writeF S.k k = 0 := by
              unfold writeF
              rw [NN.out.1, NN.out.2.1, NN.out.2.2.1, NN.out.2.2.2]
              rw [if_neg (fun h => h G0.out)]
              have g1 := G1.out; have g2 := G2.out; have g3 := G3.out; rw [if_neg (by omega)]
              rw [if_neg (fun h => h.elim (fun q => by omega) (fun q => q hft.out))]
            exact scan_go HS.out this
          have dk : decide (0 < k) = false := decide_eq_false (by omega)
          have h0 : FirstWrite w wr.heap.size n0 n1 n2 n3 (wr.alloc (.cells #[.int .i64 n0, .int .i64 n1, .int .i64 n2, .int .i64 n3] 211)).drew := ⟨⟨World.cell?_alloc_mark wr _ _ _ 0, World.cell?_alloc_mark wr _ _ _ 1, World.cell?_alloc_mark wr _ _ _ 2, World.cell?_alloc_mark wr _ _ _ 3⟩, (hbw.alloc hbw.size _).drew⟩
          clear HS NN FT G0 G1 G2 G3 hk0 hft
          go_wp2_with fail
          refine (L0.out _).mono ?_
          rintro e w1 ⟨rfl, rfl⟩
          go_wp2_with fail
          refine (isTime_is _ true L1.out _).mono ?_
          rintro e w1 ⟨rfl, rfl⟩
          go_wp2_with fail
          refine (isTime_is _ true L2.out _).mono ?_
          rintro e w1 ⟨rfl, rfl⟩
          go_wp2_with fail
          refine (isLockKind_is _ true L3.out _).mono ?_
          rintro e w1 ⟨rfl, rfl⟩
          go_wp2_with fail
          refine wp_region_held_drew (S := FirstWrite w wr.heap.size n0 n1 n2 n3) (by kernel_rfl) h0 (fun hS => ?_)
          clear h0
          refine tkH 0 ?_ hS (fun wx hx => ?_) ?_; rotate_left
          · obtain ⟨⟨hx0, hx1, hx2, hx3⟩, _⟩ := hx; go_simp; try with_reducible rfl
          refine tkH 1 ?_ hS (fun wx hx => ?_) ?_; rotate_left
          · obtain ⟨⟨hx0, hx1, hx2, hx3⟩, _⟩ := hx; go_simp; try with_reducible rfl
          refine tkH 2 ?_ hS (fun wx hx => ?_) ?_; rotate_left
          · obtain ⟨⟨hx0, hx1, hx2, hx3⟩, _⟩ := hx; go_simp; try with_reducible rfl
          refine noH 3 hS ?_
          refine noH 4 hS ?_
          refine noH 5 hS ?_
          refine noH 6 hS ?_
          refine noH 7 hS ?_
          refine noH 8 hS ?_
          refine noH 9 hS ?_
          refine noH 10 hS ?_
          refine tkH 11 ?_ hS (fun wx hx => ?_) ?_; rotate_left
          · obtain ⟨⟨hx0, hx1, hx2, hx3⟩, _⟩ := hx; go_simp; try with_reducible rfl
          refine tkH 12 ?_ hS (fun wx hx => ?_) ?_; rotate_left
          · obtain ⟨⟨hx0, hx1, hx2, hx3⟩, _⟩ := hx; go_simp; try with_reducible rfl
          refine tkH 13 ?_ hS (fun wx hx => ?_) ?_; rotate_left
          · obtain ⟨⟨hx0, hx1, hx2, hx3⟩, _⟩ := hx; go_simp; try with_reducible rfl
          refine rdH 14 (fun K hK => ?_)
          go_simp
          go_wp2_with fail
          refine (D.out _).mono ?_
          rintro e w1 ⟨rfl, q1⟩
          have hS' := hS.later q1
          clear q1
          go_wp2_with fail
          refine hK.out _ _ hS' (fun hS => ?_)
          clear hK K hS'
          refine tkH 15 ?_ hS (fun wx hx => ?_) ?_; rotate_left
          · obtain ⟨⟨hx0, hx1, hx2, hx3⟩, _⟩ := hx; go_simp; try with_reducible rfl
          refine tkH 16 ?_ hS (fun wx hx => ?_) ?_; rotate_left
          · obtain ⟨⟨hx0, hx1, hx2, hx3⟩, _⟩ := hx; go_simp; try with_reducible rfl
          refine wpAnyH_done (by kernel_rfl) ?_ _
          go_simp
          go_wp2
          go_roundw
          case rel => exact ⟨k + 1, by omega, by go_num, E, hS.2⟩
          case measure => simp [intOf]; omega
        obtain ⟨g', o', he, _, _, y0, y1, y2, y3⟩ := (H.out.later hbw).at4 (k := k - 1) (by omega)
        simp only [Option.some.injEq, Addr.mk.injEq, and_true] at he
        obtain ⟨rfl, rfl⟩ := he
        obtain ⟨m0, M0⟩ : ∃ x, S.k ((k - 1) * 4) = x := ⟨_, rfl⟩
        rw [M0] at y0
        obtain ⟨m1, M1⟩ : ∃ x, S.k ((k - 1) * 4 + 1) = x := ⟨_, rfl⟩
        rw [M1] at y1
        obtain ⟨m2, M2⟩ : ∃ x, S.k ((k - 1) * 4 + 2) = x := ⟨_, rfl⟩
        rw [M2] at y2
        obtain ⟨m3, M3⟩ : ∃ x, S.k ((k - 1) * 4 + 3) = x := ⟨_, rfl⟩
        rw [M3] at y3
        have MM : Hid (S.k ((k - 1) * 4) = m0 ∧ S.k ((k - 1) * 4 + 1) = m1) := ⟨M0, M1⟩
        clear M0 M1 M2 M3
        have dk : decide (0 < k) = true := decide_eq_true hk0
        have hwr := wrap_pred k hk0 (by omega)
        have hkn : ((k - 1 : Nat) : Int) < (S.nw : Int) := by omega
        obtain ⟨r, HR⟩ : ∃ r, Hid (orOf (cmpOf m0 n0) (cmpOf m1 n1) = r) := ⟨_, rfl⟩
        have HO : Hid (r < 0 ↔ m0 < n0 ∨ m0 = n0 ∧ m1 < n1) := by unfold Hid; rw [← HR.out]; exact orOf_neg _ _ _ _
        have h0 : PrevWrite w g o k wr.heap.size m0 m1 m2 m3 n0 n1 n2 n3 (wr.alloc (.cells #[.int .i64 n0, .int .i64 n1, .int .i64 n2, .int .i64 n3] 211)).drew := ⟨⟨(World.cell?_alloc_lt _ _ _ hg).trans y0, (World.cell?_alloc_lt _ _ _ hg).trans y1, (World.cell?_alloc_lt _ _ _ hg).trans y2, (World.cell?_alloc_lt _ _ _ hg).trans y3, World.cell?_alloc_mark wr _ _ _ 0, World.cell?_alloc_mark wr _ _ _ 1, World.cell?_alloc_mark wr _ _ _ 2, World.cell?_alloc_mark wr _ _ _ 3⟩, (hbw.alloc hbw.size _).drew⟩
        by_cases hr : 0 ≤ r
        · have E : Hid (scan (writeF S.k) S.nw = 1) := by
            have : writeF S.k k = 1 := by
              unfold writeF
              rw [NN.out.1, NN.out.2.1, NN.out.2.2.1, NN.out.2.2.2]
              rw [if_neg (fun h => h G0.out)]
              have g1 := G1.out; have g2 := G2.out; have g3 := G3.out; rw [if_neg (by omega)]
              rw [MM.out.1, MM.out.2]
              have ho := HO.out
              rw [if_pos (Or.inl ⟨hk0, by omega⟩)]
            exact (scan_stop HS.out (by rw [this]; decide) hlt).trans this
          have dr : decide (0 ≤ r) = true := decide_eq_true hr
          clear HS NN FT G0 G1 G2 G3 MM HO hr hft
          go_wp2_with fail
          refine (L0.out _).mono ?_
          rintro e w1 ⟨rfl, rfl⟩
          go_wp2_with fail
          refine (isTime_is _ true L1.out _).mono ?_
          rintro e w1 ⟨rfl, rfl⟩
          go_wp2_with fail
          refine (isTime_is _ true L2.out _).mono ?_
          rintro e w1 ⟨rfl, rfl⟩
          go_wp2_with fail
          refine (isLockKind_is _ true L3.out _).mono ?_
          rintro e w1 ⟨rfl, rfl⟩
          go_wp2_with fail
          refine wp_region_held_drew (S := PrevWrite w g o k wr.heap.size m0 m1 m2 m3 n0 n1 n2 n3) (by kernel_rfl) h0 (fun hS => ?_)
          clear h0
          refine tkH 0 ?_ hS (fun wx hx => ?_) ?_; rotate_left
          · obtain ⟨⟨hx0, hx1, hx2, hx3, hx4, hx5, hx6, hx7⟩, _⟩ := hx; go_simp; try with_reducible rfl
          refine tkH 1 ?_ hS (fun wx hx => ?_) ?_; rotate_left
          · obtain ⟨⟨hx0, hx1, hx2, hx3, hx4, hx5, hx6, hx7⟩, _⟩ := hx; go_simp; try with_reducible rfl
          refine tkH 2 ?_ hS (fun wx hx => ?_) ?_; rotate_left
          · obtain ⟨⟨hx0, hx1, hx2, hx3, hx4, hx5, hx6, hx7⟩, _⟩ := hx; go_simp; try with_reducible rfl
          refine tkH 3 ?_ hS (fun wx hx => ?_) ?_; rotate_left
          · obtain ⟨⟨hx0, hx1, hx2, hx3, hx4, hx5, hx6, hx7⟩, _⟩ := hx; go_simp; try with_reducible rfl
          refine tkH 4 ?_ hS (fun wx hx => ?_) ?_; rotate_left
          · obtain ⟨⟨hx0, hx1, hx2, hx3, hx4, hx5, hx6, hx7⟩, _⟩ := hx; go_simp; try with_reducible rfl
          refine tkH 5 ?_ hS (fun wx hx => ?_) ?_; rotate_left
          · obtain ⟨⟨hx0, hx1, hx2, hx3, hx4, hx5, hx6, hx7⟩, _⟩ := hx; go_simp; try with_reducible rfl
          refine tkH 6 ?_ hS (fun wx hx => ?_) ?_; rotate_left
          · obtain ⟨⟨hx0, hx1, hx2, hx3, hx4, hx5, hx6, hx7⟩, _⟩ := hx; go_simp; try with_reducible rfl
          refine tkH 7 ?_ hS (fun wx hx => ?_) ?_; rotate_left
          · obtain ⟨⟨hx0, hx1, hx2, hx3, hx4, hx5, hx6, hx7⟩, _⟩ := hx; go_simp; try with_reducible rfl
          refine tkH 8 ?_ hS (fun wx hx => ?_) ?_; rotate_left
          · obtain ⟨⟨hx0, hx1, hx2, hx3, hx4, hx5, hx6, hx7⟩, _⟩ := hx; go_simp; try with_reducible rfl
          refine rdH 9 (fun K hK => ?_)
          go_simp
          go_wp2_with fail
          refine (compareWrites_is _ _ _ _ _ _ _ _ r HR.out _).mono ?_
          rintro e w1 ⟨rfl, q1⟩
          have hS' := hS.later q1
          clear q1
          go_wp2_with fail
          refine hK.out _ _ hS' (fun hS => ?_)
          clear hK K hS'
          refine tkH 10 ?_ hS (fun wx hx => ?_) ?_; rotate_left
          · obtain ⟨⟨hx0, hx1, hx2, hx3, hx4, hx5, hx6, hx7⟩, _⟩ := hx; go_simp; try with_reducible rfl
          refine tkH 11 ?_ hS (fun wx hx => ?_) ?_; rotate_left
          · obtain ⟨⟨hx0, hx1, hx2, hx3, hx4, hx5, hx6, hx7⟩, _⟩ := hx; go_simp; try with_reducible rfl
          refine tkH 12 ?_ hS (fun wx hx => ?_) ?_; rotate_left
          · obtain ⟨⟨hx0, hx1, hx2, hx3, hx4, hx5, hx6, hx7⟩, _⟩ := hx; go_simp; try with_reducible rfl
          refine noH 13 hS ?_
          refine noH 14 hS ?_
          refine noH 15 hS ?_
          refine tkH 16 ?_ hS (fun wx hx => ?_) ?_; rotate_left
          · obtain ⟨⟨hx0, hx1, hx2, hx3, hx4, hx5, hx6, hx7⟩, _⟩ := hx; go_simp; try with_reducible rfl
          refine wpAnyH_done (by kernel_rfl) ?_ _
          go_simp
          go_wp2
          go_ret
          exact ⟨by rw [E.out]; rfl, hS.2⟩
        · have E : Hid (scan (writeF S.k) (k + 1) = 0) := by
            have : writeF S.k k = 0 := by
              unfold writeF
              rw [NN.out.1, NN.out.2.1, NN.out.2.2.1, NN.out.2.2.2]
              rw [if_neg (fun h => h G0.out)]
              have g1 := G1.out; have g2 := G2.out; have g3 := G3.out; rw [if_neg (by omega)]
              rw [MM.out.1, MM.out.2]
              have ho := HO.out
              rw [if_neg (fun h => h.elim (fun q => q.2 (by omega)) (fun q => q hft.out))]
            exact scan_go HS.out this
          have dr : decide (0 ≤ r) = false := decide_eq_false hr
          clear HS NN FT G0 G1 G2 G3 MM HO hr hft
          go_wp2_with fail
          refine (L0.out _).mono ?_
          rintro e w1 ⟨rfl, rfl⟩
          go_wp2_with fail
          refine (isTime_is _ true L1.out _).mono ?_
          rintro e w1 ⟨rfl, rfl⟩
          go_wp2_with fail
          refine (isTime_is _ true L2.out _).mono ?_
          rintro e w1 ⟨rfl, rfl⟩
          go_wp2_with fail
          refine (isLockKind_is _ true L3.out _).mono ?_
          rintro e w1 ⟨rfl, rfl⟩
          go_wp2_with fail
          refine wp_region_held_drew (S := PrevWrite w g o k wr.heap.size m0 m1 m2 m3 n0 n1 n2 n3) (by kernel_rfl) h0 (fun hS => ?_)
          clear h0
          refine tkH 0 ?_ hS (fun wx hx => ?_) ?_; rotate_left
          · obtain ⟨⟨hx0, hx1, hx2, hx3, hx4, hx5, hx6, hx7⟩, _⟩ := hx; go_simp; try with_reducible rfl
          refine tkH 1 ?_ hS (fun wx hx => ?_) ?_; rotate_left
          · obtain ⟨⟨hx0, hx1, hx2, hx3, hx4, hx5, hx6, hx7⟩, _⟩ := hx; go_simp; try with_reducible rfl
          refine tkH 2 ?_ hS (fun wx hx => ?_) ?_; rotate_left
          · obtain ⟨⟨hx0, hx1, hx2, hx3, hx4, hx5, hx6, hx7⟩, _⟩ := hx; go_simp; try with_reducible rfl
          refine tkH 3 ?_ hS (fun wx hx => ?_) ?_; rotate_left
          · obtain ⟨⟨hx0, hx1, hx2, hx3, hx4, hx5, hx6, hx7⟩, _⟩ := hx; go_simp; try with_reducible rfl
          refine tkH 4 ?_ hS (fun wx hx => ?_) ?_; rotate_left
          · obtain ⟨⟨hx0, hx1, hx2, hx3, hx4, hx5, hx6, hx7⟩, _⟩ := hx; go_simp; try with_reducible rfl
          refine tkH 5 ?_ hS (fun wx hx => ?_) ?_; rotate_left
          · obtain ⟨⟨hx0, hx1, hx2, hx3, hx4, hx5, hx6, hx7⟩, _⟩ := hx; go_simp; try with_reducible rfl
          refine tkH 6 ?_ hS (fun wx hx => ?_) ?_; rotate_left
          · obtain ⟨⟨hx0, hx1, hx2, hx3, hx4, hx5, hx6, hx7⟩, _⟩ := hx; go_simp; try with_reducible rfl
          refine tkH 7 ?_ hS (fun wx hx => ?_) ?_; rotate_left
          · obtain ⟨⟨hx0, hx1, hx2, hx3, hx4, hx5, hx6, hx7⟩, _⟩ := hx; go_simp; try with_reducible rfl
          refine tkH 8 ?_ hS (fun wx hx => ?_) ?_; rotate_left
          · obtain ⟨⟨hx0, hx1, hx2, hx3, hx4, hx5, hx6, hx7⟩, _⟩ := hx; go_simp; try with_reducible rfl
          refine rdH 9 (fun K hK => ?_)
          go_simp
          go_wp2_with fail
          refine (compareWrites_is _ _ _ _ _ _ _ _ r HR.out _).mono ?_
          rintro e w1 ⟨rfl, q1⟩
          have hS' := hS.later q1
          clear q1
          go_wp2_with fail
          refine hK.out _ _ hS' (fun hS => ?_)
          clear hK K hS'
          refine tkH 10 ?_ hS (fun wx hx => ?_) ?_; rotate_left
          · obtain ⟨⟨hx0, hx1, hx2, hx3, hx4, hx5, hx6, hx7⟩, _⟩ := hx; go_simp; try with_reducible rfl
          refine tkH 11 ?_ hS (fun wx hx => ?_) ?_; rotate_left
          · obtain ⟨⟨hx0, hx1, hx2, hx3, hx4, hx5, hx6, hx7⟩, _⟩ := hx; go_simp; try with_reducible rfl
          refine tkH 12 ?_ hS (fun wx hx => ?_) ?_; rotate_left
          · obtain ⟨⟨hx0, hx1, hx2, hx3, hx4, hx5, hx6, hx7⟩, _⟩ := hx; go_simp; try with_reducible rfl
          refine tkH 13 ?_ hS (fun wx hx => ?_) ?_; rotate_left
          · obtain ⟨⟨hx0, hx1, hx2, hx3, hx4, hx5, hx6, hx7⟩, _⟩ := hx; go_simp; try with_reducible rfl
          refine rdH 14 (fun K hK => ?_)
          go_simp
          go_wp2_with fail
          refine (D.out _).mono ?_
          rintro e w1 ⟨rfl, q1⟩
          have hS' := hS.later q1
          clear q1
          go_wp2_with fail
          refine hK.out _ _ hS' (fun hS => ?_)
          clear hK K hS'
          refine tkH 15 ?_ hS (fun wx hx => ?_) ?_; rotate_left
          · obtain ⟨⟨hx0, hx1, hx2, hx3, hx4, hx5, hx6, hx7⟩, _⟩ := hx; go_simp; try with_reducible rfl
          refine tkH 16 ?_ hS (fun wx hx => ?_) ?_; rotate_left
          · obtain ⟨⟨hx0, hx1, hx2, hx3, hx4, hx5, hx6, hx7⟩, _⟩ := hx; go_simp; try with_reducible rfl
          refine wpAnyH_done (by kernel_rfl) ?_ _
          go_simp
          go_wp2
          go_roundw
          case rel => exact ⟨k + 1, by omega, by go_num, E, hS.2⟩
          case measure => simp [intOf]; omega
      · have D : Hid (∀ w, Calls Tryz.prog 177 #[.agg #[.int .i64 n0, .int .i64 n1, .int .i64 n2, .int .i64 n3]] w fun e w' => e = .returned (.bool false) ∧ Below w.heap.size w w') := fun w => commitFits_is n0 n1 n2 n3 false (decide_eq_false hf) w
        have hft : Hid (¬ fits S.k k) := fun h => hf (FT.out.1 h)
        clear hf
        rcases Nat.eq_zero_or_pos k with hk0 | hk0
        · have E : Hid (scan (writeF S.k) S.nw = 1) := by
            have : writeF S.k k = 1 := by
              unfold writeF
              rw [NN.out.1, NN.out.2.1, NN.out.2.2.1, NN.out.2.2.2]
              rw [if_neg (fun h => h G0.out)]
              have g1 := G1.out; have g2 := G2.out; have g3 := G3.out; rw [if_neg (by omega)]
              rw [if_pos (Or.inr hft.out)]
            exact (scan_stop HS.out (by rw [this]; decide) hlt).trans this
          have dk : decide (0 < k) = false := decide_eq_false (by omega)
          have h0 : FirstWrite w wr.heap.size n0 n1 n2 n3 (wr.alloc (.cells #[.int .i64 n0, .int .i64 n1, .int .i64 n2, .int .i64 n3] 211)).drew := ⟨⟨World.cell?_alloc_mark wr _ _ _ 0, World.cell?_alloc_mark wr _ _ _ 1, World.cell?_alloc_mark wr _ _ _ 2, World.cell?_alloc_mark wr _ _ _ 3⟩, (hbw.alloc hbw.size _).drew⟩
          clear HS NN FT G0 G1 G2 G3 hk0 hft
          go_wp2_with fail
          refine (L0.out _).mono ?_
          rintro e w1 ⟨rfl, rfl⟩
          go_wp2_with fail
          refine (isTime_is _ true L1.out _).mono ?_
          rintro e w1 ⟨rfl, rfl⟩
          go_wp2_with fail
          refine (isTime_is _ true L2.out _).mono ?_
          rintro e w1 ⟨rfl, rfl⟩
          go_wp2_with fail
          refine (isLockKind_is _ true L3.out _).mono ?_
          rintro e w1 ⟨rfl, rfl⟩
          go_wp2_with fail
          refine wp_region_held_drew (S := FirstWrite w wr.heap.size n0 n1 n2 n3) (by kernel_rfl) h0 (fun hS => ?_)
          clear h0
          refine tkH 0 ?_ hS (fun wx hx => ?_) ?_; rotate_left
          · obtain ⟨⟨hx0, hx1, hx2, hx3⟩, _⟩ := hx; go_simp; try with_reducible rfl
          refine tkH 1 ?_ hS (fun wx hx => ?_) ?_; rotate_left
          · obtain ⟨⟨hx0, hx1, hx2, hx3⟩, _⟩ := hx; go_simp; try with_reducible rfl
          refine tkH 2 ?_ hS (fun wx hx => ?_) ?_; rotate_left
          · obtain ⟨⟨hx0, hx1, hx2, hx3⟩, _⟩ := hx; go_simp; try with_reducible rfl
          refine noH 3 hS ?_
          refine noH 4 hS ?_
          refine noH 5 hS ?_
          refine noH 6 hS ?_
          refine noH 7 hS ?_
          refine noH 8 hS ?_
          refine noH 9 hS ?_
          refine noH 10 hS ?_
          refine tkH 11 ?_ hS (fun wx hx => ?_) ?_; rotate_left
          · obtain ⟨⟨hx0, hx1, hx2, hx3⟩, _⟩ := hx; go_simp; try with_reducible rfl
          refine tkH 12 ?_ hS (fun wx hx => ?_) ?_; rotate_left
          · obtain ⟨⟨hx0, hx1, hx2, hx3⟩, _⟩ := hx; go_simp; try with_reducible rfl
          refine tkH 13 ?_ hS (fun wx hx => ?_) ?_; rotate_left
          · obtain ⟨⟨hx0, hx1, hx2, hx3⟩, _⟩ := hx; go_simp; try with_reducible rfl
          refine rdH 14 (fun K hK => ?_)
          go_simp
          go_wp2_with fail
          refine (D.out _).mono ?_
          rintro e w1 ⟨rfl, q1⟩
          have hS' := hS.later q1
          clear q1
          go_wp2_with fail
          refine hK.out _ _ hS' (fun hS => ?_)
          clear hK K hS'
          refine tkH 15 ?_ hS (fun wx hx => ?_) ?_; rotate_left
          · obtain ⟨⟨hx0, hx1, hx2, hx3⟩, _⟩ := hx; go_simp; try with_reducible rfl
          refine tkH 16 ?_ hS (fun wx hx => ?_) ?_; rotate_left
          · obtain ⟨⟨hx0, hx1, hx2, hx3⟩, _⟩ := hx; go_simp; try with_reducible rfl
          refine wpAnyH_done (by kernel_rfl) ?_ _
          go_simp
          go_wp2
          go_ret
          exact ⟨by rw [E.out]; rfl, hS.2⟩
        obtain ⟨g', o', he, _, _, y0, y1, y2, y3⟩ := (H.out.later hbw).at4 (k := k - 1) (by omega)
        simp only [Option.some.injEq, Addr.mk.injEq, and_true] at he
        obtain ⟨rfl, rfl⟩ := he
        obtain ⟨m0, M0⟩ : ∃ x, S.k ((k - 1) * 4) = x := ⟨_, rfl⟩
        rw [M0] at y0
        obtain ⟨m1, M1⟩ : ∃ x, S.k ((k - 1) * 4 + 1) = x := ⟨_, rfl⟩
        rw [M1] at y1
        obtain ⟨m2, M2⟩ : ∃ x, S.k ((k - 1) * 4 + 2) = x := ⟨_, rfl⟩
        rw [M2] at y2
        obtain ⟨m3, M3⟩ : ∃ x, S.k ((k - 1) * 4 + 3) = x := ⟨_, rfl⟩
        rw [M3] at y3
        have MM : Hid (S.k ((k - 1) * 4) = m0 ∧ S.k ((k - 1) * 4 + 1) = m1) := ⟨M0, M1⟩
        clear M0 M1 M2 M3
        have dk : decide (0 < k) = true := decide_eq_true hk0
        have hwr := wrap_pred k hk0 (by omega)
        have hkn : ((k - 1 : Nat) : Int) < (S.nw : Int) := by omega
        obtain ⟨r, HR⟩ : ∃ r, Hid (orOf (cmpOf m0 n0) (cmpOf m1 n1) = r) := ⟨_, rfl⟩
        have HO : Hid (r < 0 ↔ m0 < n0 ∨ m0 = n0 ∧ m1 < n1) := by unfold Hid; rw [← HR.out]; exact orOf_neg _ _ _ _
        have h0 : PrevWrite w g o k wr.heap.size m0 m1 m2 m3 n0 n1 n2 n3 (wr.alloc (.cells #[.int .i64 n0, .int .i64 n1, .int .i64 n2, .int .i64 n3] 211)).drew := ⟨⟨(World.cell?_alloc_lt _ _ _ hg).trans y0, (World.cell?_alloc_lt _ _ _ hg).trans y1, (World.cell?_alloc_lt _ _ _ hg).trans y2, (World.cell?_alloc_lt _ _ _ hg).trans y3, World.cell?_alloc_mark wr _ _ _ 0, World.cell?_alloc_mark wr _ _ _ 1, World.cell?_alloc_mark wr _ _ _ 2, World.cell?_alloc_mark wr _ _ _ 3⟩, (hbw.alloc hbw.size _).drew⟩
        by_cases hr : 0 ≤ r
        · have E : Hid (scan (writeF S.k) S.nw = 1) := by
            have : writeF S.k k = 1 := by
              unfold writeF
              rw [NN.out.1, NN.out.2.1, NN.out.2.2.1, NN.out.2.2.2]
              rw [if_neg (fun h => h G0.out)]
              have g1 := G1.out; have g2 := G2.out; have g3 := G3.out; rw [if_neg (by omega)]
              rw [MM.out.1, MM.out.2]
              have ho := HO.out
              rw [if_pos (Or.inl ⟨hk0, by omega⟩)]
            exact (scan_stop HS.out (by rw [this]; decide) hlt).trans this
          have dr : decide (0 ≤ r) = true := decide_eq_true hr
          clear HS NN FT G0 G1 G2 G3 MM HO hr hft
          go_wp2_with fail
          refine (L0.out _).mono ?_
          rintro e w1 ⟨rfl, rfl⟩
          go_wp2_with fail
          refine (isTime_is _ true L1.out _).mono ?_
          rintro e w1 ⟨rfl, rfl⟩
          go_wp2_with fail
          refine (isTime_is _ true L2.out _).mono ?_
          rintro e w1 ⟨rfl, rfl⟩
          go_wp2_with fail
          refine (isLockKind_is _ true L3.out _).mono ?_
          rintro e w1 ⟨rfl, rfl⟩
          go_wp2_with fail
          refine wp_region_held_drew (S := PrevWrite w g o k wr.heap.size m0 m1 m2 m3 n0 n1 n2 n3) (by kernel_rfl) h0 (fun hS => ?_)
          clear h0
          refine tkH 0 ?_ hS (fun wx hx => ?_) ?_; rotate_left
          · obtain ⟨⟨hx0, hx1, hx2, hx3, hx4, hx5, hx6, hx7⟩, _⟩ := hx; go_simp; try with_reducible rfl
          refine tkH 1 ?_ hS (fun wx hx => ?_) ?_; rotate_left
          · obtain ⟨⟨hx0, hx1, hx2, hx3, hx4, hx5, hx6, hx7⟩, _⟩ := hx; go_simp; try with_reducible rfl
          refine tkH 2 ?_ hS (fun wx hx => ?_) ?_; rotate_left
          · obtain ⟨⟨hx0, hx1, hx2, hx3, hx4, hx5, hx6, hx7⟩, _⟩ := hx; go_simp; try with_reducible rfl
          refine tkH 3 ?_ hS (fun wx hx => ?_) ?_; rotate_left
          · obtain ⟨⟨hx0, hx1, hx2, hx3, hx4, hx5, hx6, hx7⟩, _⟩ := hx; go_simp; try with_reducible rfl
          refine tkH 4 ?_ hS (fun wx hx => ?_) ?_; rotate_left
          · obtain ⟨⟨hx0, hx1, hx2, hx3, hx4, hx5, hx6, hx7⟩, _⟩ := hx; go_simp; try with_reducible rfl
          refine tkH 5 ?_ hS (fun wx hx => ?_) ?_; rotate_left
          · obtain ⟨⟨hx0, hx1, hx2, hx3, hx4, hx5, hx6, hx7⟩, _⟩ := hx; go_simp; try with_reducible rfl
          refine tkH 6 ?_ hS (fun wx hx => ?_) ?_; rotate_left
          · obtain ⟨⟨hx0, hx1, hx2, hx3, hx4, hx5, hx6, hx7⟩, _⟩ := hx; go_simp; try with_reducible rfl
          refine tkH 7 ?_ hS (fun wx hx => ?_) ?_; rotate_left
          · obtain ⟨⟨hx0, hx1, hx2, hx3, hx4, hx5, hx6, hx7⟩, _⟩ := hx; go_simp; try with_reducible rfl
          refine tkH 8 ?_ hS (fun wx hx => ?_) ?_; rotate_left
          · obtain ⟨⟨hx0, hx1, hx2, hx3, hx4, hx5, hx6, hx7⟩, _⟩ := hx; go_simp; try with_reducible rfl
          refine rdH 9 (fun K hK => ?_)
          go_simp
          go_wp2_with fail
          refine (compareWrites_is _ _ _ _ _ _ _ _ r HR.out _).mono ?_
          rintro e w1 ⟨rfl, q1⟩
          have hS' := hS.later q1
          clear q1
          go_wp2_with fail
          refine hK.out _ _ hS' (fun hS => ?_)
          clear hK K hS'
          refine tkH 10 ?_ hS (fun wx hx => ?_) ?_; rotate_left
          · obtain ⟨⟨hx0, hx1, hx2, hx3, hx4, hx5, hx6, hx7⟩, _⟩ := hx; go_simp; try with_reducible rfl
          refine tkH 11 ?_ hS (fun wx hx => ?_) ?_; rotate_left
          · obtain ⟨⟨hx0, hx1, hx2, hx3, hx4, hx5, hx6, hx7⟩, _⟩ := hx; go_simp; try with_reducible rfl
          refine tkH 12 ?_ hS (fun wx hx => ?_) ?_; rotate_left
          · obtain ⟨⟨hx0, hx1, hx2, hx3, hx4, hx5, hx6, hx7⟩, _⟩ := hx; go_simp; try with_reducible rfl
          refine noH 13 hS ?_
          refine noH 14 hS ?_
          refine noH 15 hS ?_
          refine tkH 16 ?_ hS (fun wx hx => ?_) ?_; rotate_left
          · obtain ⟨⟨hx0, hx1, hx2, hx3, hx4, hx5, hx6, hx7⟩, _⟩ := hx; go_simp; try with_reducible rfl
          refine wpAnyH_done (by kernel_rfl) ?_ _
          go_simp
          go_wp2
          go_ret
          exact ⟨by rw [E.out]; rfl, hS.2⟩
        · have E : Hid (scan (writeF S.k) S.nw = 1) := by
            have : writeF S.k k = 1 := by
              unfold writeF
              rw [NN.out.1, NN.out.2.1, NN.out.2.2.1, NN.out.2.2.2]
              rw [if_neg (fun h => h G0.out)]
              have g1 := G1.out; have g2 := G2.out; have g3 := G3.out; rw [if_neg (by omega)]
              rw [MM.out.1, MM.out.2]
              have ho := HO.out
              rw [if_pos (Or.inr hft.out)]
            exact (scan_stop HS.out (by rw [this]; decide) hlt).trans this
          have dr : decide (0 ≤ r) = false := decide_eq_false hr
          clear HS NN FT G0 G1 G2 G3 MM HO hr hft
          go_wp2_with fail
          refine (L0.out _).mono ?_
          rintro e w1 ⟨rfl, rfl⟩
          go_wp2_with fail
          refine (isTime_is _ true L1.out _).mono ?_
          rintro e w1 ⟨rfl, rfl⟩
          go_wp2_with fail
          refine (isTime_is _ true L2.out _).mono ?_
          rintro e w1 ⟨rfl, rfl⟩
          go_wp2_with fail
          refine (isLockKind_is _ true L3.out _).mono ?_
          rintro e w1 ⟨rfl, rfl⟩
          go_wp2_with fail
          refine wp_region_held_drew (S := PrevWrite w g o k wr.heap.size m0 m1 m2 m3 n0 n1 n2 n3) (by kernel_rfl) h0 (fun hS => ?_)
          clear h0
          refine tkH 0 ?_ hS (fun wx hx => ?_) ?_; rotate_left
          · obtain ⟨⟨hx0, hx1, hx2, hx3, hx4, hx5, hx6, hx7⟩, _⟩ := hx; go_simp; try with_reducible rfl
          refine tkH 1 ?_ hS (fun wx hx => ?_) ?_; rotate_left
          · obtain ⟨⟨hx0, hx1, hx2, hx3, hx4, hx5, hx6, hx7⟩, _⟩ := hx; go_simp; try with_reducible rfl
          refine tkH 2 ?_ hS (fun wx hx => ?_) ?_; rotate_left
          · obtain ⟨⟨hx0, hx1, hx2, hx3, hx4, hx5, hx6, hx7⟩, _⟩ := hx; go_simp; try with_reducible rfl
          refine tkH 3 ?_ hS (fun wx hx => ?_) ?_; rotate_left
          · obtain ⟨⟨hx0, hx1, hx2, hx3, hx4, hx5, hx6, hx7⟩, _⟩ := hx; go_simp; try with_reducible rfl
          refine tkH 4 ?_ hS (fun wx hx => ?_) ?_; rotate_left
          · obtain ⟨⟨hx0, hx1, hx2, hx3, hx4, hx5, hx6, hx7⟩, _⟩ := hx; go_simp; try with_reducible rfl
          refine tkH 5 ?_ hS (fun wx hx => ?_) ?_; rotate_left
          · obtain ⟨⟨hx0, hx1, hx2, hx3, hx4, hx5, hx6, hx7⟩, _⟩ := hx; go_simp; try with_reducible rfl
          refine tkH 6 ?_ hS (fun wx hx => ?_) ?_; rotate_left
          · obtain ⟨⟨hx0, hx1, hx2, hx3, hx4, hx5, hx6, hx7⟩, _⟩ := hx; go_simp; try with_reducible rfl
          refine tkH 7 ?_ hS (fun wx hx => ?_) ?_; rotate_left
          · obtain ⟨⟨hx0, hx1, hx2, hx3, hx4, hx5, hx6, hx7⟩, _⟩ := hx; go_simp; try with_reducible rfl
          refine tkH 8 ?_ hS (fun wx hx => ?_) ?_; rotate_left
          · obtain ⟨⟨hx0, hx1, hx2, hx3, hx4, hx5, hx6, hx7⟩, _⟩ := hx; go_simp; try with_reducible rfl
          refine rdH 9 (fun K hK => ?_)
          go_simp
          go_wp2_with fail
          refine (compareWrites_is _ _ _ _ _ _ _ _ r HR.out _).mono ?_
          rintro e w1 ⟨rfl, q1⟩
          have hS' := hS.later q1
          clear q1
          go_wp2_with fail
          refine hK.out _ _ hS' (fun hS => ?_)
          clear hK K hS'
          refine tkH 10 ?_ hS (fun wx hx => ?_) ?_; rotate_left
          · obtain ⟨⟨hx0, hx1, hx2, hx3, hx4, hx5, hx6, hx7⟩, _⟩ := hx; go_simp; try with_reducible rfl
          refine tkH 11 ?_ hS (fun wx hx => ?_) ?_; rotate_left
          · obtain ⟨⟨hx0, hx1, hx2, hx3, hx4, hx5, hx6, hx7⟩, _⟩ := hx; go_simp; try with_reducible rfl
          refine tkH 12 ?_ hS (fun wx hx => ?_) ?_; rotate_left
          · obtain ⟨⟨hx0, hx1, hx2, hx3, hx4, hx5, hx6, hx7⟩, _⟩ := hx; go_simp; try with_reducible rfl
          refine tkH 13 ?_ hS (fun wx hx => ?_) ?_; rotate_left
          · obtain ⟨⟨hx0, hx1, hx2, hx3, hx4, hx5, hx6, hx7⟩, _⟩ := hx; go_simp; try with_reducible rfl
          refine rdH 14 (fun K hK => ?_)
          go_simp
          go_wp2_with fail
          refine (D.out _).mono ?_
          rintro e w1 ⟨rfl, q1⟩
          have hS' := hS.later q1
          clear q1
          go_wp2_with fail
          refine hK.out _ _ hS' (fun hS => ?_)
          clear hK K hS'
          refine tkH 15 ?_ hS (fun wx hx => ?_) ?_; rotate_left
          · obtain ⟨⟨hx0, hx1, hx2, hx3, hx4, hx5, hx6, hx7⟩, _⟩ := hx; go_simp; try with_reducible rfl
          refine tkH 16 ?_ hS (fun wx hx => ?_) ?_; rotate_left
          · obtain ⟨⟨hx0, hx1, hx2, hx3, hx4, hx5, hx6, hx7⟩, _⟩ := hx; go_simp; try with_reducible rfl
          refine wpAnyH_done (by kernel_rfl) ?_ _
          go_simp
          go_wp2
          go_ret
          exact ⟨by rw [E.out]; rfl, hS.2⟩
    · have L3 : Hid (decide (1 ≤ n3 ∧ n3 ≤ 3) = false) := decide_eq_false h3
      by_cases h4 : n3 = 4
      case neg =>
        have E : Hid (scan (writeF S.k) S.nw = 3) := by
          have : writeF S.k k = 3 := by
            unfold writeF
            rw [NN.out.1, NN.out.2.1, NN.out.2.2.1, NN.out.2.2.2]
            rw [if_neg (fun h => h G0.out)]
            rw [if_pos (by omega)]
          exact (scan_stop HS.out (by rw [this]; decide) hlt).trans this
        have hn4 : (n3 == 4) = false := beq_eq_false_iff_ne.2 h4
        clear h3 h4 HS NN FT G0 G1 G2
        go_wp2_with fail
        refine (L0.out _).mono ?_
        rintro e w1 ⟨rfl, rfl⟩
        go_wp2_with fail
        refine (isTime_is _ true L1.out _).mono ?_
        rintro e w1 ⟨rfl, rfl⟩
        go_wp2_with fail
        refine (isTime_is _ true L2.out _).mono ?_
        rintro e w1 ⟨rfl, rfl⟩
        go_wp2_with fail
        refine (isLockKind_is _ false L3.out _).mono ?_
        rintro e w1 ⟨rfl, rfl⟩
        go_wp2
        go_ret
        exact ⟨by rw [E.out]; rfl, by first | exact hbw.alloc hbw.size _ | exact below_dn (hbw.alloc hbw.size _) _ | exact below_dn (below_dn (hbw.alloc hbw.size _) _) _⟩
      subst h4
      have G3 : Hid ((4 : Int) = 4) := rfl
      clear h3
      by_cases hf : ((4 : Int) = 4 → n1 = n2) ∧ ((4 : Int) ≠ 4 → n2 < n1)
      · have D : Hid (∀ w, Calls Tryz.prog 177 #[.agg #[.int .i64 n0, .int .i64 n1, .int .i64 n2, .int .i64 4]] w fun e w' => e = .returned (.bool true) ∧ Below w.heap.size w w') := fun w => commitFits_is n0 n1 n2 4 true (decide_eq_true hf) w
        have hft : Hid (fits S.k k) := FT.out.2 hf
        clear hf
        rcases Nat.eq_zero_or_pos k with hk0 | hk0
        · have E : Hid (scan (writeF S.k) (k + 1) = 0) := by
            have : writeF S.k k = 0 := by
              unfold writeF
              rw [NN.out.1, NN.out.2.1, NN.out.2.2.1, NN.out.2.2.2]
              rw [if_neg (fun h => h G0.out)]
              have g1 := G1.out; have g2 := G2.out; have g3 := G3.out; rw [if_neg (by omega)]
              rw [if_neg (fun h => h.elim (fun q => by omega) (fun q => q hft.out))]
            exact scan_go HS.out this
          have dk : decide (0 < k) = false := decide_eq_false (by omega)
          have h0 : FirstWrite w wr.heap.size n0 n1 n2 4 (wr.alloc (.cells #[.int .i64 n0, .int .i64 n1, .int .i64 n2, .int .i64 4] 211)).drew := ⟨⟨World.cell?_alloc_mark wr _ _ _ 0, World.cell?_alloc_mark wr _ _ _ 1, World.cell?_alloc_mark wr _ _ _ 2, World.cell?_alloc_mark wr _ _ _ 3⟩, (hbw.alloc hbw.size _).drew⟩
          clear HS NN FT G0 G1 G2 G3 hk0 hft
          go_wp2_with fail
          refine (L0.out _).mono ?_
          rintro e w1 ⟨rfl, rfl⟩
          go_wp2_with fail
          refine (isTime_is _ true L1.out _).mono ?_
          rintro e w1 ⟨rfl, rfl⟩
          go_wp2_with fail
          refine (isTime_is _ true L2.out _).mono ?_
          rintro e w1 ⟨rfl, rfl⟩
          go_wp2_with fail
          refine (isLockKind_is _ false L3.out _).mono ?_
          rintro e w1 ⟨rfl, rfl⟩
          go_wp2_with fail
          refine wp_region_held_drew (S := FirstWrite w wr.heap.size n0 n1 n2 4) (by kernel_rfl) h0 (fun hS => ?_)
          clear h0
          refine tkH 0 ?_ hS (fun wx hx => ?_) ?_; rotate_left
          · obtain ⟨⟨hx0, hx1, hx2, hx3⟩, _⟩ := hx; go_simp; try with_reducible rfl
          refine tkH 1 ?_ hS (fun wx hx => ?_) ?_; rotate_left
          · obtain ⟨⟨hx0, hx1, hx2, hx3⟩, _⟩ := hx; go_simp; try with_reducible rfl
          refine tkH 2 ?_ hS (fun wx hx => ?_) ?_; rotate_left
          · obtain ⟨⟨hx0, hx1, hx2, hx3⟩, _⟩ := hx; go_simp; try with_reducible rfl
          refine noH 3 hS ?_
          refine noH 4 hS ?_
          refine noH 5 hS ?_
          refine noH 6 hS ?_
          refine noH 7 hS ?_
          refine noH 8 hS ?_
          refine noH 9 hS ?_
          refine noH 10 hS ?_
          refine tkH 11 ?_ hS (fun wx hx => ?_) ?_; rotate_left
          · obtain ⟨⟨hx0, hx1, hx2, hx3⟩, _⟩ := hx; go_simp; try with_reducible rfl
          refine tkH 12 ?_ hS (fun wx hx => ?_) ?_; rotate_left
          · obtain ⟨⟨hx0, hx1, hx2, hx3⟩, _⟩ := hx; go_simp; try with_reducible rfl
          refine tkH 13 ?_ hS (fun wx hx => ?_) ?_; rotate_left
          · obtain ⟨⟨hx0, hx1, hx2, hx3⟩, _⟩ := hx; go_simp; try with_reducible rfl
          refine rdH 14 (fun K hK => ?_)
          go_simp
          go_wp2_with fail
          refine (D.out _).mono ?_
          rintro e w1 ⟨rfl, q1⟩
          have hS' := hS.later q1
          clear q1
          go_wp2_with fail
          refine hK.out _ _ hS' (fun hS => ?_)
          clear hK K hS'
          refine tkH 15 ?_ hS (fun wx hx => ?_) ?_; rotate_left
          · obtain ⟨⟨hx0, hx1, hx2, hx3⟩, _⟩ := hx; go_simp; try with_reducible rfl
          refine tkH 16 ?_ hS (fun wx hx => ?_) ?_; rotate_left
          · obtain ⟨⟨hx0, hx1, hx2, hx3⟩, _⟩ := hx; go_simp; try with_reducible rfl
          refine wpAnyH_done (by kernel_rfl) ?_ _
          go_simp
          go_wp2
          go_roundw
          case rel => exact ⟨k + 1, by omega, by go_num, E, hS.2⟩
          case measure => simp [intOf]; omega
        obtain ⟨g', o', he, _, _, y0, y1, y2, y3⟩ := (H.out.later hbw).at4 (k := k - 1) (by omega)
        simp only [Option.some.injEq, Addr.mk.injEq, and_true] at he
        obtain ⟨rfl, rfl⟩ := he
        obtain ⟨m0, M0⟩ : ∃ x, S.k ((k - 1) * 4) = x := ⟨_, rfl⟩
        rw [M0] at y0
        obtain ⟨m1, M1⟩ : ∃ x, S.k ((k - 1) * 4 + 1) = x := ⟨_, rfl⟩
        rw [M1] at y1
        obtain ⟨m2, M2⟩ : ∃ x, S.k ((k - 1) * 4 + 2) = x := ⟨_, rfl⟩
        rw [M2] at y2
        obtain ⟨m3, M3⟩ : ∃ x, S.k ((k - 1) * 4 + 3) = x := ⟨_, rfl⟩
        rw [M3] at y3
        have MM : Hid (S.k ((k - 1) * 4) = m0 ∧ S.k ((k - 1) * 4 + 1) = m1) := ⟨M0, M1⟩
        clear M0 M1 M2 M3
        have dk : decide (0 < k) = true := decide_eq_true hk0
        have hwr := wrap_pred k hk0 (by omega)
        have hkn : ((k - 1 : Nat) : Int) < (S.nw : Int) := by omega
        obtain ⟨r, HR⟩ : ∃ r, Hid (orOf (cmpOf m0 n0) (cmpOf m1 n1) = r) := ⟨_, rfl⟩
        have HO : Hid (r < 0 ↔ m0 < n0 ∨ m0 = n0 ∧ m1 < n1) := by unfold Hid; rw [← HR.out]; exact orOf_neg _ _ _ _
        have h0 : PrevWrite w g o k wr.heap.size m0 m1 m2 m3 n0 n1 n2 4 (wr.alloc (.cells #[.int .i64 n0, .int .i64 n1, .int .i64 n2, .int .i64 4] 211)).drew := ⟨⟨(World.cell?_alloc_lt _ _ _ hg).trans y0, (World.cell?_alloc_lt _ _ _ hg).trans y1, (World.cell?_alloc_lt _ _ _ hg).trans y2, (World.cell?_alloc_lt _ _ _ hg).trans y3, World.cell?_alloc_mark wr _ _ _ 0, World.cell?_alloc_mark wr _ _ _ 1, World.cell?_alloc_mark wr _ _ _ 2, World.cell?_alloc_mark wr _ _ _ 3⟩, (hbw.alloc hbw.size _).drew⟩
        by_cases hr : 0 ≤ r
        · have E : Hid (scan (writeF S.k) S.nw = 1) := by
            have : writeF S.k k = 1 := by
              unfold writeF
              rw [NN.out.1, NN.out.2.1, NN.out.2.2.1, NN.out.2.2.2]
              rw [if_neg (fun h => h G0.out)]
              have g1 := G1.out; have g2 := G2.out; have g3 := G3.out; rw [if_neg (by omega)]
              rw [MM.out.1, MM.out.2]
              have ho := HO.out
              rw [if_pos (Or.inl ⟨hk0, by omega⟩)]
            exact (scan_stop HS.out (by rw [this]; decide) hlt).trans this
          have dr : decide (0 ≤ r) = true := decide_eq_true hr
          clear HS NN FT G0 G1 G2 G3 MM HO hr hft
          go_wp2_with fail
          refine (L0.out _).mono ?_
          rintro e w1 ⟨rfl, rfl⟩
          go_wp2_with fail
          refine (isTime_is _ true L1.out _).mono ?_
          rintro e w1 ⟨rfl, rfl⟩
          go_wp2_with fail
          refine (isTime_is _ true L2.out _).mono ?_
          rintro e w1 ⟨rfl, rfl⟩
          go_wp2_with fail
          refine (isLockKind_is _ false L3.out _).mono ?_
          rintro e w1 ⟨rfl, rfl⟩
          go_wp2_with fail
          refine wp_region_held_drew (S := PrevWrite w g o k wr.heap.size m0 m1 m2 m3 n0 n1 n2 4) (by kernel_rfl) h0 (fun hS => ?_)
          clear h0
          refine tkH 0 ?_ hS (fun wx hx => ?_) ?_; rotate_left
          · obtain ⟨⟨hx0, hx1, hx2, hx3, hx4, hx5, hx6, hx7⟩, _⟩ := hx; go_simp; try with_reducible rfl
          refine tkH 1 ?_ hS (fun wx hx => ?_) ?_; rotate_left
          · obtain ⟨⟨hx0, hx1, hx2, hx3, hx4, hx5, hx6, hx7⟩, _⟩ := hx; go_simp; try with_reducible rfl
          refine tkH 2 ?_ hS (fun wx hx => ?_) ?_; rotate_left
          · obtain ⟨⟨hx0, hx1, hx2, hx3, hx4, hx5, hx6, hx7⟩, _⟩ := hx; go_simp; try with_reducible rfl
          refine tkH 3 ?_ hS (fun wx hx => ?_) ?_; rotate_left
          · obtain ⟨⟨hx0, hx1, hx2, hx3, hx4, hx5, hx6, hx7⟩, _⟩ := hx; go_simp; try with_reducible rfl
          refine tkH 4 ?_ hS (fun wx hx => ?_) ?_; rotate_left
          · obtain ⟨⟨hx0, hx1, hx2, hx3, hx4, hx5, hx6, hx7⟩, _⟩ := hx; go_simp; try with_reducible rfl
          refine tkH 5 ?_ hS (fun wx hx => ?_) ?_; rotate_left
          · obtain ⟨⟨hx0, hx1, hx2, hx3, hx4, hx5, hx6, hx7⟩, _⟩ := hx; go_simp; try with_reducible rfl
          refine tkH 6 ?_ hS (fun wx hx => ?_) ?_; rotate_left
          · obtain ⟨⟨hx0, hx1, hx2, hx3, hx4, hx5, hx6, hx7⟩, _⟩ := hx; go_simp; try with_reducible rfl
          refine tkH 7 ?_ hS (fun wx hx => ?_) ?_; rotate_left
          · obtain ⟨⟨hx0, hx1, hx2, hx3, hx4, hx5, hx6, hx7⟩, _⟩ := hx; go_simp; try with_reducible rfl
          refine tkH 8 ?_ hS (fun wx hx => ?_) ?_; rotate_left
          · obtain ⟨⟨hx0, hx1, hx2, hx3, hx4, hx5, hx6, hx7⟩, _⟩ := hx; go_simp; try with_reducible rfl
          refine rdH 9 (fun K hK => ?_)
          go_simp
          go_wp2_with fail
          refine (compareWrites_is _ _ _ _ _ _ _ _ r HR.out _).mono ?_
          rintro e w1 ⟨rfl, q1⟩
          have hS' := hS.later q1
          clear q1
          go_wp2_with fail
          refine hK.out _ _ hS' (fun hS => ?_)
          clear hK K hS'
          refine tkH 10 ?_ hS (fun wx hx => ?_) ?_; rotate_left
          · obtain ⟨⟨hx0, hx1, hx2, hx3, hx4, hx5, hx6, hx7⟩, _⟩ := hx; go_simp; try with_reducible rfl
          refine tkH 11 ?_ hS (fun wx hx => ?_) ?_; rotate_left
          · obtain ⟨⟨hx0, hx1, hx2, hx3, hx4, hx5, hx6, hx7⟩, _⟩ := hx; go_simp; try with_reducible rfl
          refine tkH 12 ?_ hS (fun wx hx => ?_) ?_; rotate_left
          · obtain ⟨⟨hx0, hx1, hx2, hx3, hx4, hx5, hx6, hx7⟩, _⟩ := hx; go_simp; try with_reducible rfl
          refine noH 13 hS ?_
          refine noH 14 hS ?_
          refine noH 15 hS ?_
          refine tkH 16 ?_ hS (fun wx hx => ?_) ?_; rotate_left
          · obtain ⟨⟨hx0, hx1, hx2, hx3, hx4, hx5, hx6, hx7⟩, _⟩ := hx; go_simp; try with_reducible rfl
          refine wpAnyH_done (by kernel_rfl) ?_ _
          go_simp
          go_wp2
          go_ret
          exact ⟨by rw [E.out]; rfl, hS.2⟩
        · have E : Hid (scan (writeF S.k) (k + 1) = 0) := by
            have : writeF S.k k = 0 := by
              unfold writeF
              rw [NN.out.1, NN.out.2.1, NN.out.2.2.1, NN.out.2.2.2]
              rw [if_neg (fun h => h G0.out)]
              have g1 := G1.out; have g2 := G2.out; have g3 := G3.out; rw [if_neg (by omega)]
              rw [MM.out.1, MM.out.2]
              have ho := HO.out
              rw [if_neg (fun h => h.elim (fun q => q.2 (by omega)) (fun q => q hft.out))]
            exact scan_go HS.out this
          have dr : decide (0 ≤ r) = false := decide_eq_false hr
          clear HS NN FT G0 G1 G2 G3 MM HO hr hft
          go_wp2_with fail
          refine (L0.out _).mono ?_
          rintro e w1 ⟨rfl, rfl⟩
          go_wp2_with fail
          refine (isTime_is _ true L1.out _).mono ?_
          rintro e w1 ⟨rfl, rfl⟩
          go_wp2_with fail
          refine (isTime_is _ true L2.out _).mono ?_
          rintro e w1 ⟨rfl, rfl⟩
          go_wp2_with fail
          refine (isLockKind_is _ false L3.out _).mono ?_
          rintro e w1 ⟨rfl, rfl⟩
          go_wp2_with fail
          refine wp_region_held_drew (S := PrevWrite w g o k wr.heap.size m0 m1 m2 m3 n0 n1 n2 4) (by kernel_rfl) h0 (fun hS => ?_)
          clear h0
          refine tkH 0 ?_ hS (fun wx hx => ?_) ?_; rotate_left
          · obtain ⟨⟨hx0, hx1, hx2, hx3, hx4, hx5, hx6, hx7⟩, _⟩ := hx; go_simp; try with_reducible rfl
          refine tkH 1 ?_ hS (fun wx hx => ?_) ?_; rotate_left
          · obtain ⟨⟨hx0, hx1, hx2, hx3, hx4, hx5, hx6, hx7⟩, _⟩ := hx; go_simp; try with_reducible rfl
          refine tkH 2 ?_ hS (fun wx hx => ?_) ?_; rotate_left
          · obtain ⟨⟨hx0, hx1, hx2, hx3, hx4, hx5, hx6, hx7⟩, _⟩ := hx; go_simp; try with_reducible rfl
          refine tkH 3 ?_ hS (fun wx hx => ?_) ?_; rotate_left
          · obtain ⟨⟨hx0, hx1, hx2, hx3, hx4, hx5, hx6, hx7⟩, _⟩ := hx; go_simp; try with_reducible rfl
          refine tkH 4 ?_ hS (fun wx hx => ?_) ?_; rotate_left
          · obtain ⟨⟨hx0, hx1, hx2, hx3, hx4, hx5, hx6, hx7⟩, _⟩ := hx; go_simp; try with_reducible rfl
          refine tkH 5 ?_ hS (fun wx hx => ?_) ?_; rotate_left
          · obtain ⟨⟨hx0, hx1, hx2, hx3, hx4, hx5, hx6, hx7⟩, _⟩ := hx; go_simp; try with_reducible rfl
          refine tkH 6 ?_ hS (fun wx hx => ?_) ?_; rotate_left
          · obtain ⟨⟨hx0, hx1, hx2, hx3, hx4, hx5, hx6, hx7⟩, _⟩ := hx; go_simp; try with_reducible rfl
          refine tkH 7 ?_ hS (fun wx hx => ?_) ?_; rotate_left
          · obtain ⟨⟨hx0, hx1, hx2, hx3, hx4, hx5, hx6, hx7⟩, _⟩ := hx; go_simp; try with_reducible rfl
          refine tkH 8 ?_ hS (fun wx hx => ?_) ?_; rotate_left
          · obtain ⟨⟨hx0, hx1, hx2, hx3, hx4, hx5, hx6, hx7⟩, _⟩ := hx; go_simp; try with_reducible rfl
          refine rdH 9 (fun K hK => ?_)
          go_simp
          go_wp2_with fail
          refine (compareWrites_is _ _ _ _ _ _ _ _ r HR.out _).mono ?_
          rintro e w1 ⟨rfl, q1⟩
          have hS' := hS.later q1
          clear q1
          go_wp2_with fail
          refine hK.out _ _ hS' (fun hS => ?_)
          clear hK K hS'
          refine tkH 10 ?_ hS (fun wx hx => ?_) ?_; rotate_left
          · obtain ⟨⟨hx0, hx1, hx2, hx3, hx4, hx5, hx6, hx7⟩, _⟩ := hx; go_simp; try with_reducible rfl
          refine tkH 11 ?_ hS (fun wx hx => ?_) ?_; rotate_left
          · obtain ⟨⟨hx0, hx1, hx2, hx3, hx4, hx5, hx6, hx7⟩, _⟩ := hx; go_simp; try with_reducible rfl
          refine tkH 12 ?_ hS (fun wx hx => ?_) ?_; rotate_left
          · obtain ⟨⟨hx0, hx1, hx2, hx3, hx4, hx5, hx6, hx7⟩, _⟩ := hx; go_simp; try with_reducible rfl
          refine tkH 13 ?_ hS (fun wx hx => ?_) ?_; rotate_left
          · obtain ⟨⟨hx0, hx1, hx2, hx3, hx4, hx5, hx6, hx7⟩, _⟩ := hx; go_simp; try with_reducible rfl
          refine rdH 14 (fun K hK => ?_)
          go_simp
          go_wp2_with fail
          refine (D.out _).mono ?_
          rintro e w1 ⟨rfl, q1⟩
          have hS' := hS.later q1
          clear q1
          go_wp2_with fail
          refine hK.out _ _ hS' (fun hS => ?_)
          clear hK K hS'
          refine tkH 15 ?_ hS (fun wx hx => ?_) ?_; rotate_left
          · obtain ⟨⟨hx0, hx1, hx2, hx3, hx4, hx5, hx6, hx7⟩, _⟩ := hx; go_simp; try with_reducible rfl
          refine tkH 16 ?_ hS (fun wx hx => ?_) ?_; rotate_left
          · obtain ⟨⟨hx0, hx1, hx2, hx3, hx4, hx5, hx6, hx7⟩, _⟩ := hx; go_simp; try with_reducible rfl
          refine wpAnyH_done (by kernel_rfl) ?_ _
          go_simp
          go_wp2
          go_roundw
          case rel => exact ⟨k + 1, by omega, by go_num, E, hS.2⟩
          case measure => simp [intOf]; omega
      · have D : Hid (∀ w, Calls Tryz.prog 177 #[.agg #[.int .i64 n0, .int .i64 n1, .int .i64 n2, .int .i64 4]] w fun e w' => e = .returned (.bool false) ∧ Below w.heap.size w w') := fun w => commitFits_is n0 n1 n2 4 false (decide_eq_false hf) w
        have hft : Hid (¬ fits S.k k) := fun h => hf (FT.out.1 h)
        clear hf
        rcases Nat.eq_zero_or_pos k with hk0 | hk0
        · have E : Hid (scan (writeF S.k) S.nw = 1) := by
            have : writeF S.k k = 1 := by
              unfold writeF
              rw [NN.out.1, NN.out.2.1, NN.out.2.2.1, NN.out.2.2.2]
              rw [if_neg (fun h => h G0.out)]
              have g1 := G1.out; have g2 := G2.out; have g3 := G3.out; rw [if_neg (by omega)]
              rw [if_pos (Or.inr hft.out)]
            exact (scan_stop HS.out (by rw [this]; decide) hlt).trans this
          have dk : decide (0 < k) = false := decide_eq_false (by omega)
          have h0 : FirstWrite w wr.heap.size n0 n1 n2 4 (wr.alloc (.cells #[.int .i64 n0, .int .i64 n1, .int .i64 n2, .int .i64 4] 211)).drew := ⟨⟨World.cell?_alloc_mark wr _ _ _ 0, World.cell?_alloc_mark wr _ _ _ 1, World.cell?_alloc_mark wr _ _ _ 2, World.cell?_alloc_mark wr _ _ _ 3⟩, (hbw.alloc hbw.size _).drew⟩
          clear HS NN FT G0 G1 G2 G3 hk0 hft
          go_wp2_with fail
          refine (L0.out _).mono ?_
          rintro e w1 ⟨rfl, rfl⟩
          go_wp2_with fail
          refine (isTime_is _ true L1.out _).mono ?_
          rintro e w1 ⟨rfl, rfl⟩
          go_wp2_with fail
          refine (isTime_is _ true L2.out _).mono ?_
          rintro e w1 ⟨rfl, rfl⟩
          go_wp2_with fail
          refine (isLockKind_is _ false L3.out _).mono ?_
          rintro e w1 ⟨rfl, rfl⟩
          go_wp2_with fail
          refine wp_region_held_drew (S := FirstWrite w wr.heap.size n0 n1 n2 4) (by kernel_rfl) h0 (fun hS => ?_)
          clear h0
          refine tkH 0 ?_ hS (fun wx hx => ?_) ?_; rotate_left
          · obtain ⟨⟨hx0, hx1, hx2, hx3⟩, _⟩ := hx; go_simp; try with_reducible rfl
          refine tkH 1 ?_ hS (fun wx hx => ?_) ?_; rotate_left
          · obtain ⟨⟨hx0, hx1, hx2, hx3⟩, _⟩ := hx; go_simp; try with_reducible rfl
          refine tkH 2 ?_ hS (fun wx hx => ?_) ?_; rotate_left
          · obtain ⟨⟨hx0, hx1, hx2, hx3⟩, _⟩ := hx; go_simp; try with_reducible rfl
          refine noH 3 hS ?_
          refine noH 4 hS ?_
          refine noH 5 hS ?_
          refine noH 6 hS ?_
          refine noH 7 hS ?_
          refine noH 8 hS ?_
          refine noH 9 hS ?_
          refine noH 10 hS ?_
          refine tkH 11 ?_ hS (fun wx hx => ?_) ?_; rotate_left
          · obtain ⟨⟨hx0, hx1, hx2, hx3⟩, _⟩ := hx; go_simp; try with_reducible rfl
          refine tkH 12 ?_ hS (fun wx hx => ?_) ?_; rotate_left
          · obtain ⟨⟨hx0, hx1, hx2, hx3⟩, _⟩ := hx; go_simp; try with_reducible rfl
          refine tkH 13 ?_ hS (fun wx hx => ?_) ?_; rotate_left
          · obtain ⟨⟨hx0, hx1, hx2, hx3⟩, _⟩ := hx; go_simp; try with_reducible rfl
          refine rdH 14 (fun K hK => ?_)
          go_simp
          go_wp2_with fail
          refine (D.out _).mono ?_
          rintro e w1 ⟨rfl, q1⟩
          have hS' := hS.later q1
          clear q1
          go_wp2_with fail
          refine hK.out _ _ hS' (fun hS => ?_)
          clear hK K hS'
          refine tkH 15 ?_ hS (fun wx hx => ?_) ?_; rotate_left
          · obtain ⟨⟨hx0, hx1, hx2, hx3⟩, _⟩ := hx; go_simp; try with_reducible rfl
          refine tkH 16 ?_ hS (fun wx hx => ?_) ?_; rotate_left
          · obtain ⟨⟨hx0, hx1, hx2, hx3⟩, _⟩ := hx; go_simp; try with_reducible rfl
          refine wpAnyH_done (by kernel_rfl) ?_ _
          go_simp
          go_wp2
          go_ret
          exact ⟨by rw [E.out]; rfl, hS.2⟩
        obtain ⟨g', o', he, _, _, y0, y1, y2, y3⟩ := (H.out.later hbw).at4 (k := k - 1) (by omega)
        simp only [Option.some.injEq, Addr.mk.injEq, and_true] at he
        obtain ⟨rfl, rfl⟩ := he
        obtain ⟨m0, M0⟩ : ∃ x, S.k ((k - 1) * 4) = x := ⟨_, rfl⟩
        rw [M0] at y0
        obtain ⟨m1, M1⟩ : ∃ x, S.k ((k - 1) * 4 + 1) = x := ⟨_, rfl⟩
        rw [M1] at y1
        obtain ⟨m2, M2⟩ : ∃ x, S.k ((k - 1) * 4 + 2) = x := ⟨_, rfl⟩
        rw [M2] at y2
        obtain ⟨m3, M3⟩ : ∃ x, S.k ((k - 1) * 4 + 3) = x := ⟨_, rfl⟩
        rw [M3] at y3
        have MM : Hid (S.k ((k - 1) * 4) = m0 ∧ S.k ((k - 1) * 4 + 1) = m1) := ⟨M0, M1⟩
        clear M0 M1 M2 M3
        have dk : decide (0 < k) = true := decide_eq_true hk0
        have hwr := wrap_pred k hk0 (by omega)
        have hkn : ((k - 1 : Nat) : Int) < (S.nw : Int) := by omega
        obtain ⟨r, HR⟩ : ∃ r, Hid (orOf (cmpOf m0 n0) (cmpOf m1 n1) = r) := ⟨_, rfl⟩
        have HO : Hid (r < 0 ↔ m0 < n0 ∨ m0 = n0 ∧ m1 < n1) := by unfold Hid; rw [← HR.out]; exact orOf_neg _ _ _ _
        have h0 : PrevWrite w g o k wr.heap.size m0 m1 m2 m3 n0 n1 n2 4 (wr.alloc (.cells #[.int .i64 n0, .int .i64 n1, .int .i64 n2, .int .i64 4] 211)).drew := ⟨⟨(World.cell?_alloc_lt _ _ _ hg).trans y0, (World.cell?_alloc_lt _ _ _ hg).trans y1, (World.cell?_alloc_lt _ _ _ hg).trans y2, (World.cell?_alloc_lt _ _ _ hg).trans y3, World.cell?_alloc_mark wr _ _ _ 0, World.cell?_alloc_mark wr _ _ _ 1, World.cell?_alloc_mark wr _ _ _ 2, World.cell?_alloc_mark wr _ _ _ 3⟩, (hbw.alloc hbw.size _).drew⟩
        by_cases hr : 0 ≤ r
        · have E : Hid (scan (writeF S.k) S.nw = 1) := by
            have : writeF S.k k = 1 := by
              unfold writeF
              rw [NN.out.1, NN.out.2.1, NN.out.2.2.1, NN.out.2.2.2]
              rw [if_neg (fun h => h G0.out)]
              have g1 := G1.out; have g2 := G2.out; have g3 := G3.out; rw [if_neg (by omega)]
              rw [MM.out.1, MM.out.2]
              have ho := HO.out
              rw [if_pos (Or.inl ⟨hk0, by omega⟩)]
            exact (scan_stop HS.out (by rw [this]; decide) hlt).trans this
          have dr : decide (0 ≤ r) = true := decide_eq_true hr
          clear HS NN FT G0 G1 G2 G3 MM HO hr hft
          go_wp2_with fail
          refine (L0.out _).mono ?_
          rintro e w1 ⟨rfl, rfl⟩
          go_wp2_with fail
          refine (isTime_is _ true L1.out _).mono ?_
          rintro e w1 ⟨rfl, rfl⟩
          go_wp2_with fail
          refine (isTime_is _ true L2.out _).mono ?_
          rintro e w1 ⟨rfl, rfl⟩
          go_wp2_with fail
          refine (isLockKind_is _ false L3.out _).mono ?_
          rintro e w1 ⟨rfl, rfl⟩
          go_wp2_with fail
          refine wp_region_held_drew (S := PrevWrite w g o k wr.heap.size m0 m1 m2 m3 n0 n1 n2 4) (by kernel_rfl) h0 (fun hS => ?_)
          clear h0
          refine tkH 0 ?_ hS (fun wx hx => ?_) ?_; rotate_left
          · obtain ⟨⟨hx0, hx1, hx2, hx3, hx4, hx5, hx6, hx7⟩, _⟩ := hx; go_simp; try with_reducible rfl
          refine tkH 1 ?_ hS (fun wx hx => ?_) ?_; rotate_left
          · obtain ⟨⟨hx0, hx1, hx2, hx3, hx4, hx5, hx6, hx7⟩, _⟩ := hx; go_simp; try with_reducible rfl
          refine tkH 2 ?_ hS (fun wx hx => ?_) ?_; rotate_left
          · obtain ⟨⟨hx0, hx1, hx2, hx3, hx4, hx5, hx6, hx7⟩, _⟩ := hx; go_simp; try with_reducible rfl
          refine tkH 3 ?_ hS (fun wx hx => ?_) ?_; rotate_left
          · obtain ⟨⟨hx0, hx1, hx2, hx3, hx4, hx5, hx6, hx7⟩, _⟩ := hx; go_simp; try with_reducible rfl
          refine tkH 4 ?_ hS (fun wx hx => ?_) ?_; rotate_left
          · obtain ⟨⟨hx0, hx1, hx2, hx3, hx4, hx5, hx6, hx7⟩, _⟩ := hx; go_simp; try with_reducible rfl
          refine tkH 5 ?_ hS (fun wx hx => ?_) ?_; rotate_left
          · obtain ⟨⟨hx0, hx1, hx2, hx3, hx4, hx5, hx6, hx7⟩, _⟩ := hx; go_simp; try with_reducible rfl
          refine tkH 6 ?_ hS (fun wx hx => ?_) ?_; rotate_left
          · obtain ⟨⟨hx0, hx1, hx2, hx3, hx4, hx5, hx6, hx7⟩, _⟩ := hx; go_simp; try with_reducible rfl
          refine tkH 7 ?_ hS (fun wx hx => ?_) ?_; rotate_left
          · obtain ⟨⟨hx0, hx1, hx2, hx3, hx4, hx5, hx6, hx7⟩, _⟩ := hx; go_simp; try with_reducible rfl
          refine tkH 8 ?_ hS (fun wx hx => ?_) ?_; rotate_left
          · obtain ⟨⟨hx0, hx1, hx2, hx3, hx4, hx5, hx6, hx7⟩, _⟩ := hx; go_simp; try with_reducible rfl
          refine rdH 9 (fun K hK => ?_)
          go_simp
          go_wp2_with fail
          refine (compareWrites_is _ _ _ _ _ _ _ _ r HR.out _).mono ?_
          rintro e w1 ⟨rfl, q1⟩
          have hS' := hS.later q1
          clear q1
          go_wp2_with fail
          refine hK.out _ _ hS' (fun hS => ?_)
          clear hK K hS'
          refine tkH 10 ?_ hS (fun wx hx => ?_) ?_; rotate_left
          · obtain ⟨⟨hx0, hx1, hx2, hx3, hx4, hx5, hx6, hx7⟩, _⟩ := hx; go_simp; try with_reducible rfl
          refine tkH 11 ?_ hS (fun wx hx => ?_) ?_; rotate_left
          · obtain ⟨⟨hx0, hx1, hx2, hx3, hx4, hx5, hx6, hx7⟩, _⟩ := hx; go_simp; try with_reducible rfl
          refine tkH 12 ?_ hS (fun wx hx => ?_) ?_; rotate_left
          · obtain ⟨⟨hx0, hx1, hx2, hx3, hx4, hx5, hx6, hx7⟩, _⟩ := hx; go_simp; try with_reducible rfl
          refine noH 13 hS ?_
          refine noH 14 hS ?_
          refine noH 15 hS ?_
          refine tkH 16 ?_ hS (fun wx hx => ?_) ?_; rotate_left
          · obtain ⟨⟨hx0, hx1, hx2, hx3, hx4, hx5, hx6, hx7⟩, _⟩ := hx; go_simp; try with_reducible rfl
          refine wpAnyH_done (by kernel_rfl) ?_ _
          go_simp
          go_wp2
          go_ret
          exact ⟨by rw [E.out]; rfl, hS.2⟩
        · have E : Hid (scan (writeF S.k) S.nw = 1) := by
            have : writeF S.k k = 1 := by
              unfold writeF
              rw [NN.out.1, NN.out.2.1, NN.out.2.2.1, NN.out.2.2.2]
              rw [if_neg (fun h => h G0.out)]
              have g1 := G1.out; have g2 := G2.out; have g3 := G3.out; rw [if_neg (by omega)]
              rw [MM.out.1, MM.out.2]
              have ho := HO.out
              rw [if_pos (Or.inr hft.out)]
            exact (scan_stop HS.out (by rw [this]; decide) hlt).trans this
          have dr : decide (0 ≤ r) = false := decide_eq_false hr
          clear HS NN FT G0 G1 G2 G3 MM HO hr hft
          go_wp2_with fail
          refine (L0.out _).mono ?_
          rintro e w1 ⟨rfl, rfl⟩
          go_wp2_with fail
          refine (isTime_is _ true L1.out _).mono ?_
          rintro e w1 ⟨rfl, rfl⟩
          go_wp2_with fail
          refine (isTime_is _ true L2.out _).mono ?_
          rintro e w1 ⟨rfl, rfl⟩
          go_wp2_with fail
          refine (isLockKind_is _ false L3.out _).mono ?_
          rintro e w1 ⟨rfl, rfl⟩
          go_wp2_with fail
          refine wp_region_held_drew (S := PrevWrite w g o k wr.heap.size m0 m1 m2 m3 n0 n1 n2 4) (by kernel_rfl) h0 (fun hS => ?_)
          clear h0
          refine tkH 0 ?_ hS (fun wx hx => ?_) ?_; rotate_left
          · obtain ⟨⟨hx0, hx1, hx2, hx3, hx4, hx5, hx6, hx7⟩, _⟩ := hx; go_simp; try with_reducible rfl
          refine tkH 1 ?_ hS (fun wx hx => ?_) ?_; rotate_left
          · obtain ⟨⟨hx0, hx1, hx2, hx3, hx4, hx5, hx6, hx7⟩, _⟩ := hx; go_simp; try with_reducible rfl
          refine tkH 2 ?_ hS (fun wx hx => ?_) ?_; rotate_left
          · obtain ⟨⟨hx0, hx1, hx2, hx3, hx4, hx5, hx6, hx7⟩, _⟩ := hx; go_simp; try with_reducible rfl
          refine tkH 3 ?_ hS (fun wx hx => ?_) ?_; rotate_left
          · obtain ⟨⟨hx0, hx1, hx2, hx3, hx4, hx5, hx6, hx7⟩, _⟩ := hx; go_simp; try with_reducible rfl
          refine tkH 4 ?_ hS (fun wx hx => ?_) ?_; rotate_left
          · obtain ⟨⟨hx0, hx1, hx2, hx3, hx4, hx5, hx6, hx7⟩, _⟩ := hx; go_simp; try with_reducible rfl
          refine tkH 5 ?_ hS (fun wx hx => ?_) ?_; rotate_left
          · obtain ⟨⟨hx0, hx1, hx2, hx3, hx4, hx5, hx6, hx7⟩, _⟩ := hx; go_simp; try with_reducible rfl
          refine tkH 6 ?_ hS (fun wx hx => ?_) ?_; rotate_left
          · obtain ⟨⟨hx0, hx1, hx2, hx3, hx4, hx5, hx6, hx7⟩, _⟩ := hx; go_simp; try with_reducible rfl
          refine tkH 7 ?_ hS (fun wx hx => ?_) ?_; rotate_left
          · obtain ⟨⟨hx0, hx1, hx2, hx3, hx4, hx5, hx6, hx7⟩, _⟩ := hx; go_simp; try with_reducible rfl
          refine tkH 8 ?_ hS (fun wx hx => ?_) ?_; rotate_left
          · obtain ⟨⟨hx0, hx1, hx2, hx3, hx4, hx5, hx6, hx7⟩, _⟩ := hx; go_simp; try with_reducible rfl
          refine rdH 9 (fun K hK => ?_)
          go_simp
          go_wp2_with fail
          refine (compareWrites_is _ _ _ _ _ _ _ _ r HR.out _).mono ?_
          rintro e w1 ⟨rfl, q1⟩
          have hS' := hS.later q1
          clear q1
          go_wp2_with fail
          refine hK.out _ _ hS' (fun hS => ?_)
          clear hK K hS'
          refine tkH 10 ?_ hS (fun wx hx => ?_) ?_; rotate_left
          · obtain ⟨⟨hx0, hx1, hx2, hx3, hx4, hx5, hx6, hx7⟩, _⟩ := hx; go_simp; try with_reducible rfl
          refine tkH 11 ?_ hS (fun wx hx => ?_) ?_; rotate_left
          · obtain ⟨⟨hx0, hx1, hx2, hx3, hx4, hx5, hx6, hx7⟩, _⟩ := hx; go_simp; try with_reducible rfl
          refine tkH 12 ?_ hS (fun wx hx => ?_) ?_; rotate_left
          · obtain ⟨⟨hx0, hx1, hx2, hx3, hx4, hx5, hx6, hx7⟩, _⟩ := hx; go_simp; try with_reducible rfl
          refine tkH 13 ?_ hS (fun wx hx => ?_) ?_; rotate_left
          · obtain ⟨⟨hx0, hx1, hx2, hx3, hx4, hx5, hx6, hx7⟩, _⟩ := hx; go_simp; try with_reducible rfl
          refine rdH 14 (fun K hK => ?_)
          go_simp
          go_wp2_with fail
          refine (D.out _).mono ?_
          rintro e w1 ⟨rfl, q1⟩
          have hS' := hS.later q1
          clear q1
          go_wp2_with fail
          refine hK.out _ _ hS' (fun hS => ?_)
          clear hK K hS'
          refine tkH 15 ?_ hS (fun wx hx => ?_) ?_; rotate_left
          · obtain ⟨⟨hx0, hx1, hx2, hx3, hx4, hx5, hx6, hx7⟩, _⟩ := hx; go_simp; try with_reducible rfl
          refine tkH 16 ?_ hS (fun wx hx => ?_) ?_; rotate_left
          · obtain ⟨⟨hx0, hx1, hx2, hx3, hx4, hx5, hx6, hx7⟩, _⟩ := hx; go_simp; try with_reducible rfl
          refine wpAnyH_done (by kernel_rfl) ?_ _
          go_simp
          go_wp2
          go_ret
          exact ⟨by rw [E.out]; rfl, hS.2⟩
end Go.Proofs.YtphfiojhpfdpdaaGreat

