/-
  Own text. Chapter 8: TxnFault of the program and of the model: one plain function of the numbers.
-/
import Derived.Test.YtjimckfkbkfggaaTxnG
namespace Go.Proofs.Ytjimckfkbkfggaa
open Go.RowKit

theorem SuitsT.get {s c st : Int} (h : 1 ≤ st ∧ st ≤ 7) : ∃ r, SuitsT s c st r := by
  have h7 : st = 1 ∨ (st = 2 ∨ st = 3 ∨ st = 4) ∨ (st = 5 ∨ st = 6 ∨ st = 7) := by omega
  rcases h7 with h | h | h
  · exact ⟨_, Or.inl ⟨h, rfl⟩⟩
  · exact ⟨_, Or.inr (Or.inl ⟨h, rfl⟩)⟩
  · exact ⟨_, Or.inr (Or.inr ⟨h, rfl⟩)⟩
theorem SuitsT.no {s c st : Int} (h : SuitsT s c st false) : (st = 2 ∨ st = 3 ∨ st = 4) ∧ c ≤ s ∨ st = 1 ∧ c ≠ 0 := by
  rcases h with ⟨h, e⟩ | ⟨h, e⟩ | ⟨h, e⟩
  · exact Or.inr ⟨h, beq_eq_false_iff_ne.1 e.symm⟩
  · exact Or.inl ⟨h, by have := of_decide_eq_false e.symm; omega⟩
  · cases e
theorem SuitsT.yes {s c st : Int} (h : SuitsT s c st true) : ¬ ((st = 2 ∨ st = 3 ∨ st = 4) ∧ c ≤ s ∨ st = 1 ∧ c ≠ 0) := by
  rcases h with ⟨h, e⟩ | ⟨h, e⟩ | ⟨h, e⟩
  · have := eq_of_beq e.symm; omega
  · have := of_decide_eq_true e.symm; omega
  · omega
set_option maxRecDepth 100000 in
set_option maxHeartbeats 4000000 in
theorem implTxnFault_none (s u st a : Int) (n : Nat) (F : Nat → Int) (y : Value) (w : World) (h : Row w 0 3 n F y) (hcap : CapOk y) :
    Calls Try.prog 16 #[.agg #[.int .i64 s, .int .i64 0, .int .i64 u, .int .i64 st, .int .i64 a, y]] w fun e w' => e = .returned (.int .i64 (txnF s 0 u st a n F)) ∧ Below w.heap.size w w' := by
  obtain ⟨ao, cp, rfl⟩ := h.form
  have H : Hid (Row w 0 3 n F (.slice ao n cp)) := h
  clear h
  by_cases h0 : 1 ≤ s ∧ s ≤ 100000
  case neg =>
    have D0 : Hid (decide (1 ≤ s ∧ s ≤ 100000) = false) := decide_eq_false h0
    have E : Hid (txnF s 0 u st a n F = 3) := txnF_range (Or.inl h0)
    clear h0
    go_enter Try.func16, Try.ntmps16
    go_wp2_with fail
    refine (isTimeT_is _ _ D0.out _).mono ?_
    rintro e w9 ⟨rfl, hw9⟩
    obtain rfl := hw9.symm
    go_wp2
    go_ret
    exact ⟨by rw [E.out]; rfl, below_alloc _ _⟩
  have D0 : Hid (decide (1 ≤ s ∧ s ≤ 100000) = true) := decide_eq_true h0
  by_cases h2 : 0 ≤ u ∧ u ≤ 100000
  case neg =>
    have D2 : Hid (decide (0 ≤ u ∧ u ≤ 100000) = false) := decide_eq_false h2
    have E : Hid (txnF s 0 u st a n F = 3) := txnF_range (Or.inr (Or.inr (Or.inl h2)))
    clear h0 h2
    go_enter Try.func16, Try.ntmps16
    go_wp2_with fail
    refine (isTimeT_is _ _ D0.out _).mono ?_
    rintro e w9 ⟨rfl, hw9⟩
    obtain rfl := hw9.symm
    go_wp2_with fail
    refine (isUntilT_is _ _ D2.out _).mono ?_
    rintro e w9 ⟨rfl, hw9⟩
    obtain rfl := hw9.symm
    go_wp2
    go_ret
    exact ⟨by rw [E.out]; rfl, below_alloc _ _⟩
  have D2 : Hid (decide (0 ≤ u ∧ u ≤ 100000) = true) := decide_eq_true h2
  by_cases h3 : 1 ≤ st ∧ st ≤ 7
  case neg =>
    have E : Hid (txnF s 0 u st a n F = 3) := txnF_range (Or.inr (Or.inr (Or.inr h3)))
    by_cases h4 : st < 1
    · have d : decide (st < 1) = true := decide_eq_true h4
      clear h0 h2 h3 h4
      go_enter Try.func16, Try.ntmps16
      go_wp2_with fail
      refine (isTimeT_is _ _ D0.out _).mono ?_
      rintro e w9 ⟨rfl, hw9⟩
      obtain rfl := hw9.symm
      go_wp2_with fail
      refine (isUntilT_is _ _ D2.out _).mono ?_
      rintro e w9 ⟨rfl, hw9⟩
      obtain rfl := hw9.symm
      go_wp2
      go_ret
      exact ⟨by rw [E.out]; rfl, below_alloc _ _⟩
    · have d : decide (st < 1) = false := decide_eq_false h4
      have d7 : decide (7 < st) = true := decide_eq_true (by omega)
      clear h0 h2 h3 h4
      go_enter Try.func16, Try.ntmps16
      go_wp2_with fail
      refine (isTimeT_is _ _ D0.out _).mono ?_
      rintro e w9 ⟨rfl, hw9⟩
      obtain rfl := hw9.symm
      go_wp2_with fail
      refine (isUntilT_is _ _ D2.out _).mono ?_
      rintro e w9 ⟨rfl, hw9⟩
      obtain rfl := hw9.symm
      go_wp2
      go_ret
      exact ⟨by rw [E.out]; rfl, below_alloc _ _⟩
  have d : decide (st < 1) = false := decide_eq_false (by omega)
  have d7 : decide (7 < st) = false := decide_eq_false (by omega)
  have HI : Hid (InB s 0 u st) := ⟨h0, ⟨by omega, by omega⟩, h2, h3⟩
  clear h0 h2
  by_cases hm : n < 1 ∨ 12 < n
  · have E : Hid (txnF s 0 u st a n F = 2) := txnF_many HI.out hm
    clear h3
    by_cases hm1 : n < 1
    · obtain rfl : n = 0 := by omega
      clear hm hm1
      go_enter Try.func16, Try.ntmps16
      go_wp2_with fail
      refine (isTimeT_is _ _ D0.out _).mono ?_
      rintro e w9 ⟨rfl, hw9⟩
      obtain rfl := hw9.symm
      go_wp2_with fail
      refine (isUntilT_is _ _ D2.out _).mono ?_
      rintro e w9 ⟨rfl, hw9⟩
      obtain rfl := hw9.symm
      go_wp2
      go_ret
      exact ⟨by rw [E.out]; rfl, below_alloc _ _⟩
    · have e1 : decide ((n : Int) < 1) = false := decide_eq_false (by omega)
      have e2 : decide ((12 : Int) < (n : Int)) = true := decide_eq_true (by omega)
      clear hm hm1
      go_enter Try.func16, Try.ntmps16
      go_wp2_with fail
      refine (isTimeT_is _ _ D0.out _).mono ?_
      rintro e w9 ⟨rfl, hw9⟩
      obtain rfl := hw9.symm
      go_wp2_with fail
      refine (isUntilT_is _ _ D2.out _).mono ?_
      rintro e w9 ⟨rfl, hw9⟩
      obtain rfl := hw9.symm
      go_wp2
      go_ret
      exact ⟨by rw [E.out]; rfl, below_alloc _ _⟩
  have HM : Hid (¬ (n < 1 ∨ 12 < n)) := hm
  have e1 : decide ((n : Int) < 1) = false := decide_eq_false (by omega)
  have e2 : decide ((12 : Int) < (n : Int)) = false := decide_eq_false (by omega)
  have hn12 : n ≤ 12 := by omega
  clear hm
  obtain ⟨f, hf⟩ : ∃ f, itemsF F n 0 = f := ⟨_, rfl⟩
  have HF : Hid (itemsF F n 0 = f) := hf
  clear hf
  by_cases hf : f = 0
  case neg =>
    have E : Hid (txnF s 0 u st a n F = f) := txnF_item HI.out HM.out HF.out hf
    have df : (f != 0) = true := bne_iff_ne.2 hf
    clear hf h3
    go_enter Try.func16, Try.ntmps16
    go_wp2_with fail
    refine (isTimeT_is _ _ D0.out _).mono ?_
    rintro e w9 ⟨rfl, hw9⟩
    obtain rfl := hw9.symm
    go_wp2_with fail
    refine (isUntilT_is _ _ D2.out _).mono ?_
    rintro e w9 ⟨rfl, hw9⟩
    obtain rfl := hw9.symm
    go_wp2_with fail
    refine (itemsFault_is _ 0 n F _ (H.out.alloc _) hcap hn12).mono ?_
    rintro e w1 ⟨rfl, q1⟩
    rw [HF.out]
    have Q : Hid (Below w.heap.size w w1) := (below_alloc _ _).trans (q1.mono (by simp))
    obtain ⟨⟨k0, k1, k2, k3, k4, k5⟩, _⟩ := (Blk6.new w (.int .i64 s) (.int .i64 0) (.int .i64 u) (.int .i64 st) (.int .i64 a) (.slice ao n cp) 29).later q1
    clear q1
    go_wp2
    go_ret
    exact ⟨by rw [E.out]; rfl, Q.out⟩
  subst hf
  by_cases ha : 0 ≤ a ∧ a ≤ n
  case neg =>
    have E : Hid (txnF s 0 u st a n F = 3) := txnF_at HI.out HM.out HF.out ha
    by_cases ha0 : a < 0
    · have da : decide (a < 0) = true := decide_eq_true ha0
      clear ha ha0 h3
      go_enter Try.func16, Try.ntmps16
      go_wp2_with fail
      refine (isTimeT_is _ _ D0.out _).mono ?_
      rintro e w9 ⟨rfl, hw9⟩
      obtain rfl := hw9.symm
      go_wp2_with fail
      refine (isUntilT_is _ _ D2.out _).mono ?_
      rintro e w9 ⟨rfl, hw9⟩
      obtain rfl := hw9.symm
      go_wp2_with fail
      refine (itemsFault_is _ 0 n F _ (H.out.alloc _) hcap hn12).mono ?_
      rintro e w1 ⟨rfl, q1⟩
      rw [HF.out]
      have Q : Hid (Below w.heap.size w w1) := (below_alloc _ _).trans (q1.mono (by simp))
      obtain ⟨⟨k0, k1, k2, k3, k4, k5⟩, _⟩ := (Blk6.new w (.int .i64 s) (.int .i64 0) (.int .i64 u) (.int .i64 st) (.int .i64 a) (.slice ao n cp) 29).later q1
      clear q1
      go_wp2
      go_ret
      exact ⟨by rw [E.out]; rfl, Q.out⟩
    · have da : decide (a < 0) = false := decide_eq_false ha0
      have db : decide ((n : Int) < a) = true := decide_eq_true (by omega)
      clear ha ha0 h3
      go_enter Try.func16, Try.ntmps16
      go_wp2_with fail
      refine (isTimeT_is _ _ D0.out _).mono ?_
      rintro e w9 ⟨rfl, hw9⟩
      obtain rfl := hw9.symm
      go_wp2_with fail
      refine (isUntilT_is _ _ D2.out _).mono ?_
      rintro e w9 ⟨rfl, hw9⟩
      obtain rfl := hw9.symm
      go_wp2_with fail
      refine (itemsFault_is _ 0 n F _ (H.out.alloc _) hcap hn12).mono ?_
      rintro e w1 ⟨rfl, q1⟩
      rw [HF.out]
      have Q : Hid (Below w.heap.size w w1) := (below_alloc _ _).trans (q1.mono (by simp))
      obtain ⟨⟨k0, k1, k2, k3, k4, k5⟩, _⟩ := (Blk6.new w (.int .i64 s) (.int .i64 0) (.int .i64 u) (.int .i64 st) (.int .i64 a) (.slice ao n cp) 29).later q1
      clear q1
      go_wp2
      go_ret
      exact ⟨by rw [E.out]; rfl, Q.out⟩
  have da : decide (a < 0) = false := decide_eq_false (by omega)
  have db : decide ((n : Int) < a) = false := decide_eq_false (by omega)
  obtain ⟨r, hr⟩ : ∃ r, SuitsT s 0 st r := SuitsT.get h3
  have HR : Hid (SuitsT s 0 st r) := hr
  have HA : Hid (0 ≤ a ∧ a ≤ n) := ha
  clear ha h3 hr
  cases r with
  | false =>
    have E : Hid (txnF s 0 u st a n F = 1) := txnF_form HI.out HM.out HF.out HA.out HR.out.no
    go_enter Try.func16, Try.ntmps16
    go_wp2_with fail
    refine (isTimeT_is _ _ D0.out _).mono ?_
    rintro e w9 ⟨rfl, hw9⟩
    obtain rfl := hw9.symm
    go_wp2_with fail
    refine (isUntilT_is _ _ D2.out _).mono ?_
    rintro e w9 ⟨rfl, hw9⟩
    obtain rfl := hw9.symm
    go_wp2_with fail
    refine (itemsFault_is _ 0 n F _ (H.out.alloc _) hcap hn12).mono ?_
    rintro e w1 ⟨rfl, q1⟩
    rw [HF.out]
    have Q : Hid (Below w.heap.size w w1) := (below_alloc _ _).trans (q1.mono (by simp))
    obtain ⟨⟨k0, k1, k2, k3, k4, k5⟩, _⟩ := (Blk6.new w (.int .i64 s) (.int .i64 0) (.int .i64 u) (.int .i64 st) (.int .i64 a) (.slice ao n cp) 29).later q1
    clear q1
    go_wp2_with fail
    refine (commitSuits_is s 0 u st a ao n cp _ HR.out hn12 _).mono ?_
    rintro e w2 ⟨rfl, q2⟩
    have Q : Hid (Below w.heap.size w w2) := Q.out.trans (q2.mono Q.out.size)
    clear q2
    go_wp2
    go_ret
    exact ⟨by rw [E.out]; rfl, Q.out⟩
  | true =>
    have E : Hid (txnF s 0 u st a n F = 0) := txnF_ok HI.out HM.out HF.out HA.out HR.out.yes
    go_enter Try.func16, Try.ntmps16
    go_wp2_with fail
    refine (isTimeT_is _ _ D0.out _).mono ?_
    rintro e w9 ⟨rfl, hw9⟩
    obtain rfl := hw9.symm
    go_wp2_with fail
    refine (isUntilT_is _ _ D2.out _).mono ?_
    rintro e w9 ⟨rfl, hw9⟩
    obtain rfl := hw9.symm
    go_wp2_with fail
    refine (itemsFault_is _ 0 n F _ (H.out.alloc _) hcap hn12).mono ?_
    rintro e w1 ⟨rfl, q1⟩
    rw [HF.out]
    have Q : Hid (Below w.heap.size w w1) := (below_alloc _ _).trans (q1.mono (by simp))
    obtain ⟨⟨k0, k1, k2, k3, k4, k5⟩, _⟩ := (Blk6.new w (.int .i64 s) (.int .i64 0) (.int .i64 u) (.int .i64 st) (.int .i64 a) (.slice ao n cp) 29).later q1
    clear q1
    go_wp2_with fail
    refine (commitSuits_is s 0 u st a ao n cp _ HR.out hn12 _).mono ?_
    rintro e w2 ⟨rfl, q2⟩
    have Q : Hid (Below w.heap.size w w2) := Q.out.trans (q2.mono Q.out.size)
    clear q2
    go_wp2
    go_ret
    exact ⟨by rw [E.out]; rfl, Q.out⟩
set_option maxRecDepth 100000 in
set_option maxHeartbeats 4000000 in
theorem implTxnFault_some (s c u st a : Int) (n : Nat) (F : Nat → Int) (y : Value) (w : World) (h : Row w 0 3 n F y) (hcap : CapOk y) (hc0 : c ≠ 0) (h1 : 0 ≤ c ∧ c ≤ 100000) :
    Calls Try.prog 16 #[.agg #[.int .i64 s, .int .i64 c, .int .i64 u, .int .i64 st, .int .i64 a, y]] w fun e w' => e = .returned (.int .i64 (txnF s c u st a n F)) ∧ Below w.heap.size w w' := by
  obtain ⟨ao, cp, rfl⟩ := h.form
  have H : Hid (Row w 0 3 n F (.slice ao n cp)) := h
  clear h
  have dc : (c != 0) = true := bne_iff_ne.2 hc0
  have DC : Hid (decide (1 ≤ c ∧ c ≤ 100000) = true) := decide_eq_true (by omega)
  by_cases h0 : 1 ≤ s ∧ s ≤ 100000
  case neg =>
    have D0 : Hid (decide (1 ≤ s ∧ s ≤ 100000) = false) := decide_eq_false h0
    have E : Hid (txnF s c u st a n F = 3) := txnF_range (Or.inl h0)
    clear h0
    go_enter Try.func16, Try.ntmps16
    go_wp2_with fail
    refine (isTimeT_is _ _ DC.out _).mono ?_
    rintro e w9 ⟨rfl, hw9⟩
    obtain rfl := hw9.symm
    go_wp2_with fail
    refine (isTimeT_is _ _ D0.out _).mono ?_
    rintro e w9 ⟨rfl, hw9⟩
    obtain rfl := hw9.symm
    go_wp2
    go_ret
    exact ⟨by rw [E.out]; rfl, below_alloc _ _⟩
  have D0 : Hid (decide (1 ≤ s ∧ s ≤ 100000) = true) := decide_eq_true h0
  by_cases h2 : 0 ≤ u ∧ u ≤ 100000
  case neg =>
    have D2 : Hid (decide (0 ≤ u ∧ u ≤ 100000) = false) := decide_eq_false h2
    have E : Hid (txnF s c u st a n F = 3) := txnF_range (Or.inr (Or.inr (Or.inl h2)))
    clear h0 h2
    go_enter Try.func16, Try.ntmps16
    go_wp2_with fail
    refine (isTimeT_is _ _ DC.out _).mono ?_
    rintro e w9 ⟨rfl, hw9⟩
    obtain rfl := hw9.symm
    go_wp2_with fail
    refine (isTimeT_is _ _ D0.out _).mono ?_
    rintro e w9 ⟨rfl, hw9⟩
    obtain rfl := hw9.symm
    go_wp2_with fail
    refine (isUntilT_is _ _ D2.out _).mono ?_
    rintro e w9 ⟨rfl, hw9⟩
    obtain rfl := hw9.symm
    go_wp2
    go_ret
    exact ⟨by rw [E.out]; rfl, below_alloc _ _⟩
  have D2 : Hid (decide (0 ≤ u ∧ u ≤ 100000) = true) := decide_eq_true h2
  by_cases h3 : 1 ≤ st ∧ st ≤ 7
  case neg =>
    have E : Hid (txnF s c u st a n F = 3) := txnF_range (Or.inr (Or.inr (Or.inr h3)))
    by_cases h4 : st < 1
    · have d : decide (st < 1) = true := decide_eq_true h4
      clear h0 h2 h3 h4
      go_enter Try.func16, Try.ntmps16
      go_wp2_with fail
      refine (isTimeT_is _ _ DC.out _).mono ?_
      rintro e w9 ⟨rfl, hw9⟩
      obtain rfl := hw9.symm
      go_wp2_with fail
      refine (isTimeT_is _ _ D0.out _).mono ?_
      rintro e w9 ⟨rfl, hw9⟩
      obtain rfl := hw9.symm
      go_wp2_with fail
      refine (isUntilT_is _ _ D2.out _).mono ?_
      rintro e w9 ⟨rfl, hw9⟩
      obtain rfl := hw9.symm
      go_wp2
      go_ret
      exact ⟨by rw [E.out]; rfl, below_alloc _ _⟩
    · have d : decide (st < 1) = false := decide_eq_false h4
      have d7 : decide (7 < st) = true := decide_eq_true (by omega)
      clear h0 h2 h3 h4
      go_enter Try.func16, Try.ntmps16
      go_wp2_with fail
      refine (isTimeT_is _ _ DC.out _).mono ?_
      rintro e w9 ⟨rfl, hw9⟩
      obtain rfl := hw9.symm
      go_wp2_with fail
      refine (isTimeT_is _ _ D0.out _).mono ?_
      rintro e w9 ⟨rfl, hw9⟩
      obtain rfl := hw9.symm
      go_wp2_with fail
      refine (isUntilT_is _ _ D2.out _).mono ?_
      rintro e w9 ⟨rfl, hw9⟩
      obtain rfl := hw9.symm
      go_wp2
      go_ret
      exact ⟨by rw [E.out]; rfl, below_alloc _ _⟩
  have d : decide (st < 1) = false := decide_eq_false (by omega)
  have d7 : decide (7 < st) = false := decide_eq_false (by omega)
  have HI : Hid (InB s c u st) := ⟨h0, h1, h2, h3⟩
  clear h0 h2
  by_cases hm : n < 1 ∨ 12 < n
  · have E : Hid (txnF s c u st a n F = 2) := txnF_many HI.out hm
    clear h3
    by_cases hm1 : n < 1
    · obtain rfl : n = 0 := by omega
      clear hm hm1
      go_enter Try.func16, Try.ntmps16
      go_wp2_with fail
      refine (isTimeT_is _ _ DC.out _).mono ?_
      rintro e w9 ⟨rfl, hw9⟩
      obtain rfl := hw9.symm
      go_wp2_with fail
      refine (isTimeT_is _ _ D0.out _).mono ?_
      rintro e w9 ⟨rfl, hw9⟩
      obtain rfl := hw9.symm
      go_wp2_with fail
      refine (isUntilT_is _ _ D2.out _).mono ?_
      rintro e w9 ⟨rfl, hw9⟩
      obtain rfl := hw9.symm
      go_wp2
      go_ret
      exact ⟨by rw [E.out]; rfl, below_alloc _ _⟩
    · have e1 : decide ((n : Int) < 1) = false := decide_eq_false (by omega)
      have e2 : decide ((12 : Int) < (n : Int)) = true := decide_eq_true (by omega)
      clear hm hm1
      go_enter Try.func16, Try.ntmps16
      go_wp2_with fail
      refine (isTimeT_is _ _ DC.out _).mono ?_
      rintro e w9 ⟨rfl, hw9⟩
      obtain rfl := hw9.symm
      go_wp2_with fail
      refine (isTimeT_is _ _ D0.out _).mono ?_
      rintro e w9 ⟨rfl, hw9⟩
      obtain rfl := hw9.symm
      go_wp2_with fail
      refine (isUntilT_is _ _ D2.out _).mono ?_
      rintro e w9 ⟨rfl, hw9⟩
      obtain rfl := hw9.symm
      go_wp2
      go_ret
      exact ⟨by rw [E.out]; rfl, below_alloc _ _⟩
  have HM : Hid (¬ (n < 1 ∨ 12 < n)) := hm
  have e1 : decide ((n : Int) < 1) = false := decide_eq_false (by omega)
  have e2 : decide ((12 : Int) < (n : Int)) = false := decide_eq_false (by omega)
  have hn12 : n ≤ 12 := by omega
  clear hm
  obtain ⟨f, hf⟩ : ∃ f, itemsF F n 0 = f := ⟨_, rfl⟩
  have HF : Hid (itemsF F n 0 = f) := hf
  clear hf
  by_cases hf : f = 0
  case neg =>
    have E : Hid (txnF s c u st a n F = f) := txnF_item HI.out HM.out HF.out hf
    have df : (f != 0) = true := bne_iff_ne.2 hf
    clear hf h3
    go_enter Try.func16, Try.ntmps16
    go_wp2_with fail
    refine (isTimeT_is _ _ DC.out _).mono ?_
    rintro e w9 ⟨rfl, hw9⟩
    obtain rfl := hw9.symm
    go_wp2_with fail
    refine (isTimeT_is _ _ D0.out _).mono ?_
    rintro e w9 ⟨rfl, hw9⟩
    obtain rfl := hw9.symm
    go_wp2_with fail
    refine (isUntilT_is _ _ D2.out _).mono ?_
    rintro e w9 ⟨rfl, hw9⟩
    obtain rfl := hw9.symm
    go_wp2_with fail
    refine (itemsFault_is _ 0 n F _ (H.out.alloc _) hcap hn12).mono ?_
    rintro e w1 ⟨rfl, q1⟩
    rw [HF.out]
    have Q : Hid (Below w.heap.size w w1) := (below_alloc _ _).trans (q1.mono (by simp))
    obtain ⟨⟨k0, k1, k2, k3, k4, k5⟩, _⟩ := (Blk6.new w (.int .i64 s) (.int .i64 c) (.int .i64 u) (.int .i64 st) (.int .i64 a) (.slice ao n cp) 29).later q1
    clear q1
    go_wp2
    go_ret
    exact ⟨by rw [E.out]; rfl, Q.out⟩
  subst hf
  by_cases ha : 0 ≤ a ∧ a ≤ n
  case neg =>
    have E : Hid (txnF s c u st a n F = 3) := txnF_at HI.out HM.out HF.out ha
    by_cases ha0 : a < 0
    · have da : decide (a < 0) = true := decide_eq_true ha0
      clear ha ha0 h3
      go_enter Try.func16, Try.ntmps16
      go_wp2_with fail
      refine (isTimeT_is _ _ DC.out _).mono ?_
      rintro e w9 ⟨rfl, hw9⟩
      obtain rfl := hw9.symm
      go_wp2_with fail
      refine (isTimeT_is _ _ D0.out _).mono ?_
      rintro e w9 ⟨rfl, hw9⟩
      obtain rfl := hw9.symm
      go_wp2_with fail
      refine (isUntilT_is _ _ D2.out _).mono ?_
      rintro e w9 ⟨rfl, hw9⟩
      obtain rfl := hw9.symm
      go_wp2_with fail
      refine (itemsFault_is _ 0 n F _ (H.out.alloc _) hcap hn12).mono ?_
      rintro e w1 ⟨rfl, q1⟩
      rw [HF.out]
      have Q : Hid (Below w.heap.size w w1) := (below_alloc _ _).trans (q1.mono (by simp))
      obtain ⟨⟨k0, k1, k2, k3, k4, k5⟩, _⟩ := (Blk6.new w (.int .i64 s) (.int .i64 c) (.int .i64 u) (.int .i64 st) (.int .i64 a) (.slice ao n cp) 29).later q1
      clear q1
      go_wp2
      go_ret
      exact ⟨by rw [E.out]; rfl, Q.out⟩
    · have da : decide (a < 0) = false := decide_eq_false ha0
      have db : decide ((n : Int) < a) = true := decide_eq_true (by omega)
      clear ha ha0 h3
      go_enter Try.func16, Try.ntmps16
      go_wp2_with fail
      refine (isTimeT_is _ _ DC.out _).mono ?_
      rintro e w9 ⟨rfl, hw9⟩
      obtain rfl := hw9.symm
      go_wp2_with fail
      refine (isTimeT_is _ _ D0.out _).mono ?_
      rintro e w9 ⟨rfl, hw9⟩
      obtain rfl := hw9.symm
      go_wp2_with fail
      refine (isUntilT_is _ _ D2.out _).mono ?_
      rintro e w9 ⟨rfl, hw9⟩
      obtain rfl := hw9.symm
      go_wp2_with fail
      refine (itemsFault_is _ 0 n F _ (H.out.alloc _) hcap hn12).mono ?_
      rintro e w1 ⟨rfl, q1⟩
      rw [HF.out]
      have Q : Hid (Below w.heap.size w w1) := (below_alloc _ _).trans (q1.mono (by simp))
      obtain ⟨⟨k0, k1, k2, k3, k4, k5⟩, _⟩ := (Blk6.new w (.int .i64 s) (.int .i64 c) (.int .i64 u) (.int .i64 st) (.int .i64 a) (.slice ao n cp) 29).later q1
      clear q1
      go_wp2
      go_ret
      exact ⟨by rw [E.out]; rfl, Q.out⟩
  have da : decide (a < 0) = false := decide_eq_false (by omega)
  have db : decide ((n : Int) < a) = false := decide_eq_false (by omega)
  obtain ⟨r, hr⟩ : ∃ r, SuitsT s c st r := SuitsT.get h3
  have HR : Hid (SuitsT s c st r) := hr
  have HA : Hid (0 ≤ a ∧ a ≤ n) := ha
  clear ha h3 hr
  cases r with
  | false =>
    have E : Hid (txnF s c u st a n F = 1) := txnF_form HI.out HM.out HF.out HA.out HR.out.no
    go_enter Try.func16, Try.ntmps16
    go_wp2_with fail
    refine (isTimeT_is _ _ DC.out _).mono ?_
    rintro e w9 ⟨rfl, hw9⟩
    obtain rfl := hw9.symm
    go_wp2_with fail
    refine (isTimeT_is _ _ D0.out _).mono ?_
    rintro e w9 ⟨rfl, hw9⟩
    obtain rfl := hw9.symm
    go_wp2_with fail
    refine (isUntilT_is _ _ D2.out _).mono ?_
    rintro e w9 ⟨rfl, hw9⟩
    obtain rfl := hw9.symm
    go_wp2_with fail
    refine (itemsFault_is _ 0 n F _ (H.out.alloc _) hcap hn12).mono ?_
    rintro e w1 ⟨rfl, q1⟩
    rw [HF.out]
    have Q : Hid (Below w.heap.size w w1) := (below_alloc _ _).trans (q1.mono (by simp))
    obtain ⟨⟨k0, k1, k2, k3, k4, k5⟩, _⟩ := (Blk6.new w (.int .i64 s) (.int .i64 c) (.int .i64 u) (.int .i64 st) (.int .i64 a) (.slice ao n cp) 29).later q1
    clear q1
    go_wp2_with fail
    refine (commitSuits_is s c u st a ao n cp _ HR.out hn12 _).mono ?_
    rintro e w2 ⟨rfl, q2⟩
    have Q : Hid (Below w.heap.size w w2) := Q.out.trans (q2.mono Q.out.size)
    clear q2
    go_wp2
    go_ret
    exact ⟨by rw [E.out]; rfl, Q.out⟩
  | true =>
    have E : Hid (txnF s c u st a n F = 0) := txnF_ok HI.out HM.out HF.out HA.out HR.out.yes
    go_enter Try.func16, Try.ntmps16
    go_wp2_with fail
    refine (isTimeT_is _ _ DC.out _).mono ?_
    rintro e w9 ⟨rfl, hw9⟩
    obtain rfl := hw9.symm
    go_wp2_with fail
    refine (isTimeT_is _ _ D0.out _).mono ?_
    rintro e w9 ⟨rfl, hw9⟩
    obtain rfl := hw9.symm
    go_wp2_with fail
    refine (isUntilT_is _ _ D2.out _).mono ?_
    rintro e w9 ⟨rfl, hw9⟩
    obtain rfl := hw9.symm
    go_wp2_with fail
    refine (itemsFault_is _ 0 n F _ (H.out.alloc _) hcap hn12).mono ?_
    rintro e w1 ⟨rfl, q1⟩
    rw [HF.out]
    have Q : Hid (Below w.heap.size w w1) := (below_alloc _ _).trans (q1.mono (by simp))
    obtain ⟨⟨k0, k1, k2, k3, k4, k5⟩, _⟩ := (Blk6.new w (.int .i64 s) (.int .i64 c) (.int .i64 u) (.int .i64 st) (.int .i64 a) (.slice ao n cp) 29).later q1
    clear q1
    go_wp2_with fail
    refine (commitSuits_is s c u st a ao n cp _ HR.out hn12 _).mono ?_
    rintro e w2 ⟨rfl, q2⟩
    have Q : Hid (Below w.heap.size w w2) := Q.out.trans (q2.mono Q.out.size)
    clear q2
    go_wp2
    go_ret
    exact ⟨by rw [E.out]; rfl, Q.out⟩
set_option maxHeartbeats 1000000 in
theorem implTxnFault_any (s c u st a : Int) (n : Nat) (F : Nat → Int) (y : Value) (w : World) (h : Row w 0 3 n F y) (hcap : CapOk y) :
    Calls Try.prog 16 #[.agg #[.int .i64 s, .int .i64 c, .int .i64 u, .int .i64 st, .int .i64 a, y]] w fun e w' => e = .returned (.int .i64 (txnF s c u st a n F)) ∧ Below w.heap.size w w' := by
  by_cases hc : c = 0
  · subst hc
    exact implTxnFault_none s u st a n F y w h hcap
  by_cases h1 : 0 ≤ c ∧ c ≤ 100000
  · exact implTxnFault_some s c u st a n F y w h hcap hc h1
  obtain ⟨ao, cp, rfl⟩ := h.form
  have dc : (c != 0) = true := bne_iff_ne.2 hc
  have DC : Hid (decide (1 ≤ c ∧ c ≤ 100000) = false) := decide_eq_false (by omega)
  have E : Hid (txnF s c u st a n F = 3) := txnF_range (Or.inr (Or.inl h1))
  clear h hcap
  obtain ⟨r, hr⟩ : ∃ r, decide (1 ≤ s ∧ s ≤ 100000) = r := ⟨_, rfl⟩
  have D0 : Hid (decide (1 ≤ s ∧ s ≤ 100000) = r) := hr
  clear hr hc h1
  cases r with
  | false =>
    go_enter Try.func16, Try.ntmps16
    go_wp2_with fail
    refine (isTimeT_is _ _ DC.out _).mono ?_
    rintro e w9 ⟨rfl, hw9⟩
    obtain rfl := hw9.symm
    go_wp2_with fail
    refine (isTimeT_is _ _ D0.out _).mono ?_
    rintro e w9 ⟨rfl, hw9⟩
    obtain rfl := hw9.symm
    go_wp2
    go_ret
    exact ⟨by rw [E.out]; rfl, below_alloc _ _⟩
  | true =>
    go_enter Try.func16, Try.ntmps16
    go_wp2_with fail
    refine (isTimeT_is _ _ DC.out _).mono ?_
    rintro e w9 ⟨rfl, hw9⟩
    obtain rfl := hw9.symm
    go_wp2_with fail
    refine (isTimeT_is _ _ D0.out _).mono ?_
    rintro e w9 ⟨rfl, hw9⟩
    obtain rfl := hw9.symm
    go_wp2
    go_ret
    exact ⟨by rw [E.out]; rfl, below_alloc _ _⟩
set_option maxHeartbeats 1000000 in
theorem specTxnFault_any (s c u st a : Int) (n : Nat) (F : Nat → Int) (y : Value) (w : World) (h : Row w 0 3 n F y) (hcap : CapOk y) (hn : n ≤ 9223372036854775807) :
    Calls Try.prog 19 #[.agg #[.int .i64 s, .int .i64 c, .int .i64 u, .int .i64 st, .int .i64 a, y]] w fun e w' => e = .returned (.int .i64 (txnF s c u st a n F)) ∧ Below w.heap.size w w' := by
  obtain ⟨ao, cp, rfl⟩ := h.form
  have H : Hid (Row w 0 3 n F (.slice ao n cp)) := h
  clear h
  obtain ⟨f, hf⟩ : ∃ f, txnF s c u st a n F = f := ⟨_, rfl⟩
  have HF : Hid (txnF s c u st a n F = f) := hf
  rw [hf]
  clear hf
  go_enter Try.func19, Try.ntmps19
  go_wp2_with fail
  refine (l8Fault_any w.heap.size s c u st a n F _ _ ⟨Blk6.new w _ _ _ _ _ _ _, H.out.alloc _, hcap⟩ hn).mono ?_
  rintro e w1 ⟨rfl, q1⟩
  rw [HF.out]
  have Q : Hid (Below w.heap.size w w1) := (below_alloc _ _).trans (q1.mono (by simp))
  clear q1
  go_wp2
  go_ret
  exact ⟨rfl, Q.out⟩
end Go.Proofs.Ytjimckfkbkfggaa
