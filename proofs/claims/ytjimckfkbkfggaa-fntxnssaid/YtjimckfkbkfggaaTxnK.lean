/-
  Own text. Chapter 8: what PrimaryOf and StepsLeft answer, the program's and the model's.
-/
import Derived.Test.YtjimckfkbkfggaaTxnJ
import Derived.Test.YtjimckfkbkfggaaStorQ
namespace Go.Proofs.Ytjimckfkbkfggaa
open Go.RowKit

/-- How many steps are left. -/
def stepsV (st a : Int) (n : Nat) : Int := if st = 1 then n + (n - a) + 1 else if st = 2 then n else if st = 3 then n - a + 1 else if st = 5 then n - a + 1 else 0
set_option maxHeartbeats 2000000 in
theorem implPrimaryOf_is (s c u st a : Int) (n : Nat) (F : Nat → Int) (y : Value) (f : Int) (hf : txnF s c u st a n F = f) (w : World) (h : Row w 0 3 n F y) (hcap : CapOk y) (_ : n ≤ 9223372036854775807) (r v : Int) (hr : ValT f (F 0) r v) :
    Calls Try.prog 14 #[.agg #[.int .i64 s, .int .i64 c, .int .i64 u, .int .i64 st, .int .i64 a, y]] w fun e w' => e = .returned (.agg #[.int .i64 r, .int .i64 v]) ∧ Below w.heap.size w w' := by
  obtain ⟨ao, cp, rfl⟩ := h.form
  have H : Hid (Row w 0 3 n F (.slice ao n cp)) := h
  clear h
  have HF : Hid (txnF s c u st a n F = f) := hf
  rcases mapF f with rfl | ⟨h0, h1, h2⟩
  · obtain ⟨⟨_, _, _, hst⟩, ⟨hn1, hn12⟩, _, ha, _⟩ := txnF_zero hf
    obtain ⟨rfl, hv⟩ : r = 0 ∧ v = F 0 := by
      rcases hr with ⟨q, _⟩ | ⟨_, q⟩
      · exact absurd rfl q
      · exact q
    clear hf hr
    clear hst ha
    obtain ⟨g, o, rfl, _, hg, x0, _, _⟩ := H.out.at3 (k := 0) (by omega)
    have HX : Hid (w.cell? ⟨g, o, none⟩ = some (.int .i64 v)) := by
      unfold Hid
      rw [hv]
      simpa using x0
    clear x0 hv
    go_enter Try.func14, Try.ntmps14
    go_wp2_with fail
    refine (implTxnFault_any s c u st a n F _ _ ((H.out.alloc _).alloc _) hcap).mono ?_
    rintro e w1 ⟨rfl, q1⟩
    rw [HF.out]
    have Q : Hid (Below w.heap.size w w1) := ((below_alloc _ _).alloc (by simp) _).trans (q1.mono (by simp; omega))
    have K1 : Hid (Blk6 w1 w.heap.size (.int .i64 s) (.int .i64 c) (.int .i64 u) (.int .i64 st) (.int .i64 a) (.slice (some ⟨g, o, none⟩) n cp)) := ((Blk6.new w _ _ _ _ _ _ _).alloc _).later q1
    have K2 := (Blk2.new (w.alloc (.cells #[.int .i64 s, .int .i64 c, .int .i64 u, .int .i64 st, .int .i64 a, .slice (some ⟨g, o, none⟩) n cp] 29)) (.int .i64 0) (.int .i64 0) 37).later q1
    simp only [World.size_alloc] at K2
    have K2 : Hid (Blk2 w1 (w.heap.size + 1) (.int .i64 0) (.int .i64 0)) := K2
    obtain ⟨⟨k0, k1, k2, k3, k4, k5⟩, _⟩ := K1.out
    obtain ⟨⟨m0, m1⟩, m2, m3⟩ := K2.out
    have hlt1 := K1.out.lt
    have hlt2 := K2.out.lt
    clear q1
    have hx1 := (Q.out.cell (p := ⟨g, o, none⟩) hg).trans HX.out
    go_wp2
    refine bodyPost_ret (v := .agg #[.int .i64 0, .int .i64 v]) (by simp [results, Try.results14, go_sem, m0, m1]) rfl ⟨rfl, ?_⟩
    exact (Q.out.setCell (by simp) _).setCell (by simp) _
  · obtain ⟨rfl, rfl⟩ : r = f ∧ v = 0 := by
      rcases hr with ⟨_, q, q'⟩ | ⟨q, _⟩
      · exact ⟨q, q'⟩
      · exact absurd q h0
    clear hf h0 h2 hr
    go_enter Try.func14, Try.ntmps14
    go_wp2_with fail
    refine (implTxnFault_any s c u st a n F _ _ ((H.out.alloc _).alloc _) hcap).mono ?_
    rintro e w1 ⟨rfl, q1⟩
    rw [HF.out]
    have Q : Hid (Below w.heap.size w w1) := ((below_alloc _ _).alloc (by simp) _).trans (q1.mono (by simp; omega))
    have K1 : Hid (Blk6 w1 w.heap.size (.int .i64 s) (.int .i64 c) (.int .i64 u) (.int .i64 st) (.int .i64 a) (.slice ao n cp)) := ((Blk6.new w _ _ _ _ _ _ _).alloc _).later q1
    have K2 := (Blk2.new (w.alloc (.cells #[.int .i64 s, .int .i64 c, .int .i64 u, .int .i64 st, .int .i64 a, .slice ao n cp] 29)) (.int .i64 0) (.int .i64 0) 37).later q1
    simp only [World.size_alloc] at K2
    have K2 : Hid (Blk2 w1 (w.heap.size + 1) (.int .i64 0) (.int .i64 0)) := K2
    obtain ⟨⟨k0, k1, k2, k3, k4, k5⟩, _⟩ := K1.out
    obtain ⟨⟨m0, m1⟩, m2, m3⟩ := K2.out
    have hlt1 := K1.out.lt
    have hlt2 := K2.out.lt
    clear q1
    go_wp2
    refine bodyPost_ret (v := .agg #[.int .i64 r, .int .i64 0]) (by simp [results, Try.results14, go_sem, m0, m1]) rfl ⟨rfl, ?_⟩
    exact (Q.out.setCell (by simp) _).setCell (by simp) _
set_option maxHeartbeats 2000000 in
theorem specPrimaryOf_is (s c u st a : Int) (n : Nat) (F : Nat → Int) (y : Value) (f : Int) (hf : txnF s c u st a n F = f) (w : World) (h : Row w 0 3 n F y) (hcap : CapOk y) (hn : n ≤ 9223372036854775807) (r v : Int) (hr : ValT f (F 0) r v) :
    Calls Try.prog 32 #[.agg #[.int .i64 s, .int .i64 c, .int .i64 u, .int .i64 st, .int .i64 a, y]] w fun e w' => e = .returned (.agg #[.int .i64 r, .int .i64 v]) ∧ Below w.heap.size w w' := by
  obtain ⟨ao, cp, rfl⟩ := h.form
  have H : Hid (Row w 0 3 n F (.slice ao n cp)) := h
  clear h
  have HF : Hid (txnF s c u st a n F = f) := hf
  rcases mapF f with rfl | ⟨h0, h1, h2⟩
  · obtain ⟨⟨_, _, _, hst⟩, ⟨hn1, hn12⟩, _, ha, _⟩ := txnF_zero hf
    obtain ⟨rfl, hv⟩ : r = 0 ∧ v = F 0 := by
      rcases hr with ⟨q, _⟩ | ⟨_, q⟩
      · exact absurd rfl q
      · exact q
    clear hf hr
    clear hst ha
    obtain ⟨g, o, rfl, _, hg, x0, _, _⟩ := H.out.at3 (k := 0) (by omega)
    have HX : Hid (w.cell? ⟨g, o, none⟩ = some (.int .i64 v)) := by
      unfold Hid
      rw [hv]
      simpa using x0
    clear x0 hv
    go_enter Try.func32, Try.ntmps32
    go_wp2_with fail
    refine (l8Fault_any w.heap.size s c u st a n F _ _ ⟨(Blk6.new w _ _ _ _ _ _ _).alloc _, (H.out.alloc _).alloc _, hcap⟩ hn).mono ?_
    rintro e w1 ⟨rfl, q1⟩
    rw [HF.out]
    have Q : Hid (Below w.heap.size w w1) := ((below_alloc _ _).alloc (by simp) _).trans (q1.mono (by simp; omega))
    have K1 : Hid (Blk6 w1 w.heap.size (.int .i64 s) (.int .i64 c) (.int .i64 u) (.int .i64 st) (.int .i64 a) (.slice (some ⟨g, o, none⟩) n cp)) := ((Blk6.new w _ _ _ _ _ _ _).alloc _).later q1
    have K2 := (Blk2.new (w.alloc (.cells #[.int .i64 s, .int .i64 c, .int .i64 u, .int .i64 st, .int .i64 a, .slice (some ⟨g, o, none⟩) n cp] 29)) (.int .i64 0) (.int .i64 0) 37).later q1
    simp only [World.size_alloc] at K2
    have K2 : Hid (Blk2 w1 (w.heap.size + 1) (.int .i64 0) (.int .i64 0)) := K2
    obtain ⟨⟨k0, k1, k2, k3, k4, k5⟩, _⟩ := K1.out
    obtain ⟨⟨m0, m1⟩, m2, m3⟩ := K2.out
    have hlt1 := K1.out.lt
    have hlt2 := K2.out.lt
    clear q1
    have hx1 := (Q.out.cell (p := ⟨g, o, none⟩) hg).trans HX.out
    go_wp2
    refine bodyPost_ret (v := .agg #[.int .i64 0, .int .i64 v]) (by simp [results, Try.results32, go_sem, m0, m1]) rfl ⟨rfl, ?_⟩
    exact (Q.out.setCell (by simp) _).setCell (by simp) _
  · obtain ⟨rfl, rfl⟩ : r = f ∧ v = 0 := by
      rcases hr with ⟨_, q, q'⟩ | ⟨q, _⟩
      · exact ⟨q, q'⟩
      · exact absurd q h0
    clear hf h0 h2 hr
    go_enter Try.func32, Try.ntmps32
    go_wp2_with fail
    refine (l8Fault_any w.heap.size s c u st a n F _ _ ⟨(Blk6.new w _ _ _ _ _ _ _).alloc _, (H.out.alloc _).alloc _, hcap⟩ hn).mono ?_
    rintro e w1 ⟨rfl, q1⟩
    rw [HF.out]
    have Q : Hid (Below w.heap.size w w1) := ((below_alloc _ _).alloc (by simp) _).trans (q1.mono (by simp; omega))
    have K1 : Hid (Blk6 w1 w.heap.size (.int .i64 s) (.int .i64 c) (.int .i64 u) (.int .i64 st) (.int .i64 a) (.slice ao n cp)) := ((Blk6.new w _ _ _ _ _ _ _).alloc _).later q1
    have K2 := (Blk2.new (w.alloc (.cells #[.int .i64 s, .int .i64 c, .int .i64 u, .int .i64 st, .int .i64 a, .slice ao n cp] 29)) (.int .i64 0) (.int .i64 0) 37).later q1
    simp only [World.size_alloc] at K2
    have K2 : Hid (Blk2 w1 (w.heap.size + 1) (.int .i64 0) (.int .i64 0)) := K2
    obtain ⟨⟨k0, k1, k2, k3, k4, k5⟩, _⟩ := K1.out
    obtain ⟨⟨m0, m1⟩, m2, m3⟩ := K2.out
    have hlt1 := K1.out.lt
    have hlt2 := K2.out.lt
    clear q1
    go_wp2
    refine bodyPost_ret (v := .agg #[.int .i64 r, .int .i64 0]) (by simp [results, Try.results32, go_sem, m0, m1]) rfl ⟨rfl, ?_⟩
    exact (Q.out.setCell (by simp) _).setCell (by simp) _
set_option maxHeartbeats 2000000 in
theorem implStepsLeft_is (s c u st a : Int) (n : Nat) (F : Nat → Int) (y : Value) (f : Int) (hf : txnF s c u st a n F = f) (w : World) (h : Row w 0 3 n F y) (hcap : CapOk y) (_ : n ≤ 9223372036854775807) (r v : Int) (hr : ValT f (stepsV st a n) r v) :
    Calls Try.prog 15 #[.agg #[.int .i64 s, .int .i64 c, .int .i64 u, .int .i64 st, .int .i64 a, y]] w fun e w' => e = .returned (.agg #[.int .i64 r, .int .i64 v]) ∧ Below w.heap.size w w' := by
  obtain ⟨ao, cp, rfl⟩ := h.form
  have H : Hid (Row w 0 3 n F (.slice ao n cp)) := h
  clear h
  have HF : Hid (txnF s c u st a n F = f) := hf
  rcases mapF f with rfl | ⟨h0, h1, h2⟩
  · obtain ⟨⟨_, _, _, hst⟩, ⟨hn1, hn12⟩, _, ha, _⟩ := txnF_zero hf
    obtain ⟨rfl, hv⟩ : r = 0 ∧ v = stepsV st a n := by
      rcases hr with ⟨q, _⟩ | ⟨_, q⟩
      · exact absurd rfl q
      · exact q
    clear hf hr
    obtain ⟨t, ht⟩ := StT.get hst
    have HT : Hid (StT st t) := ht
    have HV : Hid (v = stepsV st a n) := hv
    clear hst hv
    have HP : Hid (∀ x, Calls Try.prog 46 #[.iface t (.agg #[.int .i64 n, .int .i64 a])] x fun e x' => e = .returned (.int .i64 v) ∧ Below x.heap.size x x') := by
      intro x
      rw [HV.out]
      unfold stepsV
      rcases ht with ⟨rfl, rfl⟩ | ⟨rfl, rfl⟩ | ⟨rfl, rfl⟩ | ⟨rfl, rfl⟩ | ⟨rfl, rfl⟩ | ⟨rfl, rfl⟩ | ⟨rfl, rfl⟩
      · exact stepsFrom_1 n a hn12 ha x
      · exact stepsFrom_2 n a x
      · exact stepsFrom_3 n a hn12 ha x
      · exact stepsFrom_4 n a x
      · exact stepsFrom_5 n a hn12 ha x
      · exact stepsFrom_6 n a x
      · exact stepsFrom_7 n a x
    clear ht ha hn1
    go_enter Try.func15, Try.ntmps15
    go_wp2_with fail
    refine (implTxnFault_any s c u st a n F _ _ ((H.out.alloc _).alloc _) hcap).mono ?_
    rintro e w1 ⟨rfl, q1⟩
    rw [HF.out]
    have Q : Hid (Below w.heap.size w w1) := ((below_alloc _ _).alloc (by simp) _).trans (q1.mono (by simp; omega))
    have K1 : Hid (Blk6 w1 w.heap.size (.int .i64 s) (.int .i64 c) (.int .i64 u) (.int .i64 st) (.int .i64 a) (.slice ao n cp)) := ((Blk6.new w _ _ _ _ _ _ _).alloc _).later q1
    have K2 := (Blk2.new (w.alloc (.cells #[.int .i64 s, .int .i64 c, .int .i64 u, .int .i64 st, .int .i64 a, .slice ao n cp] 29)) (.int .i64 0) (.int .i64 0) 37).later q1
    simp only [World.size_alloc] at K2
    have K2 : Hid (Blk2 w1 (w.heap.size + 1) (.int .i64 0) (.int .i64 0)) := K2
    obtain ⟨⟨k0, k1, k2, k3, k4, k5⟩, _⟩ := K1.out
    obtain ⟨⟨m0, m1⟩, m2, m3⟩ := K2.out
    have hlt1 := K1.out.lt
    have hlt2 := K2.out.lt
    clear q1
    go_wp2_with fail
    refine (stateOf_is _ _ _ _ _ _ _ _ t HT.out hn12 _).mono ?_
    rintro e w2 ⟨rfl, q2⟩
    have Q : Hid (Below w.heap.size w w2) := Q.out.trans (q2.mono Q.out.size)
    have K2 : Hid (Blk2 w2 (w.heap.size + 1) (.int .i64 0) (.int .i64 0)) := K2.out.later q2
    clear q2 k0 k1 k2 k3 k4 k5 m0 m1 m2 m3 hlt1 hlt2
    go_wp2_with fail
    refine (HP.out _).mono ?_
    rintro e w3 ⟨rfl, q3⟩
    have Q : Hid (Below w.heap.size w w3) := Q.out.trans (q3.mono Q.out.size)
    obtain ⟨⟨m0, m1⟩, m2, m3⟩ := K2.out.later q3
    have hlt2 := (K2.out.later q3).lt
    clear q3
    go_wp2
    refine bodyPost_ret (v := .agg #[.int .i64 0, .int .i64 v]) (by simp [results, Try.results15, go_sem, m0, m1]) rfl ⟨rfl, ?_⟩
    exact (Q.out.setCell (by simp) _).setCell (by simp) _
  · obtain ⟨rfl, rfl⟩ : r = f ∧ v = 0 := by
      rcases hr with ⟨_, q, q'⟩ | ⟨q, _⟩
      · exact ⟨q, q'⟩
      · exact absurd q h0
    clear hf h0 h2 hr
    go_enter Try.func15, Try.ntmps15
    go_wp2_with fail
    refine (implTxnFault_any s c u st a n F _ _ ((H.out.alloc _).alloc _) hcap).mono ?_
    rintro e w1 ⟨rfl, q1⟩
    rw [HF.out]
    have Q : Hid (Below w.heap.size w w1) := ((below_alloc _ _).alloc (by simp) _).trans (q1.mono (by simp; omega))
    have K1 : Hid (Blk6 w1 w.heap.size (.int .i64 s) (.int .i64 c) (.int .i64 u) (.int .i64 st) (.int .i64 a) (.slice ao n cp)) := ((Blk6.new w _ _ _ _ _ _ _).alloc _).later q1
    have K2 := (Blk2.new (w.alloc (.cells #[.int .i64 s, .int .i64 c, .int .i64 u, .int .i64 st, .int .i64 a, .slice ao n cp] 29)) (.int .i64 0) (.int .i64 0) 37).later q1
    simp only [World.size_alloc] at K2
    have K2 : Hid (Blk2 w1 (w.heap.size + 1) (.int .i64 0) (.int .i64 0)) := K2
    obtain ⟨⟨k0, k1, k2, k3, k4, k5⟩, _⟩ := K1.out
    obtain ⟨⟨m0, m1⟩, m2, m3⟩ := K2.out
    have hlt1 := K1.out.lt
    have hlt2 := K2.out.lt
    clear q1
    go_wp2
    refine bodyPost_ret (v := .agg #[.int .i64 r, .int .i64 0]) (by simp [results, Try.results15, go_sem, m0, m1]) rfl ⟨rfl, ?_⟩
    exact (Q.out.setCell (by simp) _).setCell (by simp) _
set_option maxHeartbeats 2000000 in
theorem specStepsLeft_is (s c u st a : Int) (n : Nat) (F : Nat → Int) (y : Value) (f : Int) (hf : txnF s c u st a n F = f) (w : World) (h : Row w 0 3 n F y) (hcap : CapOk y) (hn : n ≤ 9223372036854775807) (r v : Int) (hr : ValT f (stepsV st a n) r v) :
    Calls Try.prog 35 #[.agg #[.int .i64 s, .int .i64 c, .int .i64 u, .int .i64 st, .int .i64 a, y]] w fun e w' => e = .returned (.agg #[.int .i64 r, .int .i64 v]) ∧ Below w.heap.size w w' := by
  obtain ⟨ao, cp, rfl⟩ := h.form
  have H : Hid (Row w 0 3 n F (.slice ao n cp)) := h
  clear h
  have HF : Hid (txnF s c u st a n F = f) := hf
  rcases mapF f with rfl | ⟨h0, h1, h2⟩
  · obtain ⟨⟨_, _, _, hst⟩, ⟨hn1, hn12⟩, _, ha, _⟩ := txnF_zero hf
    obtain ⟨rfl, hv⟩ : r = 0 ∧ v = stepsV st a n := by
      rcases hr with ⟨q, _⟩ | ⟨_, q⟩
      · exact absurd rfl q
      · exact q
    clear hf hr
    have h7 : st = 1 ∨ st = 2 ∨ st = 3 ∨ st = 4 ∨ st = 5 ∨ st = 6 ∨ st = 7 := by omega
    clear hst
    rcases h7 with rfl | rfl | rfl | rfl | rfl | rfl | rfl
    · have hv2 : v = 2 * n - a + 1 := by rw [hv]; unfold stepsV; simp; omega
      clear hv
      subst hv2
      go_enter Try.func35, Try.ntmps35
      go_wp2_with fail
      refine (l8Fault_any w.heap.size s c u 1 a n F _ _ ⟨(Blk6.new w _ _ _ _ _ _ _).alloc _, (H.out.alloc _).alloc _, hcap⟩ hn).mono ?_
      rintro e w1 ⟨rfl, q1⟩
      rw [HF.out]
      have Q : Hid (Below w.heap.size w w1) := ((below_alloc _ _).alloc (by simp) _).trans (q1.mono (by simp; omega))
      have K1 : Hid (Blk6 w1 w.heap.size (.int .i64 s) (.int .i64 c) (.int .i64 u) (.int .i64 1) (.int .i64 a) (.slice ao n cp)) := ((Blk6.new w _ _ _ _ _ _ _).alloc _).later q1
      have K2 := (Blk2.new (w.alloc (.cells #[.int .i64 s, .int .i64 c, .int .i64 u, .int .i64 1, .int .i64 a, .slice ao n cp] 29)) (.int .i64 0) (.int .i64 0) 37).later q1
      simp only [World.size_alloc] at K2
      have K2 : Hid (Blk2 w1 (w.heap.size + 1) (.int .i64 0) (.int .i64 0)) := K2
      obtain ⟨⟨k0, k1, k2, k3, k4, k5⟩, _⟩ := K1.out
      obtain ⟨⟨m0, m1⟩, m2, m3⟩ := K2.out
      have hlt1 := K1.out.lt
      have hlt2 := K2.out.lt
      clear q1
      go_wp2
      refine bodyPost_ret (v := .agg #[.int .i64 0, .int .i64 (2 * n - a + 1)]) (by simp [results, Try.results35, go_sem, m0, m1]) rfl ⟨rfl, ?_⟩
      exact (Q.out.setCell (by simp) _).setCell (by simp) _
    · have hv2 : v = n := by rw [hv]; unfold stepsV; simp
      clear hv
      subst hv2
      go_enter Try.func35, Try.ntmps35
      go_wp2_with fail
      refine (l8Fault_any w.heap.size s c u 2 a n F _ _ ⟨(Blk6.new w _ _ _ _ _ _ _).alloc _, (H.out.alloc _).alloc _, hcap⟩ hn).mono ?_
      rintro e w1 ⟨rfl, q1⟩
      rw [HF.out]
      have Q : Hid (Below w.heap.size w w1) := ((below_alloc _ _).alloc (by simp) _).trans (q1.mono (by simp; omega))
      have K1 : Hid (Blk6 w1 w.heap.size (.int .i64 s) (.int .i64 c) (.int .i64 u) (.int .i64 2) (.int .i64 a) (.slice ao n cp)) := ((Blk6.new w _ _ _ _ _ _ _).alloc _).later q1
      have K2 := (Blk2.new (w.alloc (.cells #[.int .i64 s, .int .i64 c, .int .i64 u, .int .i64 2, .int .i64 a, .slice ao n cp] 29)) (.int .i64 0) (.int .i64 0) 37).later q1
      simp only [World.size_alloc] at K2
      have K2 : Hid (Blk2 w1 (w.heap.size + 1) (.int .i64 0) (.int .i64 0)) := K2
      obtain ⟨⟨k0, k1, k2, k3, k4, k5⟩, _⟩ := K1.out
      obtain ⟨⟨m0, m1⟩, m2, m3⟩ := K2.out
      have hlt1 := K1.out.lt
      have hlt2 := K2.out.lt
      clear q1
      go_wp2
      refine bodyPost_ret (v := .agg #[.int .i64 0, .int .i64 (n)]) (by simp [results, Try.results35, go_sem, m0, m1]) rfl ⟨rfl, ?_⟩
      exact (Q.out.setCell (by simp) _).setCell (by simp) _
    · have hv2 : v = n - a + 1 := by rw [hv]; unfold stepsV; simp
      clear hv
      subst hv2
      go_enter Try.func35, Try.ntmps35
      go_wp2_with fail
      refine (l8Fault_any w.heap.size s c u 3 a n F _ _ ⟨(Blk6.new w _ _ _ _ _ _ _).alloc _, (H.out.alloc _).alloc _, hcap⟩ hn).mono ?_
      rintro e w1 ⟨rfl, q1⟩
      rw [HF.out]
      have Q : Hid (Below w.heap.size w w1) := ((below_alloc _ _).alloc (by simp) _).trans (q1.mono (by simp; omega))
      have K1 : Hid (Blk6 w1 w.heap.size (.int .i64 s) (.int .i64 c) (.int .i64 u) (.int .i64 3) (.int .i64 a) (.slice ao n cp)) := ((Blk6.new w _ _ _ _ _ _ _).alloc _).later q1
      have K2 := (Blk2.new (w.alloc (.cells #[.int .i64 s, .int .i64 c, .int .i64 u, .int .i64 3, .int .i64 a, .slice ao n cp] 29)) (.int .i64 0) (.int .i64 0) 37).later q1
      simp only [World.size_alloc] at K2
      have K2 : Hid (Blk2 w1 (w.heap.size + 1) (.int .i64 0) (.int .i64 0)) := K2
      obtain ⟨⟨k0, k1, k2, k3, k4, k5⟩, _⟩ := K1.out
      obtain ⟨⟨m0, m1⟩, m2, m3⟩ := K2.out
      have hlt1 := K1.out.lt
      have hlt2 := K2.out.lt
      clear q1
      go_wp2
      refine bodyPost_ret (v := .agg #[.int .i64 0, .int .i64 (n - a + 1)]) (by simp [results, Try.results35, go_sem, m0, m1]) rfl ⟨rfl, ?_⟩
      exact (Q.out.setCell (by simp) _).setCell (by simp) _
    · have hv2 : v = 0 := by rw [hv]; unfold stepsV; simp
      clear hv
      subst hv2
      go_enter Try.func35, Try.ntmps35
      go_wp2_with fail
      refine (l8Fault_any w.heap.size s c u 4 a n F _ _ ⟨(Blk6.new w _ _ _ _ _ _ _).alloc _, (H.out.alloc _).alloc _, hcap⟩ hn).mono ?_
      rintro e w1 ⟨rfl, q1⟩
      rw [HF.out]
      have Q : Hid (Below w.heap.size w w1) := ((below_alloc _ _).alloc (by simp) _).trans (q1.mono (by simp; omega))
      have K1 : Hid (Blk6 w1 w.heap.size (.int .i64 s) (.int .i64 c) (.int .i64 u) (.int .i64 4) (.int .i64 a) (.slice ao n cp)) := ((Blk6.new w _ _ _ _ _ _ _).alloc _).later q1
      have K2 := (Blk2.new (w.alloc (.cells #[.int .i64 s, .int .i64 c, .int .i64 u, .int .i64 4, .int .i64 a, .slice ao n cp] 29)) (.int .i64 0) (.int .i64 0) 37).later q1
      simp only [World.size_alloc] at K2
      have K2 : Hid (Blk2 w1 (w.heap.size + 1) (.int .i64 0) (.int .i64 0)) := K2
      obtain ⟨⟨k0, k1, k2, k3, k4, k5⟩, _⟩ := K1.out
      obtain ⟨⟨m0, m1⟩, m2, m3⟩ := K2.out
      have hlt1 := K1.out.lt
      have hlt2 := K2.out.lt
      clear q1
      go_wp2
      refine bodyPost_ret (v := .agg #[.int .i64 0, .int .i64 (0)]) (by simp [results, Try.results35, go_sem, m0, m1]) rfl ⟨rfl, ?_⟩
      exact (Q.out.setCell (by simp) _).setCell (by simp) _
    · have hv2 : v = n - a + 1 := by rw [hv]; unfold stepsV; simp
      clear hv
      subst hv2
      go_enter Try.func35, Try.ntmps35
      go_wp2_with fail
      refine (l8Fault_any w.heap.size s c u 5 a n F _ _ ⟨(Blk6.new w _ _ _ _ _ _ _).alloc _, (H.out.alloc _).alloc _, hcap⟩ hn).mono ?_
      rintro e w1 ⟨rfl, q1⟩
      rw [HF.out]
      have Q : Hid (Below w.heap.size w w1) := ((below_alloc _ _).alloc (by simp) _).trans (q1.mono (by simp; omega))
      have K1 : Hid (Blk6 w1 w.heap.size (.int .i64 s) (.int .i64 c) (.int .i64 u) (.int .i64 5) (.int .i64 a) (.slice ao n cp)) := ((Blk6.new w _ _ _ _ _ _ _).alloc _).later q1
      have K2 := (Blk2.new (w.alloc (.cells #[.int .i64 s, .int .i64 c, .int .i64 u, .int .i64 5, .int .i64 a, .slice ao n cp] 29)) (.int .i64 0) (.int .i64 0) 37).later q1
      simp only [World.size_alloc] at K2
      have K2 : Hid (Blk2 w1 (w.heap.size + 1) (.int .i64 0) (.int .i64 0)) := K2
      obtain ⟨⟨k0, k1, k2, k3, k4, k5⟩, _⟩ := K1.out
      obtain ⟨⟨m0, m1⟩, m2, m3⟩ := K2.out
      have hlt1 := K1.out.lt
      have hlt2 := K2.out.lt
      clear q1
      go_wp2
      refine bodyPost_ret (v := .agg #[.int .i64 0, .int .i64 (n - a + 1)]) (by simp [results, Try.results35, go_sem, m0, m1]) rfl ⟨rfl, ?_⟩
      exact (Q.out.setCell (by simp) _).setCell (by simp) _
    · have hv2 : v = 0 := by rw [hv]; unfold stepsV; simp
      clear hv
      subst hv2
      go_enter Try.func35, Try.ntmps35
      go_wp2_with fail
      refine (l8Fault_any w.heap.size s c u 6 a n F _ _ ⟨(Blk6.new w _ _ _ _ _ _ _).alloc _, (H.out.alloc _).alloc _, hcap⟩ hn).mono ?_
      rintro e w1 ⟨rfl, q1⟩
      rw [HF.out]
      have Q : Hid (Below w.heap.size w w1) := ((below_alloc _ _).alloc (by simp) _).trans (q1.mono (by simp; omega))
      have K1 : Hid (Blk6 w1 w.heap.size (.int .i64 s) (.int .i64 c) (.int .i64 u) (.int .i64 6) (.int .i64 a) (.slice ao n cp)) := ((Blk6.new w _ _ _ _ _ _ _).alloc _).later q1
      have K2 := (Blk2.new (w.alloc (.cells #[.int .i64 s, .int .i64 c, .int .i64 u, .int .i64 6, .int .i64 a, .slice ao n cp] 29)) (.int .i64 0) (.int .i64 0) 37).later q1
      simp only [World.size_alloc] at K2
      have K2 : Hid (Blk2 w1 (w.heap.size + 1) (.int .i64 0) (.int .i64 0)) := K2
      obtain ⟨⟨k0, k1, k2, k3, k4, k5⟩, _⟩ := K1.out
      obtain ⟨⟨m0, m1⟩, m2, m3⟩ := K2.out
      have hlt1 := K1.out.lt
      have hlt2 := K2.out.lt
      clear q1
      go_wp2
      refine bodyPost_ret (v := .agg #[.int .i64 0, .int .i64 (0)]) (by simp [results, Try.results35, go_sem, m0, m1]) rfl ⟨rfl, ?_⟩
      exact (Q.out.setCell (by simp) _).setCell (by simp) _
    · have hv2 : v = 0 := by rw [hv]; unfold stepsV; simp
      clear hv
      subst hv2
      go_enter Try.func35, Try.ntmps35
      go_wp2_with fail
      refine (l8Fault_any w.heap.size s c u 7 a n F _ _ ⟨(Blk6.new w _ _ _ _ _ _ _).alloc _, (H.out.alloc _).alloc _, hcap⟩ hn).mono ?_
      rintro e w1 ⟨rfl, q1⟩
      rw [HF.out]
      have Q : Hid (Below w.heap.size w w1) := ((below_alloc _ _).alloc (by simp) _).trans (q1.mono (by simp; omega))
      have K1 : Hid (Blk6 w1 w.heap.size (.int .i64 s) (.int .i64 c) (.int .i64 u) (.int .i64 7) (.int .i64 a) (.slice ao n cp)) := ((Blk6.new w _ _ _ _ _ _ _).alloc _).later q1
      have K2 := (Blk2.new (w.alloc (.cells #[.int .i64 s, .int .i64 c, .int .i64 u, .int .i64 7, .int .i64 a, .slice ao n cp] 29)) (.int .i64 0) (.int .i64 0) 37).later q1
      simp only [World.size_alloc] at K2
      have K2 : Hid (Blk2 w1 (w.heap.size + 1) (.int .i64 0) (.int .i64 0)) := K2
      obtain ⟨⟨k0, k1, k2, k3, k4, k5⟩, _⟩ := K1.out
      obtain ⟨⟨m0, m1⟩, m2, m3⟩ := K2.out
      have hlt1 := K1.out.lt
      have hlt2 := K2.out.lt
      clear q1
      go_wp2
      refine bodyPost_ret (v := .agg #[.int .i64 0, .int .i64 (0)]) (by simp [results, Try.results35, go_sem, m0, m1]) rfl ⟨rfl, ?_⟩
      exact (Q.out.setCell (by simp) _).setCell (by simp) _
  · obtain ⟨rfl, rfl⟩ : r = f ∧ v = 0 := by
      rcases hr with ⟨_, q, q'⟩ | ⟨q, _⟩
      · exact ⟨q, q'⟩
      · exact absurd q h0
    clear hf h0 h2 hr
    go_enter Try.func35, Try.ntmps35
    go_wp2_with fail
    refine (l8Fault_any w.heap.size s c u st a n F _ _ ⟨(Blk6.new w _ _ _ _ _ _ _).alloc _, (H.out.alloc _).alloc _, hcap⟩ hn).mono ?_
    rintro e w1 ⟨rfl, q1⟩
    rw [HF.out]
    have Q : Hid (Below w.heap.size w w1) := ((below_alloc _ _).alloc (by simp) _).trans (q1.mono (by simp; omega))
    have K1 : Hid (Blk6 w1 w.heap.size (.int .i64 s) (.int .i64 c) (.int .i64 u) (.int .i64 st) (.int .i64 a) (.slice ao n cp)) := ((Blk6.new w _ _ _ _ _ _ _).alloc _).later q1
    have K2 := (Blk2.new (w.alloc (.cells #[.int .i64 s, .int .i64 c, .int .i64 u, .int .i64 st, .int .i64 a, .slice ao n cp] 29)) (.int .i64 0) (.int .i64 0) 37).later q1
    simp only [World.size_alloc] at K2
    have K2 : Hid (Blk2 w1 (w.heap.size + 1) (.int .i64 0) (.int .i64 0)) := K2
    obtain ⟨⟨k0, k1, k2, k3, k4, k5⟩, _⟩ := K1.out
    obtain ⟨⟨m0, m1⟩, m2, m3⟩ := K2.out
    have hlt1 := K1.out.lt
    have hlt2 := K2.out.lt
    clear q1
    go_wp2
    refine bodyPost_ret (v := .agg #[.int .i64 r, .int .i64 0]) (by simp [results, Try.results35, go_sem, m0, m1]) rfl ⟨rfl, ?_⟩
    exact (Q.out.setCell (by simp) _).setCell (by simp) _
end Go.Proofs.Ytjimckfkbkfggaa
