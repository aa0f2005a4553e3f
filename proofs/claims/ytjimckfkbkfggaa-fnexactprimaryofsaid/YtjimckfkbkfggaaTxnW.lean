/-
  Own text. The walks of the laws of chapter 8 over one transaction.
-/
import Derived.Test.YtjimckfkbkfggaaTxnI
import Derived.Test.YtjimckfkbkfggaaStorQ
namespace Go.Proofs.Ytjimckfkbkfggaa
open Go.RowKit

theorem eqIntX_same (c v : Int) (w : World) :
    Calls Try.prog 33 #[.agg #[.int .i64 c, .int .i64 v], .agg #[.int .i64 c, .int .i64 v]] w fun e w' => e = .returned (.bool true) ∧ Below w.heap.size w w' := by
  go_enter Try.func33, Try.ntmps33
  go_wp2
  go_ret
  exact ⟨rfl, (below_alloc _ _).alloc (by simp) _⟩
set_option maxRecDepth 100000 in
set_option maxHeartbeats 4000000 in
theorem exactTxnFault_walk (s c u st a : Int) (n : Nat) (F : Nat → Int) (y : Value) (w : World) (h : Row w 0 3 n F y) (hn : n ≤ 9223372036854775807) (_ : ∀ p, (Lit.int .i64 (F p)).wf = true) (_ : (Lit.int .i64 s).wf = true) (_ : (Lit.int .i64 c).wf = true) (_ : (Lit.int .i64 u).wf = true) (_ : (Lit.int .i64 st).wf = true) (_ : (Lit.int .i64 a).wf = true) 
    (ans : n ≤ 1048576 → ∃ r, (∀ y x, Row x 0 3 n F y → CapOk y → Calls Try.prog 19 #[.agg #[.int .i64 s, .int .i64 c, .int .i64 u, .int .i64 st, .int .i64 a, y]] x fun e x' => e = .returned (.int .i64 r) ∧ Below x.heap.size x x') ∧ (∀ y x, Row x 0 3 n F y → CapOk y → Calls Try.prog 16 #[.agg #[.int .i64 s, .int .i64 c, .int .i64 u, .int .i64 st, .int .i64 a, y]] x fun e x' => e = .returned (.int .i64 r) ∧ Below x.heap.size x x')) :
    Calls Try.prog 4 #[.agg #[.int .i64 s, .int .i64 c, .int .i64 u, .int .i64 st, .int .i64 a, y]] w fun e w' => e = .returned (.bool true) ∧ Below w.heap.size w w' := by
  obtain ⟨ao, cp, rfl⟩ := h.form
  have H : Hid (Row w 0 3 n F (.slice ao n cp)) := h
  clear h
  by_cases hs : (1048576 : Int) < n
  · clear ans
    go_enter Try.func4, Try.ntmps4
    go_wp2_with fail
    refine (szTxn_no _ _ _ _ _ _ _ _ _ _ hs (by omega) (by omega) hn).mono ?_
    rintro e w1 ⟨rfl, q1⟩
    have Q : Hid (Below w.heap.size w w1) := (below_alloc _ _).trans (q1.mono (by simp))
    clear q1
    go_wp2
    go_ret
    exact ⟨rfl, Q.out⟩
  have hs' : (n : Int) ≤ 1048576 := by omega
  have hb : n ≤ 1048576 := by omega
  clear hs
  obtain ⟨r, hspec, himpl⟩ := ans hb
  have HS : Hid (∀ y x, Row x 0 3 n F y → CapOk y → Calls Try.prog 19 #[.agg #[.int .i64 s, .int .i64 c, .int .i64 u, .int .i64 st, .int .i64 a, y]] x fun e x' => e = .returned (.int .i64 r) ∧ Below x.heap.size x x') := hspec
  have HI : Hid (∀ y x, Row x 0 3 n F y → CapOk y → Calls Try.prog 16 #[.agg #[.int .i64 s, .int .i64 c, .int .i64 u, .int .i64 st, .int .i64 a, y]] x fun e x' => e = .returned (.int .i64 r) ∧ Below x.heap.size x x') := himpl
  clear hspec himpl ans
  go_enter Try.func4, Try.ntmps4
  go_wp2_with fail
  refine (szTxn_ok _ _ _ _ _ _ _ _ _ _ hs' (by omega)).mono ?_
  rintro e w1 ⟨rfl, q1⟩
  have P1 : Hid (OneT w (.int .i64 s) (.int .i64 c) (.int .i64 u) (.int .i64 st) (.int .i64 a) (.slice ao n cp) w1) := (OneT.new w _ _ _ _ _ _).later q1
  obtain ⟨_, ⟨p0, p1, p2, p3, p4, p5⟩, _⟩ := P1.out
  have dz : decide ((1048576 : Int) - n < 0) = false := decide_eq_false (by omega)
  clear q1 hs'
  go_wp2_with fail
  refine (toTxn_any s c u st a n F _ 0 _ (H.out.later P1.out.1) hb).mono ?_
  rintro e w3 ⟨x0, rfl, s3, _, q3⟩
  have S3 : Hid (Row w3 0 3 n F (.slice x0 n n)) := s3.mono (Nat.zero_le _)
  have P3 : Hid (OneT w (.int .i64 s) (.int .i64 c) (.int .i64 u) (.int .i64 st) (.int .i64 a) (.slice ao n cp) w3) := P1.out.later q3
  clear s3 q3 P1 p0 p1 p2 p3 p4 p5
  go_wp2_with fail
  refine (HS.out _ _ S3.out (capOk_nn _ _)).mono ?_
  rintro e w5 ⟨rfl, q5⟩
  have P5 : Hid (OneT w (.int .i64 s) (.int .i64 c) (.int .i64 u) (.int .i64 st) (.int .i64 a) (.slice ao n cp) w5) := P3.out.later q5
  obtain ⟨_, ⟨p0, p1, p2, p3, p4, p5⟩, _⟩ := P5.out
  clear q5 S3 P3 dz HS
  go_wp2_with fail
  refine (toTxn_any s c u st a n F _ 0 _ (H.out.later P5.out.1) hb).mono ?_
  rintro e w6 ⟨jo, rfl, s6, _, q6⟩
  have S6 : Hid (Row w6 0 3 n F (.slice jo n n)) := s6.mono (Nat.zero_le _)
  have P6 : Hid (OneT w (.int .i64 s) (.int .i64 c) (.int .i64 u) (.int .i64 st) (.int .i64 a) (.slice ao n cp) w6) := P5.out.later q6
  clear s6 q6 P5 p0 p1 p2 p3 p4 p5
  go_wp2_with fail
  refine (HI.out _ _ (S6.out.alloc _) (capOk_nn _ _)).mono ?_
  rintro e w9 ⟨rfl, q8⟩
  have S9 : Hid (Row w9 0 3 n F (.slice jo n n)) := (S6.out.alloc _).later q8
  have P9 : Hid (TwoT w (.int .i64 s) (.int .i64 c) (.int .i64 u) (.int .i64 st) (.int .i64 a) (.slice ao n cp) w6.heap.size (.int .i64 s) (.int .i64 c) (.int .i64 u) (.int .i64 st) (.int .i64 a) (.slice jo n n) w9) := ⟨(P6.out.later (below_alloc _ _)).later q8, (Blk6.new w6 (.int .i64 s) (.int .i64 c) (.int .i64 u) (.int .i64 st) (.int .i64 a) (.slice jo n n) 29).later q8⟩
  clear q8 S6 P6 HI
  go_wp2_with fail
  have P8' : TwoT w (.int .i64 s) (.int .i64 c) (.int .i64 u) (.int .i64 st) (.int .i64 a) (.slice ao n cp) w6.heap.size (.int .i64 s) (.int .i64 c) (.int .i64 u) (.int .i64 st) (.int .i64 a) (.slice jo n n) w9.drew := ⟨⟨P9.out.1.1.drew, P9.out.1.2⟩, P9.out.2⟩
  refine wp_region_held_drew (S := TwoT w (.int .i64 s) (.int .i64 c) (.int .i64 u) (.int .i64 st) (.int .i64 a) (.slice ao n cp) w6.heap.size (.int .i64 s) (.int .i64 c) (.int .i64 u) (.int .i64 st) (.int .i64 a) (.slice jo n n)) (by kernel_rfl) P8' (fun hS => ?_)
  clear P8' P9
  refine wpAnyH_take (i := 0) (v := ?_) rfl (by kernel_rfl) (by kernel_rfl) (by kernel_rfl) (fun _ _ _ h => h) (Or.inl ⟨by kernel_rfl, ?_⟩) hS ?_
  rotate_left
  · intro wx hx
    obtain ⟨⟨_, ⟨hx0, hx1, hx2, hx3, hx4, hx5⟩, _⟩, ⟨hy0, hy1, hy2, hy3, hy4, hy5⟩, _⟩ := hx
    go_simp
    try with_reducible rfl
  refine wpAnyH_take (i := 1) (v := ?_) rfl (by kernel_rfl) (by kernel_rfl) (by kernel_rfl) (fun _ _ _ h => h) (Or.inl ⟨by kernel_rfl, ?_⟩) hS ?_
  rotate_left
  · intro wx hx
    obtain ⟨⟨_, ⟨hx0, hx1, hx2, hx3, hx4, hx5⟩, _⟩, ⟨hy0, hy1, hy2, hy3, hy4, hy5⟩, _⟩ := hx
    go_simp
    try with_reducible rfl
  refine wpAnyH_ready (rs := [2]) (by kernel_rfl) (by simp) ?_
  refine AllReadyH.cons rfl (fun K hK => ?_) AllReadyH.nil
  go_simp
  go_wp2_with fail
  refine (toTxn_any s c u st a n F _ 0 _ (H.out.later hS.1.1) hb).mono ?_
  rintro e w11 ⟨n0, rfl, s11, _, q11⟩
  have S11 : Hid (Row w11 0 3 n F (.slice jo n n) ∧ Row w11 0 3 n F (.slice n0 n n)) := ⟨Row.later (w := w9.drew) S9.out q11, s11.mono (Nat.zero_le _)⟩
  have hS' := hS.later q11
  clear s11 q11 S9
  go_wp2_with fail
  refine hK.out _ _ hS' (fun hS => ?_)
  clear hK K hS'
  refine wpAnyH_ready (rs := [3]) (by kernel_rfl) (by simp) ?_
  refine AllReadyH.cons rfl (fun K hK => ?_) AllReadyH.nil
  go_simp
  go_wp2_with fail
  refine (eqTxn_same s c u st a n F _ _ 0 0 _ S11.out.1 S11.out.2 hb).mono ?_
  rintro e w12 ⟨rfl, q12⟩
  have hS' := hS.later q12
  clear q12 S11
  go_wp2_with fail
  refine hK.out _ _ hS' (fun hS => ?_)
  clear hK K hS'
  refine wpAnyH_take (i := 4) (v := ?_) rfl (by kernel_rfl) (by kernel_rfl) (by kernel_rfl) (fun _ _ _ h => h) (Or.inl ⟨by kernel_rfl, ?_⟩) hS ?_
  rotate_left
  · intro wx hx
    obtain ⟨⟨_, ⟨hx0, hx1, hx2, hx3, hx4, hx5⟩, _⟩, ⟨hy0, hy1, hy2, hy3, hy4, hy5⟩, _⟩ := hx
    go_simp
    try with_reducible rfl
  refine wpAnyH_done (by kernel_rfl) ?_ _
  go_simp
  go_wp2
  go_ret
  exact ⟨rfl, hS.1.1⟩
set_option maxRecDepth 100000 in
set_option maxHeartbeats 4000000 in
theorem exactIsOver_walk (s c u st a : Int) (n : Nat) (F : Nat → Int) (y : Value) (w : World) (h : Row w 0 3 n F y) (hn : n ≤ 9223372036854775807) (_ : ∀ p, (Lit.int .i64 (F p)).wf = true) (_ : (Lit.int .i64 s).wf = true) (_ : (Lit.int .i64 c).wf = true) (_ : (Lit.int .i64 u).wf = true) (_ : (Lit.int .i64 st).wf = true) (_ : (Lit.int .i64 a).wf = true) 
    (ans : n ≤ 1048576 → ∃ r, (∀ y x, Row x 0 3 n F y → CapOk y → Calls Try.prog 34 #[.agg #[.int .i64 s, .int .i64 c, .int .i64 u, .int .i64 st, .int .i64 a, y]] x fun e x' => e = .returned (.bool r) ∧ Below x.heap.size x x') ∧ (∀ y x, Row x 0 3 n F y → CapOk y → Calls Try.prog 17 #[.agg #[.int .i64 s, .int .i64 c, .int .i64 u, .int .i64 st, .int .i64 a, y]] x fun e x' => e = .returned (.bool r) ∧ Below x.heap.size x x')) :
    Calls Try.prog 7 #[.agg #[.int .i64 s, .int .i64 c, .int .i64 u, .int .i64 st, .int .i64 a, y]] w fun e w' => e = .returned (.bool true) ∧ Below w.heap.size w w' := by
  obtain ⟨ao, cp, rfl⟩ := h.form
  have H : Hid (Row w 0 3 n F (.slice ao n cp)) := h
  clear h
  by_cases hs : (1048576 : Int) < n
  · clear ans
    go_enter Try.func7, Try.ntmps7
    go_wp2_with fail
    refine (szTxn_no _ _ _ _ _ _ _ _ _ _ hs (by omega) (by omega) hn).mono ?_
    rintro e w1 ⟨rfl, q1⟩
    have Q : Hid (Below w.heap.size w w1) := (below_alloc _ _).trans (q1.mono (by simp))
    clear q1
    go_wp2
    go_ret
    exact ⟨rfl, Q.out⟩
  have hs' : (n : Int) ≤ 1048576 := by omega
  have hb : n ≤ 1048576 := by omega
  clear hs
  obtain ⟨r, hspec, himpl⟩ := ans hb
  have HS : Hid (∀ y x, Row x 0 3 n F y → CapOk y → Calls Try.prog 34 #[.agg #[.int .i64 s, .int .i64 c, .int .i64 u, .int .i64 st, .int .i64 a, y]] x fun e x' => e = .returned (.bool r) ∧ Below x.heap.size x x') := hspec
  have HI : Hid (∀ y x, Row x 0 3 n F y → CapOk y → Calls Try.prog 17 #[.agg #[.int .i64 s, .int .i64 c, .int .i64 u, .int .i64 st, .int .i64 a, y]] x fun e x' => e = .returned (.bool r) ∧ Below x.heap.size x x') := himpl
  clear hspec himpl ans
  go_enter Try.func7, Try.ntmps7
  go_wp2_with fail
  refine (szTxn_ok _ _ _ _ _ _ _ _ _ _ hs' (by omega)).mono ?_
  rintro e w1 ⟨rfl, q1⟩
  have P1 : Hid (OneT w (.int .i64 s) (.int .i64 c) (.int .i64 u) (.int .i64 st) (.int .i64 a) (.slice ao n cp) w1) := (OneT.new w _ _ _ _ _ _).later q1
  obtain ⟨_, ⟨p0, p1, p2, p3, p4, p5⟩, _⟩ := P1.out
  have dz : decide ((1048576 : Int) - n < 0) = false := decide_eq_false (by omega)
  clear q1 hs'
  go_wp2_with fail
  refine (toTxn_any s c u st a n F _ 0 _ (H.out.later P1.out.1) hb).mono ?_
  rintro e w3 ⟨x0, rfl, s3, _, q3⟩
  have S3 : Hid (Row w3 0 3 n F (.slice x0 n n)) := s3.mono (Nat.zero_le _)
  have P3 : Hid (OneT w (.int .i64 s) (.int .i64 c) (.int .i64 u) (.int .i64 st) (.int .i64 a) (.slice ao n cp) w3) := P1.out.later q3
  clear s3 q3 P1 p0 p1 p2 p3 p4 p5
  go_wp2_with fail
  refine (HS.out _ _ S3.out (capOk_nn _ _)).mono ?_
  rintro e w5 ⟨rfl, q5⟩
  have P5 : Hid (OneT w (.int .i64 s) (.int .i64 c) (.int .i64 u) (.int .i64 st) (.int .i64 a) (.slice ao n cp) w5) := P3.out.later q5
  obtain ⟨_, ⟨p0, p1, p2, p3, p4, p5⟩, _⟩ := P5.out
  clear q5 S3 P3 dz HS
  go_wp2_with fail
  refine (toTxn_any s c u st a n F _ 0 _ (H.out.later P5.out.1) hb).mono ?_
  rintro e w6 ⟨jo, rfl, s6, _, q6⟩
  have S6 : Hid (Row w6 0 3 n F (.slice jo n n)) := s6.mono (Nat.zero_le _)
  have P6 : Hid (OneT w (.int .i64 s) (.int .i64 c) (.int .i64 u) (.int .i64 st) (.int .i64 a) (.slice ao n cp) w6) := P5.out.later q6
  clear s6 q6 P5 p0 p1 p2 p3 p4 p5
  go_wp2_with fail
  refine (HI.out _ _ (S6.out.alloc _) (capOk_nn _ _)).mono ?_
  rintro e w9 ⟨rfl, q8⟩
  have S9 : Hid (Row w9 0 3 n F (.slice jo n n)) := (S6.out.alloc _).later q8
  have P9 : Hid (TwoT w (.int .i64 s) (.int .i64 c) (.int .i64 u) (.int .i64 st) (.int .i64 a) (.slice ao n cp) w6.heap.size (.int .i64 s) (.int .i64 c) (.int .i64 u) (.int .i64 st) (.int .i64 a) (.slice jo n n) w9) := ⟨(P6.out.later (below_alloc _ _)).later q8, (Blk6.new w6 (.int .i64 s) (.int .i64 c) (.int .i64 u) (.int .i64 st) (.int .i64 a) (.slice jo n n) 29).later q8⟩
  clear q8 S6 P6 HI
  go_wp2_with fail
  have P8' : TwoT w (.int .i64 s) (.int .i64 c) (.int .i64 u) (.int .i64 st) (.int .i64 a) (.slice ao n cp) w6.heap.size (.int .i64 s) (.int .i64 c) (.int .i64 u) (.int .i64 st) (.int .i64 a) (.slice jo n n) w9.drew := ⟨⟨P9.out.1.1.drew, P9.out.1.2⟩, P9.out.2⟩
  refine wp_region_held_drew (S := TwoT w (.int .i64 s) (.int .i64 c) (.int .i64 u) (.int .i64 st) (.int .i64 a) (.slice ao n cp) w6.heap.size (.int .i64 s) (.int .i64 c) (.int .i64 u) (.int .i64 st) (.int .i64 a) (.slice jo n n)) (by kernel_rfl) P8' (fun hS => ?_)
  clear P8' P9
  refine wpAnyH_take (i := 0) (v := ?_) rfl (by kernel_rfl) (by kernel_rfl) (by kernel_rfl) (fun _ _ _ h => h) (Or.inl ⟨by kernel_rfl, ?_⟩) hS ?_
  rotate_left
  · intro wx hx
    obtain ⟨⟨_, ⟨hx0, hx1, hx2, hx3, hx4, hx5⟩, _⟩, ⟨hy0, hy1, hy2, hy3, hy4, hy5⟩, _⟩ := hx
    go_simp
    try with_reducible rfl
  refine wpAnyH_take (i := 1) (v := ?_) rfl (by kernel_rfl) (by kernel_rfl) (by kernel_rfl) (fun _ _ _ h => h) (Or.inl ⟨by kernel_rfl, ?_⟩) hS ?_
  rotate_left
  · intro wx hx
    obtain ⟨⟨_, ⟨hx0, hx1, hx2, hx3, hx4, hx5⟩, _⟩, ⟨hy0, hy1, hy2, hy3, hy4, hy5⟩, _⟩ := hx
    go_simp
    try with_reducible rfl
  refine wpAnyH_ready (rs := [2]) (by kernel_rfl) (by simp) ?_
  refine AllReadyH.cons rfl (fun K hK => ?_) AllReadyH.nil
  go_simp
  go_wp2_with fail
  refine (toTxn_any s c u st a n F _ 0 _ (H.out.later hS.1.1) hb).mono ?_
  rintro e w11 ⟨n0, rfl, s11, _, q11⟩
  have S11 : Hid (Row w11 0 3 n F (.slice jo n n) ∧ Row w11 0 3 n F (.slice n0 n n)) := ⟨Row.later (w := w9.drew) S9.out q11, s11.mono (Nat.zero_le _)⟩
  have hS' := hS.later q11
  clear s11 q11 S9
  go_wp2_with fail
  refine hK.out _ _ hS' (fun hS => ?_)
  clear hK K hS'
  refine wpAnyH_ready (rs := [3]) (by kernel_rfl) (by simp) ?_
  refine AllReadyH.cons rfl (fun K hK => ?_) AllReadyH.nil
  go_simp
  go_wp2_with fail
  refine (eqTxn_same s c u st a n F _ _ 0 0 _ S11.out.1 S11.out.2 hb).mono ?_
  rintro e w12 ⟨rfl, q12⟩
  have hS' := hS.later q12
  clear q12 S11
  go_wp2_with fail
  refine hK.out _ _ hS' (fun hS => ?_)
  clear hK K hS'
  refine wpAnyH_take (i := 4) (v := ?_) rfl (by kernel_rfl) (by kernel_rfl) (by kernel_rfl) (fun _ _ _ h => h) (Or.inl ⟨by kernel_rfl, ?_⟩) hS ?_
  rotate_left
  · intro wx hx
    obtain ⟨⟨_, ⟨hx0, hx1, hx2, hx3, hx4, hx5⟩, _⟩, ⟨hy0, hy1, hy2, hy3, hy4, hy5⟩, _⟩ := hx
    go_simp
    try with_reducible rfl
  refine wpAnyH_done (by kernel_rfl) ?_ _
  go_simp
  go_wp2
  go_ret
  exact ⟨rfl, hS.1.1⟩
set_option maxRecDepth 100000 in
set_option maxHeartbeats 4000000 in
theorem exactPrimaryOf_walk (s c u st a : Int) (n : Nat) (F : Nat → Int) (y : Value) (w : World) (h : Row w 0 3 n F y) (hn : n ≤ 9223372036854775807) (_ : ∀ p, (Lit.int .i64 (F p)).wf = true) (_ : (Lit.int .i64 s).wf = true) (_ : (Lit.int .i64 c).wf = true) (_ : (Lit.int .i64 u).wf = true) (_ : (Lit.int .i64 st).wf = true) (_ : (Lit.int .i64 a).wf = true) 
    (ans : n ≤ 1048576 → ∃ r v, (∀ y x, Row x 0 3 n F y → CapOk y → Calls Try.prog 32 #[.agg #[.int .i64 s, .int .i64 c, .int .i64 u, .int .i64 st, .int .i64 a, y]] x fun e x' => e = .returned (.agg #[.int .i64 r, .int .i64 v]) ∧ Below x.heap.size x x') ∧ (∀ y x, Row x 0 3 n F y → CapOk y → Calls Try.prog 14 #[.agg #[.int .i64 s, .int .i64 c, .int .i64 u, .int .i64 st, .int .i64 a, y]] x fun e x' => e = .returned (.agg #[.int .i64 r, .int .i64 v]) ∧ Below x.heap.size x x')) :
    Calls Try.prog 6 #[.agg #[.int .i64 s, .int .i64 c, .int .i64 u, .int .i64 st, .int .i64 a, y]] w fun e w' => e = .returned (.bool true) ∧ Below w.heap.size w w' := by
  obtain ⟨ao, cp, rfl⟩ := h.form
  have H : Hid (Row w 0 3 n F (.slice ao n cp)) := h
  clear h
  by_cases hs : (1048576 : Int) < n
  · clear ans
    go_enter Try.func6, Try.ntmps6
    go_wp2_with fail
    refine (szTxn_no _ _ _ _ _ _ _ _ _ _ hs (by omega) (by omega) hn).mono ?_
    rintro e w1 ⟨rfl, q1⟩
    have Q : Hid (Below w.heap.size w w1) := (below_alloc _ _).trans (q1.mono (by simp))
    clear q1
    go_wp2
    go_ret
    exact ⟨rfl, Q.out⟩
  have hs' : (n : Int) ≤ 1048576 := by omega
  have hb : n ≤ 1048576 := by omega
  clear hs
  obtain ⟨r, v, hspec, himpl⟩ := ans hb
  have HS : Hid (∀ y x, Row x 0 3 n F y → CapOk y → Calls Try.prog 32 #[.agg #[.int .i64 s, .int .i64 c, .int .i64 u, .int .i64 st, .int .i64 a, y]] x fun e x' => e = .returned (.agg #[.int .i64 r, .int .i64 v]) ∧ Below x.heap.size x x') := hspec
  have HI : Hid (∀ y x, Row x 0 3 n F y → CapOk y → Calls Try.prog 14 #[.agg #[.int .i64 s, .int .i64 c, .int .i64 u, .int .i64 st, .int .i64 a, y]] x fun e x' => e = .returned (.agg #[.int .i64 r, .int .i64 v]) ∧ Below x.heap.size x x') := himpl
  clear hspec himpl ans
  go_enter Try.func6, Try.ntmps6
  go_wp2_with fail
  refine (szTxn_ok _ _ _ _ _ _ _ _ _ _ hs' (by omega)).mono ?_
  rintro e w1 ⟨rfl, q1⟩
  have P1 : Hid (OneT w (.int .i64 s) (.int .i64 c) (.int .i64 u) (.int .i64 st) (.int .i64 a) (.slice ao n cp) w1) := (OneT.new w _ _ _ _ _ _).later q1
  obtain ⟨_, ⟨p0, p1, p2, p3, p4, p5⟩, _⟩ := P1.out
  have dz : decide ((1048576 : Int) - n < 0) = false := decide_eq_false (by omega)
  clear q1 hs'
  go_wp2_with fail
  refine (toTxn_any s c u st a n F _ 0 _ (H.out.later P1.out.1) hb).mono ?_
  rintro e w3 ⟨x0, rfl, s3, _, q3⟩
  have S3 : Hid (Row w3 0 3 n F (.slice x0 n n)) := s3.mono (Nat.zero_le _)
  have P3 : Hid (OneT w (.int .i64 s) (.int .i64 c) (.int .i64 u) (.int .i64 st) (.int .i64 a) (.slice ao n cp) w3) := P1.out.later q3
  clear s3 q3 P1 p0 p1 p2 p3 p4 p5
  go_wp2_with fail
  refine (HS.out _ _ S3.out (capOk_nn _ _)).mono ?_
  rintro e w5 ⟨rfl, q5⟩
  have P5 : Hid (OneT w (.int .i64 s) (.int .i64 c) (.int .i64 u) (.int .i64 st) (.int .i64 a) (.slice ao n cp) (w5.alloc (.cells #[.int .i64 r, .int .i64 v] 37)) ∧ Blk2 (w5.alloc (.cells #[.int .i64 r, .int .i64 v] 37)) w5.heap.size (.int .i64 r) (.int .i64 v)) := ⟨(P3.out.later q5).later (below_alloc _ _), Blk2.new w5 _ _ _⟩
  have P5' : Hid (OneT w (.int .i64 s) (.int .i64 c) (.int .i64 u) (.int .i64 st) (.int .i64 a) (.slice ao n cp) w5) := P3.out.later q5
  obtain ⟨_, ⟨p0, p1, p2, p3, p4, p5⟩, _⟩ := P5'.out
  have z5 := P5'.out.2.lt
  clear q5 S3 P3 dz P5' HS
  go_wp2_with fail
  refine (toTxn_any s c u st a n F _ 0 _ (H.out.later P5.out.1.1) hb).mono ?_
  rintro e w6 ⟨jo, rfl, s6, _, q6⟩
  have S6 : Hid (Row w6 0 3 n F (.slice jo n n)) := s6.mono (Nat.zero_le _)
  have P6 : Hid (OneT w (.int .i64 s) (.int .i64 c) (.int .i64 u) (.int .i64 st) (.int .i64 a) (.slice ao n cp) w6 ∧ Blk2 w6 w5.heap.size (.int .i64 r) (.int .i64 v)) := ⟨P5.out.1.later q6, P5.out.2.later q6⟩
  clear s6 q6 P5 p0 p1 p2 p3 p4 p5 z5
  go_wp2_with fail
  refine (HI.out _ _ (S6.out.alloc _) (capOk_nn _ _)).mono ?_
  rintro e w8 ⟨rfl, q8⟩
  have S8 : Hid (Row w8 0 3 n F (.slice jo n n)) := (S6.out.alloc _).later q8
  have P8 : Hid (TwoT w (.int .i64 s) (.int .i64 c) (.int .i64 u) (.int .i64 st) (.int .i64 a) (.slice ao n cp) w6.heap.size (.int .i64 s) (.int .i64 c) (.int .i64 u) (.int .i64 st) (.int .i64 a) (.slice jo n n) w8) := ⟨(P6.out.1.later (below_alloc _ _)).later q8, (Blk6.new w6 (.int .i64 s) (.int .i64 c) (.int .i64 u) (.int .i64 st) (.int .i64 a) (.slice jo n n) 29).later q8⟩
  have B8 := (P6.out.2.alloc (.cells #[.int .i64 s, .int .i64 c, .int .i64 u, .int .i64 st, .int .i64 a, .slice jo n n] 29)).later q8
  obtain ⟨⟨t0, t1⟩, _⟩ := B8
  have z8 := World.block_lt_of_cell? w8 _ t0
  clear q8 S6 P6 HI
  go_wp2_with fail
  refine (eqIntX_same r v _).mono ?_
  rintro e w9 ⟨rfl, q9⟩
  have q9' := (below_alloc w8 (.cells #[.int .i64 r, .int .i64 v] 37)).trans (q9.mono (by simp))
  have S9 : Hid (Row w9 0 3 n F (.slice jo n n)) := S8.out.later q9'
  have P9 : Hid (TwoT w (.int .i64 s) (.int .i64 c) (.int .i64 u) (.int .i64 st) (.int .i64 a) (.slice ao n cp) w6.heap.size (.int .i64 s) (.int .i64 c) (.int .i64 u) (.int .i64 st) (.int .i64 a) (.slice jo n n) w9) := P8.out.later q9'
  clear q9 q9' S8 P8 t0 t1 z8
  go_wp2_with fail
  have P8' : TwoT w (.int .i64 s) (.int .i64 c) (.int .i64 u) (.int .i64 st) (.int .i64 a) (.slice ao n cp) w6.heap.size (.int .i64 s) (.int .i64 c) (.int .i64 u) (.int .i64 st) (.int .i64 a) (.slice jo n n) w9.drew := ⟨⟨P9.out.1.1.drew, P9.out.1.2⟩, P9.out.2⟩
  refine wp_region_held_drew (S := TwoT w (.int .i64 s) (.int .i64 c) (.int .i64 u) (.int .i64 st) (.int .i64 a) (.slice ao n cp) w6.heap.size (.int .i64 s) (.int .i64 c) (.int .i64 u) (.int .i64 st) (.int .i64 a) (.slice jo n n)) (by kernel_rfl) P8' (fun hS => ?_)
  clear P8' P9
  refine wpAnyH_take (i := 0) (v := ?_) rfl (by kernel_rfl) (by kernel_rfl) (by kernel_rfl) (fun _ _ _ h => h) (Or.inl ⟨by kernel_rfl, ?_⟩) hS ?_
  rotate_left
  · intro wx hx
    obtain ⟨⟨_, ⟨hx0, hx1, hx2, hx3, hx4, hx5⟩, _⟩, ⟨hy0, hy1, hy2, hy3, hy4, hy5⟩, _⟩ := hx
    go_simp
    try with_reducible rfl
  refine wpAnyH_take (i := 1) (v := ?_) rfl (by kernel_rfl) (by kernel_rfl) (by kernel_rfl) (fun _ _ _ h => h) (Or.inl ⟨by kernel_rfl, ?_⟩) hS ?_
  rotate_left
  · intro wx hx
    obtain ⟨⟨_, ⟨hx0, hx1, hx2, hx3, hx4, hx5⟩, _⟩, ⟨hy0, hy1, hy2, hy3, hy4, hy5⟩, _⟩ := hx
    go_simp
    try with_reducible rfl
  refine wpAnyH_ready (rs := [2]) (by kernel_rfl) (by simp) ?_
  refine AllReadyH.cons rfl (fun K hK => ?_) AllReadyH.nil
  go_simp
  go_wp2_with fail
  refine (toTxn_any s c u st a n F _ 0 _ (H.out.later hS.1.1) hb).mono ?_
  rintro e w11 ⟨n0, rfl, s11, _, q11⟩
  have S11 : Hid (Row w11 0 3 n F (.slice jo n n) ∧ Row w11 0 3 n F (.slice n0 n n)) := ⟨Row.later (w := w9.drew) S9.out q11, s11.mono (Nat.zero_le _)⟩
  have hS' := hS.later q11
  clear s11 q11 S9
  go_wp2_with fail
  refine hK.out _ _ hS' (fun hS => ?_)
  clear hK K hS'
  refine wpAnyH_ready (rs := [3]) (by kernel_rfl) (by simp) ?_
  refine AllReadyH.cons rfl (fun K hK => ?_) AllReadyH.nil
  go_simp
  go_wp2_with fail
  refine (eqTxn_same s c u st a n F _ _ 0 0 _ S11.out.1 S11.out.2 hb).mono ?_
  rintro e w12 ⟨rfl, q12⟩
  have hS' := hS.later q12
  clear q12 S11
  go_wp2_with fail
  refine hK.out _ _ hS' (fun hS => ?_)
  clear hK K hS'
  refine wpAnyH_take (i := 4) (v := ?_) rfl (by kernel_rfl) (by kernel_rfl) (by kernel_rfl) (fun _ _ _ h => h) (Or.inl ⟨by kernel_rfl, ?_⟩) hS ?_
  rotate_left
  · intro wx hx
    obtain ⟨⟨_, ⟨hx0, hx1, hx2, hx3, hx4, hx5⟩, _⟩, ⟨hy0, hy1, hy2, hy3, hy4, hy5⟩, _⟩ := hx
    go_simp
    try with_reducible rfl
  refine wpAnyH_done (by kernel_rfl) ?_ _
  go_simp
  go_wp2
  go_ret
  exact ⟨rfl, hS.1.1⟩
set_option maxRecDepth 100000 in
set_option maxHeartbeats 4000000 in
theorem exactStepsLeft_walk (s c u st a : Int) (n : Nat) (F : Nat → Int) (y : Value) (w : World) (h : Row w 0 3 n F y) (hn : n ≤ 9223372036854775807) (_ : ∀ p, (Lit.int .i64 (F p)).wf = true) (_ : (Lit.int .i64 s).wf = true) (_ : (Lit.int .i64 c).wf = true) (_ : (Lit.int .i64 u).wf = true) (_ : (Lit.int .i64 st).wf = true) (_ : (Lit.int .i64 a).wf = true) 
    (ans : n ≤ 1048576 → ∃ r v, (∀ y x, Row x 0 3 n F y → CapOk y → Calls Try.prog 35 #[.agg #[.int .i64 s, .int .i64 c, .int .i64 u, .int .i64 st, .int .i64 a, y]] x fun e x' => e = .returned (.agg #[.int .i64 r, .int .i64 v]) ∧ Below x.heap.size x x') ∧ (∀ y x, Row x 0 3 n F y → CapOk y → Calls Try.prog 15 #[.agg #[.int .i64 s, .int .i64 c, .int .i64 u, .int .i64 st, .int .i64 a, y]] x fun e x' => e = .returned (.agg #[.int .i64 r, .int .i64 v]) ∧ Below x.heap.size x x')) :
    Calls Try.prog 8 #[.agg #[.int .i64 s, .int .i64 c, .int .i64 u, .int .i64 st, .int .i64 a, y]] w fun e w' => e = .returned (.bool true) ∧ Below w.heap.size w w' := by
  obtain ⟨ao, cp, rfl⟩ := h.form
  have H : Hid (Row w 0 3 n F (.slice ao n cp)) := h
  clear h
  by_cases hs : (1048576 : Int) < n
  · clear ans
    go_enter Try.func8, Try.ntmps8
    go_wp2_with fail
    refine (szTxn_no _ _ _ _ _ _ _ _ _ _ hs (by omega) (by omega) hn).mono ?_
    rintro e w1 ⟨rfl, q1⟩
    have Q : Hid (Below w.heap.size w w1) := (below_alloc _ _).trans (q1.mono (by simp))
    clear q1
    go_wp2
    go_ret
    exact ⟨rfl, Q.out⟩
  have hs' : (n : Int) ≤ 1048576 := by omega
  have hb : n ≤ 1048576 := by omega
  clear hs
  obtain ⟨r, v, hspec, himpl⟩ := ans hb
  have HS : Hid (∀ y x, Row x 0 3 n F y → CapOk y → Calls Try.prog 35 #[.agg #[.int .i64 s, .int .i64 c, .int .i64 u, .int .i64 st, .int .i64 a, y]] x fun e x' => e = .returned (.agg #[.int .i64 r, .int .i64 v]) ∧ Below x.heap.size x x') := hspec
  have HI : Hid (∀ y x, Row x 0 3 n F y → CapOk y → Calls Try.prog 15 #[.agg #[.int .i64 s, .int .i64 c, .int .i64 u, .int .i64 st, .int .i64 a, y]] x fun e x' => e = .returned (.agg #[.int .i64 r, .int .i64 v]) ∧ Below x.heap.size x x') := himpl
  clear hspec himpl ans
  go_enter Try.func8, Try.ntmps8
  go_wp2_with fail
  refine (szTxn_ok _ _ _ _ _ _ _ _ _ _ hs' (by omega)).mono ?_
  rintro e w1 ⟨rfl, q1⟩
  have P1 : Hid (OneT w (.int .i64 s) (.int .i64 c) (.int .i64 u) (.int .i64 st) (.int .i64 a) (.slice ao n cp) w1) := (OneT.new w _ _ _ _ _ _).later q1
  obtain ⟨_, ⟨p0, p1, p2, p3, p4, p5⟩, _⟩ := P1.out
  have dz : decide ((1048576 : Int) - n < 0) = false := decide_eq_false (by omega)
  clear q1 hs'
  go_wp2_with fail
  refine (toTxn_any s c u st a n F _ 0 _ (H.out.later P1.out.1) hb).mono ?_
  rintro e w3 ⟨x0, rfl, s3, _, q3⟩
  have S3 : Hid (Row w3 0 3 n F (.slice x0 n n)) := s3.mono (Nat.zero_le _)
  have P3 : Hid (OneT w (.int .i64 s) (.int .i64 c) (.int .i64 u) (.int .i64 st) (.int .i64 a) (.slice ao n cp) w3) := P1.out.later q3
  clear s3 q3 P1 p0 p1 p2 p3 p4 p5
  go_wp2_with fail
  refine (HS.out _ _ S3.out (capOk_nn _ _)).mono ?_
  rintro e w5 ⟨rfl, q5⟩
  have P5 : Hid (OneT w (.int .i64 s) (.int .i64 c) (.int .i64 u) (.int .i64 st) (.int .i64 a) (.slice ao n cp) (w5.alloc (.cells #[.int .i64 r, .int .i64 v] 37)) ∧ Blk2 (w5.alloc (.cells #[.int .i64 r, .int .i64 v] 37)) w5.heap.size (.int .i64 r) (.int .i64 v)) := ⟨(P3.out.later q5).later (below_alloc _ _), Blk2.new w5 _ _ _⟩
  have P5' : Hid (OneT w (.int .i64 s) (.int .i64 c) (.int .i64 u) (.int .i64 st) (.int .i64 a) (.slice ao n cp) w5) := P3.out.later q5
  obtain ⟨_, ⟨p0, p1, p2, p3, p4, p5⟩, _⟩ := P5'.out
  have z5 := P5'.out.2.lt
  clear q5 S3 P3 dz P5' HS
  go_wp2_with fail
  refine (toTxn_any s c u st a n F _ 0 _ (H.out.later P5.out.1.1) hb).mono ?_
  rintro e w6 ⟨jo, rfl, s6, _, q6⟩
  have S6 : Hid (Row w6 0 3 n F (.slice jo n n)) := s6.mono (Nat.zero_le _)
  have P6 : Hid (OneT w (.int .i64 s) (.int .i64 c) (.int .i64 u) (.int .i64 st) (.int .i64 a) (.slice ao n cp) w6 ∧ Blk2 w6 w5.heap.size (.int .i64 r) (.int .i64 v)) := ⟨P5.out.1.later q6, P5.out.2.later q6⟩
  clear s6 q6 P5 p0 p1 p2 p3 p4 p5 z5
  go_wp2_with fail
  refine (HI.out _ _ (S6.out.alloc _) (capOk_nn _ _)).mono ?_
  rintro e w8 ⟨rfl, q8⟩
  have S8 : Hid (Row w8 0 3 n F (.slice jo n n)) := (S6.out.alloc _).later q8
  have P8 : Hid (TwoT w (.int .i64 s) (.int .i64 c) (.int .i64 u) (.int .i64 st) (.int .i64 a) (.slice ao n cp) w6.heap.size (.int .i64 s) (.int .i64 c) (.int .i64 u) (.int .i64 st) (.int .i64 a) (.slice jo n n) w8) := ⟨(P6.out.1.later (below_alloc _ _)).later q8, (Blk6.new w6 (.int .i64 s) (.int .i64 c) (.int .i64 u) (.int .i64 st) (.int .i64 a) (.slice jo n n) 29).later q8⟩
  have B8 := (P6.out.2.alloc (.cells #[.int .i64 s, .int .i64 c, .int .i64 u, .int .i64 st, .int .i64 a, .slice jo n n] 29)).later q8
  obtain ⟨⟨t0, t1⟩, _⟩ := B8
  have z8 := World.block_lt_of_cell? w8 _ t0
  clear q8 S6 P6 HI
  go_wp2_with fail
  refine (eqIntX_same r v _).mono ?_
  rintro e w9 ⟨rfl, q9⟩
  have q9' := (below_alloc w8 (.cells #[.int .i64 r, .int .i64 v] 37)).trans (q9.mono (by simp))
  have S9 : Hid (Row w9 0 3 n F (.slice jo n n)) := S8.out.later q9'
  have P9 : Hid (TwoT w (.int .i64 s) (.int .i64 c) (.int .i64 u) (.int .i64 st) (.int .i64 a) (.slice ao n cp) w6.heap.size (.int .i64 s) (.int .i64 c) (.int .i64 u) (.int .i64 st) (.int .i64 a) (.slice jo n n) w9) := P8.out.later q9'
  clear q9 q9' S8 P8 t0 t1 z8
  go_wp2_with fail
  have P8' : TwoT w (.int .i64 s) (.int .i64 c) (.int .i64 u) (.int .i64 st) (.int .i64 a) (.slice ao n cp) w6.heap.size (.int .i64 s) (.int .i64 c) (.int .i64 u) (.int .i64 st) (.int .i64 a) (.slice jo n n) w9.drew := ⟨⟨P9.out.1.1.drew, P9.out.1.2⟩, P9.out.2⟩
  refine wp_region_held_drew (S := TwoT w (.int .i64 s) (.int .i64 c) (.int .i64 u) (.int .i64 st) (.int .i64 a) (.slice ao n cp) w6.heap.size (.int .i64 s) (.int .i64 c) (.int .i64 u) (.int .i64 st) (.int .i64 a) (.slice jo n n)) (by kernel_rfl) P8' (fun hS => ?_)
  clear P8' P9
  refine wpAnyH_take (i := 0) (v := ?_) rfl (by kernel_rfl) (by kernel_rfl) (by kernel_rfl) (fun _ _ _ h => h) (Or.inl ⟨by kernel_rfl, ?_⟩) hS ?_
  rotate_left
  · intro wx hx
    obtain ⟨⟨_, ⟨hx0, hx1, hx2, hx3, hx4, hx5⟩, _⟩, ⟨hy0, hy1, hy2, hy3, hy4, hy5⟩, _⟩ := hx
    go_simp
    try with_reducible rfl
  refine wpAnyH_take (i := 1) (v := ?_) rfl (by kernel_rfl) (by kernel_rfl) (by kernel_rfl) (fun _ _ _ h => h) (Or.inl ⟨by kernel_rfl, ?_⟩) hS ?_
  rotate_left
  · intro wx hx
    obtain ⟨⟨_, ⟨hx0, hx1, hx2, hx3, hx4, hx5⟩, _⟩, ⟨hy0, hy1, hy2, hy3, hy4, hy5⟩, _⟩ := hx
    go_simp
    try with_reducible rfl
  refine wpAnyH_ready (rs := [2]) (by kernel_rfl) (by simp) ?_
  refine AllReadyH.cons rfl (fun K hK => ?_) AllReadyH.nil
  go_simp
  go_wp2_with fail
  refine (toTxn_any s c u st a n F _ 0 _ (H.out.later hS.1.1) hb).mono ?_
  rintro e w11 ⟨n0, rfl, s11, _, q11⟩
  have S11 : Hid (Row w11 0 3 n F (.slice jo n n) ∧ Row w11 0 3 n F (.slice n0 n n)) := ⟨Row.later (w := w9.drew) S9.out q11, s11.mono (Nat.zero_le _)⟩
  have hS' := hS.later q11
  clear s11 q11 S9
  go_wp2_with fail
  refine hK.out _ _ hS' (fun hS => ?_)
  clear hK K hS'
  refine wpAnyH_ready (rs := [3]) (by kernel_rfl) (by simp) ?_
  refine AllReadyH.cons rfl (fun K hK => ?_) AllReadyH.nil
  go_simp
  go_wp2_with fail
  refine (eqTxn_same s c u st a n F _ _ 0 0 _ S11.out.1 S11.out.2 hb).mono ?_
  rintro e w12 ⟨rfl, q12⟩
  have hS' := hS.later q12
  clear q12 S11
  go_wp2_with fail
  refine hK.out _ _ hS' (fun hS => ?_)
  clear hK K hS'
  refine wpAnyH_take (i := 4) (v := ?_) rfl (by kernel_rfl) (by kernel_rfl) (by kernel_rfl) (fun _ _ _ h => h) (Or.inl ⟨by kernel_rfl, ?_⟩) hS ?_
  rotate_left
  · intro wx hx
    obtain ⟨⟨_, ⟨hx0, hx1, hx2, hx3, hx4, hx5⟩, _⟩, ⟨hy0, hy1, hy2, hy3, hy4, hy5⟩, _⟩ := hx
    go_simp
    try with_reducible rfl
  refine wpAnyH_done (by kernel_rfl) ?_ _
  go_simp
  go_wp2
  go_ret
  exact ⟨rfl, hS.1.1⟩
end Go.Proofs.Ytjimckfkbkfggaa
