/-
  Own text, merged of FsA, PartB, RngD, GrpE, WldG, WldH, WldI.
-/
import Derived.Test.YtjkchhcnochjlaaGreatDoorPk5
namespace Go.Proofs.YtjkchhcnochjlaaGreatDoor
open Go.RowKit

theorem isInodeT_is (v : Int) (r : Bool) (hr : decide (0 ≤ v ∧ v ≤ 9) = r) (w : World) :
    Calls Tryz.prog 64 #[.int .i64 v] w fun e w' => e = .returned (.bool r) ∧ w' = w := by
  by_cases h1 : 0 ≤ v
  · by_cases h2 : v ≤ 9
    · have d : decide (v ≤ 9) = true := decide_eq_true h2
      rw [decide_eq_true (show 0 ≤ v ∧ v ≤ 9 from ⟨h1, h2⟩)] at hr
      subst hr
      go_enter Tryz.func64, Tryz.ntmps64
      go_wp2
      go_ret
      exact ⟨rfl, rfl⟩
    · have d : decide (v ≤ 9) = false := decide_eq_false h2
      rw [decide_eq_false (show ¬ (0 ≤ v ∧ v ≤ 9) from fun h => h2 h.2)] at hr
      subst hr
      go_enter Tryz.func64, Tryz.ntmps64
      go_wp2
      go_ret
      exact ⟨rfl, rfl⟩
  · have d : decide (0 ≤ v) = false := decide_eq_false h1
    rw [decide_eq_false (show ¬ (0 ≤ v ∧ v ≤ 9) from fun h => h1 h.1)] at hr
    subst hr
    go_enter Tryz.func64, Tryz.ntmps64
    go_wp2
    go_ret
    exact ⟨rfl, rfl⟩
theorem isNameT_is (v : Int) (r : Bool) (hr : decide (0 ≤ v ∧ v ≤ 5) = r) (w : World) :
    Calls Tryz.prog 65 #[.int .i64 v] w fun e w' => e = .returned (.bool r) ∧ w' = w := by
  by_cases h1 : 0 ≤ v
  · by_cases h2 : v ≤ 5
    · have d : decide (v ≤ 5) = true := decide_eq_true h2
      rw [decide_eq_true (show 0 ≤ v ∧ v ≤ 5 from ⟨h1, h2⟩)] at hr
      subst hr
      go_enter Tryz.func65, Tryz.ntmps65
      go_wp2
      go_ret
      exact ⟨rfl, rfl⟩
    · have d : decide (v ≤ 5) = false := decide_eq_false h2
      rw [decide_eq_false (show ¬ (0 ≤ v ∧ v ≤ 5) from fun h => h2 h.2)] at hr
      subst hr
      go_enter Tryz.func65, Tryz.ntmps65
      go_wp2
      go_ret
      exact ⟨rfl, rfl⟩
  · have d : decide (0 ≤ v) = false := decide_eq_false h1
    rw [decide_eq_false (show ¬ (0 ≤ v ∧ v ≤ 5) from fun h => h1 h.1)] at hr
    subst hr
    go_enter Tryz.func65, Tryz.ntmps65
    go_wp2
    go_ret
    exact ⟨rfl, rfl⟩
theorem inodeS_is (t : Int) (r : Bool) (hr : decide (0 ≤ t ∧ t ≤ 9) = r) (w : World) :
    Calls Tryz.prog 50 #[.int .i64 t] w fun e w' => e = .returned (.bool r) ∧ w' = w := by
  have H : Hid (decide (0 ≤ t ∧ t ≤ 9) = r) := hr
  clear hr
  go_enter Tryz.func50, Tryz.ntmps50
  go_wp2_with fail
  refine (inT_is t 0 9 r H.out _).mono ?_
  rintro e w9 ⟨rfl, hw9⟩
  obtain rfl := hw9.symm
  go_wp2
  go_ret
  exact ⟨rfl, rfl⟩
theorem nameS_is (t : Int) (r : Bool) (hr : decide (0 ≤ t ∧ t ≤ 5) = r) (w : World) :
    Calls Tryz.prog 51 #[.int .i64 t] w fun e w' => e = .returned (.bool r) ∧ w' = w := by
  have H : Hid (decide (0 ≤ t ∧ t ≤ 5) = r) := hr
  clear hr
  go_enter Tryz.func51, Tryz.ntmps51
  go_wp2_with fail
  refine (inT_is t 0 5 r H.out _).mono ?_
  rintro e w9 ⟨rfl, hw9⟩
  obtain rfl := hw9.symm
  go_wp2
  go_ret
  exact ⟨rfl, rfl⟩
/-- A field that says nothing of this kind is 0. -/
def suitsB (kd td tn v : Int) : Bool := decide ((1 ≤ kd ∧ kd ≤ 8) ∧ (kd = 4 ∨ kd = 5 ∨ (td = 0 ∧ tn = 0)) ∧ (kd = 6 ∨ v = 0))
/-- All numbers are within their bounds. -/
def boundsB (d n td tn v : Int) : Bool := decide ((0 ≤ d ∧ d ≤ 9) ∧ (0 ≤ td ∧ td ≤ 9) ∧ (0 ≤ n ∧ n ≤ 5) ∧ (0 ≤ tn ∧ tn ≤ 5) ∧ (0 ≤ v ∧ v ≤ 9999))
/-- The fault of an operation. -/
def opF (kd d n td tn v : Int) : Int := if suitsB kd td tn v = false then 1 else if boundsB d n td tn v = false then 3 else 0
set_option maxRecDepth 100000 in
set_option maxHeartbeats 2000000 in
theorem opSuits_is (kd d n td tn v : Int) (r : Bool) (hr : suitsB kd td tn v = r) (w : World) :
    Calls Tryz.prog 63 #[.agg #[.int .i64 kd, .int .i64 d, .int .i64 n, .int .i64 td, .int .i64 tn, .int .i64 v]] w fun e w' => e = .returned (.bool r) ∧ Below w.heap.size w w' := by
  unfold suitsB at hr
  by_cases h1 : kd < 1
  · have e1 : decide (kd < 1) = true := decide_eq_true h1
    obtain rfl : r = false := by rw [← hr]; exact decide_eq_false (by omega)
    clear hr h1
    go_enter Tryz.func63, Tryz.ntmps63
    go_wp2
    go_ret
    first | exact ⟨rfl, below_alloc _ _⟩ | exact ⟨(by show Ending.returned (Value.bool (v == 0)) = _; rw [ev]), below_alloc _ _⟩
  have e1 : decide (kd < 1) = false := decide_eq_false h1
  by_cases h8 : 8 < kd
  · have e8 : decide (8 < kd) = true := decide_eq_true h8
    obtain rfl : r = false := by rw [← hr]; exact decide_eq_false (by omega)
    clear hr h1 h8
    go_enter Tryz.func63, Tryz.ntmps63
    go_wp2
    go_ret
    first | exact ⟨rfl, below_alloc _ _⟩ | exact ⟨(by show Ending.returned (Value.bool (v == 0)) = _; rw [ev]), below_alloc _ _⟩
  have e8 : decide (8 < kd) = false := decide_eq_false h8
  by_cases h4 : kd = 4
  · have e4 : (kd == 4) = true := beq_iff_eq.2 h4
    have h6 : ¬ kd = 6 := by omega
    have e6 : (kd == 6) = false := beq_eq_false_iff_ne.2 h6
    by_cases hv : v = 0
    · have ev : (v == 0) = true := beq_iff_eq.2 hv
      obtain rfl : r = true := by rw [← hr]; exact decide_eq_true (by omega)
      clear hr hv h6
      go_enter Tryz.func63, Tryz.ntmps63
      go_wp2
      go_ret
      first | exact ⟨rfl, below_alloc _ _⟩ | exact ⟨(by show Ending.returned (Value.bool (v == 0)) = _; rw [ev]), below_alloc _ _⟩
    have ev : (v == 0) = false := beq_eq_false_iff_ne.2 hv
    obtain rfl : r = false := by rw [← hr]; exact decide_eq_false (by omega)
    clear hr hv h6
    go_enter Tryz.func63, Tryz.ntmps63
    go_wp2
    go_ret
    first | exact ⟨rfl, below_alloc _ _⟩ | exact ⟨(by show Ending.returned (Value.bool (v == 0)) = _; rw [ev]), below_alloc _ _⟩
  have e4 : (kd == 4) = false := beq_eq_false_iff_ne.2 h4
  by_cases h5 : kd = 5
  · have e5 : (kd == 5) = true := beq_iff_eq.2 h5
    have h6 : ¬ kd = 6 := by omega
    have e6 : (kd == 6) = false := beq_eq_false_iff_ne.2 h6
    by_cases hv : v = 0
    · have ev : (v == 0) = true := beq_iff_eq.2 hv
      obtain rfl : r = true := by rw [← hr]; exact decide_eq_true (by omega)
      clear hr hv h6
      go_enter Tryz.func63, Tryz.ntmps63
      go_wp2
      go_ret
      first | exact ⟨rfl, below_alloc _ _⟩ | exact ⟨(by show Ending.returned (Value.bool (v == 0)) = _; rw [ev]), below_alloc _ _⟩
    have ev : (v == 0) = false := beq_eq_false_iff_ne.2 hv
    obtain rfl : r = false := by rw [← hr]; exact decide_eq_false (by omega)
    clear hr hv h6
    go_enter Tryz.func63, Tryz.ntmps63
    go_wp2
    go_ret
    first | exact ⟨rfl, below_alloc _ _⟩ | exact ⟨(by show Ending.returned (Value.bool (v == 0)) = _; rw [ev]), below_alloc _ _⟩
  have e5 : (kd == 5) = false := beq_eq_false_iff_ne.2 h5
  by_cases ht : td = 0
  · have et : (td != 0) = false := by simp [ht]
    by_cases hn : tn = 0
    · have en : (tn != 0) = false := by simp [hn]
      by_cases h6 : kd = 6
      · have e6 : (kd == 6) = true := beq_iff_eq.2 h6
        obtain rfl : r = true := by rw [← hr]; exact decide_eq_true (by omega)
        clear hr h6
        go_enter Tryz.func63, Tryz.ntmps63
        go_wp2
        go_ret
        first | exact ⟨rfl, below_alloc _ _⟩ | exact ⟨(by show Ending.returned (Value.bool (v == 0)) = _; rw [ev]), below_alloc _ _⟩
      have e6 : (kd == 6) = false := beq_eq_false_iff_ne.2 h6
      by_cases hv : v = 0
      · have ev : (v == 0) = true := beq_iff_eq.2 hv
        obtain rfl : r = true := by rw [← hr]; exact decide_eq_true (by omega)
        clear hr hv h6
        go_enter Tryz.func63, Tryz.ntmps63
        go_wp2
        go_ret
        first | exact ⟨rfl, below_alloc _ _⟩ | exact ⟨(by show Ending.returned (Value.bool (v == 0)) = _; rw [ev]), below_alloc _ _⟩
      have ev : (v == 0) = false := beq_eq_false_iff_ne.2 hv
      obtain rfl : r = false := by rw [← hr]; exact decide_eq_false (by omega)
      clear hr hv h6
      go_enter Tryz.func63, Tryz.ntmps63
      go_wp2
      go_ret
      first | exact ⟨rfl, below_alloc _ _⟩ | exact ⟨(by show Ending.returned (Value.bool (v == 0)) = _; rw [ev]), below_alloc _ _⟩
    have en : (tn != 0) = true := bne_iff_ne.2 hn
    obtain rfl : r = false := by rw [← hr]; exact decide_eq_false (by omega)
    clear hr h1 h8 h4 h5 ht hn
    go_enter Tryz.func63, Tryz.ntmps63
    go_wp2
    go_ret
    first | exact ⟨rfl, below_alloc _ _⟩ | exact ⟨(by show Ending.returned (Value.bool (v == 0)) = _; rw [ev]), below_alloc _ _⟩
  have et : (td != 0) = true := bne_iff_ne.2 ht
  obtain rfl : r = false := by rw [← hr]; exact decide_eq_false (by omega)
  clear hr h1 h8 h4 h5 ht
  go_enter Tryz.func63, Tryz.ntmps63
  go_wp2
  go_ret
  first | exact ⟨rfl, below_alloc _ _⟩ | exact ⟨(by show Ending.returned (Value.bool (v == 0)) = _; rw [ev]), below_alloc _ _⟩
theorem opF_form {kd d n td tn v : Int} (h : suitsB kd td tn v = false) : opF kd d n td tn v = 1 := by unfold opF; rw [if_pos h]
theorem opF_range {kd d n td tn v : Int} (h : suitsB kd td tn v = true) (hb : boundsB d n td tn v = false) : opF kd d n td tn v = 3 := by unfold opF; rw [if_neg (by rw [h]; simp), if_pos hb]
theorem opF_ok {kd d n td tn v : Int} (h : suitsB kd td tn v = true) (hb : boundsB d n td tn v = true) : opF kd d n td tn v = 0 := by unfold opF; rw [if_neg (by rw [h]; simp), if_neg (by rw [hb]; simp)]
theorem bounds_no {d n td tn v : Int} (h : ¬ ((0 ≤ d ∧ d ≤ 9) ∧ (0 ≤ td ∧ td ≤ 9) ∧ (0 ≤ n ∧ n ≤ 5) ∧ (0 ≤ tn ∧ tn ≤ 5) ∧ (0 ≤ v ∧ v ≤ 9999))) : boundsB d n td tn v = false := decide_eq_false h
set_option maxRecDepth 100000 in
set_option maxHeartbeats 2000000 in
theorem implFsOp_any (kd d n td tn v : Int) (w : World) :
    Calls Tryz.prog 33 #[.agg #[.int .i64 kd, .int .i64 d, .int .i64 n, .int .i64 td, .int .i64 tn, .int .i64 v]] w fun e w' => e = .returned (.int .i64 (opF kd d n td tn v)) ∧ Below w.heap.size w w' := by
  have HZ : Hid (Blk6 (w.alloc (.cells #[.int .i64 kd, .int .i64 d, .int .i64 n, .int .i64 td, .int .i64 tn, .int .i64 v] 63)) w.heap.size (.int .i64 kd) (.int .i64 d) (.int .i64 n) (.int .i64 td) (.int .i64 tn) (.int .i64 v)) := Blk6.new _ _ _ _ _ _ _ _
  obtain ⟨r, hr⟩ : ∃ r, suitsB kd td tn v = r := ⟨_, rfl⟩
  have HS : Hid (suitsB kd td tn v = r) := hr
  obtain ⟨o, ho⟩ : ∃ o, opF kd d n td tn v = o := ⟨_, rfl⟩
  have HO : Hid (opF kd d n td tn v = o) := ho
  rw [ho]
  clear hr ho
  go_enter Tryz.func33, Tryz.ntmps33
  go_wp2_with fail
  refine (opSuits_is kd d n td tn v r HS.out _).mono ?_
  rintro e w1 ⟨rfl, q1⟩
  have HB : Hid (Below w.heap.size w w1) := (below_alloc _ _).trans (q1.mono (by simp))
  obtain ⟨⟨z0, z1, z2, z3, z4, z5⟩, _⟩ := HZ.out.later q1
  clear q1 HZ
  cases r with
  | false =>
    obtain rfl : o = 1 := HO.out.symm.trans (opF_form HS.out)
    go_wp2
    go_ret
    exact ⟨rfl, HB.out⟩
  | true =>
  by_cases h1 : 0 ≤ d ∧ d ≤ 9
  case neg =>
    have D1 : Hid (decide (0 ≤ d ∧ d ≤ 9) = false) := decide_eq_false h1
    obtain rfl : o = 3 := HO.out.symm.trans (opF_range HS.out (bounds_no fun q => h1 q.1))
    clear h1
    go_wp2_with fail
    refine (isInodeT_is _ _ D1.out _).mono ?_
    rintro e w9 ⟨rfl, hw9⟩
    obtain rfl := hw9.symm
    go_wp2
    go_ret
    exact ⟨rfl, HB.out⟩
  have D1 : Hid (decide (0 ≤ d ∧ d ≤ 9) = true) := decide_eq_true h1
  by_cases h2 : 0 ≤ td ∧ td ≤ 9
  case neg =>
    have D2 : Hid (decide (0 ≤ td ∧ td ≤ 9) = false) := decide_eq_false h2
    obtain rfl : o = 3 := HO.out.symm.trans (opF_range HS.out (bounds_no fun q => h2 q.2.1))
    clear h1 h2
    go_wp2_with fail
    refine (isInodeT_is _ _ D1.out _).mono ?_
    rintro e w9 ⟨rfl, hw9⟩
    obtain rfl := hw9.symm
    go_wp2_with fail
    refine (isInodeT_is _ _ D2.out _).mono ?_
    rintro e w9 ⟨rfl, hw9⟩
    obtain rfl := hw9.symm
    go_wp2
    go_ret
    exact ⟨rfl, HB.out⟩
  have D2 : Hid (decide (0 ≤ td ∧ td ≤ 9) = true) := decide_eq_true h2
  by_cases h3 : 0 ≤ n ∧ n ≤ 5
  case neg =>
    have D3 : Hid (decide (0 ≤ n ∧ n ≤ 5) = false) := decide_eq_false h3
    obtain rfl : o = 3 := HO.out.symm.trans (opF_range HS.out (bounds_no fun q => h3 q.2.2.1))
    clear h1 h2 h3
    go_wp2_with fail
    refine (isInodeT_is _ _ D1.out _).mono ?_
    rintro e w9 ⟨rfl, hw9⟩
    obtain rfl := hw9.symm
    go_wp2_with fail
    refine (isInodeT_is _ _ D2.out _).mono ?_
    rintro e w9 ⟨rfl, hw9⟩
    obtain rfl := hw9.symm
    go_wp2_with fail
    refine (isNameT_is _ _ D3.out _).mono ?_
    rintro e w9 ⟨rfl, hw9⟩
    obtain rfl := hw9.symm
    go_wp2
    go_ret
    exact ⟨rfl, HB.out⟩
  have D3 : Hid (decide (0 ≤ n ∧ n ≤ 5) = true) := decide_eq_true h3
  by_cases h4 : 0 ≤ tn ∧ tn ≤ 5
  case neg =>
    have D4 : Hid (decide (0 ≤ tn ∧ tn ≤ 5) = false) := decide_eq_false h4
    obtain rfl : o = 3 := HO.out.symm.trans (opF_range HS.out (bounds_no fun q => h4 q.2.2.2.1))
    clear h1 h2 h3 h4
    go_wp2_with fail
    refine (isInodeT_is _ _ D1.out _).mono ?_
    rintro e w9 ⟨rfl, hw9⟩
    obtain rfl := hw9.symm
    go_wp2_with fail
    refine (isInodeT_is _ _ D2.out _).mono ?_
    rintro e w9 ⟨rfl, hw9⟩
    obtain rfl := hw9.symm
    go_wp2_with fail
    refine (isNameT_is _ _ D3.out _).mono ?_
    rintro e w9 ⟨rfl, hw9⟩
    obtain rfl := hw9.symm
    go_wp2_with fail
    refine (isNameT_is _ _ D4.out _).mono ?_
    rintro e w9 ⟨rfl, hw9⟩
    obtain rfl := hw9.symm
    go_wp2
    go_ret
    exact ⟨rfl, HB.out⟩
  have D4 : Hid (decide (0 ≤ tn ∧ tn ≤ 5) = true) := decide_eq_true h4
  by_cases h5 : 0 ≤ v ∧ v ≤ 9999
  case neg =>
    have D5 : Hid (decide (0 ≤ v ∧ v ≤ 9999) = false) := decide_eq_false h5
    obtain rfl : o = 3 := HO.out.symm.trans (opF_range HS.out (bounds_no fun q => h5 q.2.2.2.2))
    clear h1 h2 h3 h4 h5
    go_wp2_with fail
    refine (isInodeT_is _ _ D1.out _).mono ?_
    rintro e w9 ⟨rfl, hw9⟩
    obtain rfl := hw9.symm
    go_wp2_with fail
    refine (isInodeT_is _ _ D2.out _).mono ?_
    rintro e w9 ⟨rfl, hw9⟩
    obtain rfl := hw9.symm
    go_wp2_with fail
    refine (isNameT_is _ _ D3.out _).mono ?_
    rintro e w9 ⟨rfl, hw9⟩
    obtain rfl := hw9.symm
    go_wp2_with fail
    refine (isNameT_is _ _ D4.out _).mono ?_
    rintro e w9 ⟨rfl, hw9⟩
    obtain rfl := hw9.symm
    go_wp2_with fail
    refine (isValueT_is _ _ D5.out _).mono ?_
    rintro e w9 ⟨rfl, hw9⟩
    obtain rfl := hw9.symm
    go_wp2
    go_ret
    exact ⟨rfl, HB.out⟩
  have D5 : Hid (decide (0 ≤ v ∧ v ≤ 9999) = true) := decide_eq_true h5
  obtain rfl : o = 0 := HO.out.symm.trans (opF_ok HS.out (decide_eq_true ⟨h1, h2, h3, h4, h5⟩))
  clear h1 h2 h3 h4 h5
  go_wp2_with fail
  refine (isInodeT_is _ _ D1.out _).mono ?_
  rintro e w9 ⟨rfl, hw9⟩
  obtain rfl := hw9.symm
  go_wp2_with fail
  refine (isInodeT_is _ _ D2.out _).mono ?_
  rintro e w9 ⟨rfl, hw9⟩
  obtain rfl := hw9.symm
  go_wp2_with fail
  refine (isNameT_is _ _ D3.out _).mono ?_
  rintro e w9 ⟨rfl, hw9⟩
  obtain rfl := hw9.symm
  go_wp2_with fail
  refine (isNameT_is _ _ D4.out _).mono ?_
  rintro e w9 ⟨rfl, hw9⟩
  obtain rfl := hw9.symm
  go_wp2_with fail
  refine (isValueT_is _ _ D5.out _).mono ?_
  rintro e w9 ⟨rfl, hw9⟩
  obtain rfl := hw9.symm
  go_wp2
  go_ret
  exact ⟨rfl, HB.out⟩
set_option maxRecDepth 100000 in
set_option maxHeartbeats 2000000 in
theorem specFsOp_any (kd d n td tn v : Int) (w : World) :
    Calls Tryz.prog 26 #[.agg #[.int .i64 kd, .int .i64 d, .int .i64 n, .int .i64 td, .int .i64 tn, .int .i64 v]] w fun e w' => e = .returned (.int .i64 (opF kd d n td tn v)) ∧ Below w.heap.size w w' := by
  obtain ⟨r, hr⟩ : ∃ r, suitsB kd td tn v = r := ⟨_, rfl⟩
  have HS : Hid (suitsB kd td tn v = r) := hr
  obtain ⟨o, ho⟩ : ∃ o, opF kd d n td tn v = o := ⟨_, rfl⟩
  have HO : Hid (opF kd d n td tn v = o) := ho
  rw [ho]
  clear hr ho
  have HB : Hid (Below w.heap.size w (w.alloc (.cells #[.int .i64 kd, .int .i64 d, .int .i64 n, .int .i64 td, .int .i64 tn, .int .i64 v] 63))) := below_alloc _ _
  have HK : Hid (suitsB kd td tn v = decide ((1 ≤ kd ∧ kd ≤ 8) ∧ (kd = 4 ∨ kd = 5 ∨ (td = 0 ∧ tn = 0)) ∧ (kd = 6 ∨ v = 0))) := rfl
  by_cases h8 : 1 ≤ kd ∧ kd ≤ 8
  case neg =>
    have D8 : Hid (decide (1 ≤ kd ∧ kd ≤ 8) = false) := decide_eq_false h8
    obtain rfl : o = 1 := HO.out.symm.trans (opF_form (HK.out.trans (decide_eq_false fun q => h8 q.1)))
    clear h8
    by_cases h4 : kd = 4
    · subst h4
      go_enter Tryz.func26, Tryz.ntmps26
      go_wp2_with fail
      refine (inT_is _ _ _ _ D8.out _).mono ?_
      rintro e w9 ⟨rfl, hw9⟩
      obtain rfl := hw9.symm
      go_wp2
      go_ret
      exact ⟨rfl, HB.out⟩
    have e4 : (kd == 4) = false := beq_eq_false_iff_ne.2 h4
    by_cases h5 : kd = 5
    · subst h5
      go_enter Tryz.func26, Tryz.ntmps26
      go_wp2_with fail
      refine (inT_is _ _ _ _ D8.out _).mono ?_
      rintro e w9 ⟨rfl, hw9⟩
      obtain rfl := hw9.symm
      go_wp2
      go_ret
      exact ⟨rfl, HB.out⟩
    have e5 : (kd == 5) = false := beq_eq_false_iff_ne.2 h5
    clear h4 h5
    go_enter Tryz.func26, Tryz.ntmps26
    go_wp2_with fail
    refine (inT_is _ _ _ _ D8.out _).mono ?_
    rintro e w9 ⟨rfl, hw9⟩
    obtain rfl := hw9.symm
    go_wp2
    go_ret
    exact ⟨rfl, HB.out⟩
  have D8 : Hid (decide (1 ≤ kd ∧ kd ≤ 8) = true) := decide_eq_true h8
  by_cases h4 : kd = 4
  · subst h4
    by_cases hv : v = 0
    · subst hv
      obtain rfl : r = true := HS.out.symm.trans (HK.out.trans (decide_eq_true (by omega)))
      go_enter Tryz.func26, Tryz.ntmps26
      go_wp2_with fail
      refine (inT_is _ _ _ _ D8.out _).mono ?_
      rintro e w9 ⟨rfl, hw9⟩
      obtain rfl := hw9.symm
      by_cases b1 : 0 ≤ d ∧ d ≤ 9
      case neg =>
        have D1 : Hid (decide (0 ≤ d ∧ d ≤ 9) = false) := decide_eq_false b1
        obtain rfl : o = 3 := HO.out.symm.trans (opF_range HS.out (bounds_no fun q => b1 q.1))
        clear b1
        go_wp2_with fail
        refine (inodeS_is _ _ D1.out _).mono ?_
        rintro e w9 ⟨rfl, hw9⟩
        obtain rfl := hw9.symm
        go_wp2
        go_ret
        exact ⟨rfl, HB.out⟩
      have D1 : Hid (decide (0 ≤ d ∧ d ≤ 9) = true) := decide_eq_true b1
      by_cases b2 : 0 ≤ td ∧ td ≤ 9
      case neg =>
        have D2 : Hid (decide (0 ≤ td ∧ td ≤ 9) = false) := decide_eq_false b2
        obtain rfl : o = 3 := HO.out.symm.trans (opF_range HS.out (bounds_no fun q => b2 q.2.1))
        clear b1 b2
        go_wp2_with fail
        refine (inodeS_is _ _ D1.out _).mono ?_
        rintro e w9 ⟨rfl, hw9⟩
        obtain rfl := hw9.symm
        go_wp2_with fail
        refine (inodeS_is _ _ D2.out _).mono ?_
        rintro e w9 ⟨rfl, hw9⟩
        obtain rfl := hw9.symm
        go_wp2
        go_ret
        exact ⟨rfl, HB.out⟩
      have D2 : Hid (decide (0 ≤ td ∧ td ≤ 9) = true) := decide_eq_true b2
      by_cases b3 : 0 ≤ n ∧ n ≤ 5
      case neg =>
        have D3 : Hid (decide (0 ≤ n ∧ n ≤ 5) = false) := decide_eq_false b3
        obtain rfl : o = 3 := HO.out.symm.trans (opF_range HS.out (bounds_no fun q => b3 q.2.2.1))
        clear b1 b2 b3
        go_wp2_with fail
        refine (inodeS_is _ _ D1.out _).mono ?_
        rintro e w9 ⟨rfl, hw9⟩
        obtain rfl := hw9.symm
        go_wp2_with fail
        refine (inodeS_is _ _ D2.out _).mono ?_
        rintro e w9 ⟨rfl, hw9⟩
        obtain rfl := hw9.symm
        go_wp2_with fail
        refine (nameS_is _ _ D3.out _).mono ?_
        rintro e w9 ⟨rfl, hw9⟩
        obtain rfl := hw9.symm
        go_wp2
        go_ret
        exact ⟨rfl, HB.out⟩
      have D3 : Hid (decide (0 ≤ n ∧ n ≤ 5) = true) := decide_eq_true b3
      by_cases b4 : 0 ≤ tn ∧ tn ≤ 5
      case neg =>
        have D4 : Hid (decide (0 ≤ tn ∧ tn ≤ 5) = false) := decide_eq_false b4
        obtain rfl : o = 3 := HO.out.symm.trans (opF_range HS.out (bounds_no fun q => b4 q.2.2.2.1))
        clear b1 b2 b3 b4
        go_wp2_with fail
        refine (inodeS_is _ _ D1.out _).mono ?_
        rintro e w9 ⟨rfl, hw9⟩
        obtain rfl := hw9.symm
        go_wp2_with fail
        refine (inodeS_is _ _ D2.out _).mono ?_
        rintro e w9 ⟨rfl, hw9⟩
        obtain rfl := hw9.symm
        go_wp2_with fail
        refine (nameS_is _ _ D3.out _).mono ?_
        rintro e w9 ⟨rfl, hw9⟩
        obtain rfl := hw9.symm
        go_wp2_with fail
        refine (nameS_is _ _ D4.out _).mono ?_
        rintro e w9 ⟨rfl, hw9⟩
        obtain rfl := hw9.symm
        go_wp2
        go_ret
        exact ⟨rfl, HB.out⟩
      have D4 : Hid (decide (0 ≤ tn ∧ tn ≤ 5) = true) := decide_eq_true b4
      by_cases b5 : 0 ≤ (0 : Int) ∧ (0 : Int) ≤ 9999
      case neg =>
        have D5 : Hid (decide (0 ≤ (0 : Int) ∧ (0 : Int) ≤ 9999) = false) := decide_eq_false b5
        obtain rfl : o = 3 := HO.out.symm.trans (opF_range HS.out (bounds_no fun q => b5 q.2.2.2.2))
        clear b1 b2 b3 b4 b5
        go_wp2_with fail
        refine (inodeS_is _ _ D1.out _).mono ?_
        rintro e w9 ⟨rfl, hw9⟩
        obtain rfl := hw9.symm
        go_wp2_with fail
        refine (inodeS_is _ _ D2.out _).mono ?_
        rintro e w9 ⟨rfl, hw9⟩
        obtain rfl := hw9.symm
        go_wp2_with fail
        refine (nameS_is _ _ D3.out _).mono ?_
        rintro e w9 ⟨rfl, hw9⟩
        obtain rfl := hw9.symm
        go_wp2_with fail
        refine (nameS_is _ _ D4.out _).mono ?_
        rintro e w9 ⟨rfl, hw9⟩
        obtain rfl := hw9.symm
        go_wp2_with fail
        refine (inT_is _ _ _ _ D5.out _).mono ?_
        rintro e w9 ⟨rfl, hw9⟩
        obtain rfl := hw9.symm
        go_wp2
        go_ret
        exact ⟨rfl, HB.out⟩
      have D5 : Hid (decide (0 ≤ (0 : Int) ∧ (0 : Int) ≤ 9999) = true) := decide_eq_true b5
      obtain rfl : o = 0 := HO.out.symm.trans (opF_ok HS.out (decide_eq_true ⟨b1, b2, b3, b4, b5⟩))
      clear b1 b2 b3 b4 b5
      go_wp2_with fail
      refine (inodeS_is _ _ D1.out _).mono ?_
      rintro e w9 ⟨rfl, hw9⟩
      obtain rfl := hw9.symm
      go_wp2_with fail
      refine (inodeS_is _ _ D2.out _).mono ?_
      rintro e w9 ⟨rfl, hw9⟩
      obtain rfl := hw9.symm
      go_wp2_with fail
      refine (nameS_is _ _ D3.out _).mono ?_
      rintro e w9 ⟨rfl, hw9⟩
      obtain rfl := hw9.symm
      go_wp2_with fail
      refine (nameS_is _ _ D4.out _).mono ?_
      rintro e w9 ⟨rfl, hw9⟩
      obtain rfl := hw9.symm
      go_wp2_with fail
      refine (inT_is _ _ _ _ D5.out _).mono ?_
      rintro e w9 ⟨rfl, hw9⟩
      obtain rfl := hw9.symm
      go_wp2
      go_ret
      exact ⟨rfl, HB.out⟩
    have ev : (v != 0) = true := bne_iff_ne.2 hv
    obtain rfl : o = 1 := HO.out.symm.trans (opF_form (HK.out.trans (decide_eq_false (by omega))))
    clear hv h8
    go_enter Tryz.func26, Tryz.ntmps26
    go_wp2_with fail
    refine (inT_is _ _ _ _ D8.out _).mono ?_
    rintro e w9 ⟨rfl, hw9⟩
    obtain rfl := hw9.symm
    go_wp2
    go_ret
    exact ⟨rfl, HB.out⟩
  have e4 : (kd == 4) = false := beq_eq_false_iff_ne.2 h4
  by_cases h5 : kd = 5
  · subst h5
    by_cases hv : v = 0
    · subst hv
      obtain rfl : r = true := HS.out.symm.trans (HK.out.trans (decide_eq_true (by omega)))
      go_enter Tryz.func26, Tryz.ntmps26
      go_wp2_with fail
      refine (inT_is _ _ _ _ D8.out _).mono ?_
      rintro e w9 ⟨rfl, hw9⟩
      obtain rfl := hw9.symm
      by_cases b1 : 0 ≤ d ∧ d ≤ 9
      case neg =>
        have D1 : Hid (decide (0 ≤ d ∧ d ≤ 9) = false) := decide_eq_false b1
        obtain rfl : o = 3 := HO.out.symm.trans (opF_range HS.out (bounds_no fun q => b1 q.1))
        clear b1
        go_wp2_with fail
        refine (inodeS_is _ _ D1.out _).mono ?_
        rintro e w9 ⟨rfl, hw9⟩
        obtain rfl := hw9.symm
        go_wp2
        go_ret
        exact ⟨rfl, HB.out⟩
      have D1 : Hid (decide (0 ≤ d ∧ d ≤ 9) = true) := decide_eq_true b1
      by_cases b2 : 0 ≤ td ∧ td ≤ 9
      case neg =>
        have D2 : Hid (decide (0 ≤ td ∧ td ≤ 9) = false) := decide_eq_false b2
        obtain rfl : o = 3 := HO.out.symm.trans (opF_range HS.out (bounds_no fun q => b2 q.2.1))
        clear b1 b2
        go_wp2_with fail
        refine (inodeS_is _ _ D1.out _).mono ?_
        rintro e w9 ⟨rfl, hw9⟩
        obtain rfl := hw9.symm
        go_wp2_with fail
        refine (inodeS_is _ _ D2.out _).mono ?_
        rintro e w9 ⟨rfl, hw9⟩
        obtain rfl := hw9.symm
        go_wp2
        go_ret
        exact ⟨rfl, HB.out⟩
      have D2 : Hid (decide (0 ≤ td ∧ td ≤ 9) = true) := decide_eq_true b2
      by_cases b3 : 0 ≤ n ∧ n ≤ 5
      case neg =>
        have D3 : Hid (decide (0 ≤ n ∧ n ≤ 5) = false) := decide_eq_false b3
        obtain rfl : o = 3 := HO.out.symm.trans (opF_range HS.out (bounds_no fun q => b3 q.2.2.1))
        clear b1 b2 b3
        go_wp2_with fail
        refine (inodeS_is _ _ D1.out _).mono ?_
        rintro e w9 ⟨rfl, hw9⟩
        obtain rfl := hw9.symm
        go_wp2_with fail
        refine (inodeS_is _ _ D2.out _).mono ?_
        rintro e w9 ⟨rfl, hw9⟩
        obtain rfl := hw9.symm
        go_wp2_with fail
        refine (nameS_is _ _ D3.out _).mono ?_
        rintro e w9 ⟨rfl, hw9⟩
        obtain rfl := hw9.symm
        go_wp2
        go_ret
        exact ⟨rfl, HB.out⟩
      have D3 : Hid (decide (0 ≤ n ∧ n ≤ 5) = true) := decide_eq_true b3
      by_cases b4 : 0 ≤ tn ∧ tn ≤ 5
      case neg =>
        have D4 : Hid (decide (0 ≤ tn ∧ tn ≤ 5) = false) := decide_eq_false b4
        obtain rfl : o = 3 := HO.out.symm.trans (opF_range HS.out (bounds_no fun q => b4 q.2.2.2.1))
        clear b1 b2 b3 b4
        go_wp2_with fail
        refine (inodeS_is _ _ D1.out _).mono ?_
        rintro e w9 ⟨rfl, hw9⟩
        obtain rfl := hw9.symm
        go_wp2_with fail
        refine (inodeS_is _ _ D2.out _).mono ?_
        rintro e w9 ⟨rfl, hw9⟩
        obtain rfl := hw9.symm
        go_wp2_with fail
        refine (nameS_is _ _ D3.out _).mono ?_
        rintro e w9 ⟨rfl, hw9⟩
        obtain rfl := hw9.symm
        go_wp2_with fail
        refine (nameS_is _ _ D4.out _).mono ?_
        rintro e w9 ⟨rfl, hw9⟩
        obtain rfl := hw9.symm
        go_wp2
        go_ret
        exact ⟨rfl, HB.out⟩
      have D4 : Hid (decide (0 ≤ tn ∧ tn ≤ 5) = true) := decide_eq_true b4
      by_cases b5 : 0 ≤ (0 : Int) ∧ (0 : Int) ≤ 9999
      case neg =>
        have D5 : Hid (decide (0 ≤ (0 : Int) ∧ (0 : Int) ≤ 9999) = false) := decide_eq_false b5
        obtain rfl : o = 3 := HO.out.symm.trans (opF_range HS.out (bounds_no fun q => b5 q.2.2.2.2))
        clear b1 b2 b3 b4 b5
        go_wp2_with fail
        refine (inodeS_is _ _ D1.out _).mono ?_
        rintro e w9 ⟨rfl, hw9⟩
        obtain rfl := hw9.symm
        go_wp2_with fail
        refine (inodeS_is _ _ D2.out _).mono ?_
        rintro e w9 ⟨rfl, hw9⟩
        obtain rfl := hw9.symm
        go_wp2_with fail
        refine (nameS_is _ _ D3.out _).mono ?_
        rintro e w9 ⟨rfl, hw9⟩
        obtain rfl := hw9.symm
        go_wp2_with fail
        refine (nameS_is _ _ D4.out _).mono ?_
        rintro e w9 ⟨rfl, hw9⟩
        obtain rfl := hw9.symm
        go_wp2_with fail
        refine (inT_is _ _ _ _ D5.out _).mono ?_
        rintro e w9 ⟨rfl, hw9⟩
        obtain rfl := hw9.symm
        go_wp2
        go_ret
        exact ⟨rfl, HB.out⟩
      have D5 : Hid (decide (0 ≤ (0 : Int) ∧ (0 : Int) ≤ 9999) = true) := decide_eq_true b5
      obtain rfl : o = 0 := HO.out.symm.trans (opF_ok HS.out (decide_eq_true ⟨b1, b2, b3, b4, b5⟩))
      clear b1 b2 b3 b4 b5
      go_wp2_with fail
      refine (inodeS_is _ _ D1.out _).mono ?_
      rintro e w9 ⟨rfl, hw9⟩
      obtain rfl := hw9.symm
      go_wp2_with fail
      refine (inodeS_is _ _ D2.out _).mono ?_
      rintro e w9 ⟨rfl, hw9⟩
      obtain rfl := hw9.symm
      go_wp2_with fail
      refine (nameS_is _ _ D3.out _).mono ?_
      rintro e w9 ⟨rfl, hw9⟩
      obtain rfl := hw9.symm
      go_wp2_with fail
      refine (nameS_is _ _ D4.out _).mono ?_
      rintro e w9 ⟨rfl, hw9⟩
      obtain rfl := hw9.symm
      go_wp2_with fail
      refine (inT_is _ _ _ _ D5.out _).mono ?_
      rintro e w9 ⟨rfl, hw9⟩
      obtain rfl := hw9.symm
      go_wp2
      go_ret
      exact ⟨rfl, HB.out⟩
    have ev : (v != 0) = true := bne_iff_ne.2 hv
    obtain rfl : o = 1 := HO.out.symm.trans (opF_form (HK.out.trans (decide_eq_false (by omega))))
    clear hv h8
    go_enter Tryz.func26, Tryz.ntmps26
    go_wp2_with fail
    refine (inT_is _ _ _ _ D8.out _).mono ?_
    rintro e w9 ⟨rfl, hw9⟩
    obtain rfl := hw9.symm
    go_wp2
    go_ret
    exact ⟨rfl, HB.out⟩
  have e5 : (kd == 5) = false := beq_eq_false_iff_ne.2 h5
  by_cases ht : td = 0
  case neg =>
    have et : (td != 0) = true := bne_iff_ne.2 ht
    obtain rfl : o = 1 := HO.out.symm.trans (opF_form (HK.out.trans (decide_eq_false (by omega))))
    clear h4 h5 ht h8
    go_enter Tryz.func26, Tryz.ntmps26
    go_wp2_with fail
    refine (inT_is _ _ _ _ D8.out _).mono ?_
    rintro e w9 ⟨rfl, hw9⟩
    obtain rfl := hw9.symm
    go_wp2
    go_ret
    exact ⟨rfl, HB.out⟩
  subst ht
  by_cases hn : tn = 0
  case neg =>
    have en : (tn != 0) = true := bne_iff_ne.2 hn
    obtain rfl : o = 1 := HO.out.symm.trans (opF_form (HK.out.trans (decide_eq_false (by omega))))
    clear h4 h5 hn h8
    go_enter Tryz.func26, Tryz.ntmps26
    go_wp2_with fail
    refine (inT_is _ _ _ _ D8.out _).mono ?_
    rintro e w9 ⟨rfl, hw9⟩
    obtain rfl := hw9.symm
    go_wp2
    go_ret
    exact ⟨rfl, HB.out⟩
  subst hn
  by_cases h6 : kd = 6
  · subst h6
    obtain rfl : r = true := HS.out.symm.trans (HK.out.trans (decide_eq_true (by omega)))
    go_enter Tryz.func26, Tryz.ntmps26
    go_wp2_with fail
    refine (inT_is _ _ _ _ D8.out _).mono ?_
    rintro e w9 ⟨rfl, hw9⟩
    obtain rfl := hw9.symm
    by_cases b1 : 0 ≤ d ∧ d ≤ 9
    case neg =>
      have D1 : Hid (decide (0 ≤ d ∧ d ≤ 9) = false) := decide_eq_false b1
      obtain rfl : o = 3 := HO.out.symm.trans (opF_range HS.out (bounds_no fun q => b1 q.1))
      clear b1
      go_wp2_with fail
      refine (inodeS_is _ _ D1.out _).mono ?_
      rintro e w9 ⟨rfl, hw9⟩
      obtain rfl := hw9.symm
      go_wp2
      go_ret
      exact ⟨rfl, HB.out⟩
    have D1 : Hid (decide (0 ≤ d ∧ d ≤ 9) = true) := decide_eq_true b1
    by_cases b2 : 0 ≤ (0 : Int) ∧ (0 : Int) ≤ 9
    case neg =>
      have D2 : Hid (decide (0 ≤ (0 : Int) ∧ (0 : Int) ≤ 9) = false) := decide_eq_false b2
      obtain rfl : o = 3 := HO.out.symm.trans (opF_range HS.out (bounds_no fun q => b2 q.2.1))
      clear b1 b2
      go_wp2_with fail
      refine (inodeS_is _ _ D1.out _).mono ?_
      rintro e w9 ⟨rfl, hw9⟩
      obtain rfl := hw9.symm
      go_wp2_with fail
      refine (inodeS_is _ _ D2.out _).mono ?_
      rintro e w9 ⟨rfl, hw9⟩
      obtain rfl := hw9.symm
      go_wp2
      go_ret
      exact ⟨rfl, HB.out⟩
    have D2 : Hid (decide (0 ≤ (0 : Int) ∧ (0 : Int) ≤ 9) = true) := decide_eq_true b2
    by_cases b3 : 0 ≤ n ∧ n ≤ 5
    case neg =>
      have D3 : Hid (decide (0 ≤ n ∧ n ≤ 5) = false) := decide_eq_false b3
      obtain rfl : o = 3 := HO.out.symm.trans (opF_range HS.out (bounds_no fun q => b3 q.2.2.1))
      clear b1 b2 b3
      go_wp2_with fail
      refine (inodeS_is _ _ D1.out _).mono ?_
      rintro e w9 ⟨rfl, hw9⟩
      obtain rfl := hw9.symm
      go_wp2_with fail
      refine (inodeS_is _ _ D2.out _).mono ?_
      rintro e w9 ⟨rfl, hw9⟩
      obtain rfl := hw9.symm
      go_wp2_with fail
      refine (nameS_is _ _ D3.out _).mono ?_
      rintro e w9 ⟨rfl, hw9⟩
      obtain rfl := hw9.symm
      go_wp2
      go_ret
      exact ⟨rfl, HB.out⟩
    have D3 : Hid (decide (0 ≤ n ∧ n ≤ 5) = true) := decide_eq_true b3
    by_cases b4 : 0 ≤ (0 : Int) ∧ (0 : Int) ≤ 5
    case neg =>
      have D4 : Hid (decide (0 ≤ (0 : Int) ∧ (0 : Int) ≤ 5) = false) := decide_eq_false b4
      obtain rfl : o = 3 := HO.out.symm.trans (opF_range HS.out (bounds_no fun q => b4 q.2.2.2.1))
      clear b1 b2 b3 b4
      go_wp2_with fail
      refine (inodeS_is _ _ D1.out _).mono ?_
      rintro e w9 ⟨rfl, hw9⟩
      obtain rfl := hw9.symm
      go_wp2_with fail
      refine (inodeS_is _ _ D2.out _).mono ?_
      rintro e w9 ⟨rfl, hw9⟩
      obtain rfl := hw9.symm
      go_wp2_with fail
      refine (nameS_is _ _ D3.out _).mono ?_
      rintro e w9 ⟨rfl, hw9⟩
      obtain rfl := hw9.symm
      go_wp2_with fail
      refine (nameS_is _ _ D4.out _).mono ?_
      rintro e w9 ⟨rfl, hw9⟩
      obtain rfl := hw9.symm
      go_wp2
      go_ret
      exact ⟨rfl, HB.out⟩
    have D4 : Hid (decide (0 ≤ (0 : Int) ∧ (0 : Int) ≤ 5) = true) := decide_eq_true b4
    by_cases b5 : 0 ≤ v ∧ v ≤ 9999
    case neg =>
      have D5 : Hid (decide (0 ≤ v ∧ v ≤ 9999) = false) := decide_eq_false b5
      obtain rfl : o = 3 := HO.out.symm.trans (opF_range HS.out (bounds_no fun q => b5 q.2.2.2.2))
      clear b1 b2 b3 b4 b5
      go_wp2_with fail
      refine (inodeS_is _ _ D1.out _).mono ?_
      rintro e w9 ⟨rfl, hw9⟩
      obtain rfl := hw9.symm
      go_wp2_with fail
      refine (inodeS_is _ _ D2.out _).mono ?_
      rintro e w9 ⟨rfl, hw9⟩
      obtain rfl := hw9.symm
      go_wp2_with fail
      refine (nameS_is _ _ D3.out _).mono ?_
      rintro e w9 ⟨rfl, hw9⟩
      obtain rfl := hw9.symm
      go_wp2_with fail
      refine (nameS_is _ _ D4.out _).mono ?_
      rintro e w9 ⟨rfl, hw9⟩
      obtain rfl := hw9.symm
      go_wp2_with fail
      refine (inT_is _ _ _ _ D5.out _).mono ?_
      rintro e w9 ⟨rfl, hw9⟩
      obtain rfl := hw9.symm
      go_wp2
      go_ret
      exact ⟨rfl, HB.out⟩
    have D5 : Hid (decide (0 ≤ v ∧ v ≤ 9999) = true) := decide_eq_true b5
    obtain rfl : o = 0 := HO.out.symm.trans (opF_ok HS.out (decide_eq_true ⟨b1, b2, b3, b4, b5⟩))
    clear b1 b2 b3 b4 b5
    go_wp2_with fail
    refine (inodeS_is _ _ D1.out _).mono ?_
    rintro e w9 ⟨rfl, hw9⟩
    obtain rfl := hw9.symm
    go_wp2_with fail
    refine (inodeS_is _ _ D2.out _).mono ?_
    rintro e w9 ⟨rfl, hw9⟩
    obtain rfl := hw9.symm
    go_wp2_with fail
    refine (nameS_is _ _ D3.out _).mono ?_
    rintro e w9 ⟨rfl, hw9⟩
    obtain rfl := hw9.symm
    go_wp2_with fail
    refine (nameS_is _ _ D4.out _).mono ?_
    rintro e w9 ⟨rfl, hw9⟩
    obtain rfl := hw9.symm
    go_wp2_with fail
    refine (inT_is _ _ _ _ D5.out _).mono ?_
    rintro e w9 ⟨rfl, hw9⟩
    obtain rfl := hw9.symm
    go_wp2
    go_ret
    exact ⟨rfl, HB.out⟩
  have e6 : (kd != 6) = true := bne_iff_ne.2 h6
  by_cases hv : v = 0
  · subst hv
    obtain rfl : r = true := HS.out.symm.trans (HK.out.trans (decide_eq_true (by omega)))
    clear h4 h5 h6 h8
    go_enter Tryz.func26, Tryz.ntmps26
    go_wp2_with fail
    refine (inT_is _ _ _ _ D8.out _).mono ?_
    rintro e w9 ⟨rfl, hw9⟩
    obtain rfl := hw9.symm
    by_cases b1 : 0 ≤ d ∧ d ≤ 9
    case neg =>
      have D1 : Hid (decide (0 ≤ d ∧ d ≤ 9) = false) := decide_eq_false b1
      obtain rfl : o = 3 := HO.out.symm.trans (opF_range HS.out (bounds_no fun q => b1 q.1))
      clear b1
      go_wp2_with fail
      refine (inodeS_is _ _ D1.out _).mono ?_
      rintro e w9 ⟨rfl, hw9⟩
      obtain rfl := hw9.symm
      go_wp2
      go_ret
      exact ⟨rfl, HB.out⟩
    have D1 : Hid (decide (0 ≤ d ∧ d ≤ 9) = true) := decide_eq_true b1
    by_cases b2 : 0 ≤ (0 : Int) ∧ (0 : Int) ≤ 9
    case neg =>
      have D2 : Hid (decide (0 ≤ (0 : Int) ∧ (0 : Int) ≤ 9) = false) := decide_eq_false b2
      obtain rfl : o = 3 := HO.out.symm.trans (opF_range HS.out (bounds_no fun q => b2 q.2.1))
      clear b1 b2
      go_wp2_with fail
      refine (inodeS_is _ _ D1.out _).mono ?_
      rintro e w9 ⟨rfl, hw9⟩
      obtain rfl := hw9.symm
      go_wp2_with fail
      refine (inodeS_is _ _ D2.out _).mono ?_
      rintro e w9 ⟨rfl, hw9⟩
      obtain rfl := hw9.symm
      go_wp2
      go_ret
      exact ⟨rfl, HB.out⟩
    have D2 : Hid (decide (0 ≤ (0 : Int) ∧ (0 : Int) ≤ 9) = true) := decide_eq_true b2
    by_cases b3 : 0 ≤ n ∧ n ≤ 5
    case neg =>
      have D3 : Hid (decide (0 ≤ n ∧ n ≤ 5) = false) := decide_eq_false b3
      obtain rfl : o = 3 := HO.out.symm.trans (opF_range HS.out (bounds_no fun q => b3 q.2.2.1))
      clear b1 b2 b3
      go_wp2_with fail
      refine (inodeS_is _ _ D1.out _).mono ?_
      rintro e w9 ⟨rfl, hw9⟩
      obtain rfl := hw9.symm
      go_wp2_with fail
      refine (inodeS_is _ _ D2.out _).mono ?_
      rintro e w9 ⟨rfl, hw9⟩
      obtain rfl := hw9.symm
      go_wp2_with fail
      refine (nameS_is _ _ D3.out _).mono ?_
      rintro e w9 ⟨rfl, hw9⟩
      obtain rfl := hw9.symm
      go_wp2
      go_ret
      exact ⟨rfl, HB.out⟩
    have D3 : Hid (decide (0 ≤ n ∧ n ≤ 5) = true) := decide_eq_true b3
    by_cases b4 : 0 ≤ (0 : Int) ∧ (0 : Int) ≤ 5
    case neg =>
      have D4 : Hid (decide (0 ≤ (0 : Int) ∧ (0 : Int) ≤ 5) = false) := decide_eq_false b4
      obtain rfl : o = 3 := HO.out.symm.trans (opF_range HS.out (bounds_no fun q => b4 q.2.2.2.1))
      clear b1 b2 b3 b4
      go_wp2_with fail
      refine (inodeS_is _ _ D1.out _).mono ?_
      rintro e w9 ⟨rfl, hw9⟩
      obtain rfl := hw9.symm
      go_wp2_with fail
      refine (inodeS_is _ _ D2.out _).mono ?_
      rintro e w9 ⟨rfl, hw9⟩
      obtain rfl := hw9.symm
      go_wp2_with fail
      refine (nameS_is _ _ D3.out _).mono ?_
      rintro e w9 ⟨rfl, hw9⟩
      obtain rfl := hw9.symm
      go_wp2_with fail
      refine (nameS_is _ _ D4.out _).mono ?_
      rintro e w9 ⟨rfl, hw9⟩
      obtain rfl := hw9.symm
      go_wp2
      go_ret
      exact ⟨rfl, HB.out⟩
    have D4 : Hid (decide (0 ≤ (0 : Int) ∧ (0 : Int) ≤ 5) = true) := decide_eq_true b4
    by_cases b5 : 0 ≤ (0 : Int) ∧ (0 : Int) ≤ 9999
    case neg =>
      have D5 : Hid (decide (0 ≤ (0 : Int) ∧ (0 : Int) ≤ 9999) = false) := decide_eq_false b5
      obtain rfl : o = 3 := HO.out.symm.trans (opF_range HS.out (bounds_no fun q => b5 q.2.2.2.2))
      clear b1 b2 b3 b4 b5
      go_wp2_with fail
      refine (inodeS_is _ _ D1.out _).mono ?_
      rintro e w9 ⟨rfl, hw9⟩
      obtain rfl := hw9.symm
      go_wp2_with fail
      refine (inodeS_is _ _ D2.out _).mono ?_
      rintro e w9 ⟨rfl, hw9⟩
      obtain rfl := hw9.symm
      go_wp2_with fail
      refine (nameS_is _ _ D3.out _).mono ?_
      rintro e w9 ⟨rfl, hw9⟩
      obtain rfl := hw9.symm
      go_wp2_with fail
      refine (nameS_is _ _ D4.out _).mono ?_
      rintro e w9 ⟨rfl, hw9⟩
      obtain rfl := hw9.symm
      go_wp2_with fail
      refine (inT_is _ _ _ _ D5.out _).mono ?_
      rintro e w9 ⟨rfl, hw9⟩
      obtain rfl := hw9.symm
      go_wp2
      go_ret
      exact ⟨rfl, HB.out⟩
    have D5 : Hid (decide (0 ≤ (0 : Int) ∧ (0 : Int) ≤ 9999) = true) := decide_eq_true b5
    obtain rfl : o = 0 := HO.out.symm.trans (opF_ok HS.out (decide_eq_true ⟨b1, b2, b3, b4, b5⟩))
    clear b1 b2 b3 b4 b5
    go_wp2_with fail
    refine (inodeS_is _ _ D1.out _).mono ?_
    rintro e w9 ⟨rfl, hw9⟩
    obtain rfl := hw9.symm
    go_wp2_with fail
    refine (inodeS_is _ _ D2.out _).mono ?_
    rintro e w9 ⟨rfl, hw9⟩
    obtain rfl := hw9.symm
    go_wp2_with fail
    refine (nameS_is _ _ D3.out _).mono ?_
    rintro e w9 ⟨rfl, hw9⟩
    obtain rfl := hw9.symm
    go_wp2_with fail
    refine (nameS_is _ _ D4.out _).mono ?_
    rintro e w9 ⟨rfl, hw9⟩
    obtain rfl := hw9.symm
    go_wp2_with fail
    refine (inT_is _ _ _ _ D5.out _).mono ?_
    rintro e w9 ⟨rfl, hw9⟩
    obtain rfl := hw9.symm
    go_wp2
    go_ret
    exact ⟨rfl, HB.out⟩
  have ev : (v != 0) = true := bne_iff_ne.2 hv
  obtain rfl : o = 1 := HO.out.symm.trans (opF_form (HK.out.trans (decide_eq_false (by omega))))
  clear h4 h5 h6 h8 hv
  go_enter Tryz.func26, Tryz.ntmps26
  go_wp2_with fail
  refine (inT_is _ _ _ _ D8.out _).mono ?_
  rintro e w9 ⟨rfl, hw9⟩
  obtain rfl := hw9.symm
  go_wp2
  go_ret
  exact ⟨rfl, HB.out⟩
end Go.Proofs.YtjkchhcnochjlaaGreatDoor

namespace Go.Proofs.YtjkchhcnochjlaaGreatDoor
open Go.RowKit

theorem apartD_of {w : World} {B0 B1 z1 z2 : Nat} {S : Sto} {u0 u1 u2 : Value} (hz : z1 ≤ z2) (h0 : 0 < S.nc → ∀ k, u0.ownBlock = some k → k < z1) (h1 : 0 < S.nl → ∀ k, u1.ownBlock = some k → z1 ≤ k ∧ k < z2) (h2 : 0 < S.nw → ∀ k, u2.ownBlock = some k → z2 ≤ k) (r0 : Row w B0 3 S.nc S.c u0) (r1 : Row w B1 5 S.nl S.l u1) : ApartD S u0 u1 u2 := by
  have own : ∀ {B m n : Nat} {F : Nat → Int} {u : Value}, Row w B m n F u → 0 < n → ∃ k, u.ownBlock = some k := fun hr hn => by
    obtain ⟨ao, cp, rfl, hr⟩ := hr
    obtain ⟨g, o, rfl, _⟩ := hr hn
    exact ⟨g, rfl⟩
  refine ⟨fun ha hb e => ?_, fun ha hb e => ?_, fun ha hb e => ?_⟩
  · obtain ⟨k, hk⟩ := own r0 ha
    have := h0 ha k hk; have := h1 hb k (e ▸ hk); omega
  · obtain ⟨k, hk⟩ := own r0 ha
    have := h0 ha k hk; have := h2 hb k (e ▸ hk); omega
  · obtain ⟨k, hk⟩ := own r1 ha
    have := h1 ha k hk; have := h2 hb k (e ▸ hk); omega
set_option maxRecDepth 100000 in
set_option maxHeartbeats 16000000 in
theorem l2Part_anyO (S : Sto) (b oo : Nat) (v0 v1 v2 : Value) (fr tto : Int) (w : World) (h : LiesO w b oo S v0 v1 v2) (hn : S.nc ≤ 200 ∧ S.nl ≤ 200 ∧ S.nw ≤ 200) (ht : 0 ≤ tto ∧ tto ≤ 200) :
    Calls Tryz.prog 117 #[.pointer (some ⟨b, oo, none⟩), .int .i64 fr, .int .i64 tto] w (NewSto w (partS S fr tto)) := by
  obtain ⟨a0, c0, a1, c1, a2, c2, rfl, rfl, rfl⟩ := h.2.form
  have H : Hid (LiesO w b oo S (.slice a0 S.nc c0) (.slice a1 S.nl c1) (.slice a2 S.nw c2)) := h
  obtain ⟨p0, p1, p2⟩ := h.1
  have hb := h.lt
  obtain ⟨hn0, hn1, hn2⟩ := hn
  obtain ⟨ht0, ht1⟩ := ht
  obtain ⟨hi, hhi⟩ : ∃ hi, tto - 1 = hi := ⟨_, rfl⟩
  have hwr : IntKind.i64.wrap (tto - 1) = hi := by
    rw [← hhi]
    simp [IntKind.wrap, IntKind.bits, IntKind.signed]
    omega
  unfold partS NewSto
  rw [hhi]
  clear h hhi
  obtain ⟨i0, hi0, hz00, hz10, hz20⟩ := info_parts info_Cell
  obtain ⟨i1, hi1, hz01, hz11, hz21⟩ := info_parts info_Lock
  obtain ⟨i2, hi2, hz02, hz12, hz22⟩ := info_parts info_Write
  obtain ⟨z0, hz0⟩ : ∃ z, w.heap.size + 2 = z := ⟨_, rfl⟩
  obtain ⟨D0, hD0, hT0⟩ : ∃ D : World → Prop, (∀ x, D x ↔ z0 ≤ x.heap.size) ∧ Stays w z0 D := ⟨fun x => z0 ≤ x.heap.size, fun _ => Iff.rfl, hz0 ▸ Stays.none w⟩
  have HT0 : Hid (Stays w z0 D0) := hT0
  have HZ0 : Hid (∀ x, D0 x → z0 ≤ x.heap.size) := fun x hx => (hD0 x).1 hx
  have E0 : Hid (PartEnv w (.slice none 0 0) (.slice none 0 0) (.slice none 0 0) ((w.alloc (.cells #[.slice none 0 0, .slice none 0 0, .slice none 0 0] 126)).alloc (.cells #[.slice none 0 0, .slice none 0 0, .slice none 0 0] 126))) := ⟨(Blk3.new w _ _ _ _).alloc _, by have := Blk3.new (w.alloc (.cells #[.slice none 0 0, .slice none 0 0, .slice none 0 0] 126)) (.slice none 0 0) (.slice none 0 0) (.slice none 0 0) 126; rw [World.size_alloc] at this; exact this, (below_alloc _ _).alloc (by simp) _⟩
  have MA0 : Hid (Mak w z0 D0 212 3 (.slice none 0 0) (.slice none 0 0) (.slice none 0 0) (.slice none 0 0) 0 [] ((w.alloc (.cells #[.slice none 0 0, .slice none 0 0, .slice none 0 0] 126)).alloc (.cells #[.slice none 0 0, .slice none 0 0, .slice none 0 0] 126))) := ⟨E0.out, (hD0 _).2 (by simp; omega), OwnM.nil _ _ _ _⟩
  clear hT0 hD0 E0
  go_enter Tryz.func117, Tryz.ntmps117
  go_wp2
  go_loopw [8] (fun i wr => ∃ (k : Nat) (ao : Option Addr) (cp : Nat), i = .int .i64 k ∧ k ≤ S.nc ∧ Hid (Mak w z0 D0 212 3 (.slice ao (keepN S.c 3 fr hi k) cp) (.slice none 0 0) (.slice none 0 0) (.slice ao (keepN S.c 3 fr hi k) cp) (keepN S.c 3 fr hi k) (keepL S.c 3 fr hi k) wr)) (fun i _ => S.nc - (intOf i).toNat)
  case atStart => exact ⟨0, none, 0, rfl, Nat.zero_le _, MA0⟩
  case round =>
    clear MA0
    obtain ⟨k, ao, cp, rfl, hk, HS⟩ := hrel
    have hbw := HS.out.1.2.2
    have e0 := (hbw.cell (p := ⟨b, oo, none⟩) hb).trans p0
    have hbr : b < wr.heap.size := Nat.lt_of_lt_of_le hb hbw.size
    by_cases hlt : k < S.nc
    case neg =>
      have en : k = S.nc := by omega
      subst en
      obtain ⟨d0, hd⟩ : ∃ d, d = ao := ⟨_, rfl⟩
      obtain ⟨y0, he⟩ : ∃ e, e = cp := ⟨_, rfl⟩
      subst hd he
      have DD := HS.out.2.2.done (keep_length _ _ _ _ _)
      obtain ⟨z1, hz⟩ : ∃ z, wr.heap.size = z := ⟨_, rfl⟩
      have zle : z0 ≤ z1 := by rw [← hz]; exact HZ0.out wr HS.out.2.1
      rw [hz] at DD
      obtain ⟨D1, hD, hT, hE⟩ : ∃ D : World → Prop, D wr ∧ Stays w z1 D ∧ ∀ x, D x → z1 ≤ x.heap.size ∧ D0 x ∧ Done x z0 z1 3 (keepN S.c 3 fr hi S.nc) (keepF S.c 3 fr hi S.nc) (.slice d0 (keepN S.c 3 fr hi S.nc) y0) := ⟨_, ⟨by omega, HS.out.2.1, DD⟩, HT0.out.more zle, fun _ h => h⟩
      have HT1 : Hid (Stays w z1 D1) := hT
      have HZ1 : Hid (∀ x, D1 x → z1 ≤ x.heap.size) := fun x hx => (hE x hx).1
      have HE1 : Hid (z0 ≤ z1 ∧ ∀ x, D1 x → D0 x ∧ Done x z0 z1 3 (keepN S.c 3 fr hi S.nc) (keepF S.c 3 fr hi S.nc) (.slice d0 (keepN S.c 3 fr hi S.nc) y0)) := ⟨zle, fun x hx => (hE x hx).2⟩
      have MA1 : Hid (Mak w z1 D1 162 5 (.slice d0 (keepN S.c 3 fr hi S.nc) y0) (.slice none 0 0) (.slice none 0 0) (.slice none 0 0) 0 [] wr) := ⟨HS.out.1, hD, OwnM.nil _ _ _ _⟩
      clear DD zle hz hD hT hE HS
      go_wp2
      go_loopw [9] (fun i wr => ∃ (k : Nat) (ao : Option Addr) (cp : Nat), i = .int .i64 k ∧ k ≤ S.nl ∧ Hid (Mak w z1 D1 162 5 (.slice d0 (keepN S.c 3 fr hi S.nc) y0) (.slice ao (keepN S.l 5 fr hi k) cp) (.slice none 0 0) (.slice ao (keepN S.l 5 fr hi k) cp) (keepN S.l 5 fr hi k) (keepL S.l 5 fr hi k) wr)) (fun i _ => S.nl - (intOf i).toNat)
      case atStart => exact ⟨0, none, 0, rfl, Nat.zero_le _, MA1⟩
      case round =>
        clear MA1
        obtain ⟨k, ao, cp, rfl, hk, HS⟩ := hrel
        have hbw := HS.out.1.2.2
        have e0 := (hbw.cell (p := ⟨b, oo + 1, none⟩) hb).trans p1
        have hbr : b < wr.heap.size := Nat.lt_of_lt_of_le hb hbw.size
        by_cases hlt : k < S.nl
        case neg =>
          have en : k = S.nl := by omega
          subst en
          obtain ⟨d1, hd⟩ : ∃ d, d = ao := ⟨_, rfl⟩
          obtain ⟨y1, he⟩ : ∃ e, e = cp := ⟨_, rfl⟩
          subst hd he
          have DD := HS.out.2.2.done (keep_length _ _ _ _ _)
          obtain ⟨z2, hz⟩ : ∃ z, wr.heap.size = z := ⟨_, rfl⟩
          have zle : z1 ≤ z2 := by rw [← hz]; exact HZ1.out wr HS.out.2.1
          rw [hz] at DD
          obtain ⟨D2, hD, hT, hE⟩ : ∃ D : World → Prop, D wr ∧ Stays w z2 D ∧ ∀ x, D x → z2 ≤ x.heap.size ∧ D1 x ∧ Done x z1 z2 5 (keepN S.l 5 fr hi S.nl) (keepF S.l 5 fr hi S.nl) (.slice d1 (keepN S.l 5 fr hi S.nl) y1) := ⟨_, ⟨by omega, HS.out.2.1, DD⟩, HT1.out.more zle, fun _ h => h⟩
          have HT2 : Hid (Stays w z2 D2) := hT
          have HZ2 : Hid (∀ x, D2 x → z2 ≤ x.heap.size) := fun x hx => (hE x hx).1
          have HE2 : Hid (z1 ≤ z2 ∧ ∀ x, D2 x → D1 x ∧ Done x z1 z2 5 (keepN S.l 5 fr hi S.nl) (keepF S.l 5 fr hi S.nl) (.slice d1 (keepN S.l 5 fr hi S.nl) y1)) := ⟨zle, fun x hx => (hE x hx).2⟩
          have MA2 : Hid (Mak w z2 D2 121 4 (.slice d0 (keepN S.c 3 fr hi S.nc) y0) (.slice d1 (keepN S.l 5 fr hi S.nl) y1) (.slice none 0 0) (.slice none 0 0) 0 [] wr) := ⟨HS.out.1, hD, OwnM.nil _ _ _ _⟩
          clear DD zle hz hD hT hE HS
          go_wp2
          go_loopw [10] (fun i wr => ∃ (k : Nat) (ao : Option Addr) (cp : Nat), i = .int .i64 k ∧ k ≤ S.nw ∧ Hid (Mak w z2 D2 121 4 (.slice d0 (keepN S.c 3 fr hi S.nc) y0) (.slice d1 (keepN S.l 5 fr hi S.nl) y1) (.slice ao (keepN S.k 4 fr hi k) cp) (.slice ao (keepN S.k 4 fr hi k) cp) (keepN S.k 4 fr hi k) (keepL S.k 4 fr hi k) wr)) (fun i _ => S.nw - (intOf i).toNat)
          case atStart => exact ⟨0, none, 0, rfl, Nat.zero_le _, MA2⟩
          case round =>
            clear MA2
            obtain ⟨k, ao, cp, rfl, hk, HS⟩ := hrel
            have hbw := HS.out.1.2.2
            have e0 := (hbw.cell (p := ⟨b, oo + 2, none⟩) hb).trans p2
            have hbr : b < wr.heap.size := Nat.lt_of_lt_of_le hb hbw.size
            by_cases hlt : k < S.nw
            case neg =>
              have en : k = S.nw := by omega
              subst en
              obtain ⟨d2, hd⟩ : ∃ d, d = ao := ⟨_, rfl⟩
              obtain ⟨y2, he⟩ : ∃ e, e = cp := ⟨_, rfl⟩
              subst hd he
              obtain ⟨⟨r0, r1, r2⟩, f0, f1, f2⟩ := HS.out.1.1
              obtain ⟨⟨s0, s1, s2⟩, _⟩ := HS.out.1.2.1
              have D2' := HE2.out.2 _ HS.out.2.1
              have D1' := HE1.out.2 _ D2'.1
              have DW := HS.out.2.2.done (keep_length _ _ _ _ _)
              have R : Hid ((St wr z0 ⟨(keepN S.c 3 fr hi S.nc), (keepF S.c 3 fr hi S.nc), (keepN S.l 5 fr hi S.nl), (keepF S.l 5 fr hi S.nl), (keepN S.k 4 fr hi S.nw), (keepF S.k 4 fr hi S.nw)⟩ (.slice d0 (keepN S.c 3 fr hi S.nc) y0) (.slice d1 (keepN S.l 5 fr hi S.nl) y1) (.slice d2 (keepN S.k 4 fr hi S.nw) y2) ∧ FreeS wr ⟨(keepN S.c 3 fr hi S.nc), (keepF S.c 3 fr hi S.nc), (keepN S.l 5 fr hi S.nl), (keepF S.l 5 fr hi S.nl), (keepN S.k 4 fr hi S.nw), (keepF S.k 4 fr hi S.nw)⟩ (.slice d0 (keepN S.c 3 fr hi S.nc) y0) (.slice d1 (keepN S.l 5 fr hi S.nl) y1) (.slice d2 (keepN S.k 4 fr hi S.nw) y2)) ∧ ApartD ⟨(keepN S.c 3 fr hi S.nc), (keepF S.c 3 fr hi S.nc), (keepN S.l 5 fr hi S.nl), (keepF S.l 5 fr hi S.nl), (keepN S.k 4 fr hi S.nw), (keepF S.k 4 fr hi S.nw)⟩ (.slice d0 (keepN S.c 3 fr hi S.nc) y0) (.slice d1 (keepN S.l 5 fr hi S.nl) y1) (.slice d2 (keepN S.k 4 fr hi S.nw) y2)) :=
                ⟨⟨⟨D1'.2.1.1, D2'.2.1.1.mono HE1.out.1, DW.1.1.mono (Nat.le_trans HE1.out.1 HE2.out.1)⟩, D1'.2.1.2, D2'.2.1.2, DW.1.2⟩,
                  apartD_of (z1 := z1) (z2 := z2) HE2.out.1 D1'.2.2 (fun h0 k hk => ⟨(D2'.2.1.1.lt h0 k hk).1, D2'.2.2 h0 k hk⟩) (fun h0 k hk => (DW.1.1.lt h0 k hk).1) D1'.2.1.1 D2'.2.1.1⟩
              have hne : ¬ w.heap.size + 1 = w.heap.size := by omega
              have hlo0 : w.heap.size < z0 := by omega
              have HB : Hid (Below w.heap.size w wr) := HS.out.1.2.2
              clear HS D1' D2' DW
              go_wp2
              exact bodyPost_ret (v := .agg #[.slice d0 (keepN S.c 3 fr hi S.nc) y0, .slice d1 (keepN S.l 5 fr hi S.nl) y1, .slice d2 (keepN S.k 4 fr hi S.nw) y2]) (by simp [results, Tryz.results117, go_sem, r0, r1, r2]) rfl ⟨d0, y0, d1, y1, d2, y2, rfl, ⟨((((R.out.1.1.far hlo0 _).far hlo0 _).far hlo0 _).mono (by omega)), ((R.out.1.2.far _ _).far _ _).far _ _, R.out.2⟩, ((HB.out.setCell (Nat.le_refl _) _).setCell (Nat.le_refl _) _).setCell (Nat.le_refl _) _⟩
            obtain ⟨g, o, rfl, _, hg, x0, x1, x2, x3⟩ := H.out.2.2.2.at4 hlt
            replace x0 := (hbw.cell (p := ⟨g, o + k * 4, none⟩) hg).trans x0
            replace x1 := (hbw.cell (p := ⟨g, o + k * 4 + 1, none⟩) hg).trans x1
            replace x2 := (hbw.cell (p := ⟨g, o + k * 4 + 2, none⟩) hg).trans x2
            replace x3 := (hbw.cell (p := ⟨g, o + k * 4 + 3, none⟩) hg).trans x3
            have hgr : g < wr.heap.size := Nat.lt_of_lt_of_le hg hbw.size
            obtain ⟨n0, N0⟩ : ∃ x, S.k (k * 4) = x := ⟨_, rfl⟩
            rw [N0] at x0
            obtain ⟨n1, N1⟩ : ∃ x, S.k (k * 4 + 1) = x := ⟨_, rfl⟩
            rw [N1] at x1
            obtain ⟨n2, N2⟩ : ∃ x, S.k (k * 4 + 2) = x := ⟨_, rfl⟩
            rw [N2] at x2
            obtain ⟨n3, N3⟩ : ∃ x, S.k (k * 4 + 3) = x := ⟨_, rfl⟩
            rw [N3] at x3
            have NN : Hid (S.k (k * 4) = n0 ∧ S.k (k * 4 + 1) = n1 ∧ S.k (k * 4 + 2) = n2 ∧ S.k (k * 4 + 3) = n3) := ⟨N0, N1, N2, N3⟩
            by_cases hin : fr ≤ n0 ∧ n0 ≤ hi
            case neg =>
              have HI : Hid (decide (fr ≤ n0 ∧ n0 ≤ hi) = false) := decide_eq_false hin
              have M1 : Hid (Mak w z2 D2 121 4 (.slice d0 (keepN S.c 3 fr hi S.nc) y0) (.slice d1 (keepN S.l 5 fr hi S.nl) y1) (.slice ao (keepN S.k 4 fr hi (k + 1)) cp) (.slice ao (keepN S.k 4 fr hi (k + 1)) cp) (keepN S.k 4 fr hi (k + 1)) (keepL S.k 4 fr hi (k + 1)) wr) := by
                have h1 := keep_no (F := S.k) (m := 4) (a := fr) (b := hi) (k := k) (by rw [N0]; exact hin)
                unfold Hid
                rw [h1.1, h1.2]
                exact HS.out
              clear N0 N1 N2 N3 NN hin HS
              go_wp2_with fail
              refine (l1In_is _ _ _ false HI.out _).mono ?_
              rintro e w1 ⟨rfl, rfl⟩
              go_wp2
              go_roundw
              case rel => exact ⟨k + 1, ao, cp, by go_num, by omega, M1⟩
              case measure => simp [intOf]; omega
            have HI : Hid (decide (fr ≤ n0 ∧ n0 ≤ hi) = true) := decide_eq_true hin
            have HL : Hid ((keepL S.k 4 fr hi (k + 1)) = (keepL S.k 4 fr hi k) ++ [n0, n1, n2, n3] ∧ (keepN S.k 4 fr hi (k + 1)) = (keepN S.k 4 fr hi k) + 1) := by
              have h1 := keep_yes (F := S.k) (m := 4) (a := fr) (b := hi) (k := k) (by rw [N0]; exact hin)
              refine ⟨h1.1.trans ?_, h1.2⟩
              rw [show (List.range 4).map (fun q => S.k (k * 4 + q)) = [S.k (k * 4), S.k (k * 4 + 1), S.k (k * 4 + 2), S.k (k * 4 + 3)] from rfl, N0, N1, N2, N3]
            have hnle := keep_le S.k 4 fr hi k
            obtain ⟨nn, hnn⟩ : ∃ nn, (keepN S.k 4 fr hi k) = nn := ⟨_, rfl⟩
            rw [hnn] at hnle HS
            have HNN : Hid ((keepN S.k 4 fr hi k) = nn) := hnn
            have HA : Hid (Mak w z2 D2 121 4 (.slice d0 (keepN S.c 3 fr hi S.nc) y0) (.slice d1 (keepN S.l 5 fr hi S.nl) y1) (.slice ao nn cp) (.slice ao nn cp) nn (keepL S.k 4 fr hi k) (wr.alloc (.cells #[.int .i64 n0, .int .i64 n1, .int .i64 n2, .int .i64 n3] 121)).drew) := HS.out.later HT2.out (below_alloc _ _).drew
            have s2 := HS.out.1.2.1.1.2.2
            have fz2 := HS.out.1.2.1.2.2.2
            have fa2 : (wr.alloc (.cells #[.int .i64 n0, .int .i64 n1, .int .i64 n2, .int .i64 n3] 121)).frozen? ⟨w.heap.size + 1, 2, none⟩ = false := HA.out.1.2.1.2.2.2
            have fb2 : (wr.alloc (.cells #[.int .i64 n0, .int .i64 n1, .int .i64 n2, .int .i64 n3] 121)).drew.frozen? ⟨w.heap.size + 1, 2, none⟩ = false := HA.out.1.2.1.2.2.2
            have zs := HS.out.1.2.1.lt
            have hob := HS.out.2.2.block
            have hlo := HT2.out.lo
            have nq : ∀ q, q < w.heap.size + 2 → some q ≠ (Value.slice ao nn cp).ownBlock := fun q hq e => by have := hob q e.symm; omega
            have hzw : z2 ≤ wr.heap.size := HZ2.out wr HS.out.2.1
            clear N0 N1 N2 N3 NN hin HS hob
            clear hnn
            go_wp2_with fail
            refine (l1In_is _ _ _ true HI.out _).mono ?_
            rintro e w1 ⟨rfl, rfl⟩
            go_wp2_with fail
            go_region_law ((refine step_append_lies _ (by rfl) _ _ 124 (by rfl) z2 121 i2 (.agg #[.int .i64 0, .int .i64 0, .int .i64 0, .int .i64 0]) 4 32 Tryz.underlying124 hi2 hz02 hz12 hz22 rfl (by omega) (.slice ao nn cp) nn _ (by rfl) HA.out.2.2 ⟨w1.heap.size, 0, none⟩ 1 1 [.int .i64 n0, .int .i64 n1, .int .i64 n2, .int .i64 n3] (by rfl) (by rfl) (World.news_of_block (cs := #[.int .i64 n0, .int .i64 n1, .int .i64 n2, .int .i64 n3]) (t := 121) (fr := (0, 0)) (heap_alloc_new w1 _)) (by simp [Value.oneCell']) (by omega) (by unfold maxLen; omega) (by omega) (by simp; omega) (w1.heap.size + 1) (by simp) ?_; intro gg cap w5 ho hgrow hat hlt5; have F2 : OwnM w5 z2 121 4 (.slice (some ⟨gg, 0, none⟩) (keepN S.k 4 fr hi (k + 1)) cap) (keepN S.k 4 fr hi (k + 1)) (keepL S.k 4 fr hi (k + 1)) := (by unfold OwnM; rw [HL.out.1, HL.out.2, HNN.out, List.map_append]; exact ho); have M5 := HA.out.step HT2.out hgrow F2; rw [HL.out.2, HNN.out] at M5; have t2 := M5.1.2.1.1.2.2; have g2 := M5.1.2.1.2.2.2; have M6 : Hid (Mak w z2 D2 121 4 (.slice d0 (keepN S.c 3 fr hi S.nc) y0) (.slice d1 (keepN S.l 5 fr hi S.nl) y1) (.slice (some ⟨gg, 0, none⟩) (nn + 1) cap) (.slice (some ⟨gg, 0, none⟩) (nn + 1) cap) (nn + 1) (keepL S.k 4 fr hi (k + 1)) (w5.setCell ⟨w.heap.size + 1, 2, none⟩ (.slice (some ⟨gg, 0, none⟩) (nn + 1) cap))) := M5.set2 HT2.out; clear M5 F2))
            all_goals
              clear HA s2 zs fz2 fa2 fb2
              go_wp2
              go_roundw
              case rel => exact ⟨k + 1, some ⟨gg, 0, none⟩, cap, by go_num, by omega, by rw [HL.out.2, HNN.out]; exact M6⟩
              case measure => simp [intOf]; omega
        obtain ⟨g, o, rfl, _, hg, x0, x1, x2, x3, x4⟩ := H.out.2.2.1.at5 hlt
        replace x0 := (hbw.cell (p := ⟨g, o + k * 5, none⟩) hg).trans x0
        replace x1 := (hbw.cell (p := ⟨g, o + k * 5 + 1, none⟩) hg).trans x1
        replace x2 := (hbw.cell (p := ⟨g, o + k * 5 + 2, none⟩) hg).trans x2
        replace x3 := (hbw.cell (p := ⟨g, o + k * 5 + 3, none⟩) hg).trans x3
        replace x4 := (hbw.cell (p := ⟨g, o + k * 5 + 4, none⟩) hg).trans x4
        have hgr : g < wr.heap.size := Nat.lt_of_lt_of_le hg hbw.size
        obtain ⟨n0, N0⟩ : ∃ x, S.l (k * 5) = x := ⟨_, rfl⟩
        rw [N0] at x0
        obtain ⟨n1, N1⟩ : ∃ x, S.l (k * 5 + 1) = x := ⟨_, rfl⟩
        rw [N1] at x1
        obtain ⟨n2, N2⟩ : ∃ x, S.l (k * 5 + 2) = x := ⟨_, rfl⟩
        rw [N2] at x2
        obtain ⟨n3, N3⟩ : ∃ x, S.l (k * 5 + 3) = x := ⟨_, rfl⟩
        rw [N3] at x3
        obtain ⟨n4, N4⟩ : ∃ x, S.l (k * 5 + 4) = x := ⟨_, rfl⟩
        rw [N4] at x4
        have NN : Hid (S.l (k * 5) = n0 ∧ S.l (k * 5 + 1) = n1 ∧ S.l (k * 5 + 2) = n2 ∧ S.l (k * 5 + 3) = n3 ∧ S.l (k * 5 + 4) = n4) := ⟨N0, N1, N2, N3, N4⟩
        by_cases hin : fr ≤ n0 ∧ n0 ≤ hi
        case neg =>
          have HI : Hid (decide (fr ≤ n0 ∧ n0 ≤ hi) = false) := decide_eq_false hin
          have M1 : Hid (Mak w z1 D1 162 5 (.slice d0 (keepN S.c 3 fr hi S.nc) y0) (.slice ao (keepN S.l 5 fr hi (k + 1)) cp) (.slice none 0 0) (.slice ao (keepN S.l 5 fr hi (k + 1)) cp) (keepN S.l 5 fr hi (k + 1)) (keepL S.l 5 fr hi (k + 1)) wr) := by
            have h1 := keep_no (F := S.l) (m := 5) (a := fr) (b := hi) (k := k) (by rw [N0]; exact hin)
            unfold Hid
            rw [h1.1, h1.2]
            exact HS.out
          clear N0 N1 N2 N3 N4 NN hin HS
          go_wp2_with fail
          refine (l1In_is _ _ _ false HI.out _).mono ?_
          rintro e w1 ⟨rfl, rfl⟩
          go_wp2
          go_roundw
          case rel => exact ⟨k + 1, ao, cp, by go_num, by omega, M1⟩
          case measure => simp [intOf]; omega
        have HI : Hid (decide (fr ≤ n0 ∧ n0 ≤ hi) = true) := decide_eq_true hin
        have HL : Hid ((keepL S.l 5 fr hi (k + 1)) = (keepL S.l 5 fr hi k) ++ [n0, n1, n2, n3, n4] ∧ (keepN S.l 5 fr hi (k + 1)) = (keepN S.l 5 fr hi k) + 1) := by
          have h1 := keep_yes (F := S.l) (m := 5) (a := fr) (b := hi) (k := k) (by rw [N0]; exact hin)
          refine ⟨h1.1.trans ?_, h1.2⟩
          rw [show (List.range 5).map (fun q => S.l (k * 5 + q)) = [S.l (k * 5), S.l (k * 5 + 1), S.l (k * 5 + 2), S.l (k * 5 + 3), S.l (k * 5 + 4)] from rfl, N0, N1, N2, N3, N4]
        have hnle := keep_le S.l 5 fr hi k
        obtain ⟨nn, hnn⟩ : ∃ nn, (keepN S.l 5 fr hi k) = nn := ⟨_, rfl⟩
        rw [hnn] at hnle HS
        have HNN : Hid ((keepN S.l 5 fr hi k) = nn) := hnn
        have HA : Hid (Mak w z1 D1 162 5 (.slice d0 (keepN S.c 3 fr hi S.nc) y0) (.slice ao nn cp) (.slice none 0 0) (.slice ao nn cp) nn (keepL S.l 5 fr hi k) (wr.alloc (.cells #[.int .i64 n0, .int .i64 n1, .int .i64 n2, .int .i64 n3, .int .i64 n4] 162)).drew) := HS.out.later HT1.out (below_alloc _ _).drew
        have s1 := HS.out.1.2.1.1.2.1
        have fz1 := HS.out.1.2.1.2.2.1
        have fa1 : (wr.alloc (.cells #[.int .i64 n0, .int .i64 n1, .int .i64 n2, .int .i64 n3, .int .i64 n4] 162)).frozen? ⟨w.heap.size + 1, 1, none⟩ = false := HA.out.1.2.1.2.2.1
        have fb1 : (wr.alloc (.cells #[.int .i64 n0, .int .i64 n1, .int .i64 n2, .int .i64 n3, .int .i64 n4] 162)).drew.frozen? ⟨w.heap.size + 1, 1, none⟩ = false := HA.out.1.2.1.2.2.1
        have zs := HS.out.1.2.1.lt
        have hob := HS.out.2.2.block
        have hlo := HT1.out.lo
        have nq : ∀ q, q < w.heap.size + 2 → some q ≠ (Value.slice ao nn cp).ownBlock := fun q hq e => by have := hob q e.symm; omega
        have hzw : z1 ≤ wr.heap.size := HZ1.out wr HS.out.2.1
        clear N0 N1 N2 N3 N4 NN hin HS hob
        clear hnn
        go_wp2_with fail
        refine (l1In_is _ _ _ true HI.out _).mono ?_
        rintro e w1 ⟨rfl, rfl⟩
        go_wp2_with fail
        go_region_law ((refine step_append_lies _ (by rfl) _ _ 123 (by rfl) z1 162 i1 (.agg #[.int .i64 0, .int .i64 0, .int .i64 0, .int .i64 0, .int .i64 0]) 5 40 Tryz.underlying123 hi1 hz01 hz11 hz21 rfl (by omega) (.slice ao nn cp) nn _ (by rfl) HA.out.2.2 ⟨w1.heap.size, 0, none⟩ 1 1 [.int .i64 n0, .int .i64 n1, .int .i64 n2, .int .i64 n3, .int .i64 n4] (by rfl) (by rfl) (World.news_of_block (cs := #[.int .i64 n0, .int .i64 n1, .int .i64 n2, .int .i64 n3, .int .i64 n4]) (t := 162) (fr := (0, 0)) (heap_alloc_new w1 _)) (by simp [Value.oneCell']) (by omega) (by unfold maxLen; omega) (by omega) (by simp; omega) (w1.heap.size + 1) (by simp) ?_; intro gg cap w5 ho hgrow hat hlt5; have F2 : OwnM w5 z1 162 5 (.slice (some ⟨gg, 0, none⟩) (keepN S.l 5 fr hi (k + 1)) cap) (keepN S.l 5 fr hi (k + 1)) (keepL S.l 5 fr hi (k + 1)) := (by unfold OwnM; rw [HL.out.1, HL.out.2, HNN.out, List.map_append]; exact ho); have M5 := HA.out.step HT1.out hgrow F2; rw [HL.out.2, HNN.out] at M5; have t1 := M5.1.2.1.1.2.1; have g1 := M5.1.2.1.2.2.1; have M6 : Hid (Mak w z1 D1 162 5 (.slice d0 (keepN S.c 3 fr hi S.nc) y0) (.slice (some ⟨gg, 0, none⟩) (nn + 1) cap) (.slice none 0 0) (.slice (some ⟨gg, 0, none⟩) (nn + 1) cap) (nn + 1) (keepL S.l 5 fr hi (k + 1)) (w5.setCell ⟨w.heap.size + 1, 1, none⟩ (.slice (some ⟨gg, 0, none⟩) (nn + 1) cap))) := M5.set1 HT1.out; clear M5 F2))
        all_goals
          clear HA s1 zs fz1 fa1 fb1
          go_wp2
          go_roundw
          case rel => exact ⟨k + 1, some ⟨gg, 0, none⟩, cap, by go_num, by omega, by rw [HL.out.2, HNN.out]; exact M6⟩
          case measure => simp [intOf]; omega
    obtain ⟨g, o, rfl, _, hg, x0, x1, x2⟩ := H.out.2.1.at3 hlt
    replace x0 := (hbw.cell (p := ⟨g, o + k * 3, none⟩) hg).trans x0
    replace x1 := (hbw.cell (p := ⟨g, o + k * 3 + 1, none⟩) hg).trans x1
    replace x2 := (hbw.cell (p := ⟨g, o + k * 3 + 2, none⟩) hg).trans x2
    have hgr : g < wr.heap.size := Nat.lt_of_lt_of_le hg hbw.size
    obtain ⟨n0, N0⟩ : ∃ x, S.c (k * 3) = x := ⟨_, rfl⟩
    rw [N0] at x0
    obtain ⟨n1, N1⟩ : ∃ x, S.c (k * 3 + 1) = x := ⟨_, rfl⟩
    rw [N1] at x1
    obtain ⟨n2, N2⟩ : ∃ x, S.c (k * 3 + 2) = x := ⟨_, rfl⟩
    rw [N2] at x2
    have NN : Hid (S.c (k * 3) = n0 ∧ S.c (k * 3 + 1) = n1 ∧ S.c (k * 3 + 2) = n2) := ⟨N0, N1, N2⟩
    by_cases hin : fr ≤ n0 ∧ n0 ≤ hi
    case neg =>
      have HI : Hid (decide (fr ≤ n0 ∧ n0 ≤ hi) = false) := decide_eq_false hin
      have M1 : Hid (Mak w z0 D0 212 3 (.slice ao (keepN S.c 3 fr hi (k + 1)) cp) (.slice none 0 0) (.slice none 0 0) (.slice ao (keepN S.c 3 fr hi (k + 1)) cp) (keepN S.c 3 fr hi (k + 1)) (keepL S.c 3 fr hi (k + 1)) wr) := by
        have h1 := keep_no (F := S.c) (m := 3) (a := fr) (b := hi) (k := k) (by rw [N0]; exact hin)
        unfold Hid
        rw [h1.1, h1.2]
        exact HS.out
      clear N0 N1 N2 NN hin HS
      go_wp2_with fail
      refine (l1In_is _ _ _ false HI.out _).mono ?_
      rintro e w1 ⟨rfl, rfl⟩
      go_wp2
      go_roundw
      case rel => exact ⟨k + 1, ao, cp, by go_num, by omega, M1⟩
      case measure => simp [intOf]; omega
    have HI : Hid (decide (fr ≤ n0 ∧ n0 ≤ hi) = true) := decide_eq_true hin
    have HL : Hid ((keepL S.c 3 fr hi (k + 1)) = (keepL S.c 3 fr hi k) ++ [n0, n1, n2] ∧ (keepN S.c 3 fr hi (k + 1)) = (keepN S.c 3 fr hi k) + 1) := by
      have h1 := keep_yes (F := S.c) (m := 3) (a := fr) (b := hi) (k := k) (by rw [N0]; exact hin)
      refine ⟨h1.1.trans ?_, h1.2⟩
      rw [show (List.range 3).map (fun q => S.c (k * 3 + q)) = [S.c (k * 3), S.c (k * 3 + 1), S.c (k * 3 + 2)] from rfl, N0, N1, N2]
    have hnle := keep_le S.c 3 fr hi k
    obtain ⟨nn, hnn⟩ : ∃ nn, (keepN S.c 3 fr hi k) = nn := ⟨_, rfl⟩
    rw [hnn] at hnle HS
    have HNN : Hid ((keepN S.c 3 fr hi k) = nn) := hnn
    have HA : Hid (Mak w z0 D0 212 3 (.slice ao nn cp) (.slice none 0 0) (.slice none 0 0) (.slice ao nn cp) nn (keepL S.c 3 fr hi k) (wr.alloc (.cells #[.int .i64 n0, .int .i64 n1, .int .i64 n2] 212)).drew) := HS.out.later HT0.out (below_alloc _ _).drew
    have s0 := HS.out.1.2.1.1.1
    have fz0 := HS.out.1.2.1.2.1
    have fa0 : (wr.alloc (.cells #[.int .i64 n0, .int .i64 n1, .int .i64 n2] 212)).frozen? ⟨w.heap.size + 1, 0, none⟩ = false := HA.out.1.2.1.2.1
    have fb0 : (wr.alloc (.cells #[.int .i64 n0, .int .i64 n1, .int .i64 n2] 212)).drew.frozen? ⟨w.heap.size + 1, 0, none⟩ = false := HA.out.1.2.1.2.1
    have zs := HS.out.1.2.1.lt
    have hob := HS.out.2.2.block
    have hlo := HT0.out.lo
    have nq : ∀ q, q < w.heap.size + 2 → some q ≠ (Value.slice ao nn cp).ownBlock := fun q hq e => by have := hob q e.symm; omega
    have hzw : z0 ≤ wr.heap.size := HZ0.out wr HS.out.2.1
    clear N0 N1 N2 NN hin HS hob
    clear hnn
    go_wp2_with fail
    refine (l1In_is _ _ _ true HI.out _).mono ?_
    rintro e w1 ⟨rfl, rfl⟩
    go_wp2_with fail
    go_region_law ((refine step_append_lies _ (by rfl) _ _ 122 (by rfl) z0 212 i0 (.agg #[.int .i64 0, .int .i64 0, .int .i64 0]) 3 24 Tryz.underlying122 hi0 hz00 hz10 hz20 rfl (by omega) (.slice ao nn cp) nn _ (by rfl) HA.out.2.2 ⟨w1.heap.size, 0, none⟩ 1 1 [.int .i64 n0, .int .i64 n1, .int .i64 n2] (by rfl) (by rfl) (World.news_of_block (cs := #[.int .i64 n0, .int .i64 n1, .int .i64 n2]) (t := 212) (fr := (0, 0)) (heap_alloc_new w1 _)) (by simp [Value.oneCell']) (by omega) (by unfold maxLen; omega) (by omega) (by simp; omega) (w1.heap.size + 1) (by simp) ?_; intro gg cap w5 ho hgrow hat hlt5; have F2 : OwnM w5 z0 212 3 (.slice (some ⟨gg, 0, none⟩) (keepN S.c 3 fr hi (k + 1)) cap) (keepN S.c 3 fr hi (k + 1)) (keepL S.c 3 fr hi (k + 1)) := (by unfold OwnM; rw [HL.out.1, HL.out.2, HNN.out, List.map_append]; exact ho); have M5 := HA.out.step HT0.out hgrow F2; rw [HL.out.2, HNN.out] at M5; have t0 := M5.1.2.1.1.1; have g0 := M5.1.2.1.2.1; have M6 : Hid (Mak w z0 D0 212 3 (.slice (some ⟨gg, 0, none⟩) (nn + 1) cap) (.slice none 0 0) (.slice none 0 0) (.slice (some ⟨gg, 0, none⟩) (nn + 1) cap) (nn + 1) (keepL S.c 3 fr hi (k + 1)) (w5.setCell ⟨w.heap.size + 1, 0, none⟩ (.slice (some ⟨gg, 0, none⟩) (nn + 1) cap))) := M5.set0 HT0.out; clear M5 F2))
    all_goals
      clear HA s0 zs fz0 fa0 fb0
      go_wp2
      go_roundw
      case rel => exact ⟨k + 1, some ⟨gg, 0, none⟩, cap, by go_num, by omega, by rw [HL.out.2, HNN.out]; exact M6⟩
      case measure => simp [intOf]; omega
end Go.Proofs.YtjkchhcnochjlaaGreatDoor

namespace Go.Proofs.YtjkchhcnochjlaaGreatDoor
section
open Go.RowKit
/-- What is told of m ranges from number k on, where a is To of the one ahead. -/
def rFrom (F : Nat → Int) : Nat → Nat → Int → Int
  | 0, _, a => if a = 200 then 0 else 1
  | m + 1, k, a => if ¬ (1 ≤ F (k * 3 + 2) ∧ F (k * 3 + 2) ≤ 9999) ∨ F (k * 3 + 1) ≤ F (k * 3) then 3 else if F (k * 3) ≠ a then 1 else rFrom F m (k + 1) (F (k * 3 + 1))
/-- What is told of a row of ranges. -/
def rangesF (n : Nat) (F : Nat → Int) : Int := if n < 1 ∨ 6 < n then 2 else rFrom F n 0 0
theorem rFrom_bad {F : Nat → Int} {m k : Nat} {a : Int} (hm : 0 < m) (h : ¬ (1 ≤ F (k * 3 + 2) ∧ F (k * 3 + 2) ≤ 9999) ∨ F (k * 3 + 1) ≤ F (k * 3)) : rFrom F m k a = 3 := by
  obtain ⟨m, rfl⟩ : ∃ q, m = q + 1 := ⟨m - 1, by omega⟩
  unfold rFrom; rw [if_pos h]
theorem rFrom_off {F : Nat → Int} {m k : Nat} {a : Int} (hm : 0 < m) (h : ¬ (¬ (1 ≤ F (k * 3 + 2) ∧ F (k * 3 + 2) ≤ 9999) ∨ F (k * 3 + 1) ≤ F (k * 3))) (h2 : F (k * 3) ≠ a) : rFrom F m k a = 1 := by
  obtain ⟨m, rfl⟩ : ∃ q, m = q + 1 := ⟨m - 1, by omega⟩
  unfold rFrom; rw [if_neg h, if_pos h2]
theorem rFrom_on {F : Nat → Int} {m k : Nat} {a : Int} (hm : 0 < m) (h : ¬ (¬ (1 ≤ F (k * 3 + 2) ∧ F (k * 3 + 2) ≤ 9999) ∨ F (k * 3 + 1) ≤ F (k * 3))) (h2 : F (k * 3) = a) : rFrom F m k a = rFrom F (m - 1) (k + 1) (F (k * 3 + 1)) := by
  obtain ⟨m, rfl⟩ : ∃ q, m = q + 1 := ⟨m - 1, by omega⟩
  rw [rFrom, if_neg h, if_neg (fun q => q h2)]; rfl
theorem below_rn {B : Nat} {a w : World} (h : Below B a w) (q : Nat) : Below B a (w.drewN q) := ⟨h.os, h.tape, h.output, h.size, h.block⟩

theorem inR_is (v lo hi : Int) (r : Bool) (hr : decide (lo ≤ v ∧ v ≤ hi) = r) (w : World) :
    Calls Tryz.prog 13 #[.int .i64 v, .int .i64 lo, .int .i64 hi] w fun e w' => e = .returned (.bool r) ∧ w' = w := by
  by_cases h1 : lo ≤ v
  · by_cases h2 : v ≤ hi
    · have d : decide (v ≤ hi) = true := decide_eq_true h2
      rw [decide_eq_true (show lo ≤ v ∧ v ≤ hi from ⟨h1, h2⟩)] at hr
      subst hr
      go_enter Tryz.func13, Tryz.ntmps13
      go_wp2
      go_ret
      exact ⟨rfl, rfl⟩
    · have d : decide (v ≤ hi) = false := decide_eq_false h2
      rw [decide_eq_false (show ¬ (lo ≤ v ∧ v ≤ hi) from fun h => h2 h.2)] at hr
      subst hr
      go_enter Tryz.func13, Tryz.ntmps13
      go_wp2
      go_ret
      exact ⟨rfl, rfl⟩
  · have d : decide (lo ≤ v) = false := decide_eq_false h1
    rw [decide_eq_false (show ¬ (lo ≤ v ∧ v ≤ hi) from fun h => h1 h.1)] at hr
    subst hr
    go_enter Tryz.func13, Tryz.ntmps13
    go_wp2
    go_ret
    exact ⟨rfl, rfl⟩
theorem l6Epoch_is (t : Int) (r : Bool) (hr : decide (1 ≤ t ∧ t ≤ 9999) = r) (w : World) :
    Calls Tryz.prog 111 #[.int .i64 t] w fun e w' => e = .returned (.bool r) ∧ w' = w := by
  have H : Hid (decide (1 ≤ t ∧ t ≤ 9999) = r) := hr
  clear hr
  go_enter Tryz.func111, Tryz.ntmps111
  go_wp2_with fail
  refine (inR_is _ _ _ r H.out _).mono ?_
  rintro e w' ⟨rfl, rfl⟩
  go_wp2
  go_ret
  exact ⟨rfl, rfl⟩
theorem isEpoch_is (t : Int) (r : Bool) (hr : decide (1 ≤ t ∧ t ≤ 9999) = r) (w : World) :
    Calls Tryz.prog 123 #[.int .i64 t] w fun e w' => e = .returned (.bool r) ∧ w' = w := by
  by_cases h1 : 1 ≤ t
  · by_cases h2 : t ≤ 9999
    · have d : decide (t ≤ 9999) = true := decide_eq_true h2
      rw [decide_eq_true (show 1 ≤ t ∧ t ≤ 9999 from ⟨h1, h2⟩)] at hr
      subst hr
      go_enter Tryz.func123, Tryz.ntmps123
      go_wp2
      go_ret
      exact ⟨rfl, rfl⟩
    · have d : decide (t ≤ 9999) = false := decide_eq_false h2
      rw [decide_eq_false (show ¬ (1 ≤ t ∧ t ≤ 9999) from fun h => h2 h.2)] at hr
      subst hr
      go_enter Tryz.func123, Tryz.ntmps123
      go_wp2
      go_ret
      exact ⟨rfl, rfl⟩
  · rw [decide_eq_false (show ¬ (1 ≤ t ∧ t ≤ 9999) from fun h => h1 h.1)] at hr
    subst hr
    go_enter Tryz.func123, Tryz.ntmps123
    go_wp2
    go_ret
    exact ⟨rfl, rfl⟩
/-- The three numbers of an element, and that nothing old has turned. -/
def ThreeR (w : World) (g o k : Nat) (n0 n1 n2 : Int) (x : World) : Prop := (x.cell? ⟨g, o + k * 3, none⟩ = some (.int .i64 n0) ∧ x.cell? ⟨g, o + k * 3 + 1, none⟩ = some (.int .i64 n1) ∧ x.cell? ⟨g, o + k * 3 + 2, none⟩ = some (.int .i64 n2)) ∧ Below w.heap.size w x
set_option maxRecDepth 100000 in
set_option maxHeartbeats 4000000 in
theorem l6Fault_any (v : Value) (B n : Nat) (F : Nat → Int) (w : World) (h : Row w B 3 n F v) (hn : n ≤ 9223372036854775807) :
    Calls Tryz.prog 79 #[v] w fun e w' => e = .returned (.int .i64 (rangesF n F)) ∧ Below w.heap.size w w' := by
  obtain ⟨ao, cp, rfl⟩ := h.form
  have H : Hid (Row w B 3 n F (.slice ao n cp)) := h
  clear h
  by_cases hs : n < 1 ∨ 6 < n
  · have E : Hid (rangesF n F = 2) := by unfold rangesF; rw [if_pos hs]; rfl
    rcases Nat.lt_or_ge n 1 with hs | hs
    · obtain rfl : n = 0 := by omega
      go_enter Tryz.func79, Tryz.ntmps79
      go_wp2
      go_ret
      exact ⟨by rw [E.out]; rfl, Below.refl _ _⟩
    · have hs6 : decide ((n : Int) > 6) = true := decide_eq_true (by omega)
      go_enter Tryz.func79, Tryz.ntmps79
      go_wp2
      go_ret
      exact ⟨by rw [E.out]; rfl, Below.refl _ _⟩
  have hs1 : 1 ≤ n := by omega
  have hs6 : n ≤ 6 := by omega
  clear hs hn
  obtain ⟨f, hf⟩ : ∃ f, rangesF n F = f := ⟨_, rfl⟩
  have HF : Hid (rFrom F n 0 0 = f) := by rw [rangesF, if_neg (by omega)] at hf; exact hf
  rw [hf]
  clear hf
  go_enter Tryz.func79, Tryz.ntmps79
  go_wp2
  go_loopw [3, 4] (fun a i wr => ∃ (k : Nat) (z : Int), k ≤ n ∧ a = .int .i64 z ∧ i = .int .i64 k ∧ Hid (rFrom F (n - k) k z = f) ∧ Below w.heap.size w wr) (fun _ i _ => n - (intOf i).toNat)
  case atStart => exact ⟨0, 0, Nat.zero_le _, rfl, rfl, HF, Below.refl _ _⟩
  case round =>
    obtain ⟨k, z, hk, rfl, rfl, HS, hbw⟩ := hrel
    by_cases hlt : k < n
    case neg =>
      have en : n - k = 0 := by omega
      have E := HS.out
      rw [en, rFrom] at E
      by_cases hz : z = 200
      · rw [if_pos hz] at E
        subst hz E
        clear HS HF
        go_wp2
        go_ret
        exact ⟨rfl, hbw⟩
      · rw [if_neg hz] at E
        subst E
        have hz' : (z == 200) = false := beq_eq_false_iff_ne.2 hz
        clear HS HF
        go_wp2
        go_ret
        exact ⟨rfl, hbw⟩
    obtain ⟨g, o, rfl, _, hg, x0, x1, x2⟩ := (H.out.later hbw).at3 hlt
    have hm : Hid (0 < n - k ∧ n - k - 1 = n - (k + 1)) := ⟨by omega, by omega⟩
    obtain ⟨n0, N0⟩ : ∃ x, F (k * 3) = x := ⟨_, rfl⟩
    rw [N0] at x0
    obtain ⟨n1, N1⟩ : ∃ x, F (k * 3 + 1) = x := ⟨_, rfl⟩
    rw [N1] at x1
    obtain ⟨n2, N2⟩ : ∃ x, F (k * 3 + 2) = x := ⟨_, rfl⟩
    rw [N2] at x2
    have NN : Hid (F (k * 3) = n0 ∧ F (k * 3 + 1) = n1 ∧ F (k * 3 + 2) = n2) := ⟨N0, N1, N2⟩
    clear N0 N1 N2
    by_cases h0 : 1 ≤ n2 ∧ n2 ≤ 9999
    case neg =>
      have L0 : Hid (decide (1 ≤ n2 ∧ n2 ≤ 9999) = false) := decide_eq_false h0
      have E := HS.out
      rw [rFrom_bad hm.out.1 (by rw [NN.out.2.2]; exact Or.inl h0)] at E
      subst E
      clear h0 HS NN HF
      have h0S : ThreeR w g o k n0 n1 n2 wr.drew := ⟨⟨x0, x1, x2⟩, hbw.drew⟩
      clear x0 x1 x2 hbw
      go_wp2_with fail
      refine wp_region_held_drew (S := ThreeR w g o k n0 n1 n2) (by kernel_rfl) h0S (fun hS => ?_)
      clear h0S
      refine tkH 0 ?_ hS (fun wx hx => ?_) ?_; rotate_left
      · obtain ⟨⟨hx0, hx1, hx2⟩, _⟩ := hx; go_simp; try with_reducible rfl
      refine tkH 1 ?_ hS (fun wx hx => ?_) ?_; rotate_left
      · obtain ⟨⟨hx0, hx1, hx2⟩, _⟩ := hx; go_simp; try with_reducible rfl
      refine tkH 2 ?_ hS (fun wx hx => ?_) ?_; rotate_left
      · obtain ⟨⟨hx0, hx1, hx2⟩, _⟩ := hx; go_simp; try with_reducible rfl
      refine tkH 3 ?_ hS (fun wx hx => ?_) ?_; rotate_left
      · obtain ⟨⟨hx0, hx1, hx2⟩, _⟩ := hx; go_simp; try with_reducible rfl
      refine tkH 4 ?_ hS (fun wx hx => ?_) ?_; rotate_left
      · obtain ⟨⟨hx0, hx1, hx2⟩, _⟩ := hx; go_simp; try with_reducible rfl
      refine rdH 5 (fun K hK => ?_)
      go_simp
      go_wp2_with fail
      refine (l6Epoch_is _ _ L0.out _).mono ?_
      rintro e w1 ⟨rfl, rfl⟩
      go_wp2_with fail
      refine hK.out _ _ hS (fun hS => ?_)
      clear hK K
      refine tkH 6 ?_ hS (fun wx hx => ?_) ?_; rotate_left
      · obtain ⟨⟨hx0, hx1, hx2⟩, _⟩ := hx; go_simp; try with_reducible rfl
      refine tkH 7 ?_ hS (fun wx hx => ?_) ?_; rotate_left
      · obtain ⟨⟨hx0, hx1, hx2⟩, _⟩ := hx; go_simp; try with_reducible rfl
      refine noH 8 hS ?_
      refine noH 9 hS ?_
      refine noH 10 hS ?_
      refine noH 11 hS ?_
      refine noH 12 hS ?_
      refine noH 13 hS ?_
      refine noH 14 hS ?_
      refine noH 15 hS ?_
      refine noH 16 hS ?_
      refine noH 17 hS ?_
      refine noH 18 hS ?_
      refine tkH 19 ?_ hS (fun wx hx => ?_) ?_; rotate_left
      · obtain ⟨⟨hx0, hx1, hx2⟩, _⟩ := hx; go_simp; try with_reducible rfl
      refine wpAnyH_done (by kernel_rfl) ?_ _
      obtain ⟨⟨x0, x1, x2⟩, hbw⟩ := hS
      go_simp
      go_wp2
      go_ret
      refine ⟨rfl, ?_⟩
      repeat (first | exact Below.refl _ _ | assumption | refine below_rn ?_ _ | refine Below.setCell ?_ (by first | omega | (simp <;> omega)) _ | refine Below.alloc ?_ (by first | omega | (simp <;> omega) | (have := hbw.size; simp <;> omega)) _)
    have L0 : Hid (decide (1 ≤ n2 ∧ n2 ≤ 9999) = true) := decide_eq_true h0
    by_cases h1 : n1 ≤ n0
    case pos =>
      have E := HS.out
      rw [rFrom_bad hm.out.1 (by rw [NN.out.1, NN.out.2.1]; exact Or.inr h1)] at E
      subst E
      have d1 : decide (n0 ≥ n1) = true := decide_eq_true h1
      clear h0 HS NN HF
      have h0S : ThreeR w g o k n0 n1 n2 wr.drew := ⟨⟨x0, x1, x2⟩, hbw.drew⟩
      clear x0 x1 x2 hbw
      go_wp2_with fail
      refine wp_region_held_drew (S := ThreeR w g o k n0 n1 n2) (by kernel_rfl) h0S (fun hS => ?_)
      clear h0S
      refine tkH 0 ?_ hS (fun wx hx => ?_) ?_; rotate_left
      · obtain ⟨⟨hx0, hx1, hx2⟩, _⟩ := hx; go_simp; try with_reducible rfl
      refine tkH 1 ?_ hS (fun wx hx => ?_) ?_; rotate_left
      · obtain ⟨⟨hx0, hx1, hx2⟩, _⟩ := hx; go_simp; try with_reducible rfl
      refine tkH 2 ?_ hS (fun wx hx => ?_) ?_; rotate_left
      · obtain ⟨⟨hx0, hx1, hx2⟩, _⟩ := hx; go_simp; try with_reducible rfl
      refine tkH 3 ?_ hS (fun wx hx => ?_) ?_; rotate_left
      · obtain ⟨⟨hx0, hx1, hx2⟩, _⟩ := hx; go_simp; try with_reducible rfl
      refine tkH 4 ?_ hS (fun wx hx => ?_) ?_; rotate_left
      · obtain ⟨⟨hx0, hx1, hx2⟩, _⟩ := hx; go_simp; try with_reducible rfl
      refine rdH 5 (fun K hK => ?_)
      go_simp
      go_wp2_with fail
      refine (l6Epoch_is _ _ L0.out _).mono ?_
      rintro e w1 ⟨rfl, rfl⟩
      go_wp2_with fail
      refine hK.out _ _ hS (fun hS => ?_)
      clear hK K
      refine tkH 6 ?_ hS (fun wx hx => ?_) ?_; rotate_left
      · obtain ⟨⟨hx0, hx1, hx2⟩, _⟩ := hx; go_simp; try with_reducible rfl
      refine tkH 7 ?_ hS (fun wx hx => ?_) ?_; rotate_left
      · obtain ⟨⟨hx0, hx1, hx2⟩, _⟩ := hx; go_simp; try with_reducible rfl
      refine tkH 8 ?_ hS (fun wx hx => ?_) ?_; rotate_left
      · obtain ⟨⟨hx0, hx1, hx2⟩, _⟩ := hx; go_simp; try with_reducible rfl
      refine tkH 9 ?_ hS (fun wx hx => ?_) ?_; rotate_left
      · obtain ⟨⟨hx0, hx1, hx2⟩, _⟩ := hx; go_simp; try with_reducible rfl
      refine tkH 10 ?_ hS (fun wx hx => ?_) ?_; rotate_left
      · obtain ⟨⟨hx0, hx1, hx2⟩, _⟩ := hx; go_simp; try with_reducible rfl
      refine tkH 11 ?_ hS (fun wx hx => ?_) ?_; rotate_left
      · obtain ⟨⟨hx0, hx1, hx2⟩, _⟩ := hx; go_simp; try with_reducible rfl
      refine tkH 12 ?_ hS (fun wx hx => ?_) ?_; rotate_left
      · obtain ⟨⟨hx0, hx1, hx2⟩, _⟩ := hx; go_simp; try with_reducible rfl
      refine tkH 13 ?_ hS (fun wx hx => ?_) ?_; rotate_left
      · obtain ⟨⟨hx0, hx1, hx2⟩, _⟩ := hx; go_simp; try with_reducible rfl
      refine tkH 14 ?_ hS (fun wx hx => ?_) ?_; rotate_left
      · obtain ⟨⟨hx0, hx1, hx2⟩, _⟩ := hx; go_simp; try with_reducible rfl
      refine tkH 15 ?_ hS (fun wx hx => ?_) ?_; rotate_left
      · obtain ⟨⟨hx0, hx1, hx2⟩, _⟩ := hx; go_simp; try with_reducible rfl
      refine tkH 16 ?_ hS (fun wx hx => ?_) ?_; rotate_left
      · obtain ⟨⟨hx0, hx1, hx2⟩, _⟩ := hx; go_simp; try with_reducible rfl
      refine tkH 17 ?_ hS (fun wx hx => ?_) ?_; rotate_left
      · obtain ⟨⟨hx0, hx1, hx2⟩, _⟩ := hx; go_simp; try with_reducible rfl
      refine tkH 18 ?_ hS (fun wx hx => ?_) ?_; rotate_left
      · obtain ⟨⟨hx0, hx1, hx2⟩, _⟩ := hx; go_simp; try with_reducible rfl
      refine tkH 19 ?_ hS (fun wx hx => ?_) ?_; rotate_left
      · obtain ⟨⟨hx0, hx1, hx2⟩, _⟩ := hx; go_simp; try with_reducible rfl
      refine wpAnyH_done (by kernel_rfl) ?_ _
      obtain ⟨⟨x0, x1, x2⟩, hbw⟩ := hS
      go_simp
      go_wp2
      go_ret
      refine ⟨rfl, ?_⟩
      repeat (first | exact Below.refl _ _ | assumption | refine below_rn ?_ _ | refine Below.setCell ?_ (by first | omega | (simp <;> omega)) _ | refine Below.alloc ?_ (by first | omega | (simp <;> omega) | (have := hbw.size; simp <;> omega)) _)
    have d1 : decide (n0 ≥ n1) = false := decide_eq_false h1
    have hok : Hid (¬ (¬ (1 ≤ F (k * 3 + 2) ∧ F (k * 3 + 2) ≤ 9999) ∨ F (k * 3 + 1) ≤ F (k * 3))) := by
      rw [NN.out.1, NN.out.2.1, NN.out.2.2]; unfold Hid; omega
    by_cases h2 : n0 = z
    case neg =>
      have E := HS.out
      rw [rFrom_off hm.out.1 hok.out (by rw [NN.out.1]; exact h2)] at E
      subst E
      have d2 : (n0 == z) = false := beq_eq_false_iff_ne.2 h2
      clear h0 h1 HS NN hok HF
      have h0S : ThreeR w g o k n0 n1 n2 wr.drew := ⟨⟨x0, x1, x2⟩, hbw.drew⟩
      clear x0 x1 x2 hbw
      go_wp2_with fail
      refine wp_region_held_drew (S := ThreeR w g o k n0 n1 n2) (by kernel_rfl) h0S (fun hS => ?_)
      clear h0S
      refine tkH 0 ?_ hS (fun wx hx => ?_) ?_; rotate_left
      · obtain ⟨⟨hx0, hx1, hx2⟩, _⟩ := hx; go_simp; try with_reducible rfl
      refine tkH 1 ?_ hS (fun wx hx => ?_) ?_; rotate_left
      · obtain ⟨⟨hx0, hx1, hx2⟩, _⟩ := hx; go_simp; try with_reducible rfl
      refine tkH 2 ?_ hS (fun wx hx => ?_) ?_; rotate_left
      · obtain ⟨⟨hx0, hx1, hx2⟩, _⟩ := hx; go_simp; try with_reducible rfl
      refine tkH 3 ?_ hS (fun wx hx => ?_) ?_; rotate_left
      · obtain ⟨⟨hx0, hx1, hx2⟩, _⟩ := hx; go_simp; try with_reducible rfl
      refine tkH 4 ?_ hS (fun wx hx => ?_) ?_; rotate_left
      · obtain ⟨⟨hx0, hx1, hx2⟩, _⟩ := hx; go_simp; try with_reducible rfl
      refine rdH 5 (fun K hK => ?_)
      go_simp
      go_wp2_with fail
      refine (l6Epoch_is _ _ L0.out _).mono ?_
      rintro e w1 ⟨rfl, rfl⟩
      go_wp2_with fail
      refine hK.out _ _ hS (fun hS => ?_)
      clear hK K
      refine tkH 6 ?_ hS (fun wx hx => ?_) ?_; rotate_left
      · obtain ⟨⟨hx0, hx1, hx2⟩, _⟩ := hx; go_simp; try with_reducible rfl
      refine tkH 7 ?_ hS (fun wx hx => ?_) ?_; rotate_left
      · obtain ⟨⟨hx0, hx1, hx2⟩, _⟩ := hx; go_simp; try with_reducible rfl
      refine tkH 8 ?_ hS (fun wx hx => ?_) ?_; rotate_left
      · obtain ⟨⟨hx0, hx1, hx2⟩, _⟩ := hx; go_simp; try with_reducible rfl
      refine tkH 9 ?_ hS (fun wx hx => ?_) ?_; rotate_left
      · obtain ⟨⟨hx0, hx1, hx2⟩, _⟩ := hx; go_simp; try with_reducible rfl
      refine tkH 10 ?_ hS (fun wx hx => ?_) ?_; rotate_left
      · obtain ⟨⟨hx0, hx1, hx2⟩, _⟩ := hx; go_simp; try with_reducible rfl
      refine tkH 11 ?_ hS (fun wx hx => ?_) ?_; rotate_left
      · obtain ⟨⟨hx0, hx1, hx2⟩, _⟩ := hx; go_simp; try with_reducible rfl
      refine tkH 12 ?_ hS (fun wx hx => ?_) ?_; rotate_left
      · obtain ⟨⟨hx0, hx1, hx2⟩, _⟩ := hx; go_simp; try with_reducible rfl
      refine tkH 13 ?_ hS (fun wx hx => ?_) ?_; rotate_left
      · obtain ⟨⟨hx0, hx1, hx2⟩, _⟩ := hx; go_simp; try with_reducible rfl
      refine tkH 14 ?_ hS (fun wx hx => ?_) ?_; rotate_left
      · obtain ⟨⟨hx0, hx1, hx2⟩, _⟩ := hx; go_simp; try with_reducible rfl
      refine tkH 15 ?_ hS (fun wx hx => ?_) ?_; rotate_left
      · obtain ⟨⟨hx0, hx1, hx2⟩, _⟩ := hx; go_simp; try with_reducible rfl
      refine tkH 16 ?_ hS (fun wx hx => ?_) ?_; rotate_left
      · obtain ⟨⟨hx0, hx1, hx2⟩, _⟩ := hx; go_simp; try with_reducible rfl
      refine tkH 17 ?_ hS (fun wx hx => ?_) ?_; rotate_left
      · obtain ⟨⟨hx0, hx1, hx2⟩, _⟩ := hx; go_simp; try with_reducible rfl
      refine tkH 18 ?_ hS (fun wx hx => ?_) ?_; rotate_left
      · obtain ⟨⟨hx0, hx1, hx2⟩, _⟩ := hx; go_simp; try with_reducible rfl
      refine tkH 19 ?_ hS (fun wx hx => ?_) ?_; rotate_left
      · obtain ⟨⟨hx0, hx1, hx2⟩, _⟩ := hx; go_simp; try with_reducible rfl
      refine wpAnyH_done (by kernel_rfl) ?_ _
      obtain ⟨⟨x0, x1, x2⟩, hbw⟩ := hS
      go_simp
      go_wp2
      go_ret
      refine ⟨rfl, ?_⟩
      repeat (first | exact Below.refl _ _ | assumption | refine below_rn ?_ _ | refine Below.setCell ?_ (by first | omega | (simp <;> omega)) _ | refine Below.alloc ?_ (by first | omega | (simp <;> omega) | (have := hbw.size; simp <;> omega)) _)
    subst h2
    have E : Hid (rFrom F (n - (k + 1)) (k + 1) n1 = f) := by
      have E := HS.out
      rw [rFrom_on hm.out.1 hok.out NN.out.1, NN.out.2.1, hm.out.2] at E
      exact E
    clear h0 h1 HS NN hok HF hm
    have h0S : ThreeR w g o k n0 n1 n2 wr.drew := ⟨⟨x0, x1, x2⟩, hbw.drew⟩
    clear x0 x1 x2 hbw
    go_wp2_with fail
    refine wp_region_held_drew (S := ThreeR w g o k n0 n1 n2) (by kernel_rfl) h0S (fun hS => ?_)
    clear h0S
    refine tkH 0 ?_ hS (fun wx hx => ?_) ?_; rotate_left
    · obtain ⟨⟨hx0, hx1, hx2⟩, _⟩ := hx; go_simp; try with_reducible rfl
    refine tkH 1 ?_ hS (fun wx hx => ?_) ?_; rotate_left
    · obtain ⟨⟨hx0, hx1, hx2⟩, _⟩ := hx; go_simp; try with_reducible rfl
    refine tkH 2 ?_ hS (fun wx hx => ?_) ?_; rotate_left
    · obtain ⟨⟨hx0, hx1, hx2⟩, _⟩ := hx; go_simp; try with_reducible rfl
    refine tkH 3 ?_ hS (fun wx hx => ?_) ?_; rotate_left
    · obtain ⟨⟨hx0, hx1, hx2⟩, _⟩ := hx; go_simp; try with_reducible rfl
    refine tkH 4 ?_ hS (fun wx hx => ?_) ?_; rotate_left
    · obtain ⟨⟨hx0, hx1, hx2⟩, _⟩ := hx; go_simp; try with_reducible rfl
    refine rdH 5 (fun K hK => ?_)
    go_simp
    go_wp2_with fail
    refine (l6Epoch_is _ _ L0.out _).mono ?_
    rintro e w1 ⟨rfl, rfl⟩
    go_wp2_with fail
    refine hK.out _ _ hS (fun hS => ?_)
    clear hK K
    refine tkH 6 ?_ hS (fun wx hx => ?_) ?_; rotate_left
    · obtain ⟨⟨hx0, hx1, hx2⟩, _⟩ := hx; go_simp; try with_reducible rfl
    refine tkH 7 ?_ hS (fun wx hx => ?_) ?_; rotate_left
    · obtain ⟨⟨hx0, hx1, hx2⟩, _⟩ := hx; go_simp; try with_reducible rfl
    refine tkH 8 ?_ hS (fun wx hx => ?_) ?_; rotate_left
    · obtain ⟨⟨hx0, hx1, hx2⟩, _⟩ := hx; go_simp; try with_reducible rfl
    refine tkH 9 ?_ hS (fun wx hx => ?_) ?_; rotate_left
    · obtain ⟨⟨hx0, hx1, hx2⟩, _⟩ := hx; go_simp; try with_reducible rfl
    refine tkH 10 ?_ hS (fun wx hx => ?_) ?_; rotate_left
    · obtain ⟨⟨hx0, hx1, hx2⟩, _⟩ := hx; go_simp; try with_reducible rfl
    refine tkH 11 ?_ hS (fun wx hx => ?_) ?_; rotate_left
    · obtain ⟨⟨hx0, hx1, hx2⟩, _⟩ := hx; go_simp; try with_reducible rfl
    refine tkH 12 ?_ hS (fun wx hx => ?_) ?_; rotate_left
    · obtain ⟨⟨hx0, hx1, hx2⟩, _⟩ := hx; go_simp; try with_reducible rfl
    refine tkH 13 ?_ hS (fun wx hx => ?_) ?_; rotate_left
    · obtain ⟨⟨hx0, hx1, hx2⟩, _⟩ := hx; go_simp; try with_reducible rfl
    refine tkH 14 ?_ hS (fun wx hx => ?_) ?_; rotate_left
    · obtain ⟨⟨hx0, hx1, hx2⟩, _⟩ := hx; go_simp; try with_reducible rfl
    refine tkH 15 ?_ hS (fun wx hx => ?_) ?_; rotate_left
    · obtain ⟨⟨hx0, hx1, hx2⟩, _⟩ := hx; go_simp; try with_reducible rfl
    refine tkH 16 ?_ hS (fun wx hx => ?_) ?_; rotate_left
    · obtain ⟨⟨hx0, hx1, hx2⟩, _⟩ := hx; go_simp; try with_reducible rfl
    refine tkH 17 ?_ hS (fun wx hx => ?_) ?_; rotate_left
    · obtain ⟨⟨hx0, hx1, hx2⟩, _⟩ := hx; go_simp; try with_reducible rfl
    refine tkH 18 ?_ hS (fun wx hx => ?_) ?_; rotate_left
    · obtain ⟨⟨hx0, hx1, hx2⟩, _⟩ := hx; go_simp; try with_reducible rfl
    refine tkH 19 ?_ hS (fun wx hx => ?_) ?_; rotate_left
    · obtain ⟨⟨hx0, hx1, hx2⟩, _⟩ := hx; go_simp; try with_reducible rfl
    refine wpAnyH_done (by kernel_rfl) ?_ _
    obtain ⟨⟨x0, x1, x2⟩, hbw⟩ := hS
    go_simp
    go_wp2
    go_roundw
    case rel => 
      refine ⟨k + 1, n1, by omega, rfl, by go_num, E, ?_⟩
      repeat (first | exact Below.refl _ _ | assumption | refine below_rn ?_ _ | refine Below.setCell ?_ (by first | omega | (simp <;> omega)) _ | refine Below.alloc ?_ (by first | omega | (simp <;> omega) | (have := hbw.size; simp <;> omega)) _)
    case measure => simp [intOf]; omega
set_option maxRecDepth 100000 in
set_option maxHeartbeats 4000000 in
theorem implRanges_any (v : Value) (B n : Nat) (F : Nat → Int) (w : World) (h : Row w B 3 n F v) (hn : n ≤ 9223372036854775807) :
    Calls Tryz.prog 91 #[v] w fun e w' => e = .returned (.int .i64 (rangesF n F)) ∧ Below w.heap.size w w' := by
  obtain ⟨ao, cp, rfl⟩ := h.form
  have H : Hid (Row w B 3 n F (.slice ao n cp)) := h
  clear h
  by_cases hs : n < 1 ∨ 6 < n
  · have E : Hid (rangesF n F = 2) := by unfold rangesF; rw [if_pos hs]; rfl
    rcases Nat.lt_or_ge n 1 with hs | hs
    · obtain rfl : n = 0 := by omega
      go_enter Tryz.func91, Tryz.ntmps91
      go_wp2
      go_ret
      exact ⟨by rw [E.out]; rfl, Below.refl _ _⟩
    · have hs6 : decide ((n : Int) > 6) = true := decide_eq_true (by omega)
      go_enter Tryz.func91, Tryz.ntmps91
      go_wp2
      go_ret
      exact ⟨by rw [E.out]; rfl, Below.refl _ _⟩
  have hs1 : 1 ≤ n := by omega
  have hs6 : n ≤ 6 := by omega
  clear hs hn
  obtain ⟨f, hf⟩ : ∃ f, rangesF n F = f := ⟨_, rfl⟩
  have HF : Hid (rFrom F n 0 0 = f) := by rw [rangesF, if_neg (by omega)] at hf; exact hf
  rw [hf]
  clear hf
  go_enter Tryz.func91, Tryz.ntmps91
  go_wp2
  go_loopw [3, 16] (fun a i wr => ∃ (k : Nat) (z : Int), k ≤ n ∧ a = .int .i64 z ∧ i = .int .i64 k ∧ Hid (rFrom F (n - k) k z = f) ∧ Below w.heap.size w wr) (fun _ i _ => n - (intOf i).toNat)
  case atStart => exact ⟨0, 0, Nat.zero_le _, rfl, rfl, HF, Below.refl _ _⟩
  case round =>
    obtain ⟨k, z, hk, rfl, rfl, HS, hbw⟩ := hrel
    by_cases hlt : k < n
    case neg =>
      have en : n - k = 0 := by omega
      have E := HS.out
      rw [en, rFrom] at E
      by_cases hz : z = 200
      · rw [if_pos hz] at E
        subst hz E
        clear HS HF
        go_wp2
        go_ret
        exact ⟨rfl, hbw⟩
      · rw [if_neg hz] at E
        subst E
        have hz' : (z == 200) = false := beq_eq_false_iff_ne.2 hz
        clear HS HF
        go_wp2
        go_ret
        exact ⟨rfl, hbw⟩
    obtain ⟨g, o, rfl, _, hg, x0, x1, x2⟩ := (H.out.later hbw).at3 hlt
    have hm : Hid (0 < n - k ∧ n - k - 1 = n - (k + 1)) := ⟨by omega, by omega⟩
    obtain ⟨n0, N0⟩ : ∃ x, F (k * 3) = x := ⟨_, rfl⟩
    rw [N0] at x0
    obtain ⟨n1, N1⟩ : ∃ x, F (k * 3 + 1) = x := ⟨_, rfl⟩
    rw [N1] at x1
    obtain ⟨n2, N2⟩ : ∃ x, F (k * 3 + 2) = x := ⟨_, rfl⟩
    rw [N2] at x2
    have NN : Hid (F (k * 3) = n0 ∧ F (k * 3 + 1) = n1 ∧ F (k * 3 + 2) = n2) := ⟨N0, N1, N2⟩
    clear N0 N1 N2
    by_cases h0 : 1 ≤ n2 ∧ n2 ≤ 9999
    case neg =>
      have L0 : Hid (decide (1 ≤ n2 ∧ n2 ≤ 9999) = false) := decide_eq_false h0
      have E := HS.out
      rw [rFrom_bad hm.out.1 (by rw [NN.out.2.2]; exact Or.inl h0)] at E
      subst E
      clear h0 HS NN HF
      go_wp2_with fail
      refine (isEpoch_is _ _ L0.out _).mono ?_
      rintro e w1 ⟨rfl, rfl⟩
      go_wp2
      go_ret
      refine ⟨rfl, ?_⟩
      repeat (first | exact Below.refl _ _ | assumption | refine below_rn ?_ _ | refine Below.setCell ?_ (by first | omega | (simp <;> omega)) _ | refine Below.alloc ?_ (by first | omega | (simp <;> omega) | (have := hbw.size; simp <;> omega)) _)
    have L0 : Hid (decide (1 ≤ n2 ∧ n2 ≤ 9999) = true) := decide_eq_true h0
    by_cases h1 : n1 ≤ n0
    case pos =>
      have E := HS.out
      rw [rFrom_bad hm.out.1 (by rw [NN.out.1, NN.out.2.1]; exact Or.inr h1)] at E
      subst E
      have d1 : decide (n0 ≥ n1) = true := decide_eq_true h1
      clear h0 HS NN HF
      go_wp2_with fail
      refine (isEpoch_is _ _ L0.out _).mono ?_
      rintro e w1 ⟨rfl, rfl⟩
      go_wp2
      go_ret
      refine ⟨rfl, ?_⟩
      repeat (first | exact Below.refl _ _ | assumption | refine below_rn ?_ _ | refine Below.setCell ?_ (by first | omega | (simp <;> omega)) _ | refine Below.alloc ?_ (by first | omega | (simp <;> omega) | (have := hbw.size; simp <;> omega)) _)
    have d1 : decide (n0 ≥ n1) = false := decide_eq_false h1
    have hok : Hid (¬ (¬ (1 ≤ F (k * 3 + 2) ∧ F (k * 3 + 2) ≤ 9999) ∨ F (k * 3 + 1) ≤ F (k * 3))) := by
      rw [NN.out.1, NN.out.2.1, NN.out.2.2]; unfold Hid; omega
    by_cases h2 : n0 = z
    case neg =>
      have E := HS.out
      rw [rFrom_off hm.out.1 hok.out (by rw [NN.out.1]; exact h2)] at E
      subst E
      have d2 : (n0 == z) = false := beq_eq_false_iff_ne.2 h2
      clear h0 h1 HS NN hok HF
      go_wp2_with fail
      refine (isEpoch_is _ _ L0.out _).mono ?_
      rintro e w1 ⟨rfl, rfl⟩
      go_wp2
      go_ret
      refine ⟨rfl, ?_⟩
      repeat (first | exact Below.refl _ _ | assumption | refine below_rn ?_ _ | refine Below.setCell ?_ (by first | omega | (simp <;> omega)) _ | refine Below.alloc ?_ (by first | omega | (simp <;> omega) | (have := hbw.size; simp <;> omega)) _)
    subst h2
    have E : Hid (rFrom F (n - (k + 1)) (k + 1) n1 = f) := by
      have E := HS.out
      rw [rFrom_on hm.out.1 hok.out NN.out.1, NN.out.2.1, hm.out.2] at E
      exact E
    clear h0 h1 HS NN hok HF hm
    go_wp2_with fail
    refine (isEpoch_is _ _ L0.out _).mono ?_
    rintro e w1 ⟨rfl, rfl⟩
    go_wp2
    go_roundw
    case rel => 
      refine ⟨k + 1, n1, by omega, rfl, by go_num, E, ?_⟩
      repeat (first | exact Below.refl _ _ | assumption | refine below_rn ?_ _ | refine Below.setCell ?_ (by first | omega | (simp <;> omega)) _ | refine Below.alloc ?_ (by first | omega | (simp <;> omega) | (have := hbw.size; simp <;> omega)) _)
    case measure => simp [intOf]; omega
end

section
open Go.RowKit
/-- Ranges without a fault. -/
structure Good (n : Nat) (F : Nat → Int) : Prop where
  n1 : 1 ≤ n
  n6 : n ≤ 6
  ep : ∀ i, i < n → 1 ≤ F (i * 3 + 2) ∧ F (i * 3 + 2) ≤ 9999
  lt : ∀ i, i < n → F (i * 3) < F (i * 3 + 1)
  first : F 0 = 0
  next : ∀ i, i + 1 < n → F ((i + 1) * 3) = F (i * 3 + 1)
  last : F ((n - 1) * 3 + 1) = 200
theorem rFrom_zero {F : Nat → Int} : ∀ (m k : Nat) (a : Int), rFrom F m k a = 0 → (∀ i, i < m → (1 ≤ F ((k + i) * 3 + 2) ∧ F ((k + i) * 3 + 2) ≤ 9999) ∧ F ((k + i) * 3) < F ((k + i) * 3 + 1)) ∧ (0 < m → F (k * 3) = a) ∧ (∀ i, i + 1 < m → F ((k + i + 1) * 3) = F ((k + i) * 3 + 1)) ∧ (m = 0 → a = 200) ∧ (0 < m → F ((k + m - 1) * 3 + 1) = 200) := by
  intro m
  induction m with
  | zero =>
    intro k a h
    rw [rFrom] at h
    refine ⟨fun i hi => absurd hi (Nat.not_lt_zero _), fun h0 => absurd h0 (Nat.lt_irrefl _), fun i hi => absurd hi (Nat.not_lt_zero _), fun _ => ?_, fun h0 => absurd h0 (Nat.lt_irrefl _)⟩
    split at h
    · assumption
    · omega
  | succ m ih =>
    intro k a h
    rw [rFrom] at h
    split at h
    · omega
    rename_i h1
    split at h
    · omega
    rename_i h2
    obtain ⟨i1, i2, i3, i4, i5⟩ := ih (k + 1) _ h
    have h1' : (1 ≤ F (k * 3 + 2) ∧ F (k * 3 + 2) ≤ 9999) ∧ F (k * 3) < F (k * 3 + 1) := by omega
    refine ⟨fun i hi => ?_, fun _ => by omega, fun i hi => ?_, fun h0 => by omega, fun _ => ?_⟩
    · cases i with
      | zero => exact h1'
      | succ i => have := i1 i (by omega); rwa [show k + 1 + i = k + (i + 1) by omega] at this
    · cases i with
      | zero => exact i2 (by omega)
      | succ i => have := i3 i (by omega); rwa [show k + 1 + i = k + (i + 1) by omega] at this
    · cases m with
      | zero => exact i4 rfl
      | succ m => have := i5 (by omega); rwa [show k + 1 + (m + 1) - 1 = k + (m + 1 + 1) - 1 by omega] at this
theorem rFrom_good {F : Nat → Int} : ∀ (m k : Nat) (a : Int), (∀ i, i < m → (1 ≤ F ((k + i) * 3 + 2) ∧ F ((k + i) * 3 + 2) ≤ 9999) ∧ F ((k + i) * 3) < F ((k + i) * 3 + 1)) → (0 < m → F (k * 3) = a) → (∀ i, i + 1 < m → F ((k + i + 1) * 3) = F ((k + i) * 3 + 1)) → (m = 0 → a = 200) → (0 < m → F ((k + m - 1) * 3 + 1) = 200) → rFrom F m k a = 0 := by
  intro m
  induction m with
  | zero =>
    intro k a _ _ _ h4 _
    rw [rFrom, if_pos (h4 rfl)]
  | succ m ih =>
    intro k a h1 h2 h3 h4 h5
    have h10 : (1 ≤ F (k * 3 + 2) ∧ F (k * 3 + 2) ≤ 9999) ∧ F (k * 3) < F (k * 3 + 1) := h1 0 (by omega)
    have h20 := h2 (by omega)
    rw [rFrom, if_neg (by omega), if_neg (by omega)]
    refine ih (k + 1) _ (fun i hi => ?_) (fun hm => ?_) (fun i hi => ?_) (fun hm => ?_) (fun hm => ?_)
    · have := h1 (i + 1) (by omega); rwa [show k + (i + 1) = k + 1 + i by omega] at this
    · exact h3 0 (by omega)
    · have := h3 (i + 1) (by omega); rwa [show k + (i + 1) = k + 1 + i by omega] at this
    · subst hm; exact h5 (by omega)
    · have := h5 (by omega); rwa [show k + (m + 1) - 1 = k + 1 + m - 1 by omega] at this
theorem good_of {n : Nat} {F : Nat → Int} (h : rangesF n F = 0) : Good n F := by
  unfold rangesF at h
  split at h
  · omega
  obtain ⟨i1, i2, i3, i4, i5⟩ := rFrom_zero n 0 0 h
  refine ⟨by omega, by omega, fun i hi => ?_, fun i hi => ?_, by simpa using i2 (by omega), fun i hi => ?_, ?_⟩
  · simpa using (i1 i hi).1
  · simpa using (i1 i hi).2
  · simpa using i3 i hi
  · simpa using i5 (by omega)
theorem Good.zero {n : Nat} {F : Nat → Int} (h : Good n F) : rangesF n F = 0 := by
  have := h.n1; have := h.n6
  unfold rangesF
  rw [if_neg (by omega)]
  refine rFrom_good n 0 0 (fun i hi => ?_) (fun _ => by simpa using h.first) (fun i hi => ?_) (fun h0 => by omega) (fun _ => ?_)
  · simpa using ⟨h.ep i hi, h.lt i hi⟩
  · simpa using h.next i hi
  · simpa using h.last
/-- The first range that ends behind the key. -/
def AtR (n : Nat) (F : Nat → Int) (key : Int) (j : Nat) : Prop := j < n ∧ key < F (j * 3 + 1) ∧ ∀ i, i < j → F (i * 3 + 1) ≤ key
theorem atR_ex {F : Nat → Int} {key : Int} : ∀ m : Nat, (∃ j, j < m ∧ key < F (j * 3 + 1)) → ∃ j, AtR m F key j := by
  intro m
  induction m with
  | zero => rintro ⟨j, hj, _⟩; exact absurd hj (Nat.not_lt_zero _)
  | succ m ih =>
    rintro ⟨j, hj, hk⟩
    by_cases hm : ∃ j, j < m ∧ key < F (j * 3 + 1)
    · obtain ⟨i, h1, h2, h3⟩ := ih hm
      exact ⟨i, by omega, h2, h3⟩
    · refine ⟨m, by omega, ?_, fun i hi => Int.not_lt.1 (fun q => hm ⟨i, hi, q⟩)⟩
      rcases Nat.lt_or_ge j m with q | q
      · exact absurd ⟨j, q, hk⟩ hm
      · obtain rfl : j = m := by omega
        exact hk
theorem Good.at {n : Nat} {F : Nat → Int} (h : Good n F) {key : Int} (hk : key ≤ 199) : ∃ j, AtR n F key j :=
  atR_ex n ⟨n - 1, by have := h.n1; omega, by rw [h.last]; omega⟩
set_option maxRecDepth 100000 in
set_option maxHeartbeats 1000000 in
theorem l6Route_is (v : Value) (B n : Nat) (F : Nat → Int) (key : Int) (j : Nat) (w : World) (h : Row w B 3 n F v) (hj : AtR n F key j) (hn : n ≤ 1048576) :
    Calls Tryz.prog 85 #[v, .int .i64 key] w fun e w' => e = .returned (.int .i64 j) ∧ w' = w := by
  obtain ⟨ao, cp, rfl⟩ := h.form
  have H : Hid (Row w B 3 n F (.slice ao n cp)) := h
  have hjn := hj.1
  have HJ : Hid (AtR n F key j) := hj
  clear h hj
  go_enter Tryz.func85, Tryz.ntmps85
  go_wp2
  go_loop [5] (fun i => ∃ k : Nat, k ≤ j ∧ i = .int .i64 k) (fun i => n - (intOf i).toNat)
  case atStart => exact ⟨0, Nat.zero_le _, rfl⟩
  case round =>
    obtain ⟨k, hk, rfl⟩ := hrel
    have hlt : k < n := by omega
    obtain ⟨g, o, rfl, _, hg, x0, x1, x2⟩ := H.out.at3 hlt
    obtain ⟨n1, N1⟩ : ∃ x, F (k * 3 + 1) = x := ⟨_, rfl⟩
    rw [N1] at x1
    by_cases hkj : k = j
    · subst hkj
      have d : key < n1 := by rw [← N1]; exact HJ.out.2.1
      clear N1
      go_wp2
      go_ret
      exact ⟨rfl, rfl⟩
    · have d : ¬ key < n1 := by rw [← N1]; exact Int.not_lt.2 (HJ.out.2.2 k (by omega))
      clear N1
      go_wp2
      go_round
      case rel => exact ⟨k + 1, by omega, by go_num⟩
      case measure => simp [intOf]; omega
end
end Go.Proofs.YtjkchhcnochjlaaGreatDoor

namespace Go.Proofs.YtjkchhcnochjlaaGreatDoor
section
open Go.RowKit
/-- Has a store a key that is not in a range? -/
def strayS (S : Sto) (fr tto : Int) : Prop := keepN S.c 3 fr (tto - 1) S.nc ≠ S.nc ∨ keepN S.l 5 fr (tto - 1) S.nl ≠ S.nl ∨ keepN S.k 4 fr (tto - 1) S.nw ≠ S.nw
instance (S : Sto) (fr tto : Int) : Decidable (strayS S fr tto) := by unfold strayS; exact inferInstance
noncomputable def oneF (F : Nat → Int) (S : Nat → Sto) (i : Nat) : Int := if storeF (S i) ≠ 0 then storeF (S i) else if strayS (S i) (F (i * 3)) (F (i * 3 + 1)) then 3 else 0
def fullG (n : Nat) (S : Nat → Sto) : Prop := 200 < sumN (fun i => (S i).nc) n ∨ 200 < sumN (fun i => (S i).nl) n ∨ 200 < sumN (fun i => (S i).nw) n
instance (n : Nat) (S : Nat → Sto) : Decidable (fullG n S) := by unfold fullG; exact inferInstance
noncomputable def groupsF (nr : Nat) (F : Nat → Int) (n : Nat) (S : Nat → Sto) : Int :=
  if rangesF nr F ≠ 0 then rangesF nr F else if n ≠ nr then 1 else if scan (oneF F S) n ≠ 0 then scan (oneF F S) n else if fullG n S then 2 else 0
theorem keep_all {F : Nat → Int} {m : Nat} {a b : Int} : ∀ n, keepN F m a b n = n ↔ ∀ i, i < n → a ≤ F (i * m) ∧ F (i * m) ≤ b
  | 0 => ⟨fun _ i hi => absurd hi (Nat.not_lt_zero i), fun _ => rfl⟩
  | n + 1 => by
    have ih := keep_all (F := F) (m := m) (a := a) (b := b) n
    have hle := keep_le F m a b n
    by_cases h : a ≤ F (n * m) ∧ F (n * m) ≤ b
    · rw [(keep_yes h).2]
      refine ⟨fun e i hi => ?_, fun q => by have := ih.2 (fun i hi => q i (by omega)); omega⟩
      rcases Nat.lt_or_ge i n with q | q
      · exact ih.1 (by omega) i q
      · obtain rfl : i = n := by omega
        exact h
    · rw [(keep_no h).2]
      exact ⟨fun e => by omega, fun q => absurd (q n (by omega)) h⟩
theorem sum_le {f : Nat → Nat} {c : Nat} : ∀ n, (∀ i, i < n → f i ≤ c) → sumN f n ≤ n * c
  | 0, _ => by simp [sumN]
  | n + 1, h => by
    have := sum_le n (fun i hi => h i (by omega))
    have h2 := h n (by omega)
    show sumN f n + f n ≤ (n + 1) * c
    rw [Nat.succ_mul]
    omega
theorem Good.to {n : Nat} {F : Nat → Int} (h : Good n F) : ∀ d i, i + d + 1 = n → F (i * 3 + 1) ≤ 200
  | 0, i, e => by
    have := h.last
    rw [show n - 1 = i by omega] at this
    omega
  | d + 1, i, e => by
    have h1 := h.to d (i + 1) (by omega)
    have h2 := h.lt (i + 1) (by omega)
    have h3 := h.next i (by omega)
    omega
theorem Good.fromZ {n : Nat} {F : Nat → Int} (h : Good n F) : ∀ i, i < n → 0 ≤ F (i * 3)
  | 0, _ => by have := h.first; simp; omega
  | i + 1, hi => by
    have h1 := h.fromZ i (by omega)
    have h2 := h.lt i (by omega)
    have h3 := h.next i hi
    omega
theorem Good.bounds {n : Nat} {F : Nat → Int} (h : Good n F) (i : Nat) (hi : i < n) : 0 ≤ F (i * 3) ∧ F (i * 3) < F (i * 3 + 1) ∧ F (i * 3 + 1) ≤ 200 :=
  ⟨h.fromZ i hi, h.lt i hi, h.to (n - 1 - i) i (by omega)⟩

def OutE (w : World) (b oo : Nat) (v0 v1 v2 u0 u1 u2 : Value) (q : Nat) (x : World) : Prop :=
  Below w.heap.size w x ∧ (x.cell? ⟨b, oo, none⟩ = some v0 ∧ x.cell? ⟨b, oo + 1, none⟩ = some v1 ∧ x.cell? ⟨b, oo + 2, none⟩ = some v2) ∧ Blk3 x q u0 u1 u2
set_option maxRecDepth 100000 in
set_option maxHeartbeats 4000000 in
theorem l7Outside_any (S : Sto) (b oo : Nat) (v0 v1 v2 : Value) (fr tto ep : Int) (w : World) (h : LiesO w b oo S v0 v1 v2) (hn : S.nc ≤ 200 ∧ S.nl ≤ 200 ∧ S.nw ≤ 200) (ht : 0 ≤ tto ∧ tto ≤ 200) :
    Calls Tryz.prog 81 #[.pointer (some ⟨b, oo, none⟩), .agg #[.int .i64 fr, .int .i64 tto, .int .i64 ep]] w fun e w' => e = .returned (.bool (decide (strayS S fr tto))) ∧ Below w.heap.size w w' := by
  obtain ⟨a0, c0, a1, c1, a2, c2, rfl, rfl, rfl⟩ := h.2.form
  have H : Hid (LiesO w b oo S (.slice a0 S.nc c0) (.slice a1 S.nl c1) (.slice a2 S.nw c2)) := h
  have HT : Hid ((S.nc ≤ 200 ∧ S.nl ≤ 200 ∧ S.nw ≤ 200) ∧ 0 ≤ tto ∧ tto ≤ 200) := ⟨hn, ht⟩
  obtain ⟨x0, hx0⟩ : ∃ x, keepN S.c 3 fr (tto - 1) S.nc = x := ⟨_, rfl⟩
  obtain ⟨x1, hx1⟩ : ∃ x, keepN S.l 5 fr (tto - 1) S.nl = x := ⟨_, rfl⟩
  obtain ⟨x2, hx2⟩ : ∃ x, keepN S.k 4 fr (tto - 1) S.nw = x := ⟨_, rfl⟩
  have HP : Hid ((partS S fr tto).nc = x0 ∧ (partS S fr tto).nl = x1 ∧ (partS S fr tto).nw = x2) := ⟨hx0, hx1, hx2⟩
  have HS : Hid (strayS S fr tto ↔ (x0 ≠ S.nc ∨ x1 ≠ S.nl ∨ x2 ≠ S.nw)) := by unfold Hid strayS; rw [hx0, hx1, hx2]
  clear h hn ht hx0 hx1 hx2
  go_enter Tryz.func81, Tryz.ntmps81
  go_wp2_with fail
  refine (l2Part_anyO S b oo _ _ _ fr tto _ (H.out.later (below_alloc _ _)) HT.out.1 HT.out.2).mono ?_
  rintro e w1 ⟨d0, e0, d1, e1, d2, e2, rfl, _, q1⟩
  rw [HP.out.1, HP.out.2.1, HP.out.2.2]
  have B1 : Below w.heap.size w w1 := (below_alloc w _).trans (q1.mono (by simp))
  have hb := H.out.lt
  have L2 : Hid (OutE w b oo (.slice a0 S.nc c0) (.slice a1 S.nl c1) (.slice a2 S.nw c2) (.slice d0 x0 e0) (.slice d1 x1 e1) (.slice d2 x2 e2) w1.heap.size (w1.alloc (.cells #[.slice d0 x0 e0, .slice d1 x1 e1, .slice d2 x2 e2] 126))) := ⟨B1.trans ((below_alloc _ _).mono B1.size), ((H.out.later B1).later (below_alloc _ _)).1, Blk3.new _ _ _ _ _⟩
  clear q1 B1
  go_wp2_with fail
  generalize w1.alloc (.cells #[.slice d0 x0 e0, .slice d1 x1 e1, .slice d2 x2 e2] 126) = w2 at L2 ⊢
  obtain ⟨HB, ⟨p0, p1, p2⟩, ⟨y0, y1, y2⟩, _⟩ := L2.out
  have HB' : Hid (Below w.heap.size w w2) := HB
  clear HB H HP L2
  by_cases h0 : x0 = S.nc
  case neg =>
    have d : ((x0 : Int) != (S.nc : Int)) = true := bne_iff_ne.2 (by omega)
    have E : Hid (decide (strayS S fr tto) = true) := decide_eq_true (HS.out.2 (Or.inl h0))
    clear h0 HS
    go_quiet (fail)
    go_wp2
    go_ret
    exact ⟨by rw [E.out]; rfl, below_dr HB'.out _⟩
  by_cases h1 : x1 = S.nl
  case neg =>
    have d : ((x1 : Int) != (S.nl : Int)) = true := bne_iff_ne.2 (by omega)
    have E : Hid (decide (strayS S fr tto) = true) := decide_eq_true (HS.out.2 (Or.inr (Or.inl h1)))
    subst h0
    clear h1 HS
    go_quiet (fail)
    go_wp2
    go_ret
    exact ⟨by rw [E.out]; rfl, below_dr HB'.out _⟩
  by_cases h2 : x2 = S.nw
  case neg =>
    have d : ((x2 : Int) != (S.nw : Int)) = true := bne_iff_ne.2 (by omega)
    have E : Hid (decide (strayS S fr tto) = true) := decide_eq_true (HS.out.2 (Or.inr (Or.inr h2)))
    subst h0 h1
    clear h2 HS
    go_quiet (fail)
    go_wp2
    go_ret
    exact ⟨by rw [E.out]; rfl, below_dr HB'.out _⟩
  have E : Hid (decide (strayS S fr tto) = false) := decide_eq_false (fun q => by have := HS.out.1 q; omega)
  subst h0 h1 h2
  clear HS
  go_quiet (fail)
  go_wp2
  go_ret
  exact ⟨by rw [E.out]; rfl, below_dr HB'.out _⟩
end

section
open Go.RowKit
theorem sum_small {f : Nat → Nat} {n k : Nat} (h : ∀ i, i < n → f i ≤ 200) (hn : n ≤ 6) (hk : k ≤ n) : sumN f k ≤ 1200 := by
  have h1 := sum_le (f := f) (c := 200) k (fun i hi => h i (by omega))
  have h2 : k * 200 ≤ 6 * 200 := Nat.mul_le_mul_right 200 (by omega)
  omega
end
end Go.Proofs.YtjkchhcnochjlaaGreatDoor

namespace Go.Proofs.YtjkchhcnochjlaaGreatDoor
open Go.RowKit

set_option maxHeartbeats 1000000 in
theorem l5Fault_at (a b : Int) (g : Nat) (w : World) (c0 : w.cell? ⟨g, 1, none⟩ = some (.int .i64 a)) (c1 : w.cell? ⟨g, 2, none⟩ = some (.int .i64 b)) :
    Calls Tryz.prog 47 #[.pointer (some ⟨g, 1, none⟩)] w fun e w' => e = .returned (.int .i64 (oFault a b)) ∧ ∃ n, w' = w.drewN n := by
  by_cases h1 : a < 1
  · rw [oFault_range (by omega)]
    go_enter Tryz.func47, Tryz.ntmps47
    go_wp2
    first | (go_ret; exact ⟨rfl, rfl⟩) | (go_ret; exact ⟨rfl, 0, rfl⟩) | (go_quiet (fail); go_wp2; go_ret; exact ⟨rfl, _, rfl⟩)
  by_cases h2 : 100000 < a
  · rw [oFault_range (by omega)]
    have d1 : decide (a ≤ 100000) = false := decide_eq_false (by omega)
    go_enter Tryz.func47, Tryz.ntmps47
    go_wp2
    first | (go_ret; exact ⟨rfl, rfl⟩) | (go_ret; exact ⟨rfl, 0, rfl⟩) | (go_quiet (fail); go_wp2; go_ret; exact ⟨rfl, _, rfl⟩)
  have d1 : decide (a ≤ 100000) = true := decide_eq_true (by omega)
  by_cases h3 : b < 1
  · rw [oFault_range (by omega)]
    go_enter Tryz.func47, Tryz.ntmps47
    go_wp2
    first | (go_ret; exact ⟨rfl, rfl⟩) | (go_ret; exact ⟨rfl, 0, rfl⟩) | (go_quiet (fail); go_wp2; go_ret; exact ⟨rfl, _, rfl⟩)
  by_cases h4 : 100000 < b
  · rw [oFault_range (by omega)]
    have d2 : decide (b ≤ 100000) = false := decide_eq_false (by omega)
    go_enter Tryz.func47, Tryz.ntmps47
    go_wp2
    first | (go_ret; exact ⟨rfl, rfl⟩) | (go_ret; exact ⟨rfl, 0, rfl⟩) | (go_quiet (fail); go_wp2; go_ret; exact ⟨rfl, _, rfl⟩)
  have d2 : decide (b ≤ 100000) = true := decide_eq_true (by omega)
  by_cases h5 : b < a
  · rw [oFault_form (by omega) h5]
    go_enter Tryz.func47, Tryz.ntmps47
    go_wp2
    first | (go_ret; exact ⟨rfl, rfl⟩) | (go_ret; exact ⟨rfl, 0, rfl⟩) | (go_quiet (fail); go_wp2; go_ret; exact ⟨rfl, _, rfl⟩)
  · rw [oFault_ok (by omega) h5]
    go_enter Tryz.func47, Tryz.ntmps47
    go_wp2
    first | (go_ret; exact ⟨rfl, rfl⟩) | (go_ret; exact ⟨rfl, 0, rfl⟩) | (go_quiet (fail); go_wp2; go_ret; exact ⟨rfl, _, rfl⟩)
/-- Block b holds a world, in it groups: their two lists, and all that is in them. -/
def LiesW (w : World) (b nr : Nat) (F : Nat → Int) (n : Nat) (S : Nat → Sto) (V : Nat → Nat → Value) (vr vs : Value) : Prop := (w.cell? ⟨b, 3, none⟩ = some vr ∧ w.cell? ⟨b, 4, none⟩ = some vs) ∧ Grs w 0 nr F n S V vr vs
theorem LiesW.lt {w : World} {b nr : Nat} {F : Nat → Int} {n : Nat} {S : Nat → Sto} {V : Nat → Nat → Value} {vr vs : Value} (h : LiesW w b nr F n S V vr vs) : b < w.heap.size := World.block_lt_of_cell? w ⟨b, 3, none⟩ h.1.1
theorem LiesW.later {w w' : World} {b nr : Nat} {F : Nat → Int} {n : Nat} {S : Nat → Sto} {V : Nat → Nat → Value} {vr vs : Value} (h : LiesW w b nr F n S V vr vs) (hb : Below w.heap.size w w') : LiesW w' b nr F n S V vr vs :=
  ⟨⟨(hb.cell (p := ⟨b, 3, none⟩) h.lt).trans h.1.1, (hb.cell (p := ⟨b, 4, none⟩) h.lt).trans h.1.2⟩, h.2.later hb⟩
set_option maxRecDepth 100000 in
set_option maxHeartbeats 4000000 in
theorem l7Full_at (nr : Nat) (F : Nat → Int) (n : Nat) (S : Nat → Sto) (V : Nat → Nat → Value) (vr vs : Value) (b : Nat) (w : World) (h : LiesW w b nr F n S V vr vs) (hn : n ≤ 6) (hs : ∀ i, i < n → (S i).nc ≤ 200 ∧ (S i).nl ≤ 200 ∧ (S i).nw ≤ 200) :
    Calls Tryz.prog 82 #[.pointer (some ⟨b, 3, none⟩)] w fun e w' => e = .returned (.bool (decide (fullG n S))) ∧ Below w.heap.size w w' := by
  obtain ⟨a0, c0, a1, c1, rfl, rfl⟩ := h.2.form
  have H : Hid (LiesW w b nr F n S V (.slice a0 nr c0) (.slice a1 n c1)) := h
  have HN : Hid (∀ i, i < n → (S i).nc ≤ 200 ∧ (S i).nl ≤ 200 ∧ (S i).nw ≤ 200) := hs
  clear h hs
  go_enter Tryz.func82, Tryz.ntmps82
  go_wp2
  go_loopw [3, 4, 5, 6] (fun x y z i wr => ∃ (k p0 p1 p2 : Nat), k ≤ n ∧ x = .int .i64 p0 ∧ y = .int .i64 p1 ∧ z = .int .i64 p2 ∧ i = .int .i64 k ∧ Hid (p0 = sumN (fun i => (S i).nc) k ∧ p1 = sumN (fun i => (S i).nl) k ∧ p2 = sumN (fun i => (S i).nw) k) ∧ Hid (Below w.heap.size w wr)) (fun _ _ _ i _ => n - (intOf i).toNat)
  case atStart => exact ⟨0, 0, 0, 0, Nat.zero_le _, rfl, rfl, rfl, rfl, ⟨rfl, rfl, rfl⟩, Below.refl _ _⟩
  case round =>
    obtain ⟨k, p0, p1, p2, hk, rfl, rfl, rfl, rfl, HS, hR⟩ := hrel
    have hl0 := (H.out.later hR.out).1.2
    have q0 : p0 ≤ 1200 := by rw [HS.out.1]; exact sum_small (fun i hi => (HN.out i hi).1) hn hk
    have q1 : p1 ≤ 1200 := by rw [HS.out.2.1]; exact sum_small (fun i hi => (HN.out i hi).2.1) hn hk
    have q2 : p2 ≤ 1200 := by rw [HS.out.2.2]; exact sum_small (fun i hi => (HN.out i hi).2.2) hn hk
    by_cases hlt : k < n
    · obtain ⟨g, o, rfl, _, hg, ⟨b0, b1, b2⟩, sk⟩ := (H.out.later hR.out).2.2.at hlt
      obtain ⟨i0, d0, i1, d1, i2, d2, e0, e1, e2⟩ := sk.form
      rw [e0] at b0
      rw [e1] at b1
      rw [e2] at b2
      clear sk e0 e1 e2
      obtain ⟨n0, hn0⟩ : ∃ x, (S k).nc = x := ⟨_, rfl⟩
      obtain ⟨n1, hn1⟩ : ∃ x, (S k).nl = x := ⟨_, rfl⟩
      obtain ⟨n2, hn2⟩ : ∃ x, (S k).nw = x := ⟨_, rfl⟩
      rw [hn0] at b0
      rw [hn1] at b1
      rw [hn2] at b2
      have hB := HN.out k hlt
      rw [hn0, hn1, hn2] at hB
      obtain ⟨m0, m1, m2⟩ := hB
      have HS1 : Hid (p0 + n0 = sumN (fun i => (S i).nc) (k + 1) ∧ p1 + n1 = sumN (fun i => (S i).nl) (k + 1) ∧ p2 + n2 = sumN (fun i => (S i).nw) (k + 1)) := by
        refine ⟨?_, ?_, ?_⟩
        · show _ = sumN (fun i => (S i).nc) k + (S k).nc
          rw [HS.out.1, hn0]
        · show _ = sumN (fun i => (S i).nl) k + (S k).nl
          rw [HS.out.2.1, hn1]
        · show _ = sumN (fun i => (S i).nw) k + (S k).nw
          rw [HS.out.2.2, hn2]
      clear hn0 hn1 hn2 HS
      go_wp2
      go_roundw
      case rel => exact ⟨k + 1, p0 + n0, p1 + n1, p2 + n2, by omega, by go_num, by go_num, by go_num, by go_num, HS1, hR⟩
      case measure => simp [intOf]; omega
    · obtain rfl : k = n := by omega
      have HF : Hid (fullG k S ↔ (200 < p0 ∨ 200 < p1 ∨ 200 < p2)) := by unfold Hid fullG; rw [← HS.out.1, ← HS.out.2.1, ← HS.out.2.2]
      clear HS
      by_cases r0 : 200 < p0
      · have d : decide ((200 : Int) < (p0 : Int)) = true := decide_eq_true (by omega)
        have E : Hid (decide (fullG k S) = true) := decide_eq_true (HF.out.2 (Or.inl r0))
        clear r0 HF
        go_wp2
        go_ret
        exact ⟨by rw [E.out]; rfl, hR.out⟩
      have d0 : decide ((200 : Int) < (p0 : Int)) = false := decide_eq_false (by omega)
      by_cases r1 : 200 < p1
      · have d : decide ((200 : Int) < (p1 : Int)) = true := decide_eq_true (by omega)
        have E : Hid (decide (fullG k S) = true) := decide_eq_true (HF.out.2 (Or.inr (Or.inl r1)))
        clear r0 r1 HF
        go_wp2
        go_ret
        exact ⟨by rw [E.out]; rfl, hR.out⟩
      have d1 : decide ((200 : Int) < (p1 : Int)) = false := decide_eq_false (by omega)
      by_cases r2 : 200 < p2
      · have d : decide ((200 : Int) < (p2 : Int)) = true := decide_eq_true (by omega)
        have E : Hid (decide (fullG k S) = true) := decide_eq_true (HF.out.2 (Or.inr (Or.inr r2)))
        clear r0 r1 r2 HF
        go_wp2
        go_ret
        exact ⟨by rw [E.out]; rfl, hR.out⟩
      have d2 : decide ((200 : Int) < (p2 : Int)) = false := decide_eq_false (by omega)
      have E : Hid (decide (fullG k S) = false) := decide_eq_false (fun q => by have := HF.out.1 q; omega)
      clear r0 r1 r2 HF
      go_wp2
      go_ret
      exact ⟨by rw [E.out]; rfl, hR.out⟩
set_option maxRecDepth 100000 in
set_option maxHeartbeats 8000000 in
theorem l7Fault_at (nr : Nat) (F : Nat → Int) (n : Nat) (S : Nat → Sto) (V : Nat → Nat → Value) (vr vs : Value) (b : Nat) (w : World) (h : LiesW w b nr F n S V vr vs) (hr : nr ≤ 9223372036854775807) (hn : n ≤ 9223372036854775807) :
    Calls Tryz.prog 48 #[.pointer (some ⟨b, 3, none⟩)] w fun e w' => e = .returned (.int .i64 (groupsF nr F n S)) ∧ Below w.heap.size w w' := by
  obtain ⟨a0, c0, a1, c1, rfl, rfl⟩ := h.2.form
  have H : Hid (LiesW w b nr F n S V (.slice a0 nr c0) (.slice a1 n c1)) := h
  obtain ⟨p0, p1⟩ := h.1
  clear h
  obtain ⟨f, hf⟩ : ∃ f, rangesF nr F = f := ⟨_, rfl⟩
  have HF : Hid (rangesF nr F = f) := hf
  go_enter Tryz.func48, Tryz.ntmps48
  go_wp2_with fail
  refine (l6Fault_any _ 0 nr F _ H.out.2.1 hr).mono ?_
  rw [hf]
  rintro e w1 ⟨rfl, q1⟩
  have B1 : Hid (Below w.heap.size w w1) := q1
  clear q1 hf p0 p1
  by_cases hz : f = 0
  case neg =>
    have d : (f == 0) = false := beq_eq_false_iff_ne.2 hz
    have d' : (f != 0) = true := bne_iff_ne.2 hz
    have E : Hid (groupsF nr F n S = f) := by unfold Hid groupsF; rw [HF.out, if_pos hz]
    clear hz HF
    go_wp2
    go_ret
    exact ⟨by rw [E.out]; rfl, B1.out⟩
  subst hz
  have G : Hid (Good nr F) := good_of HF.out
  obtain ⟨p0, p1⟩ := (H.out.later B1.out).1
  by_cases hnn : n = nr
  case neg =>
    have d : ((n : Int) != (nr : Int)) = true := bne_iff_ne.2 (by omega)
    have E : Hid (groupsF nr F n S = 1) := by unfold Hid groupsF; rw [HF.out, if_neg (by decide), if_pos hnn]
    clear HF hnn
    go_wp2_with fail
    go_quiet (fail)
    go_wp2
    go_ret
    exact ⟨by rw [E.out]; rfl, below_dr B1.out _⟩
  have HG : Hid (groupsF nr F n S = if scan (oneF F S) n ≠ 0 then scan (oneF F S) n else if fullG n S then 2 else 0) := by unfold Hid groupsF; rw [HF.out, if_neg (by decide), if_neg (fun q => q hnn)]
  have hn6 : n ≤ 6 := by have := G.out.n6; omega
  subst hnn
  clear HF
  go_wp2_with fail
  go_quiet (fail)
  go_wp2_with fail
  clear p0 p1
  go_loopw [4] (fun i wr => ∃ k : Nat, k ≤ n ∧ i = .int .i64 k ∧ Hid (scan (oneF F S) k = 0) ∧ Hid (Below w.heap.size w wr)) (fun i _ => n - (intOf i).toNat)
  case atStart => exact ⟨0, Nat.zero_le _, rfl, rfl, below_dr B1.out _⟩
  case round =>
    obtain ⟨k, hk, rfl, HS, hR⟩ := hrel
    have HL : Hid (LiesW wr b n F n S V (.slice a0 n c0) (.slice a1 n c1)) := H.out.later hR.out
    obtain ⟨p0, p1⟩ := HL.out.1
    by_cases hlt : k < n
    · obtain ⟨g, o, rfl, _, hg, ⟨b0, b1, b2⟩, sk⟩ := HL.out.2.2.at hlt
      obtain ⟨gr, oR, rfl, _, hgr, t0, t1, t2⟩ := HL.out.2.1.at3 hlt
      have LS : Hid (LiesO wr g (o + k * 3) (S k) (V k 0) (V k 1) (V k 2)) := ⟨⟨b0, b1, b2⟩, sk⟩
      clear b0 b1 b2 sk t0 t1 t2
      obtain ⟨fs, hfs⟩ : ∃ x, storeF (S k) = x := ⟨_, rfl⟩
      have HFS : Hid (storeF (S k) = fs) := hfs
      go_wp2_with fail
      refine (l2Fault_anyO (S k) g (o + k * 3) _ _ _ _ LS.out).mono ?_
      rw [hfs]
      rintro e w3 ⟨rfl, q3⟩
      have B3 : Hid (Below w.heap.size w w3) := hR.out.trans (q3.mono hR.out.size)
      have LS3 : Hid (LiesO w3 g (o + k * 3) (S k) (V k 0) (V k 1) (V k 2)) := LS.out.later q3
      clear q3 hfs p0 p1 LS
      by_cases hz : fs = 0
      case neg =>
        have d : (fs == 0) = false := beq_eq_false_iff_ne.2 hz
        have d' : (fs != 0) = true := bne_iff_ne.2 hz
        have E : Hid (groupsF n F n S = fs) := by
          have h1 : oneF F S k = fs := by unfold oneF; rw [HFS.out, if_pos hz]
          have h2 : scan (oneF F S) n = fs := (scan_stop HS.out (by rw [h1]; exact hz) hlt).trans h1
          unfold Hid
          rw [HG.out, h2, if_pos hz]
        clear hz HFS HG HS
        go_wp2
        go_ret
        exact ⟨by rw [E.out]; rfl, B3.out⟩
      subst hz
      obtain ⟨p0, p1⟩ := (H.out.later B3.out).1
      obtain ⟨gr', oR', he, _, _, t0, t1, t2⟩ := (H.out.later B3.out).2.1.at3 hlt
      simp only [Option.some.injEq, Addr.mk.injEq, and_true] at he
      obtain ⟨rfl, rfl⟩ := he
      obtain ⟨fr, hfr⟩ : ∃ x, F (k * 3) = x := ⟨_, rfl⟩
      obtain ⟨tto, hto⟩ : ∃ x, F (k * 3 + 1) = x := ⟨_, rfl⟩
      obtain ⟨ep, hep⟩ : ∃ x, F (k * 3 + 2) = x := ⟨_, rfl⟩
      rw [hfr] at t0
      rw [hto] at t1
      rw [hep] at t2
      have HFT : Hid (F (k * 3) = fr ∧ F (k * 3 + 1) = tto) := ⟨hfr, hto⟩
      have hbd : Hid (0 ≤ tto ∧ tto ≤ 200) := by
        have := G.out.bounds k hlt
        rw [hfr, hto] at this
        exact ⟨by omega, by omega⟩
      clear hfr hto hep
      have Z := storeF_zero HFS.out
      have HZ : Hid ((S k).nc ≤ 200 ∧ (S k).nl ≤ 200 ∧ (S k).nw ≤ 200) := Z.1
      clear Z
      go_wp2_with fail
      refine (l7Outside_any (S k) g (o + k * 3) _ _ _ fr tto ep _ LS3.out HZ.out hbd.out).mono ?_
      by_cases hst : strayS (S k) fr tto
      · rw [decide_eq_true hst]
        rintro e w4 ⟨rfl, q4⟩
        have B4 : Hid (Below w.heap.size w w4) := B3.out.trans (q4.mono B3.out.size)
        have E : Hid (groupsF n F n S = 3) := by
          have h1 : oneF F S k = 3 := by unfold oneF; rw [HFS.out, if_neg (by decide), HFT.out.1, HFT.out.2, if_pos hst]
          have h2 : scan (oneF F S) n = 3 := (scan_stop HS.out (by rw [h1]; decide) hlt).trans h1
          unfold Hid
          rw [HG.out, h2, if_pos (by decide)]
        clear q4 hst HFS HG HS p0 p1 t0 t1 t2
        go_wp2
        go_ret
        exact ⟨by rw [E.out]; rfl, B4.out⟩
      · rw [decide_eq_false hst]
        rintro e w4 ⟨rfl, q4⟩
        have B4 : Hid (Below w.heap.size w w4) := B3.out.trans (q4.mono B3.out.size)
        have HS1 : Hid (scan (oneF F S) (k + 1) = 0) := scan_go HS.out (by unfold oneF; rw [HFS.out, if_neg (by decide), HFT.out.1, HFT.out.2, if_neg hst])
        clear q4 hst HFS HS p0 p1 t0 t1 t2
        go_wp2
        go_roundw
        case rel => exact ⟨k + 1, by omega, by go_num, HS1, B4⟩
        case measure => simp [intOf]; omega
    · obtain rfl : k = n := by omega
      have HSS : Hid (∀ i, i < k → (S i).nc ≤ 200 ∧ (S i).nl ≤ 200 ∧ (S i).nw ≤ 200) := fun i hi => by
        have h1 := scan_zero HS.out i hi
        unfold oneF at h1
        split at h1
        · rename_i q; exact absurd h1 q
        · rename_i q; exact (storeF_zero (Classical.not_not.1 q)).1
      have E : Hid (groupsF k F k S = if fullG k S then 2 else 0) := by unfold Hid; rw [HG.out, HS.out, if_neg (by decide)]
      clear HS HG hlt
      go_wp2_with fail
      refine (l7Full_at k F k S V _ _ b _ HL.out hn6 HSS.out).mono ?_
      by_cases hfu : fullG k S
      · rw [decide_eq_true hfu]
        have E2 : Hid (groupsF k F k S = 2) := by unfold Hid; rw [E.out, if_pos hfu]
        rintro e w4 ⟨rfl, q4⟩
        have B4 : Hid (Below w.heap.size w w4) := hR.out.trans (q4.mono hR.out.size)
        clear q4 hfu E
        go_wp2
        go_ret
        exact ⟨by rw [E2.out]; rfl, B4.out⟩
      · rw [decide_eq_false hfu]
        have E2 : Hid (groupsF k F k S = 0) := by unfold Hid; rw [E.out, if_neg hfu]
        rintro e w4 ⟨rfl, q4⟩
        have B4 : Hid (Below w.heap.size w w4) := hR.out.trans (q4.mono hR.out.size)
        clear q4 hfu E
        go_wp2
        go_ret
        exact ⟨by rw [E2.out]; rfl, B4.out⟩
end Go.Proofs.YtjkchhcnochjlaaGreatDoor

namespace Go.Proofs.YtjkchhcnochjlaaGreatDoor
open Go.RowKit

/-- A transaction that lies in block b from cell q on. -/
def LiesX (w : World) (b q : Nat) (s c u st a : Int) (n : Nat) (F : Nat → Int) (y : Value) : Prop :=
  (w.cell? ⟨b, q, none⟩ = some (.int .i64 s) ∧ w.cell? ⟨b, q + 1, none⟩ = some (.int .i64 c) ∧ w.cell? ⟨b, q + 2, none⟩ = some (.int .i64 u) ∧ w.cell? ⟨b, q + 3, none⟩ = some (.int .i64 st) ∧ w.cell? ⟨b, q + 4, none⟩ = some (.int .i64 a) ∧ w.cell? ⟨b, q + 5, none⟩ = some y) ∧ Row w 0 3 n F y ∧ CapOk y
theorem LiesX.lt {w : World} {b q : Nat} {s c u st a : Int} {n : Nat} {F : Nat → Int} {y : Value} (h : LiesX w b q s c u st a n F y) : b < w.heap.size := World.block_lt_of_cell? w ⟨b, q, none⟩ h.1.1
theorem LiesX.later {w x : World} {b q : Nat} {s c u st a : Int} {n : Nat} {F : Nat → Int} {y : Value} (h : LiesX w b q s c u st a n F y) (hb : Below w.heap.size w x) : LiesX x b q s c u st a n F y := by
  have hk : ∀ i, x.cell? ⟨b, i, none⟩ = w.cell? ⟨b, i, none⟩ := fun i => hb.cell (p := ⟨b, i, none⟩) h.lt
  obtain ⟨⟨h0, h1, h2, h3, h4, h5⟩, hr, hc⟩ := h
  exact ⟨⟨(hk _).trans h0, (hk _).trans h1, (hk _).trans h2, (hk _).trans h3, (hk _).trans h4, (hk _).trans h5⟩, hr.later hb, hc⟩

set_option maxRecDepth 100000 in
set_option maxHeartbeats 4000000 in
theorem l8Fault_at (b q6 : Nat) (s c u st a : Int) (n : Nat) (F : Nat → Int) (y : Value) (w : World) (h : LiesX w b q6 s c u st a n F y) (hn : n ≤ 9223372036854775807) :
    Calls Tryz.prog 49 #[.pointer (some ⟨b, q6, none⟩)] w fun e w' => e = .returned (.int .i64 (txnF s c u st a n F)) ∧ Below w.heap.size w w' := by
  obtain ⟨ao, cp, rfl⟩ := h.2.1.form
  have hcp : n ≤ cp := h.2.2 _ _ _ rfl
  have H : Hid (LiesX w b q6 s c u st a n F (.slice ao n cp)) := h
  obtain ⟨⟨p0, p1, p2, p3, p4, p5⟩, _⟩ := h
  by_cases h0 : 1 ≤ s ∧ s ≤ 100000
  case neg =>
    have D0 : Hid (decide (1 ≤ s ∧ s ≤ 100000) = false) := decide_eq_false h0
    have E : Hid (txnF s c u st a n F = 3) := txnF_range (Or.inl h0)
    clear h0
    go_enter Tryz.func49, Tryz.ntmps49
    go_wp2_with fail
    refine (tsT_is _ _ D0.out _).mono ?_
    rintro e w9 ⟨rfl, hw9⟩
    obtain rfl := hw9.symm
    go_wp2
    go_ret
    exact ⟨by rw [E.out]; rfl, Below.refl _ _⟩
  have D0 : Hid (decide (1 ≤ s ∧ s ≤ 100000) = true) := decide_eq_true h0
  by_cases h1 : 0 ≤ c ∧ c ≤ 100000
  case neg =>
    have D1 : Hid (decide (0 ≤ c ∧ c ≤ 100000) = false) := decide_eq_false h1
    have E : Hid (txnF s c u st a n F = 3) := txnF_range (Or.inr (Or.inl h1))
    clear h0 h1
    go_enter Tryz.func49, Tryz.ntmps49
    go_wp2_with fail
    refine (tsT_is _ _ D0.out _).mono ?_
    rintro e w9 ⟨rfl, hw9⟩
    obtain rfl := hw9.symm
    go_wp2_with fail
    refine (inT_is _ _ _ _ D1.out _).mono ?_
    rintro e w9 ⟨rfl, hw9⟩
    obtain rfl := hw9.symm
    go_wp2
    go_ret
    exact ⟨by rw [E.out]; rfl, Below.refl _ _⟩
  have D1 : Hid (decide (0 ≤ c ∧ c ≤ 100000) = true) := decide_eq_true h1
  by_cases h2 : 0 ≤ u ∧ u ≤ 100000
  case neg =>
    have D2 : Hid (decide (0 ≤ u ∧ u ≤ 100000) = false) := decide_eq_false h2
    have E : Hid (txnF s c u st a n F = 3) := txnF_range (Or.inr (Or.inr (Or.inl h2)))
    clear h0 h1 h2
    go_enter Tryz.func49, Tryz.ntmps49
    go_wp2_with fail
    refine (tsT_is _ _ D0.out _).mono ?_
    rintro e w9 ⟨rfl, hw9⟩
    obtain rfl := hw9.symm
    go_wp2_with fail
    refine (inT_is _ _ _ _ D1.out _).mono ?_
    rintro e w9 ⟨rfl, hw9⟩
    obtain rfl := hw9.symm
    go_wp2_with fail
    refine (inT_is _ _ _ _ D2.out _).mono ?_
    rintro e w9 ⟨rfl, hw9⟩
    obtain rfl := hw9.symm
    go_wp2
    go_ret
    exact ⟨by rw [E.out]; rfl, Below.refl _ _⟩
  have D2 : Hid (decide (0 ≤ u ∧ u ≤ 100000) = true) := decide_eq_true h2
  by_cases h3 : 1 ≤ st ∧ st ≤ 7
  case neg =>
    have D3 : Hid (decide (1 ≤ st ∧ st ≤ 7) = false) := decide_eq_false h3
    have E : Hid (txnF s c u st a n F = 3) := txnF_range (Or.inr (Or.inr (Or.inr h3)))
    clear h0 h1 h2 h3
    go_enter Tryz.func49, Tryz.ntmps49
    go_wp2_with fail
    refine (tsT_is _ _ D0.out _).mono ?_
    rintro e w9 ⟨rfl, hw9⟩
    obtain rfl := hw9.symm
    go_wp2_with fail
    refine (inT_is _ _ _ _ D1.out _).mono ?_
    rintro e w9 ⟨rfl, hw9⟩
    obtain rfl := hw9.symm
    go_wp2_with fail
    refine (inT_is _ _ _ _ D2.out _).mono ?_
    rintro e w9 ⟨rfl, hw9⟩
    obtain rfl := hw9.symm
    go_wp2_with fail
    refine (inT_is _ _ _ _ D3.out _).mono ?_
    rintro e w9 ⟨rfl, hw9⟩
    obtain rfl := hw9.symm
    go_wp2
    go_ret
    exact ⟨by rw [E.out]; rfl, Below.refl _ _⟩
  have D3 : Hid (decide (1 ≤ st ∧ st ≤ 7) = true) := decide_eq_true h3
  have HI : Hid (InB s c u st) := ⟨h0, h1, h2, h3⟩
  clear h0 h1 h2 h3
  by_cases hm : n < 1 ∨ 12 < n
  · have D4 : Hid (decide (1 ≤ (n : Int) ∧ (n : Int) ≤ 12) = false) := decide_eq_false (by omega)
    have E : Hid (txnF s c u st a n F = 2) := txnF_many HI.out hm
    clear hm
    go_enter Tryz.func49, Tryz.ntmps49
    go_wp2_with fail
    refine (tsT_is _ _ D0.out _).mono ?_
    rintro e w9 ⟨rfl, hw9⟩
    obtain rfl := hw9.symm
    go_wp2_with fail
    refine (inT_is _ _ _ _ D1.out _).mono ?_
    rintro e w9 ⟨rfl, hw9⟩
    obtain rfl := hw9.symm
    go_wp2_with fail
    refine (inT_is _ _ _ _ D2.out _).mono ?_
    rintro e w9 ⟨rfl, hw9⟩
    obtain rfl := hw9.symm
    go_wp2_with fail
    refine (inT_is _ _ _ _ D3.out _).mono ?_
    rintro e w9 ⟨rfl, hw9⟩
    obtain rfl := hw9.symm
    go_wp2_with fail
    refine (inT_is _ _ _ _ D4.out _).mono ?_
    rintro e w9 ⟨rfl, hw9⟩
    obtain rfl := hw9.symm
    go_wp2
    go_ret
    exact ⟨by rw [E.out]; rfl, Below.refl _ _⟩
  have D4 : Hid (decide (1 ≤ (n : Int) ∧ (n : Int) ≤ 12) = true) := decide_eq_true (by omega)
  have HM : Hid (¬ (n < 1 ∨ 12 < n)) := hm
  have hn1 : 1 ≤ n := by omega
  have hn12 : n ≤ 12 := by omega
  clear hm hn
  go_enter Tryz.func49, Tryz.ntmps49
  go_wp2_with fail
  refine (tsT_is _ _ D0.out _).mono ?_
  rintro e w9 ⟨rfl, hw9⟩
  obtain rfl := hw9.symm
  go_wp2_with fail
  refine (inT_is _ _ _ _ D1.out _).mono ?_
  rintro e w9 ⟨rfl, hw9⟩
  obtain rfl := hw9.symm
  go_wp2_with fail
  refine (inT_is _ _ _ _ D2.out _).mono ?_
  rintro e w9 ⟨rfl, hw9⟩
  obtain rfl := hw9.symm
  go_wp2_with fail
  refine (inT_is _ _ _ _ D3.out _).mono ?_
  rintro e w9 ⟨rfl, hw9⟩
  obtain rfl := hw9.symm
  go_wp2_with fail
  refine (inT_is _ _ _ _ D4.out _).mono ?_
  rintro e w9 ⟨rfl, hw9⟩
  obtain rfl := hw9.symm
  obtain ⟨f, hf⟩ : ∃ f, itemsF F n 0 = f := ⟨_, rfl⟩
  have HF : Hid (itemsF F n 0 = f) := hf
  clear hf D0 D1 D2 D3 D4
  go_wp2
  go_loopw [4] (fun i wr => ∃ k : Nat, k ≤ n ∧ i = .int .i64 k ∧ Hid (itemsF F (n - k) k = f) ∧ Hid (Below w.heap.size w wr)) (fun i _ => n - (intOf i).toNat)
  case atStart => exact ⟨0, Nat.zero_le _, rfl, HF, Below.refl _ _⟩
  case round =>
    obtain ⟨k, hk, rfl, HS, HB⟩ := hrel
    obtain ⟨⟨p0, p1, p2, p3, p4, p5⟩, hrow, _⟩ := H.out.later HB.out
    by_cases hlt : k < n
    case neg =>
      have en : n - k = 0 := by omega
      have E0 : Hid (itemsF F n 0 = 0) := by
        have := HS.out
        rw [en, itemsF] at this
        rw [HF.out, this]; exact rfl
      clear HS HF
      by_cases h4 : 0 ≤ a ∧ a ≤ n
      case neg =>
        have D5 : Hid (decide (0 ≤ a ∧ a ≤ (n : Int)) = false) := decide_eq_false h4
        have E : Hid (txnF s c u st a n F = 3) := txnF_at HI.out HM.out E0.out h4
        clear h4 en
        go_wp2_with fail
        refine (inT_is _ _ _ _ D5.out _).mono ?_
        rintro e w9 ⟨rfl, hw9⟩
        obtain rfl := hw9.symm
        go_wp2
        go_ret
        exact ⟨by rw [E.out]; rfl, HB.out⟩
      have D5 : Hid (decide (0 ≤ a ∧ a ≤ (n : Int)) = true) := decide_eq_true h4
      have HA : Hid (0 ≤ a ∧ a ≤ n) := h4
      clear h4 en
      obtain ⟨_, _, _, hst1, hst7⟩ := HI.out
      have h7 : st = 1 ∨ st = 2 ∨ st = 3 ∨ st = 4 ∨ st = 5 ∨ st = 6 ∨ st = 7 := by omega
      clear hst1 hst7
      rcases h7 with rfl | h7
      · by_cases hc : c = 0
        · have E : Hid (txnF s c u 1 a n F = 0) := txnF_ok HI.out HM.out E0.out HA.out (by omega)
          subst hc
          go_wp2_with fail
          refine (inT_is _ _ _ _ D5.out _).mono ?_
          rintro e w9 ⟨rfl, hw9⟩
          obtain rfl := hw9.symm
          go_wp2_with fail
          go_quiet (fail)
          go_wp2
          go_ret
          exact ⟨by rw [E.out]; rfl, below_dt HB.out _⟩
        · have E : Hid (txnF s c u 1 a n F = 1) := txnF_form HI.out HM.out E0.out HA.out (Or.inr ⟨rfl, hc⟩)
          have d : (c != 0) = true := bne_iff_ne.2 hc
          clear hc
          go_wp2_with fail
          refine (inT_is _ _ _ _ D5.out _).mono ?_
          rintro e w9 ⟨rfl, hw9⟩
          obtain rfl := hw9.symm
          go_wp2_with fail
          go_quiet (fail)
          go_wp2
          go_ret
          exact ⟨by rw [E.out]; rfl, below_dt HB.out _⟩
      have hc : c ≤ s ∨ s < c := by omega
      rcases h7 with rfl | rfl | rfl | h7
      iterate 3
        rcases hc with hc | hc
        · have E := (show Hid (txnF s c u _ a n F = 1) from txnF_form HI.out HM.out E0.out HA.out (Or.inl ⟨by omega, hc⟩))
          have d : decide (c ≤ s) = true := decide_eq_true hc
          clear hc
          go_wp2_with fail
          refine (inT_is _ _ _ _ D5.out _).mono ?_
          rintro e w9 ⟨rfl, hw9⟩
          obtain rfl := hw9.symm
          go_wp2_with fail
          go_quiet (fail)
          go_wp2
          go_ret
          exact ⟨by rw [E.out]; rfl, below_dt HB.out _⟩
        · have E := (show Hid (txnF s c u _ a n F = 0) from txnF_ok HI.out HM.out E0.out HA.out (by omega))
          have d : decide (c ≤ s) = false := decide_eq_false (by omega)
          clear hc
          go_wp2_with fail
          refine (inT_is _ _ _ _ D5.out _).mono ?_
          rintro e w9 ⟨rfl, hw9⟩
          obtain rfl := hw9.symm
          go_wp2_with fail
          go_quiet (fail)
          go_wp2
          go_ret
          exact ⟨by rw [E.out]; rfl, below_dt HB.out _⟩
      have E : Hid (txnF s c u st a n F = 0) := txnF_ok HI.out HM.out E0.out HA.out (by omega)
      clear hc
      rcases h7 with rfl | rfl | rfl
      iterate 3
        · go_wp2_with fail
          refine (inT_is _ _ _ _ D5.out _).mono ?_
          rintro e w9 ⟨rfl, hw9⟩
          obtain rfl := hw9.symm
          go_wp2_with fail
          go_quiet (fail)
          go_wp2
          go_ret
          exact ⟨by rw [E.out]; rfl, below_dt HB.out _⟩
    obtain ⟨g, o, rfl, _, hg, x0, x1, x2⟩ := hrow.at3 hlt
    have hm : Hid (0 < n - k ∧ n - k - 1 = n - (k + 1)) := ⟨by omega, by omega⟩
    obtain ⟨n0, N0⟩ : ∃ x, F (k * 3) = x := ⟨_, rfl⟩
    rw [N0] at x0
    obtain ⟨n1, N1⟩ : ∃ x, F (k * 3 + 1) = x := ⟨_, rfl⟩
    rw [N1] at x1
    obtain ⟨n2, N2⟩ : ∃ x, F (k * 3 + 2) = x := ⟨_, rfl⟩
    rw [N2] at x2
    have NN : Hid (F (k * 3) = n0 ∧ F (k * 3 + 1) = n1 ∧ F (k * 3 + 2) = n2) := ⟨N0, N1, N2⟩
    clear N0 N1 N2
    obtain ⟨q, hq⟩ : ∃ q, itemF n0 n1 n2 = q := ⟨_, rfl⟩
    have HQ : Hid (itemF n0 n1 n2 = q) := hq
    have HQ' : Hid (itemF (F (k * 3)) (F (k * 3 + 1)) (F (k * 3 + 2)) = q) := by
      unfold Hid
      rw [NN.out.1, NN.out.2.1, NN.out.2.2]; exact hq
    clear hq
    by_cases h5 : q = 0
    case neg =>
      have E0 := HS.out
      rw [itemsF_bad hm.out.1 HQ'.out h5] at E0
      have E : Hid (txnF s c u st a n F = q) := txnF_item HI.out HM.out (HF.out.trans E0.symm) h5
      have d : (q != 0) = true := bne_iff_ne.2 h5
      clear h5 HS E0 HF HQ'
      go_wp2_with fail
      refine (l8Item_is _ _ _ _).mono ?_
      rintro e w1 ⟨rfl, q1⟩
      rw [HQ.out]
      have HB : Hid (Below w.heap.size w w1) := HB.out.trans (q1.mono HB.out.size)
      clear q1
      go_wp2
      go_ret
      exact ⟨by rw [E.out]; rfl, HB.out⟩
    subst h5
    obtain ⟨r, hr⟩ : ∃ r, hasI F n0 k = r := ⟨_, rfl⟩
    have HR : Hid (hasI F n0 k = r) := hr
    have HR' : Hid (hasI F (F (k * 3)) k = r) := by unfold Hid; rw [NN.out.1]; exact hr
    clear hr
    have hrow' : Hid (Row wr 0 3 k F (.slice (some ⟨g, o, none⟩) k cp)) := by
      obtain ⟨ao, cp', hv, hrw⟩ := hrow
      simp only [Value.slice.injEq] at hv
      obtain ⟨hv, _, rfl⟩ := hv
      refine ⟨_, _, rfl, fun hk0 => ?_⟩
      obtain ⟨g', o', hv', hb', hg', hc'⟩ := hrw (by omega)
      rw [← hv] at hv'
      exact ⟨g', o', hv', hb', hg', fun p hp => hc' p (by omega)⟩
    cases r with
    | true =>
      have E0 := HS.out
      rw [itemsF_two hm.out.1 HQ'.out HR'.out] at E0
      have E : Hid (txnF s c u st a n F = 6) := txnF_item HI.out HM.out (HF.out.trans E0.symm) (by omega)
      clear HS E0 HF HQ' HR'
      go_wp2_with fail
      refine (l8Item_is _ _ _ _).mono ?_
      rintro e w1 ⟨rfl, q1⟩
      rw [HQ.out]
      have HB : Hid (Below w.heap.size w w1) := HB.out.trans (q1.mono HB.out.size)
      obtain ⟨⟨p0, p1, p2, p3, p4, p5⟩, hrow1, _⟩ := H.out.later HB.out
      have hkc : k ≤ cp := by omega
      have x0 := (q1.cell (p := ⟨g, o + k * 3, none⟩) hg).trans x0
      have RK : Hid (∀ x, Row x 0 3 k F (.slice (some ⟨g, o, none⟩) k cp) → Calls Tryz.prog 84 #[.slice (some ⟨g, o, none⟩) k cp, .int .i64 n0] x fun e w' => e = .returned (.bool true) ∧ w' = x) := fun x hx => l8Has_is _ 0 k F n0 true HR.out x hx (by omega)
      have R1 : Hid (Row w1 0 3 k F (.slice (some ⟨g, o, none⟩) k cp)) := hrow'.out.later q1
      clear q1 hrow hrow' hrow1
      go_wp2_with fail
      go_quiet (first | (go_at_call 84; refine Calls.quiet_of_same (RK.out _ R1.out)))
      go_wp2
      go_ret
      exact ⟨by rw [E.out]; rfl, below_dt HB.out _⟩
    | false =>
      have E : Hid (itemsF F (n - (k + 1)) (k + 1) = f) := by
        have E0 := HS.out
        rw [itemsF_on hm.out.1 HQ'.out HR'.out, hm.out.2] at E0
        exact E0
      clear HS HF HQ' HR'
      go_wp2_with fail
      refine (l8Item_is _ _ _ _).mono ?_
      rintro e w1 ⟨rfl, q1⟩
      rw [HQ.out]
      have HB : Hid (Below w.heap.size w w1) := HB.out.trans (q1.mono HB.out.size)
      obtain ⟨⟨p0, p1, p2, p3, p4, p5⟩, hrow1, _⟩ := H.out.later HB.out
      have hkc : k ≤ cp := by omega
      have x0 := (q1.cell (p := ⟨g, o + k * 3, none⟩) hg).trans x0
      have RK : Hid (∀ x, Row x 0 3 k F (.slice (some ⟨g, o, none⟩) k cp) → Calls Tryz.prog 84 #[.slice (some ⟨g, o, none⟩) k cp, .int .i64 n0] x fun e w' => e = .returned (.bool false) ∧ w' = x) := fun x hx => l8Has_is _ 0 k F n0 false HR.out x hx (by omega)
      have R1 : Hid (Row w1 0 3 k F (.slice (some ⟨g, o, none⟩) k cp)) := hrow'.out.later q1
      clear q1 hrow hrow' hrow1
      go_wp2_with fail
      go_quiet (first | (go_at_call 84; refine Calls.quiet_of_same (RK.out _ R1.out)))
      go_wp2
      go_roundw
      case rel => exact ⟨k + 1, by omega, by go_num, E, below_dt HB.out _⟩
      case measure => simp [intOf]; omega
end Go.Proofs.YtjkchhcnochjlaaGreatDoor

namespace Go.Proofs.YtjkchhcnochjlaaGreatDoor
open Go.RowKit

/-- Has one of the first k transactions the start of number i? -/
def takenT (T : Nat → Tx) (i k : Nat) : Prop := ∃ j, j < k ∧ (T j).s = (T i).s
theorem takenT_none (T : Nat → Tx) (i : Nat) : ¬ takenT T i 0 := fun ⟨_, hj, _⟩ => absurd hj (Nat.not_lt_zero _)
theorem takenT_go {T : Nat → Tx} {i k : Nat} (h : ¬ takenT T i k) (h2 : (T k).s ≠ (T i).s) : ¬ takenT T i (k + 1) := fun ⟨j, hj, e⟩ => by
  rcases Nat.lt_or_ge j k with q | q
  · exact h ⟨j, q, e⟩
  · obtain rfl : j = k := by omega
    exact h2 e
noncomputable def txF (t : Tx) : Int := txnF t.s t.c t.u t.st t.a t.m t.L
open Classical in
noncomputable def placeF (nx : Int) (T : Nat → Tx) (i : Nat) : Int := if txF (T i) ≠ 0 then txF (T i) else if nx ≤ (T i).s ∨ nx ≤ (T i).c then 3 else if takenT T i i then 6 else 0
theorem placeF_txn {nx : Int} {T : Nat → Tx} {i : Nat} (h : txF (T i) ≠ 0) : placeF nx T i = txF (T i) := by unfold placeF; rw [if_pos h]
theorem placeF_next {nx : Int} {T : Nat → Tx} {i : Nat} (h : txF (T i) = 0) (h2 : nx ≤ (T i).s ∨ nx ≤ (T i).c) : placeF nx T i = 3 := by unfold placeF; rw [if_neg (fun q => q h), if_pos h2]
theorem placeF_taken {nx : Int} {T : Nat → Tx} {i : Nat} (h : txF (T i) = 0) (h2 : ¬ (nx ≤ (T i).s ∨ nx ≤ (T i).c)) (h3 : takenT T i i) : placeF nx T i = 6 := by unfold placeF; rw [if_neg (fun q => q h), if_neg h2, if_pos h3]
theorem placeF_ok {nx : Int} {T : Nat → Tx} {i : Nat} (h : txF (T i) = 0) (h2 : ¬ (nx ≤ (T i).s ∨ nx ≤ (T i).c)) (h3 : ¬ takenT T i i) : placeF nx T i = 0 := by unfold placeF; rw [if_neg (fun q => q h), if_neg h2, if_neg h3]
noncomputable def worldF (nw nx bd : Int) (nr : Nat) (F : Nat → Int) (n : Nat) (S : Nat → Sto) (nt : Nat) (T : Nat → Tx) : Int :=
  if ¬ (0 ≤ nw ∧ nw ≤ 100000) then 3 else if oFault nx bd ≠ 0 then oFault nx bd else if groupsF nr F n S ≠ 0 then groupsF nr F n S else if 16 < nt then 2 else scan (placeF nx T) nt
section
variable {nw nx bd : Int} {nr : Nat} {F : Nat → Int} {n : Nat} {S : Nat → Sto} {nt : Nat} {T : Nat → Tx}
theorem worldF_now (h : ¬ (0 ≤ nw ∧ nw ≤ 100000)) : worldF nw nx bd nr F n S nt T = 3 := by unfold worldF; rw [if_pos h]
theorem worldF_oracle (h : 0 ≤ nw ∧ nw ≤ 100000) (h1 : oFault nx bd ≠ 0) : worldF nw nx bd nr F n S nt T = oFault nx bd := by unfold worldF; rw [if_neg (fun q => q h), if_pos h1]
theorem worldF_groups (h : 0 ≤ nw ∧ nw ≤ 100000) (h1 : oFault nx bd = 0) (h2 : groupsF nr F n S ≠ 0) : worldF nw nx bd nr F n S nt T = groupsF nr F n S := by unfold worldF; rw [if_neg (fun q => q h), if_neg (fun q => q h1), if_pos h2]
theorem worldF_many (h : 0 ≤ nw ∧ nw ≤ 100000) (h1 : oFault nx bd = 0) (h2 : groupsF nr F n S = 0) (h3 : 16 < nt) : worldF nw nx bd nr F n S nt T = 2 := by unfold worldF; rw [if_neg (fun q => q h), if_neg (fun q => q h1), if_neg (fun q => q h2), if_pos h3]
theorem worldF_txns (h : 0 ≤ nw ∧ nw ≤ 100000) (h1 : oFault nx bd = 0) (h2 : groupsF nr F n S = 0) (h3 : ¬ 16 < nt) : worldF nw nx bd nr F n S nt T = scan (placeF nx T) nt := by unfold worldF; rw [if_neg (fun q => q h), if_neg (fun q => q h1), if_neg (fun q => q h2), if_neg h3]
end
theorem Txs.lies {w : World} {B n : Nat} {T : Nat → Tx} {V : Nat → Value} {ao : Option Addr} {cp : Nat} (h : Txs w B n T V (.slice ao n cp)) {i : Nat} (hi : i < n) :
    ∃ g o, ao = some ⟨g, o, none⟩ ∧ g < w.heap.size ∧ LiesX w g (o + i * 6) (T i).s (T i).c (T i).u (T i).st (T i).a (T i).m (T i).L (V i) := by
  obtain ⟨g, o, ha, _, hg, hc, hr, hp⟩ := h.at hi
  exact ⟨g, o, ha, hg, hc, hr.mono (Nat.zero_le _), hp⟩
/-- Block b holds a world. -/
def LiesD (w : World) (b : Nat) (nw nx bd : Int) (nr : Nat) (F : Nat → Int) (n : Nat) (S : Nat → Sto) (V : Nat → Nat → Value) (vr vs : Value) (nt : Nat) (T : Nat → Tx) (X : Nat → Value) (vt : Value) : Prop :=
  Blk6 w b (.int .i64 nw) (.int .i64 nx) (.int .i64 bd) vr vs vt ∧ Grs w 0 nr F n S V vr vs ∧ Txs w 0 nt T X vt
theorem LiesD.later {w w' : World} {b : Nat} {nw nx bd : Int} {nr : Nat} {F : Nat → Int} {n : Nat} {S : Nat → Sto} {V : Nat → Nat → Value} {vr vs : Value} {nt : Nat} {T : Nat → Tx} {X : Nat → Value} {vt : Value} (h : LiesD w b nw nx bd nr F n S V vr vs nt T X vt) (hb : Below w.heap.size w w') : LiesD w' b nw nx bd nr F n S V vr vs nt T X vt := ⟨h.1.later hb, h.2.1.later hb, h.2.2.later hb⟩
theorem LiesD.groups {w : World} {b : Nat} {nw nx bd : Int} {nr : Nat} {F : Nat → Int} {n : Nat} {S : Nat → Sto} {V : Nat → Nat → Value} {vr vs : Value} {nt : Nat} {T : Nat → Tx} {X : Nat → Value} {vt : Value} (h : LiesD w b nw nx bd nr F n S V vr vs nt T X vt) : LiesW w b nr F n S V vr vs := ⟨⟨h.1.1.2.2.2.1, h.1.1.2.2.2.2.1⟩, h.2.1⟩
end Go.Proofs.YtjkchhcnochjlaaGreatDoor

