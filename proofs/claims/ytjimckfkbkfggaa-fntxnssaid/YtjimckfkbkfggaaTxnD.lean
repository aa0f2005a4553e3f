/-
  Own text. Chapter 8, the program: the small helpers of TxnFault.
-/
import Derived.Test.YtjimckfkbkfggaaKeysB
import Derived.Test.YtjimckfkbkfggaaTxnC
namespace Go.Proofs.Ytjimckfkbkfggaa
open Go.RowKit

theorem isTimeT_is (v : Int) (r : Bool) (hr : decide (1 ≤ v ∧ v ≤ 100000) = r) (w : World) :
    Calls Try.prog 48 #[.int .i64 v] w fun e w' => e = .returned (.bool r) ∧ w' = w := by
  by_cases h1 : 1 ≤ v
  · by_cases h2 : v ≤ 100000
    · have d : decide (v ≤ 100000) = true := decide_eq_true h2
      rw [decide_eq_true (show 1 ≤ v ∧ v ≤ 100000 from ⟨h1, h2⟩)] at hr
      subst hr
      go_enter Try.func48, Try.ntmps48
      go_wp2
      go_ret
      exact ⟨rfl, rfl⟩
    · have d : decide (v ≤ 100000) = false := decide_eq_false h2
      rw [decide_eq_false (show ¬ (1 ≤ v ∧ v ≤ 100000) from fun h => h2 h.2)] at hr
      subst hr
      go_enter Try.func48, Try.ntmps48
      go_wp2
      go_ret
      exact ⟨rfl, rfl⟩
  · have d : decide (1 ≤ v) = false := decide_eq_false h1
    rw [decide_eq_false (show ¬ (1 ≤ v ∧ v ≤ 100000) from fun h => h1 h.1)] at hr
    subst hr
    go_enter Try.func48, Try.ntmps48
    go_wp2
    go_ret
    exact ⟨rfl, rfl⟩
theorem isValueT_is (v : Int) (r : Bool) (hr : decide (0 ≤ v ∧ v ≤ 9999) = r) (w : World) :
    Calls Try.prog 75 #[.int .i64 v] w fun e w' => e = .returned (.bool r) ∧ w' = w := by
  by_cases h1 : 0 ≤ v
  · by_cases h2 : v ≤ 9999
    · have d : decide (v ≤ 9999) = true := decide_eq_true h2
      rw [decide_eq_true (show 0 ≤ v ∧ v ≤ 9999 from ⟨h1, h2⟩)] at hr
      subst hr
      go_enter Try.func75, Try.ntmps75
      go_wp2
      go_ret
      exact ⟨rfl, rfl⟩
    · have d : decide (v ≤ 9999) = false := decide_eq_false h2
      rw [decide_eq_false (show ¬ (0 ≤ v ∧ v ≤ 9999) from fun h => h2 h.2)] at hr
      subst hr
      go_enter Try.func75, Try.ntmps75
      go_wp2
      go_ret
      exact ⟨rfl, rfl⟩
  · have d : decide (0 ≤ v) = false := decide_eq_false h1
    rw [decide_eq_false (show ¬ (0 ≤ v ∧ v ≤ 9999) from fun h => h1 h.1)] at hr
    subst hr
    go_enter Try.func75, Try.ntmps75
    go_wp2
    go_ret
    exact ⟨rfl, rfl⟩
theorem isUntilT_is (v : Int) (r : Bool) (hr : decide (0 ≤ v ∧ v ≤ 100000) = r) (w : World) :
    Calls Try.prog 49 #[.int .i64 v] w fun e w' => e = .returned (.bool r) ∧ w' = w := by
  by_cases h1 : 0 ≤ v
  · by_cases h2 : v ≤ 100000
    · have d : decide (v ≤ 100000) = true := decide_eq_true h2
      rw [decide_eq_true (show 0 ≤ v ∧ v ≤ 100000 from ⟨h1, h2⟩)] at hr
      subst hr
      go_enter Try.func49, Try.ntmps49
      go_wp2
      go_ret
      exact ⟨rfl, rfl⟩
    · have d : decide (v ≤ 100000) = false := decide_eq_false h2
      rw [decide_eq_false (show ¬ (0 ≤ v ∧ v ≤ 100000) from fun h => h2 h.2)] at hr
      subst hr
      go_enter Try.func49, Try.ntmps49
      go_wp2
      go_ret
      exact ⟨rfl, rfl⟩
  · have d : decide (0 ≤ v) = false := decide_eq_false h1
    rw [decide_eq_false (show ¬ (0 ≤ v ∧ v ≤ 100000) from fun h => h1 h.1)] at hr
    subst hr
    go_enter Try.func49, Try.ntmps49
    go_wp2
    go_ret
    exact ⟨rfl, rfl⟩
theorem keyAmong1_is (k kd v key : Int) (bc : Nat) (r : Bool) (hr : (k == key) = r) (w : World) (hc : w.cell? ⟨bc, 0, none⟩ = some (.int .i64 key)) :
    Calls Try.prog 65 #[.agg #[.int .i64 k, .int .i64 kd, .int .i64 v], .pointer (some ⟨bc, 0, none⟩)] w fun e w' => e = .returned (.bool r) ∧ Below w.heap.size w w' := by
  have hlt := World.block_lt_of_cell? w _ hc
  go_enter Try.func65, Try.ntmps65
  go_wp2
  go_ret
  exact ⟨by first | rfl | (rw [← hr]; rfl), below_alloc _ _⟩
set_option maxRecDepth 100000 in
set_option maxHeartbeats 4000000 in
theorem indexItem_is (bc : Nat) (key : Int) (B n : Nat) (F : Nat → Int) (v : Value) (r : Bool) (hr : hasI F key n = r) (w : World) (h : Row w B 3 n F v) (hn : n ≤ 9223372036854775807) (hw : w.cell? ⟨bc, 0, none⟩ = some (.int .i64 key)) :
    Calls Try.prog 71 #[v, .func (.func 65) #[] #[.pointer (some ⟨bc, 0, none⟩)]] w fun e w' => ∃ z : Int, e = .returned (.int .i64 z) ∧ decide (0 ≤ z) = r ∧ Below w.heap.size w w' := by
  obtain ⟨ao, cp, rfl⟩ := h.form
  have hbc := World.block_lt_of_cell? w _ hw
  have H : Hid (Row w B 3 n F (.slice ao n cp)) := h
  have HR : Hid (hasI F key n = r) := hr
  have HW : Hid (w.cell? ⟨bc, 0, none⟩ = some (.int .i64 key)) := hw
  clear h hr hw
  go_enter Try.func71, Try.ntmps71
  go_wp2
  go_loopw [8] (fun i wr => ∃ k : Nat, k ≤ n ∧ i = .int .i64 k ∧ Hid (hasI F key k = false) ∧ Hid (Below w.heap.size w wr)) (fun i _ => n - (intOf i).toNat)
  case atStart => exact ⟨0, Nat.zero_le _, rfl, rfl, Below.refl _ _⟩
  case round =>
    obtain ⟨k, hk, rfl, HS, HB⟩ := hrel
    by_cases hlt : k < n
    case neg =>
      obtain rfl : n = k := by omega
      go_wp2
      go_ret
      exact ⟨-1, rfl, HS.out.symm.trans HR.out, HB.out⟩
    obtain ⟨g, o, rfl, _, hg, x0, x1, x2⟩ := (H.out.later HB.out).at3 hlt
    obtain ⟨n0, N0⟩ : ∃ x, F (k * 3) = x := ⟨_, rfl⟩
    rw [N0] at x0
    obtain ⟨n1, N1⟩ : ∃ x, F (k * 3 + 1) = x := ⟨_, rfl⟩
    rw [N1] at x1
    obtain ⟨n2, N2⟩ : ∃ x, F (k * 3 + 2) = x := ⟨_, rfl⟩
    rw [N2] at x2
    have HC : Hid (wr.cell? ⟨bc, 0, none⟩ = some (.int .i64 key)) := (HB.out.cell (p := ⟨bc, 0, none⟩) hbc).trans HW.out
    by_cases hz : n0 = key
    · have hx : hasI F key n = true := hasI_true.2 ⟨k, hlt, N0.trans hz⟩
      have E : Hid (true = r) := hx.symm.trans HR.out
      have D : Hid ((n0 == key) = true) := by unfold Hid; rw [hz]; exact beq_self_eq_true _
      clear hx N0 N1 N2 hz
      go_wp2_with fail
      refine (keyAmong1_is n0 n1 n2 key bc true D.out _ HC.out).mono ?_
      rintro e w1 ⟨rfl, q1⟩
      have HB1 : Hid (Below w.heap.size w w1) := HB.out.trans (q1.mono HB.out.size)
      clear q1
      go_wp2
      go_ret
      exact ⟨k, rfl, by rw [← E.out]; exact decide_eq_true (by omega), HB1.out⟩
    · have E : Hid (hasI F key (k + 1) = false) := by
        unfold Hid
        rw [hasI, HS.out, N0, beq_eq_false_iff_ne.2 hz]; rfl
      have D : Hid ((n0 == key) = false) := beq_eq_false_iff_ne.2 hz
      clear N0 N1 N2 hz HS
      go_wp2_with fail
      refine (keyAmong1_is n0 n1 n2 key bc false D.out _ HC.out).mono ?_
      rintro e w1 ⟨rfl, q1⟩
      have HB1 : Hid (Below w.heap.size w w1) := HB.out.trans (q1.mono HB.out.size)
      clear q1
      go_wp2
      go_roundw
      case rel => exact ⟨k + 1, by omega, by go_num, E, HB1⟩
      case measure => simp [intOf]; omega
set_option maxHeartbeats 1000000 in
theorem containsItem_is (bc : Nat) (key : Int) (B n : Nat) (F : Nat → Int) (v : Value) (r : Bool) (hr : hasI F key n = r) (w : World) (h : Row w B 3 n F v) (hn : n ≤ 9223372036854775807) (hw : w.cell? ⟨bc, 0, none⟩ = some (.int .i64 key)) :
    Calls Try.prog 64 #[v, .func (.func 65) #[] #[.pointer (some ⟨bc, 0, none⟩)]] w fun e w' => e = .returned (.bool r) ∧ Below w.heap.size w w' := by
  obtain ⟨ao, cp, rfl⟩ := h.form
  have H : Hid (Row w B 3 n F (.slice ao n cp)) := h
  have HR : Hid (hasI F key n = r) := hr
  have HW : Hid (w.cell? ⟨bc, 0, none⟩ = some (.int .i64 key)) := hw
  clear h hr hw
  go_enter Try.func64, Try.ntmps64
  go_wp2_with fail
  refine (indexItem_is bc key B n F _ r HR.out _ H.out hn HW.out).mono ?_
  rintro e w1 ⟨z, rfl, hz, q1⟩
  have HZ : Hid (decide (0 ≤ z) = r) := hz
  have Q : Hid (Below w.heap.size w w1) := q1
  clear q1 hz
  go_wp2
  go_ret
  exact ⟨by rw [← HZ.out]; first | rfl | (congr 3), Q.out⟩
set_option maxHeartbeats 1000000 in
theorem keyAmong_is (v : Value) (B n : Nat) (F : Nat → Int) (key : Int) (r : Bool) (hr : hasI F key n = r) (w : World) (h : Row w B 3 n F v) (hn : n ≤ 9223372036854775807) :
    Calls Try.prog 45 #[v, .int .i64 key] w fun e w' => e = .returned (.bool r) ∧ Below w.heap.size w w' := by
  obtain ⟨ao, cp, rfl⟩ := h.form
  have H : Hid (Row w B 3 n F (.slice ao n cp)) := h
  have HR : Hid (hasI F key n = r) := hr
  clear h hr
  go_enter Try.func45, Try.ntmps45
  go_wp2_with fail
  refine (containsItem_is w.heap.size key B n F _ r HR.out _ (H.out.alloc _) hn (World.cell?_alloc_mark w _ _ _ 0)).mono ?_
  rintro e w1 ⟨rfl, q1⟩
  have Q : Hid (Below w.heap.size w w1) := (below_alloc _ _).trans (q1.mono (by simp))
  clear q1
  go_wp2
  go_ret
  exact ⟨rfl, Q.out⟩
/-- What the program tells of kind and value. -/
def valF (kd v : Int) : Int := if ¬ (1 ≤ kd ∧ kd ≤ 3) ∨ ¬ (0 ≤ v ∧ v ≤ 9999) then 3 else if v ≠ 0 ∧ kd ≠ 1 then 1 else 0
theorem itemF_val {k kd v : Int} (h : faultOf k = 0) : itemF k kd v = valF kd v := by unfold itemF valF; rw [if_neg (fun q => q h)]
set_option maxHeartbeats 1000000 in
theorem itemValue_is (k kd v : Int) (w : World) :
    Calls Try.prog 68 #[.agg #[.int .i64 k, .int .i64 kd, .int .i64 v]] w fun e w' => e = .returned (.int .i64 (valF kd v)) ∧ Below w.heap.size w w' := by
  by_cases h1 : 1 ≤ kd ∧ kd ≤ 3
  case neg =>
    have E : Hid (valF kd v = 3) := by unfold Hid valF; rw [if_pos (Or.inl h1)]
    have d1 : (kd == 1) = false := beq_eq_false_iff_ne.2 (by omega)
    have d2 : (kd == 2) = false := beq_eq_false_iff_ne.2 (by omega)
    have d3 : (kd == 3) = false := beq_eq_false_iff_ne.2 (by omega)
    clear h1
    go_enter Try.func68, Try.ntmps68
    go_wp2
    go_ret
    exact ⟨by rw [E.out]; rfl, below_alloc _ _⟩
  have hk : kd = 1 ∨ kd = 2 ∨ kd = 3 := by omega
  by_cases h2 : 0 ≤ v ∧ v ≤ 9999
  case neg =>
    have E : Hid (valF kd v = 3) := by unfold Hid valF; rw [if_pos (Or.inr h2)]
    have D : Hid (decide (0 ≤ v ∧ v ≤ 9999) = false) := decide_eq_false h2
    clear h1 h2
    rcases hk with rfl | rfl | rfl
    · go_enter Try.func68, Try.ntmps68
      go_wp2_with fail
      refine (isValueT_is _ _ D.out _).mono ?_
      rintro e w1 ⟨rfl, rfl⟩
      go_wp2
      go_ret
      exact ⟨by rw [E.out]; rfl, below_alloc _ _⟩
    · go_enter Try.func68, Try.ntmps68
      go_wp2_with fail
      refine (isValueT_is _ _ D.out _).mono ?_
      rintro e w1 ⟨rfl, rfl⟩
      go_wp2_with fail
      refine (isValueT_is _ _ D.out _).mono ?_
      rintro e w1 ⟨rfl, rfl⟩
      go_wp2
      go_ret
      exact ⟨by rw [E.out]; rfl, below_alloc _ _⟩
    · go_enter Try.func68, Try.ntmps68
      go_wp2_with fail
      refine (isValueT_is _ _ D.out _).mono ?_
      rintro e w1 ⟨rfl, rfl⟩
      go_wp2_with fail
      refine (isValueT_is _ _ D.out _).mono ?_
      rintro e w1 ⟨rfl, rfl⟩
      go_wp2
      go_ret
      exact ⟨by rw [E.out]; rfl, below_alloc _ _⟩
  have D : Hid (decide (0 ≤ v ∧ v ≤ 9999) = true) := decide_eq_true h2
  have HN : Hid (¬ (¬ (1 ≤ kd ∧ kd ≤ 3) ∨ ¬ (0 ≤ v ∧ v ≤ 9999))) := by
    rintro (q | q)
    · exact q h1
    · exact q h2
  clear h1 h2
  rcases hk with rfl | hk
  · have E : Hid (valF 1 v = 0) := by unfold Hid valF; rw [if_neg HN.out, if_neg (fun q => q.2 rfl)]
    go_enter Try.func68, Try.ntmps68
    go_wp2_with fail
    refine (isValueT_is _ _ D.out _).mono ?_
    rintro e w1 ⟨rfl, rfl⟩
    go_wp2
    go_ret
    exact ⟨by rw [E.out]; rfl, below_alloc _ _⟩
  by_cases h3 : v = 0
  · have E : Hid (valF kd v = 0) := by unfold Hid valF; rw [if_neg HN.out, if_neg (fun q => q.1 h3)]
    subst h3
    rcases hk with rfl | rfl
    · go_enter Try.func68, Try.ntmps68
      go_wp2_with fail
      refine (isValueT_is _ _ D.out _).mono ?_
      rintro e w1 ⟨rfl, rfl⟩
      go_wp2_with fail
      refine (isValueT_is _ _ D.out _).mono ?_
      rintro e w1 ⟨rfl, rfl⟩
      go_wp2
      go_ret
      exact ⟨by rw [E.out]; rfl, below_alloc _ _⟩
    · go_enter Try.func68, Try.ntmps68
      go_wp2_with fail
      refine (isValueT_is _ _ D.out _).mono ?_
      rintro e w1 ⟨rfl, rfl⟩
      go_wp2_with fail
      refine (isValueT_is _ _ D.out _).mono ?_
      rintro e w1 ⟨rfl, rfl⟩
      go_wp2
      go_ret
      exact ⟨by rw [E.out]; rfl, below_alloc _ _⟩
  · have E : Hid (valF kd v = 1) := by unfold Hid valF; rw [if_neg HN.out, if_pos ⟨h3, by omega⟩]
    have d : (v != 0) = true := bne_iff_ne.2 h3
    clear h3
    rcases hk with rfl | rfl
    · go_enter Try.func68, Try.ntmps68
      go_wp2_with fail
      refine (isValueT_is _ _ D.out _).mono ?_
      rintro e w1 ⟨rfl, rfl⟩
      go_wp2
      go_ret
      exact ⟨by rw [E.out]; rfl, below_alloc _ _⟩
    · go_enter Try.func68, Try.ntmps68
      go_wp2_with fail
      refine (isValueT_is _ _ D.out _).mono ?_
      rintro e w1 ⟨rfl, rfl⟩
      go_wp2
      go_ret
      exact ⟨by rw [E.out]; rfl, below_alloc _ _⟩
end Go.Proofs.Ytjimckfkbkfggaa
