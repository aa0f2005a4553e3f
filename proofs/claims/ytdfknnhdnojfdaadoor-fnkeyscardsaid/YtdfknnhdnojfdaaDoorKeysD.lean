/-
  Own text. impl.PartsOf and spec.PartsOf answer one and the same at every argument (code, kind and both parts): no condition.
-/
import Derived.Test.YtdfknnhdnojfdaaDoorKeysB
namespace Go.Proofs.YtdfknnhdnojfdaaDoor
open Go.RowKit

/-- The code, the kind and both parts of a key. -/
def partC (key : Int) : Int := faultOf key
def partK (key : Int) : Int := if faultOf key = 0 then kindAt key else 0
def partA (key : Int) : Int := if faultOf key = 0 then (if kindAt key = 2 then (key - 20) / 10 else key - firstAt key) else 0
def partB (key : Int) : Int := if faultOf key = 0 then (if kindAt key = 2 then key % 10 else 0) else 0
theorem parts_bad {key : Int} (h : faultOf key ≠ 0) : partK key = 0 ∧ partA key = 0 ∧ partB key = 0 := by
  unfold partK partA partB; rw [if_neg h, if_neg h, if_neg h]; exact ⟨rfl, rfl, rfl⟩
theorem parts_ok {key : Int} (h : faultOf key = 0) : partK key = kindAt key ∧ partA key = (if kindAt key = 2 then (key - 20) / 10 else key - firstAt key) ∧ partB key = (if kindAt key = 2 then key % 10 else 0) := by
  unfold partK partA partB; rw [if_pos h, if_pos h, if_pos h]; exact ⟨rfl, rfl, rfl⟩
theorem fault_zero {key : Int} (h : faultOf key = 0) : key = 0 ∨ (10 ≤ key ∧ key ≤ 19) ∨ (180 ≤ key ∧ key ≤ 189) ∨ (20 ≤ key ∧ key ≤ 119 ∧ key % 10 ≤ 5) := by
  apply Classical.byContradiction; intro hn
  by_cases h1 : key < 0 ∨ 199 < key
  · rw [faultOf_range h1] at h; omega
  · rw [faultOf_form (by omega) (by omega) hn] at h; omega
/-- The ways of a key: it has a fault, or it is of one of the four kinds. -/
theorem parts_ways (key : Int) :
    (faultOf key ≠ 0 ∧ partK key = 0 ∧ partA key = 0 ∧ partB key = 0)
    ∨ (key = 0 ∧ faultOf key = 0 ∧ partK key = 0 ∧ partA key = 0 ∧ partB key = 0)
    ∨ (10 ≤ key ∧ key ≤ 19 ∧ faultOf key = 0 ∧ partK key = 1 ∧ partA key = key - 10 ∧ partB key = 0)
    ∨ (20 ≤ key ∧ key ≤ 119 ∧ key % 10 ≤ 5 ∧ faultOf key = 0 ∧ partK key = 2 ∧ partA key = (key - 20) / 10 ∧ partB key = key % 10)
    ∨ (180 ≤ key ∧ key ≤ 189 ∧ faultOf key = 0 ∧ partK key = 3 ∧ partA key = key - 180 ∧ partB key = 0) := by
  by_cases h : faultOf key = 0
  · right
    obtain ⟨hk, ha, hb⟩ := parts_ok h
    rcases fault_zero h with rfl | ⟨h1, h2⟩ | ⟨h1, h2⟩ | ⟨h1, h2, h3⟩
    · obtain ⟨e1, e2⟩ := kindAt_0 (key := 0) (by omega)
      rw [e1] at hk; rw [e1, if_neg (by omega), e2] at ha; rw [e1, if_neg (by omega)] at hb
      exact Or.inl ⟨rfl, h, hk, ha, hb⟩
    · obtain ⟨e1, e2⟩ := kindAt_1 h1 (by omega)
      rw [e1] at hk; rw [e1, if_neg (by omega), e2] at ha; rw [e1, if_neg (by omega)] at hb
      exact Or.inr (Or.inl ⟨h1, h2, h, hk, ha, hb⟩)
    · obtain ⟨e1, e2⟩ := kindAt_3 h1
      rw [e1] at hk; rw [e1, if_neg (by omega), e2] at ha; rw [e1, if_neg (by omega)] at hb
      exact Or.inr (Or.inr (Or.inr ⟨h1, h2, h, hk, ha, hb⟩))
    · obtain ⟨e1, e2⟩ := kindAt_2 h1 (by omega)
      rw [e1] at hk; rw [e1, if_pos rfl] at ha; rw [e1, if_pos rfl] at hb
      exact Or.inr (Or.inr (Or.inl ⟨h1, h2, h3, h, hk, ha, hb⟩))
  · exact Or.inl ⟨h, parts_bad h⟩

/-- What both answer. -/
def partsVal (key : Int) : Value := .agg #[.int .i64 (faultOf key), .int .i64 (partK key), .int .i64 (partA key), .int .i64 (partB key)]
def partsObj (key : Int) : Obj := .cells #[.int .i64 (faultOf key), .int .i64 (partK key), .int .i64 (partA key), .int .i64 (partB key)] 33

set_option maxHeartbeats 1000000 in
theorem specPartsOf_any (key : Int) (w : World) :
    Calls Tryd.prog 11 #[.int .i64 key] w fun e w' => e = .returned (partsVal key) ∧ w' = w.alloc (partsObj key) := by
  unfold partsVal partsObj
  rcases parts_ways key with ⟨h, e1, e2, e3⟩ | ⟨rfl, h, e1, e2, e3⟩ | ⟨h1, h2, h, e1, e2, e3⟩ | ⟨h1, h2, h3, h, e1, e2, e3⟩ | ⟨h1, h2, h, e1, e2, e3⟩
  · rw [e1, e2, e3]; clear e1 e2 e3
    have hF := fun w => l1Fault_any key w
    generalize faultOf key = c at *
    have HF : Hid (∀ w, Calls Tryd.prog 26 #[.int .i64 key] w fun e w' => e = .returned (.int .i64 c) ∧ w' = w) := hF
    clear hF
    have d : (c != 0) = true := by rw [bne_iff_ne]; exact h
    go_enter Tryd.func11, Tryd.ntmps11
    go_wp2_with fail
    refine (HF.out _).mono ?_
    rintro e w' ⟨rfl, rfl⟩
    go_wp2
    exact bodyPost_ret (v := .agg #[.int .i64 c, .int .i64 0, .int .i64 0, .int .i64 0]) (by simp [results, Tryd.results11, go_sem]) rfl ⟨rfl, rfl⟩
  · rw [e1, e2, e3, h]; clear e1 e2 e3
    have HF : Hid (∀ w, Calls Tryd.prog 26 #[.int .i64 0] w fun e w' => e = .returned (.int .i64 0) ∧ w' = w) := fun w => by have := l1Fault_any 0 w; rw [h] at this; exact this
    clear h
    go_enter Tryd.func11, Tryd.ntmps11
    go_wp2_with fail
    refine (HF.out _).mono ?_
    rintro e w' ⟨rfl, rfl⟩
    go_wp2
    exact bodyPost_ret (v := .agg #[.int .i64 0, .int .i64 0, .int .i64 0, .int .i64 0]) (by simp [results, Tryd.results11, go_sem]) rfl ⟨rfl, rfl⟩
  · rw [e1, e2, e3, h]; clear e1 e2 e3
    have HF : Hid (∀ w, Calls Tryd.prog 26 #[.int .i64 key] w fun e w' => e = .returned (.int .i64 0) ∧ w' = w) := fun w => by have := l1Fault_any key w; rw [h] at this; exact this
    clear h
    have d0 : (key == 0) = false := beq_eq_false_iff_ne.2 (by omega)
    go_enter Tryd.func11, Tryd.ntmps11
    go_wp2_with (first | (go_at_call 30; go_in) | fail)
    refine (HF.out _).mono ?_
    rintro e w' ⟨rfl, rfl⟩
    go_wp2
    exact bodyPost_ret (v := .agg #[.int .i64 0, .int .i64 1, .int .i64 (key - 10), .int .i64 0]) (by simp [results, Tryd.results11, go_sem]) rfl ⟨rfl, rfl⟩
  · rw [e1, e2, e3, h]; clear e1 e2 e3
    have HF : Hid (∀ w, Calls Tryd.prog 26 #[.int .i64 key] w fun e w' => e = .returned (.int .i64 0) ∧ w' = w) := fun w => by have := l1Fault_any key w; rw [h] at this; exact this
    clear h
    have d0 : (key == 0) = false := beq_eq_false_iff_ne.2 (by omega)
    go_enter Tryd.func11, Tryd.ntmps11
    go_wp2_with (first | (go_at_call 30; go_in) | fail)
    refine (HF.out _).mono ?_
    rintro e w' ⟨rfl, rfl⟩
    go_wp2
    exact bodyPost_ret (v := .agg #[.int .i64 0, .int .i64 2, .int .i64 ((key - 20) / 10), .int .i64 (key % 10)]) (by simp [results, Tryd.results11, go_sem]) rfl ⟨rfl, rfl⟩
  · rw [e1, e2, e3, h]; clear e1 e2 e3
    have HF : Hid (∀ w, Calls Tryd.prog 26 #[.int .i64 key] w fun e w' => e = .returned (.int .i64 0) ∧ w' = w) := fun w => by have := l1Fault_any key w; rw [h] at this; exact this
    clear h
    have d0 : (key == 0) = false := beq_eq_false_iff_ne.2 (by omega)
    go_enter Tryd.func11, Tryd.ntmps11
    go_wp2_with (first | (go_at_call 30; go_in) | fail)
    refine (HF.out _).mono ?_
    rintro e w' ⟨rfl, rfl⟩
    go_wp2
    exact bodyPost_ret (v := .agg #[.int .i64 0, .int .i64 3, .int .i64 (key - 180), .int .i64 0]) (by simp [results, Tryd.results11, go_sem]) rfl ⟨rfl, rfl⟩

set_option maxHeartbeats 1000000 in
theorem implPartsOf_any (key : Int) (w : World) :
    Calls Tryd.prog 10 #[.int .i64 key] w fun e w' => e = .returned (partsVal key) ∧ w' = w.alloc (partsObj key) := by
  unfold partsVal partsObj
  rcases parts_ways key with ⟨h, e1, e2, e3⟩ | ⟨rfl, h, e1, e2, e3⟩ | ⟨h1, h2, h, e1, e2, e3⟩ | ⟨h1, h2, h3, h, e1, e2, e3⟩ | ⟨h1, h2, h, e1, e2, e3⟩
  · rw [e1, e2, e3]; clear e1 e2 e3
    have hF := fun w => keyFault_any key w
    generalize faultOf key = c at *
    have HF : Hid (∀ w, Calls Tryd.prog 12 #[.int .i64 key] w fun e w' => e = .returned (.int .i64 c) ∧ w' = w) := hF
    clear hF
    have d : (c != 0) = true := by rw [bne_iff_ne]; exact h
    go_enter Tryd.func10, Tryd.ntmps10
    go_wp2_with fail
    refine (HF.out _).mono ?_
    rintro e w' ⟨rfl, rfl⟩
    go_wp2
    exact bodyPost_ret (v := .agg #[.int .i64 c, .int .i64 0, .int .i64 0, .int .i64 0]) (by simp [results, Tryd.results10, go_sem]) rfl ⟨rfl, rfl⟩
  · have HE := kindAt_0 (key := 0) (by omega)
    rw [e1, e2, e3, h]; clear e1 e2 e3
    have HF : Hid (∀ w, Calls Tryd.prog 12 #[.int .i64 0] w fun e w' => e = .returned (.int .i64 0) ∧ w' = w) := fun w => by have := keyFault_any 0 w; rw [h] at this; exact this
    clear h
    go_enter Tryd.func10, Tryd.ntmps10
    go_wp2_with fail
    refine (HF.out _).mono ?_
    rintro e w' ⟨rfl, rfl⟩
    go_wp2_with fail
    refine (tellKey_any _ _ (by omega) (by omega)).mono ?_
    rintro e w' ⟨rfl, rfl⟩
    rw [HE.1, HE.2]; clear HE
    go_wp2_with fail
    refine (partsTold_other _ _ _ (by omega) (by omega) rfl (by omega) (by omega)).mono ?_
    rintro e w' ⟨rfl, rfl⟩
    go_wp2
    exact bodyPost_ret (v := .agg #[.int .i64 0, .int .i64 0, .int .i64 0, .int .i64 0]) (by simp [results, Tryd.results10, go_sem]) rfl ⟨rfl, rfl⟩
  · have HE := kindAt_1 h1 (by omega)
    rw [e1, e2, e3, h]; clear e1 e2 e3
    have HF : Hid (∀ w, Calls Tryd.prog 12 #[.int .i64 key] w fun e w' => e = .returned (.int .i64 0) ∧ w' = w) := fun w => by have := keyFault_any key w; rw [h] at this; exact this
    clear h
    go_enter Tryd.func10, Tryd.ntmps10
    go_wp2_with fail
    refine (HF.out _).mono ?_
    rintro e w' ⟨rfl, rfl⟩
    go_wp2_with fail
    refine (tellKey_any _ _ (by omega) (by omega)).mono ?_
    rintro e w' ⟨rfl, rfl⟩
    rw [HE.1, HE.2]; clear HE
    go_wp2_with fail
    refine (partsTold_other _ _ _ (by omega) (by omega) rfl (by omega) (by omega)).mono ?_
    rintro e w' ⟨rfl, rfl⟩
    go_wp2
    exact bodyPost_ret (v := .agg #[.int .i64 0, .int .i64 1, .int .i64 (key - 10), .int .i64 0]) (by simp [results, Tryd.results10, go_sem]) rfl ⟨rfl, rfl⟩
  · have HE := kindAt_2 h1 (by omega)
    have em : (key - 20) % 10 = key % 10 := by omega
    have Hem : Hid ((key - 20) % 10 = key % 10) := em
    clear em
    rw [e1, e2, e3, h]; clear e1 e2 e3
    have HF : Hid (∀ w, Calls Tryd.prog 12 #[.int .i64 key] w fun e w' => e = .returned (.int .i64 0) ∧ w' = w) := fun w => by have := keyFault_any key w; rw [h] at this; exact this
    clear h
    go_enter Tryd.func10, Tryd.ntmps10
    go_wp2_with fail
    refine (HF.out _).mono ?_
    rintro e w' ⟨rfl, rfl⟩
    go_wp2_with fail
    refine (tellKey_any _ _ (by omega) (by omega)).mono ?_
    rintro e w' ⟨rfl, rfl⟩
    rw [HE.1, HE.2]; clear HE
    go_wp2_with fail
    refine (partsTold_entry _ _ (by omega) (by omega)).mono ?_
    rintro e w' ⟨rfl, rfl⟩
    rw [Hem.out]; clear Hem
    go_wp2
    exact bodyPost_ret (v := .agg #[.int .i64 0, .int .i64 2, .int .i64 ((key - 20) / 10), .int .i64 (key % 10)]) (by simp [results, Tryd.results10, go_sem]) rfl ⟨rfl, rfl⟩
  · have HE := kindAt_3 h1
    rw [e1, e2, e3, h]; clear e1 e2 e3
    have HF : Hid (∀ w, Calls Tryd.prog 12 #[.int .i64 key] w fun e w' => e = .returned (.int .i64 0) ∧ w' = w) := fun w => by have := keyFault_any key w; rw [h] at this; exact this
    clear h
    go_enter Tryd.func10, Tryd.ntmps10
    go_wp2_with fail
    refine (HF.out _).mono ?_
    rintro e w' ⟨rfl, rfl⟩
    go_wp2_with fail
    refine (tellKey_any _ _ (by omega) (by omega)).mono ?_
    rintro e w' ⟨rfl, rfl⟩
    rw [HE.1, HE.2]; clear HE
    go_wp2_with fail
    refine (partsTold_other _ _ _ (by omega) (by omega) rfl (by omega) (by omega)).mono ?_
    rintro e w' ⟨rfl, rfl⟩
    go_wp2
    exact bodyPost_ret (v := .agg #[.int .i64 0, .int .i64 3, .int .i64 (key - 180), .int .i64 0]) (by simp [results, Tryd.results10, go_sem]) rfl ⟨rfl, rfl⟩
end Go.Proofs.YtdfknnhdnojfdaaDoor
