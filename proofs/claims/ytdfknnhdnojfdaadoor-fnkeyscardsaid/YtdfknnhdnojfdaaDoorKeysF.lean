/-
  Own text. What spec.l1Digits and spec.l1Text answer.
-/
import Derived.Test.YtdfknnhdnojfdaaDoorKeysD
import Derived.Laws.IdiomStrings
namespace Go.Proofs.YtdfknnhdnojfdaaDoor
open Go.RowKit

theorem conv_one (v : Int) (w : World) : (convert 22 9 (.slice (some ⟨w.heap.size, 0, none⟩) 1 1)).run Tryd.prog (w.alloc (.cells #[.int .u8 v] 5)) = .ok (.string ⟨#[UInt8.ofNat v.toNat]⟩) (w.alloc (.cells #[.int .u8 v] 5)) := by
  rw [run_convert_bytes_string _ 22 9 5 _ 1 1 Tryd.underlying22 Tryd.underlying5 Tryd.underlying9]
  have hl := run_loadCells_list (P := Tryd.prog) (w.alloc (.cells #[.int .u8 v] 5)) ⟨w.heap.size, 0, none⟩ [.int .u8 v] (fun j x hj => by
    have hj0 : j = 0 := by
      have := (List.getElem?_eq_some_iff.1 hj).1
      simpa using this
    subst hj0
    have hx : Value.int .u8 v = x := by simpa using hj
    subst hx
    exact World.cell?_alloc_mark w _ _ _ 0)
  rw [run_bytesToString _ _ 1 1 [v] (by simpa using hl)]
  rfl

/-- The byte of a digit. -/
def dByte (n : Int) : UInt8 := UInt8.ofNat (48 + n).toNat
set_option maxHeartbeats 400000 in
theorem l1Digits_any (n : Int) (w : World) (h0 : 0 ≤ n) (h9 : n ≤ 9) :
    Calls Tryd.prog 35 #[.int .i64 n] w fun e w' => e = .returned (.string ⟨#[dByte n]⟩) ∧ w' = w.alloc (.cells #[.int .u8 (48 + n)] 5) := by
  have kc := fun w => conv_one (48 + n) w
  go_enter Tryd.func35, Tryd.ntmps35
  go_wp2
  go_ret
  exact ⟨rfl, rfl⟩
set_option maxHeartbeats 400000 in
theorem l1Text_1 (key : Int) (w : World) (h0 : 10 ≤ key) (h9 : key ≤ 19) :
    Calls Tryd.prog 19 #[.int .i64 key] w fun e w' => e = .returned (.string ⟨#[105, dByte (key - 10)]⟩) ∧ w' = w.alloc (.cells #[.int .u8 (48 + (key - 10))] 5) := by
  have d0 : (key == 0) = false := beq_eq_false_iff_ne.2 (by omega)
  go_enter Tryd.func19, Tryd.ntmps19
  go_wp2_with (first | (go_at_call 30; go_in) | fail)
  refine (l1Digits_any _ _ (by omega) (by omega)).mono ?_
  rintro e w' ⟨rfl, rfl⟩
  go_wp2
  go_ret
  exact ⟨rfl, rfl⟩
set_option maxHeartbeats 400000 in
theorem l1Text_2 (key : Int) (w : World) (h0 : 20 ≤ key) (h9 : key ≤ 119) :
    Calls Tryd.prog 19 #[.int .i64 key] w fun e w' => e = .returned (.string ⟨#[101, dByte ((key - 20) / 10), 46, dByte (key % 10)]⟩) ∧ w' = (w.alloc (.cells #[.int .u8 (48 + (key - 20) / 10)] 5)).alloc (.cells #[.int .u8 (48 + key % 10)] 5) := by
  have d0 : (key == 0) = false := beq_eq_false_iff_ne.2 (by omega)
  go_enter Tryd.func19, Tryd.ntmps19
  go_wp2_with (first | (go_at_call 30; go_in) | fail)
  refine (l1Digits_any _ _ (by omega) (by omega)).mono ?_
  rintro e w' ⟨rfl, rfl⟩
  go_wp2_with fail
  refine (l1Digits_any _ _ (by omega) (by omega)).mono ?_
  rintro e w' ⟨rfl, rfl⟩
  go_wp2
  go_ret
  exact ⟨rfl, rfl⟩
set_option maxHeartbeats 400000 in
theorem l1Text_3 (key : Int) (w : World) (h0 : 180 ≤ key) (h9 : key ≤ 189) :
    Calls Tryd.prog 19 #[.int .i64 key] w fun e w' => e = .returned (.string ⟨#[102, dByte (key - 180)]⟩) ∧ w' = w.alloc (.cells #[.int .u8 (48 + (key - 180))] 5) := by
  have d0 : (key == 0) = false := beq_eq_false_iff_ne.2 (by omega)
  go_enter Tryd.func19, Tryd.ntmps19
  go_wp2_with (first | (go_at_call 30; go_in) | fail)
  refine (l1Digits_any _ _ (by omega) (by omega)).mono ?_
  rintro e w' ⟨rfl, rfl⟩
  go_wp2
  go_ret
  exact ⟨rfl, rfl⟩
set_option maxHeartbeats 400000 in
theorem l1Text_0 (w : World) :
    Calls Tryd.prog 19 #[.int .i64 0] w fun e w' => e = .returned (.string ⟨#[110]⟩) ∧ w' = w := by
  go_enter Tryd.func19, Tryd.ntmps19
  go_wp2
  go_ret
  exact ⟨rfl, rfl⟩

/-- The text of a key. -/
def textOf (key : Int) : ByteArray :=
  if key = 0 then ⟨#[110]⟩ else if key < 20 then ⟨#[105, dByte (key - 10)]⟩
  else if key < 180 then ⟨#[101, dByte ((key - 20) / 10), 46, dByte (key % 10)]⟩ else ⟨#[102, dByte (key - 180)]⟩
theorem textOf_0 : textOf 0 = ⟨#[110]⟩ := by unfold textOf; rw [if_pos rfl]
theorem textOf_1 {key : Int} (h0 : 10 ≤ key) (h : key ≤ 19) : textOf key = ⟨#[105, dByte (key - 10)]⟩ := by
  unfold textOf; rw [if_neg (by omega), if_pos (by omega)]
theorem textOf_2 {key : Int} (h0 : 20 ≤ key) (h : key ≤ 119) : textOf key = ⟨#[101, dByte ((key - 20) / 10), 46, dByte (key % 10)]⟩ := by
  unfold textOf; rw [if_neg (by omega), if_neg (by omega), if_pos (by omega)]
theorem textOf_3 {key : Int} (h0 : 180 ≤ key) : textOf key = ⟨#[102, dByte (key - 180)]⟩ := by
  unfold textOf; rw [if_neg (by omega), if_neg (by omega), if_neg (by omega)]
theorem l1Text_any (key : Int) (w : World) (h : faultOf key = 0) :
    Calls Tryd.prog 19 #[.int .i64 key] w fun e w' => e = .returned (.string (textOf key)) ∧ Below w.heap.size w w' := by
  rcases fault_zero h with rfl | ⟨h1, h2⟩ | ⟨h1, h2⟩ | ⟨h1, h2, _⟩
  · rw [textOf_0]
    exact (l1Text_0 w).mono fun e w' ⟨he, hw⟩ => ⟨he, hw ▸ Below.refl _ _⟩
  · rw [textOf_1 h1 h2]
    exact (l1Text_1 key w h1 h2).mono fun e w' ⟨he, hw⟩ => ⟨he, hw ▸ (Below.refl _ _).alloc (Nat.le_refl _) _⟩
  · rw [textOf_3 h1]
    exact (l1Text_3 key w h1 h2).mono fun e w' ⟨he, hw⟩ => ⟨he, hw ▸ (Below.refl _ _).alloc (Nat.le_refl _) _⟩
  · rw [textOf_2 h1 h2]
    exact (l1Text_2 key w h1 h2).mono fun e w' ⟨he, hw⟩ => ⟨he, hw ▸ ((Below.refl _ _).alloc (Nat.le_refl _) _).alloc (by simp) _⟩
theorem dByte_nat {n : Int} (h0 : 0 ≤ n) (h9 : n ≤ 9) : (dByte n).toNat = (48 + n).toNat := by
  unfold dByte; rw [UInt8.toNat_ofNat']; omega
theorem dByte_inj {n m : Int} (h0 : 0 ≤ n) (h9 : n ≤ 9) (k0 : 0 ≤ m) (k9 : m ≤ 9) (h : dByte n = dByte m) : n = m := by
  have h1 := dByte_nat h0 h9
  have h2 := dByte_nat k0 k9
  rw [h, h2] at h1; omega
/-- No two keys have one text. -/
theorem textOf_inj {k j : Int} (hk : faultOf k = 0) (hj : faultOf j = 0) (h : textOf k = textOf j) : k = j := by
  rcases fault_zero hk with rfl | ⟨h1, h2⟩ | ⟨h1, h2⟩ | ⟨h1, h2, h3⟩ <;> rcases fault_zero hj with rfl | ⟨g1, g2⟩ | ⟨g1, g2⟩ | ⟨g1, g2, g3⟩
  · rfl
  · rw [textOf_0, textOf_1 g1 g2] at h; simp at h
  · rw [textOf_0, textOf_3 g1] at h; simp at h
  · rw [textOf_0, textOf_2 g1 g2] at h; simp at h
  · rw [textOf_1 h1 h2, textOf_0] at h; simp at h
  · rw [textOf_1 h1 h2, textOf_1 g1 g2] at h
    simp at h
    have := dByte_inj (by omega) (by omega) (by omega) (by omega) h; omega
  · rw [textOf_1 h1 h2, textOf_3 g1] at h; simp at h
  · rw [textOf_1 h1 h2, textOf_2 g1 g2] at h; simp at h
  · rw [textOf_3 h1, textOf_0] at h; simp at h
  · rw [textOf_3 h1, textOf_1 g1 g2] at h; simp at h
  · rw [textOf_3 h1, textOf_3 g1] at h
    simp at h
    have := dByte_inj (by omega) (by omega) (by omega) (by omega) h; omega
  · rw [textOf_3 h1, textOf_2 g1 g2] at h; simp at h
  · rw [textOf_2 h1 h2, textOf_0] at h; simp at h
  · rw [textOf_2 h1 h2, textOf_1 g1 g2] at h; simp at h
  · rw [textOf_2 h1 h2, textOf_3 g1] at h; simp at h
  · rw [textOf_2 h1 h2, textOf_2 g1 g2] at h
    simp at h
    have e1 := dByte_inj (by omega) (by omega) (by omega) (by omega) h.1
    have e2 := dByte_inj (by omega) (by omega) (by omega) (by omega) h.2
    omega
end Go.Proofs.YtdfknnhdnojfdaaDoor
