/-
  Own text. impl.KeyText and spec.KeyText answer one and the same at every argument (code and text): no condition.
-/
import Derived.Test.YtdfknnhdnojfdaaDoorKeysF
namespace Go.Proofs.YtdfknnhdnojfdaaDoor
open Go.RowKit

set_option maxHeartbeats 1000000 in
theorem formatInt_any (n : Int) (w : World) (h0 : 0 ≤ n) (h9 : n ≤ 9) :
    Calls Tryd.prog 25 #[.int .i64 n, .int .i64 10] w fun e w' => e = .returned (.string ⟨#[dByte n]⟩) ∧ w' = w := by
  obtain rfl | rfl | rfl | rfl | rfl | rfl | rfl | rfl | rfl | rfl : n = 0 ∨ n = 1 ∨ n = 2 ∨ n = 3 ∨ n = 4 ∨ n = 5 ∨ n = 6 ∨ n = 7 ∨ n = 8 ∨ n = 9 := by omega
  all_goals
    go_enter Tryd.func25, Tryd.ntmps25
    go_wp2
    go_ret
    exact ⟨rfl, rfl⟩

/-- What both answer: the code, and the text where the code is 0. -/
def keyTx (key : Int) : ByteArray := if faultOf key = 0 then textOf key else ⟨#[]⟩
set_option maxHeartbeats 1000000 in
theorem implKeyText_any (key : Int) (w : World) :
    Calls Tryd.prog 7 #[.int .i64 key] w fun e w' => e = .returned (.agg #[.int .i64 (faultOf key), .string (keyTx key)]) ∧ Below w.heap.size w w' := by
  rcases parts_ways key with ⟨h, e1, e2, e3⟩ | ⟨rfl, h, e1, e2, e3⟩ | ⟨h1, h2, h, e1, e2, e3⟩ | ⟨h1, h2, h3, h, e1, e2, e3⟩ | ⟨h1, h2, h, e1, e2, e3⟩
  · have HP : Hid (∀ w, Calls Tryd.prog 10 #[.int .i64 key] w fun e w' => e = .returned (.agg #[.int .i64 (faultOf key), .int .i64 0, .int .i64 0, .int .i64 0]) ∧ w' = w.alloc (.cells #[.int .i64 (faultOf key), .int .i64 0, .int .i64 0, .int .i64 0] 33)) := fun w => by
      have := implPartsOf_any key w; unfold partsVal partsObj at this; rw [e1, e2, e3] at this; exact this
    have et : keyTx key = ⟨#[]⟩ := by unfold keyTx; rw [if_neg h]
    rw [et]
    have d : (faultOf key != 0) = true := by rw [bne_iff_ne]; exact h
    generalize faultOf key = c at *
    clear et h e1 e2 e3
    go_enter Tryd.func7, Tryd.ntmps7
    go_wp2_with fail
    refine (HP.out _).mono ?_
    rintro e w' ⟨rfl, rfl⟩
    go_wp2_with fail
    exact bodyPost_ret (v := .agg #[.int .i64 c, .string ⟨#[]⟩]) (by simp [results, Tryd.results7, go_sem]) rfl ⟨rfl, (((Below.refl _ _).alloc (Nat.le_refl _) _).alloc (by simp) _).alloc (by simp; omega) _⟩
  · have HP : Hid (∀ w, Calls Tryd.prog 10 #[.int .i64 0] w fun e w' => e = .returned (.agg #[.int .i64 0, .int .i64 0, .int .i64 0, .int .i64 0]) ∧ w' = w.alloc (.cells #[.int .i64 0, .int .i64 0, .int .i64 0, .int .i64 0] 33)) := fun w => by
      have := implPartsOf_any 0 w; unfold partsVal partsObj at this; rw [e1, e2, e3, h] at this; exact this
    have et : keyTx 0 = textOf 0 := by unfold keyTx; rw [if_pos h]
    rw [et, h, textOf_0]
    clear et h e1 e2 e3
    go_enter Tryd.func7, Tryd.ntmps7
    go_wp2_with fail
    refine (HP.out _).mono ?_
    rintro e w' ⟨rfl, rfl⟩
    go_wp2_with fail
    refine (formatInt_any _ _ (by omega) (by omega)).mono ?_
    rintro e w' ⟨rfl, rfl⟩
    go_wp2_with fail
    exact bodyPost_ret (v := .agg #[.int .i64 0, .string ⟨#[110]⟩]) (by simp [results, Tryd.results7, go_sem]) rfl ⟨rfl, (((Below.refl _ _).alloc (Nat.le_refl _) _).alloc (by simp) _).alloc (by simp; omega) _⟩
  · have HP : Hid (∀ w, Calls Tryd.prog 10 #[.int .i64 key] w fun e w' => e = .returned (.agg #[.int .i64 0, .int .i64 1, .int .i64 (key - 10), .int .i64 0]) ∧ w' = w.alloc (.cells #[.int .i64 0, .int .i64 1, .int .i64 (key - 10), .int .i64 0] 33)) := fun w => by
      have := implPartsOf_any key w; unfold partsVal partsObj at this; rw [e1, e2, e3, h] at this; exact this
    have et : keyTx key = textOf key := by unfold keyTx; rw [if_pos h]
    rw [et, h]
    clear et h e1 e2 e3
    rw [textOf_1 h1 h2]
    go_enter Tryd.func7, Tryd.ntmps7
    go_wp2_with fail
    refine (HP.out _).mono ?_
    rintro e w' ⟨rfl, rfl⟩
    go_wp2_with fail
    refine (formatInt_any _ _ (by omega) (by omega)).mono ?_
    rintro e w' ⟨rfl, rfl⟩
    go_wp2_with fail
    exact bodyPost_ret (v := .agg #[.int .i64 0, .string ⟨#[105, dByte (key - 10)]⟩]) (by simp [results, Tryd.results7, go_sem]; rfl) rfl ⟨rfl, (((Below.refl _ _).alloc (Nat.le_refl _) _).alloc (by simp) _).alloc (by simp; omega) _⟩
  · have HP : Hid (∀ w, Calls Tryd.prog 10 #[.int .i64 key] w fun e w' => e = .returned (.agg #[.int .i64 0, .int .i64 2, .int .i64 ((key - 20) / 10), .int .i64 (key % 10)]) ∧ w' = w.alloc (.cells #[.int .i64 0, .int .i64 2, .int .i64 ((key - 20) / 10), .int .i64 (key % 10)] 33)) := fun w => by
      have := implPartsOf_any key w; unfold partsVal partsObj at this; rw [e1, e2, e3, h] at this; exact this
    have et : keyTx key = textOf key := by unfold keyTx; rw [if_pos h]
    rw [et, h]
    clear et h e1 e2 e3
    rw [textOf_2 h1 h2]
    go_enter Tryd.func7, Tryd.ntmps7
    go_wp2_with fail
    refine (HP.out _).mono ?_
    rintro e w' ⟨rfl, rfl⟩
    go_wp2_with fail
    refine (formatInt_any _ _ (by omega) (by omega)).mono ?_
    rintro e w' ⟨rfl, rfl⟩
    go_wp2_with fail
    refine (formatInt_any _ _ (by omega) (by omega)).mono ?_
    rintro e w' ⟨rfl, rfl⟩
    go_wp2_with fail
    exact bodyPost_ret (v := .agg #[.int .i64 0, .string ⟨#[101, dByte ((key - 20) / 10), 46, dByte (key % 10)]⟩]) (by simp [results, Tryd.results7, go_sem]; rfl) rfl ⟨rfl, (((Below.refl _ _).alloc (Nat.le_refl _) _).alloc (by simp) _).alloc (by simp; omega) _⟩
  · have HP : Hid (∀ w, Calls Tryd.prog 10 #[.int .i64 key] w fun e w' => e = .returned (.agg #[.int .i64 0, .int .i64 3, .int .i64 (key - 180), .int .i64 0]) ∧ w' = w.alloc (.cells #[.int .i64 0, .int .i64 3, .int .i64 (key - 180), .int .i64 0] 33)) := fun w => by
      have := implPartsOf_any key w; unfold partsVal partsObj at this; rw [e1, e2, e3, h] at this; exact this
    have et : keyTx key = textOf key := by unfold keyTx; rw [if_pos h]
    rw [et, h]
    clear et h e1 e2 e3
    rw [textOf_3 h1]
    go_enter Tryd.func7, Tryd.ntmps7
    go_wp2_with fail
    refine (HP.out _).mono ?_
    rintro e w' ⟨rfl, rfl⟩
    go_wp2_with fail
    refine (formatInt_any _ _ (by omega) (by omega)).mono ?_
    rintro e w' ⟨rfl, rfl⟩
    go_wp2_with fail
    exact bodyPost_ret (v := .agg #[.int .i64 0, .string ⟨#[102, dByte (key - 180)]⟩]) (by simp [results, Tryd.results7, go_sem]; rfl) rfl ⟨rfl, (((Below.refl _ _).alloc (Nat.le_refl _) _).alloc (by simp) _).alloc (by simp; omega) _⟩
end Go.Proofs.YtdfknnhdnojfdaaDoor
