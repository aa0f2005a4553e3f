/-
  Own text. impl.ParseKey answers the key whose text it was given, or code 5 where there is none: every text that a program can hold.
-/
import Derived.Test.YtdfknnhdnojfdaaDoorKeysE
namespace Go.Proofs.YtdfknnhdnojfdaaDoor
open Go.RowKit

theorem data_at {s : ByteArray} {i : Nat} {c : UInt8} (h : i < s.size) (hc : s[i] = c) : s.data[i]? = some c := by
  rw [← hc]; exact Array.getElem?_eq_getElem (xs := s.data) (i := i) h
theorem dByte_digit {s : ByteArray} {i : Nat} {most d : Int} (h : DigitAt s i most d) (hm : most ≤ 9) : s.data[i]? = some (dByte d) := by
  obtain ⟨hi, hd, h0, h9⟩ := h
  refine data_at hi (UInt8.toNat_inj.1 ?_)
  rw [dByte_nat h0 (by omega)]; omega
theorem digit_of {s : ByteArray} {i : Nat} {most d : Int} (h : s.data[i]? = some (dByte d)) (h0 : 0 ≤ d) (h9 : d ≤ 9) (hm : d ≤ most) : DigitAt s i most d := by
  obtain ⟨hi, he⟩ := Array.getElem?_eq_some_iff.1 h
  refine ⟨hi, ?_, h0, hm⟩
  have : s[i] = dByte d := he
  rw [this, dByte_nat h0 h9]; omega
/-- What stands in the text of a key. -/
theorem text_facts {key : Int} (hk : faultOf key = 0) {s : ByteArray} (h : textOf key = s) :
    (s.size = 1 ∧ s.data[0]? = some 110) ∨ (∃ d, s.size = 2 ∧ (s.data[0]? = some 105 ∨ s.data[0]? = some 102) ∧ DigitAt s 1 9 d)
    ∨ (∃ a b, s.size = 4 ∧ s.data[0]? = some 101 ∧ s.data[2]? = some 46 ∧ DigitAt s 1 9 a ∧ DigitAt s 3 5 b) := by
  rcases fault_zero hk with rfl | ⟨h1, h2⟩ | ⟨h1, h2⟩ | ⟨h1, h2, h3⟩
  · rw [textOf_0] at h; subst h; exact Or.inl ⟨rfl, rfl⟩
  · rw [textOf_1 h1 h2] at h; subst h
    exact Or.inr (Or.inl ⟨key - 10, rfl, Or.inl rfl, digit_of rfl (by omega) (by omega) (by omega)⟩)
  · rw [textOf_3 h1] at h; subst h
    exact Or.inr (Or.inl ⟨key - 180, rfl, Or.inr rfl, digit_of rfl (by omega) (by omega) (by omega)⟩)
  · rw [textOf_2 h1 h2] at h; subst h
    exact Or.inr (Or.inr ⟨(key - 20) / 10, key % 10, rfl, rfl, rfl, digit_of rfl (by omega) (by omega) (by omega), digit_of rfl (by omega) (by omega) (by omega)⟩)
theorem none_of {s : ByteArray} (h : ¬ ((s.size = 1 ∧ s.data[0]? = some 110) ∨ (∃ d, s.size = 2 ∧ (s.data[0]? = some 105 ∨ s.data[0]? = some 102) ∧ DigitAt s 1 9 d)
    ∨ (∃ a b, s.size = 4 ∧ s.data[0]? = some 101 ∧ s.data[2]? = some 46 ∧ DigitAt s 1 9 a ∧ DigitAt s 3 5 b))) : ParseIs s 5 0 :=
  Or.inr ⟨rfl, rfl, fun _ hk ht => h (text_facts hk ht)⟩
theorem is_0 {s : ByteArray} (hs : s.size = 1) (h0 : s.data[0]? = some 110) : ParseIs s 0 (firstK 0 + 0) := by
  refine Or.inl ⟨rfl, faultOf_ok (Or.inl rfl), ?_⟩
  show textOf 0 = s
  rw [textOf_0]
  refine ByteArray.ext (Array.ext_getElem? fun i => ?_)
  match i with
  | 0 => exact h0.symm
  | i + 1 => rw [Array.getElem?_eq_none (by simp), Array.getElem?_eq_none (by show s.size ≤ _; omega)]
theorem is_1 {s : ByteArray} {d : Int} (hs : s.size = 2) (h0 : s.data[0]? = some 105) (h : DigitAt s 1 9 d) : ParseIs s 0 (firstK 1 + d) := by
  have hd := h; obtain ⟨_, _, hd0, hd9⟩ := hd
  have e : firstK 1 + d = 10 + d := rfl
  rw [e]
  refine Or.inl ⟨rfl, faultOf_ok (by omega), ?_⟩
  rw [textOf_1 (by omega) (by omega), show 10 + d - 10 = d from by omega]
  refine ByteArray.ext (Array.ext_getElem? fun i => ?_)
  match i with
  | 0 => exact h0.symm
  | 1 => exact (dByte_digit h (by omega)).symm
  | i + 2 => rw [Array.getElem?_eq_none (by simp), Array.getElem?_eq_none (by show s.size ≤ _; omega)]
theorem is_3 {s : ByteArray} {d : Int} (hs : s.size = 2) (h0 : s.data[0]? = some 102) (h : DigitAt s 1 9 d) : ParseIs s 0 (firstK 3 + d) := by
  have hd := h; obtain ⟨_, _, hd0, hd9⟩ := hd
  have e : firstK 3 + d = 180 + d := rfl
  rw [e]
  refine Or.inl ⟨rfl, faultOf_ok (by omega), ?_⟩
  rw [textOf_3 (by omega), show 180 + d - 180 = d from by omega]
  refine ByteArray.ext (Array.ext_getElem? fun i => ?_)
  match i with
  | 0 => exact h0.symm
  | 1 => exact (dByte_digit h (by omega)).symm
  | i + 2 => rw [Array.getElem?_eq_none (by simp), Array.getElem?_eq_none (by show s.size ≤ _; omega)]
theorem is_2 {s : ByteArray} {a b : Int} (hs : s.size = 4) (h0 : s.data[0]? = some 101) (h2 : s.data[2]? = some 46) (ha : DigitAt s 1 9 a) (hb : DigitAt s 3 5 b) : ParseIs s 0 (firstK 2 + (a * 10 + b)) := by
  have hd := ha; obtain ⟨_, _, a0, a9⟩ := hd
  have hd := hb; obtain ⟨_, _, b0, b5⟩ := hd
  have e : firstK 2 + (a * 10 + b) = 20 + (a * 10 + b) := rfl
  rw [e]
  refine Or.inl ⟨rfl, faultOf_ok (by omega), ?_⟩
  rw [textOf_2 (by omega) (by omega), show (20 + (a * 10 + b) - 20) / 10 = a from by omega, show (20 + (a * 10 + b)) % 10 = b from by omega]
  refine ByteArray.ext (Array.ext_getElem? fun i => ?_)
  match i with
  | 0 => exact h0.symm
  | 1 => exact (dByte_digit ha (by omega)).symm
  | 2 => exact h2.symm
  | 3 => exact (dByte_digit hb (by omega)).symm
  | i + 4 => rw [Array.getElem?_eq_none (by simp), Array.getElem?_eq_none (by show s.size ≤ _; omega)]

/-- What readKey answers. -/
def ReadIs (s : ByteArray) (e : Ending) : Prop :=
  (∃ k r : Int, e = .returned (.tuple #[.complex .f64 (floatOfInt .f64 k) (floatOfInt .f64 r), .bool true]) ∧ 0 ≤ k ∧ k ≤ 3 ∧ 0 ≤ r ∧ r ≤ 199 ∧ ParseIs s 0 (firstK k + r))
  ∨ (e = .returned (.tuple #[.complex .f64 0 0, .bool false]) ∧ ParseIs s 5 0)

set_option maxHeartbeats 400000 in
theorem readKey_empty (s : ByteArray) (w : World) (h0 : s.size = 0) :
    Calls Tryd.prog 23 #[.string s] w fun e w' => ReadIs s e ∧ w' = w := by
  have HN : Hid (ParseIs s 5 0) := none_of (by rintro (⟨h, _⟩ | ⟨_, h, _⟩ | ⟨_, _, h, _⟩) <;> omega)
  have he : s.toList.isEmpty = true := by rw [ByteArray.toList_eq]; simp; exact Array.eq_empty_of_size_eq_zero h0
  clear h0
  go_enter Tryd.func23, Tryd.ntmps23
  go_wp2
  refine wp_scope_jumpsN 6 ?_
  go_wp2_with fail
  go_step3
  refine ⟨_, rfl, ?_⟩
  go_wp2_with fail
  rw [jumpsN_ret]
  go_ret2
  exact ⟨Or.inr ⟨rfl, HN.out⟩, rfl⟩

set_option maxHeartbeats 400000 in
theorem readKey_n (s : ByteArray) (w : World) (hp : 0 < s.size) (he : s.toList.isEmpty = false) (hc : s[0] = 110) (dl : ((1 : Int) == (s.size : Int)) = true) (HP : Hid (ParseIs s 0 (firstK 0 + 0))) :
    Calls Tryd.prog 23 #[.string s] w fun e w' => ReadIs s e ∧ w' = w := by
  go_enter Tryd.func23, Tryd.ntmps23
  go_wp2
  refine wp_scope_jumpsN 6 ?_
  go_wp2_with fail
  go_step3
  refine ⟨_, rfl, ?_⟩
  go_wp2_with fail
  refine (tellParts_other _ _ _ _ rfl).mono ?_
  rintro e w' ⟨rfl, rfl⟩
  go_wp2_with fail
  rw [jumpsN_ret]
  go_ret2
  exact ⟨Or.inl ⟨0, 0, rfl, by omega, by omega, by omega, by omega, HP.out⟩, rfl⟩

set_option maxHeartbeats 400000 in
theorem readKey_n_no (s : ByteArray) (w : World) (hp : 0 < s.size) (he : s.toList.isEmpty = false) (hc : s[0] = 110) (dl : ((1 : Int) == (s.size : Int)) = false) (HN : Hid (ParseIs s 5 0)) :
    Calls Tryd.prog 23 #[.string s] w fun e w' => ReadIs s e ∧ w' = w := by
  go_enter Tryd.func23, Tryd.ntmps23
  go_wp2
  refine wp_scope_jumpsN 6 ?_
  go_wp2_with fail
  go_step3
  refine ⟨_, rfl, ?_⟩
  go_wp2_with fail
  go_step3
  go_wp2_with fail
  rw [jumpsN_ret]
  go_ret2
  exact ⟨Or.inr ⟨rfl, HN.out⟩, rfl⟩

set_option maxHeartbeats 400000 in
theorem readKey_105 (s : ByteArray) (w : World) (hp : 0 < s.size) (he : s.toList.isEmpty = false) (hc : s[0] = 105) (d : Int) (d0 : 0 ≤ d) (d9 : d ≤ 9) (HD : Hid (∀ w, Calls Tryd.prog 36 #[.string s, .int .i64 1, .int .i64 9] w fun e w' => e = .returned (.int .i64 d) ∧ w' = w)) (dl : ((2 : Int) == (s.size : Int)) = true) (HP : Hid (ParseIs s 0 (firstK 1 + d))) :
    Calls Tryd.prog 23 #[.string s] w fun e w' => ReadIs s e ∧ w' = w := by
  go_enter Tryd.func23, Tryd.ntmps23
  go_wp2
  refine wp_scope_jumpsN 6 ?_
  go_wp2_with fail
  go_step3
  refine ⟨_, rfl, ?_⟩
  go_wp2_with fail
  refine (HD.out _).mono ?_
  rintro e w' ⟨rfl, rfl⟩
  go_wp2_with fail
  go_step3
  refine ⟨_, rfl, ?_⟩
  go_wp2_with fail
  refine (tellParts_other _ _ _ _ rfl).mono ?_
  rintro e w' ⟨rfl, rfl⟩
  go_wp2_with fail
  rw [jumpsN_ret]
  go_ret2
  exact ⟨Or.inl ⟨1, d, rfl, by omega, by omega, d0, by omega, HP.out⟩, rfl⟩

set_option maxHeartbeats 400000 in
theorem readKey_105_long (s : ByteArray) (w : World) (hp : 0 < s.size) (he : s.toList.isEmpty = false) (hc : s[0] = 105) (d : Int) (d0 : 0 ≤ d) (_d9 : d ≤ 9) (HD : Hid (∀ w, Calls Tryd.prog 36 #[.string s, .int .i64 1, .int .i64 9] w fun e w' => e = .returned (.int .i64 d) ∧ w' = w)) (dl : ((2 : Int) == (s.size : Int)) = false) (HN : Hid (ParseIs s 5 0)) :
    Calls Tryd.prog 23 #[.string s] w fun e w' => ReadIs s e ∧ w' = w := by
  go_enter Tryd.func23, Tryd.ntmps23
  go_wp2
  refine wp_scope_jumpsN 6 ?_
  go_wp2_with fail
  go_step3
  refine ⟨_, rfl, ?_⟩
  go_wp2_with fail
  refine (HD.out _).mono ?_
  rintro e w' ⟨rfl, rfl⟩
  go_wp2_with fail
  go_step3
  refine ⟨_, rfl, ?_⟩
  go_wp2_with fail
  go_step3
  go_wp2_with fail
  rw [jumpsN_ret]
  go_ret2
  exact ⟨Or.inr ⟨rfl, HN.out⟩, rfl⟩

set_option maxHeartbeats 400000 in
theorem readKey_102 (s : ByteArray) (w : World) (hp : 0 < s.size) (he : s.toList.isEmpty = false) (hc : s[0] = 102) (d : Int) (d0 : 0 ≤ d) (d9 : d ≤ 9) (HD : Hid (∀ w, Calls Tryd.prog 36 #[.string s, .int .i64 1, .int .i64 9] w fun e w' => e = .returned (.int .i64 d) ∧ w' = w)) (dl : ((2 : Int) == (s.size : Int)) = true) (HP : Hid (ParseIs s 0 (firstK 3 + d))) :
    Calls Tryd.prog 23 #[.string s] w fun e w' => ReadIs s e ∧ w' = w := by
  go_enter Tryd.func23, Tryd.ntmps23
  go_wp2
  refine wp_scope_jumpsN 6 ?_
  go_wp2_with fail
  go_step3
  refine ⟨_, rfl, ?_⟩
  go_wp2_with fail
  refine (HD.out _).mono ?_
  rintro e w' ⟨rfl, rfl⟩
  go_wp2_with fail
  go_step3
  refine ⟨_, rfl, ?_⟩
  go_wp2_with fail
  refine (tellParts_other _ _ _ _ rfl).mono ?_
  rintro e w' ⟨rfl, rfl⟩
  go_wp2_with fail
  rw [jumpsN_ret]
  go_ret2
  exact ⟨Or.inl ⟨3, d, rfl, by omega, by omega, d0, by omega, HP.out⟩, rfl⟩

set_option maxHeartbeats 400000 in
theorem readKey_102_long (s : ByteArray) (w : World) (hp : 0 < s.size) (he : s.toList.isEmpty = false) (hc : s[0] = 102) (d : Int) (d0 : 0 ≤ d) (_d9 : d ≤ 9) (HD : Hid (∀ w, Calls Tryd.prog 36 #[.string s, .int .i64 1, .int .i64 9] w fun e w' => e = .returned (.int .i64 d) ∧ w' = w)) (dl : ((2 : Int) == (s.size : Int)) = false) (HN : Hid (ParseIs s 5 0)) :
    Calls Tryd.prog 23 #[.string s] w fun e w' => ReadIs s e ∧ w' = w := by
  go_enter Tryd.func23, Tryd.ntmps23
  go_wp2
  refine wp_scope_jumpsN 6 ?_
  go_wp2_with fail
  go_step3
  refine ⟨_, rfl, ?_⟩
  go_wp2_with fail
  refine (HD.out _).mono ?_
  rintro e w' ⟨rfl, rfl⟩
  go_wp2_with fail
  go_step3
  refine ⟨_, rfl, ?_⟩
  go_wp2_with fail
  go_step3
  go_wp2_with fail
  rw [jumpsN_ret]
  go_ret2
  exact ⟨Or.inr ⟨rfl, HN.out⟩, rfl⟩

set_option maxHeartbeats 400000 in
theorem readKey_105_no (s : ByteArray) (w : World) (hp : 0 < s.size) (he : s.toList.isEmpty = false) (hc : s[0] = 105) (HD : Hid (∀ w, Calls Tryd.prog 36 #[.string s, .int .i64 1, .int .i64 9] w fun e w' => e = .returned (.int .i64 (-1)) ∧ w' = w)) (HN : Hid (ParseIs s 5 0)) :
    Calls Tryd.prog 23 #[.string s] w fun e w' => ReadIs s e ∧ w' = w := by
  go_enter Tryd.func23, Tryd.ntmps23
  go_wp2
  refine wp_scope_jumpsN 6 ?_
  go_wp2_with fail
  go_step3
  refine ⟨_, rfl, ?_⟩
  go_wp2_with fail
  refine (HD.out _).mono ?_
  rintro e w' ⟨rfl, rfl⟩
  go_wp2_with fail
  go_step3
  refine ⟨_, rfl, ?_⟩
  go_wp2_with fail
  rw [jumpsN_ret]
  go_ret2
  exact ⟨Or.inr ⟨rfl, HN.out⟩, rfl⟩

set_option maxHeartbeats 400000 in
theorem readKey_102_no (s : ByteArray) (w : World) (hp : 0 < s.size) (he : s.toList.isEmpty = false) (hc : s[0] = 102) (HD : Hid (∀ w, Calls Tryd.prog 36 #[.string s, .int .i64 1, .int .i64 9] w fun e w' => e = .returned (.int .i64 (-1)) ∧ w' = w)) (HN : Hid (ParseIs s 5 0)) :
    Calls Tryd.prog 23 #[.string s] w fun e w' => ReadIs s e ∧ w' = w := by
  go_enter Tryd.func23, Tryd.ntmps23
  go_wp2
  refine wp_scope_jumpsN 6 ?_
  go_wp2_with fail
  go_step3
  refine ⟨_, rfl, ?_⟩
  go_wp2_with fail
  refine (HD.out _).mono ?_
  rintro e w' ⟨rfl, rfl⟩
  go_wp2_with fail
  go_step3
  refine ⟨_, rfl, ?_⟩
  go_wp2_with fail
  rw [jumpsN_ret]
  go_ret2
  exact ⟨Or.inr ⟨rfl, HN.out⟩, rfl⟩

set_option maxHeartbeats 400000 in
theorem readKey_101_no (s : ByteArray) (w : World) (hp : 0 < s.size) (he : s.toList.isEmpty = false) (hc : s[0] = 101) (HD : Hid (∀ w, Calls Tryd.prog 36 #[.string s, .int .i64 1, .int .i64 9] w fun e w' => e = .returned (.int .i64 (-1)) ∧ w' = w)) (HN : Hid (ParseIs s 5 0)) :
    Calls Tryd.prog 23 #[.string s] w fun e w' => ReadIs s e ∧ w' = w := by
  go_enter Tryd.func23, Tryd.ntmps23
  go_wp2
  refine wp_scope_jumpsN 6 ?_
  go_wp2_with fail
  go_step3
  refine ⟨_, rfl, ?_⟩
  go_wp2_with fail
  refine (HD.out _).mono ?_
  rintro e w' ⟨rfl, rfl⟩
  go_wp2_with fail
  go_step3
  refine ⟨_, rfl, ?_⟩
  go_wp2_with fail
  rw [jumpsN_ret]
  go_ret2
  exact ⟨Or.inr ⟨rfl, HN.out⟩, rfl⟩

set_option maxHeartbeats 400000 in
theorem readKey_e_short (s : ByteArray) (w : World) (hp : 0 < s.size) (he : s.toList.isEmpty = false) (hc : s[0] = 101) (d : Int) (d0 : 0 ≤ d) (_d9 : d ≤ 9) (HD : Hid (∀ w, Calls Tryd.prog 36 #[.string s, .int .i64 1, .int .i64 9] w fun e w' => e = .returned (.int .i64 d) ∧ w' = w)) (h2 : s.size ≤ 2) (HN : Hid (ParseIs s 5 0)) :
    Calls Tryd.prog 23 #[.string s] w fun e w' => ReadIs s e ∧ w' = w := by
  go_enter Tryd.func23, Tryd.ntmps23
  go_wp2
  refine wp_scope_jumpsN 6 ?_
  go_wp2_with fail
  go_step3
  refine ⟨_, rfl, ?_⟩
  go_wp2_with fail
  refine (HD.out _).mono ?_
  rintro e w' ⟨rfl, rfl⟩
  go_wp2_with fail
  go_step3
  refine ⟨_, rfl, ?_⟩
  go_wp2_with fail
  go_step3
  refine ⟨_, rfl, ?_⟩
  go_wp2_with fail
  rw [jumpsN_ret]
  go_ret2
  exact ⟨Or.inr ⟨rfl, HN.out⟩, rfl⟩

set_option maxHeartbeats 400000 in
theorem readKey_e_nodot (s : ByteArray) (w : World) (hp : 0 < s.size) (he : s.toList.isEmpty = false) (hc : s[0] = 101) (d : Int) (d0 : 0 ≤ d) (_d9 : d ≤ 9) (HD : Hid (∀ w, Calls Tryd.prog 36 #[.string s, .int .i64 1, .int .i64 9] w fun e w' => e = .returned (.int .i64 d) ∧ w' = w)) (h2 : 2 < s.size) (c2 : UInt8) (hc2 : s[2] = c2) (b46 : ((c2.toNat : Int) != 46) = true) (HN : Hid (ParseIs s 5 0)) :
    Calls Tryd.prog 23 #[.string s] w fun e w' => ReadIs s e ∧ w' = w := by
  go_enter Tryd.func23, Tryd.ntmps23
  go_wp2
  refine wp_scope_jumpsN 6 ?_
  go_wp2_with fail
  go_step3
  refine ⟨_, rfl, ?_⟩
  go_wp2_with fail
  refine (HD.out _).mono ?_
  rintro e w' ⟨rfl, rfl⟩
  go_wp2_with fail
  go_step3
  refine ⟨_, rfl, ?_⟩
  go_wp2_with fail
  go_step3
  refine ⟨_, rfl, ?_⟩
  go_wp2_with fail
  rw [jumpsN_ret]
  go_ret2
  exact ⟨Or.inr ⟨rfl, HN.out⟩, rfl⟩

set_option maxHeartbeats 400000 in
theorem readKey_e_nodigit (s : ByteArray) (w : World) (hp : 0 < s.size) (he : s.toList.isEmpty = false) (hc : s[0] = 101) (d : Int) (d0 : 0 ≤ d) (_d9 : d ≤ 9) (HD : Hid (∀ w, Calls Tryd.prog 36 #[.string s, .int .i64 1, .int .i64 9] w fun e w' => e = .returned (.int .i64 d) ∧ w' = w)) (h2 : 2 < s.size) (hc2 : s[2] = 46) (HB : Hid (∀ w, Calls Tryd.prog 36 #[.string s, .int .i64 3, .int .i64 5] w fun e w' => e = .returned (.int .i64 (-1)) ∧ w' = w)) (HN : Hid (ParseIs s 5 0)) :
    Calls Tryd.prog 23 #[.string s] w fun e w' => ReadIs s e ∧ w' = w := by
  go_enter Tryd.func23, Tryd.ntmps23
  go_wp2
  refine wp_scope_jumpsN 6 ?_
  go_wp2_with fail
  go_step3
  refine ⟨_, rfl, ?_⟩
  go_wp2_with fail
  refine (HD.out _).mono ?_
  rintro e w' ⟨rfl, rfl⟩
  go_wp2_with fail
  go_step3
  refine ⟨_, rfl, ?_⟩
  go_wp2_with fail
  refine (HB.out _).mono ?_
  rintro e w' ⟨rfl, rfl⟩
  go_wp2_with fail
  go_step3
  refine ⟨_, rfl, ?_⟩
  go_wp2_with fail
  rw [jumpsN_ret]
  go_ret2
  exact ⟨Or.inr ⟨rfl, HN.out⟩, rfl⟩

set_option maxHeartbeats 400000 in
theorem readKey_e_long (s : ByteArray) (w : World) (hp : 0 < s.size) (he : s.toList.isEmpty = false) (hc : s[0] = 101) (d : Int) (d0 : 0 ≤ d) (_d9 : d ≤ 9) (HD : Hid (∀ w, Calls Tryd.prog 36 #[.string s, .int .i64 1, .int .i64 9] w fun e w' => e = .returned (.int .i64 d) ∧ w' = w)) (h2 : 2 < s.size) (hc2 : s[2] = 46) (b : Int) (b0 : 0 ≤ b) (HB : Hid (∀ w, Calls Tryd.prog 36 #[.string s, .int .i64 3, .int .i64 5] w fun e w' => e = .returned (.int .i64 b) ∧ w' = w)) (dl : ((4 : Int) == (s.size : Int)) = false) (HN : Hid (ParseIs s 5 0)) :
    Calls Tryd.prog 23 #[.string s] w fun e w' => ReadIs s e ∧ w' = w := by
  go_enter Tryd.func23, Tryd.ntmps23
  go_wp2
  refine wp_scope_jumpsN 6 ?_
  go_wp2_with fail
  go_step3
  refine ⟨_, rfl, ?_⟩
  go_wp2_with fail
  refine (HD.out _).mono ?_
  rintro e w' ⟨rfl, rfl⟩
  go_wp2_with fail
  go_step3
  refine ⟨_, rfl, ?_⟩
  go_wp2_with fail
  refine (HB.out _).mono ?_
  rintro e w' ⟨rfl, rfl⟩
  go_wp2_with fail
  go_step3
  go_wp2_with fail
  go_step3
  go_wp2_with fail
  rw [jumpsN_ret]
  go_ret2
  exact ⟨Or.inr ⟨rfl, HN.out⟩, rfl⟩

set_option maxHeartbeats 400000 in
theorem readKey_e (s : ByteArray) (w : World) (hp : 0 < s.size) (he : s.toList.isEmpty = false) (hc : s[0] = 101) (d : Int) (d0 : 0 ≤ d) (d9 : d ≤ 9) (HD : Hid (∀ w, Calls Tryd.prog 36 #[.string s, .int .i64 1, .int .i64 9] w fun e w' => e = .returned (.int .i64 d) ∧ w' = w)) (h2 : 2 < s.size) (hc2 : s[2] = 46) (b : Int) (b0 : 0 ≤ b) (b5 : b ≤ 5) (HB : Hid (∀ w, Calls Tryd.prog 36 #[.string s, .int .i64 3, .int .i64 5] w fun e w' => e = .returned (.int .i64 b) ∧ w' = w)) (dl : ((4 : Int) == (s.size : Int)) = true) (HP : Hid (ParseIs s 0 (firstK 2 + (d * 10 + b)))) :
    Calls Tryd.prog 23 #[.string s] w fun e w' => ReadIs s e ∧ w' = w := by
  go_enter Tryd.func23, Tryd.ntmps23
  go_wp2
  refine wp_scope_jumpsN 6 ?_
  go_wp2_with fail
  go_step3
  refine ⟨_, rfl, ?_⟩
  go_wp2_with fail
  refine (HD.out _).mono ?_
  rintro e w' ⟨rfl, rfl⟩
  go_wp2_with fail
  go_step3
  refine ⟨_, rfl, ?_⟩
  go_wp2_with fail
  refine (HB.out _).mono ?_
  rintro e w' ⟨rfl, rfl⟩
  go_wp2_with fail
  go_step3
  go_wp2_with fail
  refine (tellParts_entry _ _ _ d0 d9 b0 b5).mono ?_
  rintro e w' ⟨rfl, rfl⟩
  go_wp2_with fail
  rw [jumpsN_ret]
  go_ret2
  exact ⟨Or.inl ⟨2, d * 10 + b, rfl, by omega, by omega, by omega, by omega, HP.out⟩, rfl⟩

set_option maxHeartbeats 400000 in
theorem readKey_other (s : ByteArray) (w : World) (hp : 0 < s.size) (he : s.toList.isEmpty = false) (c : UInt8) (hc : s[0] = c) (b110 : ((c.toNat : Int) == 110) = false) (b105 : ((c.toNat : Int) == 105) = false) (b101 : ((c.toNat : Int) == 101) = false) (b102 : ((c.toNat : Int) == 102) = false) (HN : Hid (ParseIs s 5 0)) :
    Calls Tryd.prog 23 #[.string s] w fun e w' => ReadIs s e ∧ w' = w := by
  go_enter Tryd.func23, Tryd.ntmps23
  go_wp2
  refine wp_scope_jumpsN 6 ?_
  go_wp2_with fail
  go_step3
  refine ⟨_, rfl, ?_⟩
  go_wp2_with fail
  rw [jumpsN_ret]
  go_ret2
  exact ⟨Or.inr ⟨rfl, HN.out⟩, rfl⟩

end Go.Proofs.YtdfknnhdnojfdaaDoor
