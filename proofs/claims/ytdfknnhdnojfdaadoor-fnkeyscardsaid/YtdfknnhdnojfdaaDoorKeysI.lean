/-
  Own text. impl.ParseKey answers the key whose text it was given, or code 5 where there is none: every text that a program can hold.
-/
import Derived.Test.YtdfknnhdnojfdaaDoorKeysH
namespace Go.Proofs.YtdfknnhdnojfdaaDoor
open Go.RowKit

theorem byte_ne {c : UInt8} {n : Nat} (hn : n < 256) (h : c ≠ UInt8.ofNat n) : ((c.toNat : Int) == (n : Int)) = false := by
  rw [beq_eq_false_iff_ne]; intro hq
  apply h; apply UInt8.toNat_inj.1
  rw [UInt8.toNat_ofNat']; omega
theorem readKey_any (s : ByteArray) (w : World) :
    Calls Tryd.prog 23 #[.string s] w fun e w' => ReadIs s e ∧ w' = w := by
  by_cases h0 : s.size = 0
  · exact readKey_empty s w h0
  have hp : 0 < s.size := by omega
  have he : s.toList.isEmpty = false := by
    rw [ByteArray.toList_eq]; simp; intro hc; have : s.data.size = 0 := by rw [hc]; rfl
    exact h0 this
  obtain ⟨c, hc⟩ : ∃ c : UInt8, s[0] = c := ⟨_, rfl⟩
  have Hc : s.data[0]? = some c := data_at hp hc
  have sz : ∀ n : Nat, s.size = n → ((n : Int) == (s.size : Int)) = true := fun n h => by rw [h]; simp
  have szn : ∀ n : Nat, s.size ≠ n → ((n : Int) == (s.size : Int)) = false := fun n h => by rw [beq_eq_false_iff_ne]; omega
  by_cases h110 : c = 110
  · subst h110
    by_cases h1 : s.size = 1
    · exact readKey_n s w hp he hc (sz 1 h1) (is_0 h1 Hc)
    · refine readKey_n_no s w hp he hc (szn 1 h1) (none_of ?_)
      rintro (⟨h, _⟩ | ⟨_, _, h | h, _⟩ | ⟨_, _, _, h, _⟩)
      · exact h1 h
      · rw [Hc] at h; simp at h
      · rw [Hc] at h; simp at h
      · rw [Hc] at h; simp at h
  by_cases h105 : c = 105
  · subst h105
    by_cases hd : ∃ d, DigitAt s 1 9 d
    · obtain ⟨d, hd⟩ := hd
      by_cases h2 : s.size = 2
      · exact readKey_105 s w hp he hc d hd.2.2.1 hd.2.2.2 (fun w => digitAt_yes1 s 9 d w hd) (sz 2 h2) (is_1 h2 Hc hd)
      · refine readKey_105_long s w hp he hc d hd.2.2.1 hd.2.2.2 (fun w => digitAt_yes1 s 9 d w hd) (szn 2 h2) (none_of ?_)
        rintro (⟨_, h⟩ | ⟨_, h, _⟩ | ⟨_, _, _, h, _⟩)
        · rw [Hc] at h; simp at h
        · exact h2 h
        · rw [Hc] at h; simp at h
    · refine readKey_105_no s w hp he hc (fun w => digitAt_no1 s 9 w (fun d h => hd ⟨d, h⟩)) (none_of ?_)
      rintro (⟨_, h⟩ | ⟨d, _, _, h⟩ | ⟨_, _, _, h, _⟩)
      · rw [Hc] at h; simp at h
      · exact hd ⟨d, h⟩
      · rw [Hc] at h; simp at h
  by_cases h102 : c = 102
  · subst h102
    by_cases hd : ∃ d, DigitAt s 1 9 d
    · obtain ⟨d, hd⟩ := hd
      by_cases h2 : s.size = 2
      · exact readKey_102 s w hp he hc d hd.2.2.1 hd.2.2.2 (fun w => digitAt_yes1 s 9 d w hd) (sz 2 h2) (is_3 h2 Hc hd)
      · refine readKey_102_long s w hp he hc d hd.2.2.1 hd.2.2.2 (fun w => digitAt_yes1 s 9 d w hd) (szn 2 h2) (none_of ?_)
        rintro (⟨_, h⟩ | ⟨_, h, _⟩ | ⟨_, _, _, h, _⟩)
        · rw [Hc] at h; simp at h
        · exact h2 h
        · rw [Hc] at h; simp at h
    · refine readKey_102_no s w hp he hc (fun w => digitAt_no1 s 9 w (fun d h => hd ⟨d, h⟩)) (none_of ?_)
      rintro (⟨_, h⟩ | ⟨d, _, _, h⟩ | ⟨_, _, _, h, _⟩)
      · rw [Hc] at h; simp at h
      · exact hd ⟨d, h⟩
      · rw [Hc] at h; simp at h
  by_cases h101 : c = 101
  · subst h101
    by_cases hd : ∃ d, DigitAt s 1 9 d
    · obtain ⟨d, hd⟩ := hd
      have d0 := hd.2.2.1
      have d9 := hd.2.2.2
      by_cases h2 : 2 < s.size
      · obtain ⟨c2, hc2⟩ : ∃ c : UInt8, s[2] = c := ⟨_, rfl⟩
        have Hc2 : s.data[2]? = some c2 := data_at h2 hc2
        by_cases h46 : c2 = 46
        · subst h46
          by_cases hb : ∃ b, DigitAt s 3 5 b
          · obtain ⟨b, hb⟩ := hb
            by_cases h4 : s.size = 4
            · exact readKey_e s w hp he hc d d0 d9 (fun w => digitAt_yes1 s 9 d w hd) h2 hc2 b hb.2.2.1 hb.2.2.2 (fun w => digitAt_yes3 s 5 b w hb) (sz 4 h4) (is_2 h4 Hc Hc2 hd hb)
            · refine readKey_e_long s w hp he hc d d0 d9 (fun w => digitAt_yes1 s 9 d w hd) h2 hc2 b hb.2.2.1 (fun w => digitAt_yes3 s 5 b w hb) (szn 4 h4) (none_of ?_)
              rintro (⟨_, h⟩ | ⟨_, _, h | h, _⟩ | ⟨_, _, h, _⟩)
              · rw [Hc] at h; simp at h
              · rw [Hc] at h; simp at h
              · rw [Hc] at h; simp at h
              · exact h4 h
          · refine readKey_e_nodigit s w hp he hc d d0 d9 (fun w => digitAt_yes1 s 9 d w hd) h2 hc2 (fun w => digitAt_no3 s 5 w (fun d h => hb ⟨d, h⟩)) (none_of ?_)
            rintro (⟨_, h⟩ | ⟨_, _, h | h, _⟩ | ⟨_, b, _, _, _, _, h⟩)
            · rw [Hc] at h; simp at h
            · rw [Hc] at h; simp at h
            · rw [Hc] at h; simp at h
            · exact hb ⟨b, h⟩
        · refine readKey_e_nodot s w hp he hc d d0 d9 (fun w => digitAt_yes1 s 9 d w hd) h2 c2 hc2 (by have := byte_ne (n := 46) (by omega) h46; rw [bne_iff_ne]; rw [beq_eq_false_iff_ne] at this; exact this) (none_of ?_)
          rintro (⟨_, h⟩ | ⟨_, _, h | h, _⟩ | ⟨_, b, _, _, h, _, _⟩)
          · rw [Hc] at h; simp at h
          · rw [Hc] at h; simp at h
          · rw [Hc] at h; simp at h
          · rw [Hc2] at h; exact h46 (Option.some.inj h)
      · refine readKey_e_short s w hp he hc d d0 d9 (fun w => digitAt_yes1 s 9 d w hd) (by omega) (none_of ?_)
        rintro (⟨_, h⟩ | ⟨_, _, h | h, _⟩ | ⟨_, _, h, _⟩)
        · rw [Hc] at h; simp at h
        · rw [Hc] at h; simp at h
        · rw [Hc] at h; simp at h
        · omega
    · refine readKey_101_no s w hp he hc (fun w => digitAt_no1 s 9 w (fun d h => hd ⟨d, h⟩)) (none_of ?_)
      rintro (⟨_, h⟩ | ⟨_, _, h | h, _⟩ | ⟨a, _, _, _, _, h, _⟩)
      · rw [Hc] at h; simp at h
      · rw [Hc] at h; simp at h
      · rw [Hc] at h; simp at h
      · exact hd ⟨a, h⟩
  refine readKey_other s w hp he c hc (byte_ne (n := 110) (by omega) h110) (byte_ne (n := 105) (by omega) h105) (byte_ne (n := 101) (by omega) h101) (byte_ne (n := 102) (by omega) h102) (none_of ?_)
  rintro (⟨_, h⟩ | ⟨_, _, h | h, _⟩ | ⟨_, _, _, h, _⟩)
  · rw [Hc] at h; exact h110 (Option.some.inj h)
  · rw [Hc] at h; exact h105 (Option.some.inj h)
  · rw [Hc] at h; exact h102 (Option.some.inj h)
  · rw [Hc] at h; exact h101 (Option.some.inj h)

set_option maxHeartbeats 400000 in
theorem implParse_any (s : ByteArray) (w : World) :
    Calls Tryd.prog 6 #[.string s] w fun e w' => ∃ c v : Int, e = .returned (.agg #[.int .i64 c, .int .i64 v]) ∧ ParseIs s c v ∧ w' = w.alloc (.cells #[.int .i64 c, .int .i64 v] 26) := by
  go_enter Tryd.func6, Tryd.ntmps6
  go_wp2_with fail
  refine (readKey_any s _).mono ?_
  rintro e w' ⟨⟨k, r, rfl, k0, k3, r0, r1, hP⟩ | ⟨rfl, hP⟩, rfl⟩
  · have HP : Hid (ParseIs s 0 (firstK k + r)) := hP
    clear hP
    go_wp2_with fail
    refine (keyTold_any _ _ _ k0 k3 r0 r1).mono ?_
    rintro e w' ⟨rfl, rfl⟩
    go_wp2_with fail
    exact bodyPost_ret (v := .agg #[.int .i64 0, .int .i64 (firstK k + r)]) (by simp [results, Tryd.results6, go_sem]) rfl ⟨_, _, rfl, HP.out, rfl⟩
  · have HP : Hid (ParseIs s 5 0) := hP
    clear hP
    go_wp2_with fail
    exact bodyPost_ret (v := .agg #[.int .i64 5, .int .i64 0]) (by simp [results, Tryd.results6, go_sem]) rfl ⟨_, _, rfl, HP.out, rfl⟩
end Go.Proofs.YtdfknnhdnojfdaaDoor
