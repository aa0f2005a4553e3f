/-
  Own text. spec.ParseKey answers the key whose text it was given, or code 5 where there is none: every text that a program can hold.
-/
import Derived.Test.YtdfknnhdnojfdaaDoorKeysF
namespace Go.Proofs.YtdfknnhdnojfdaaDoor
open Go.RowKit

/-- What is read of a text: code 0 and the key whose text it is, or code 5 and 0 where it is the text of none. -/
def ParseIs (s : ByteArray) (c v : Int) : Prop := (c = 0 ∧ faultOf v = 0 ∧ textOf v = s) ∨ (c = 5 ∧ v = 0 ∧ ∀ key, faultOf key = 0 → textOf key ≠ s)
theorem ParseIs.one {s : ByteArray} {c v c' v' : Int} (h : ParseIs s c v) (h' : ParseIs s c' v') : c = c' ∧ v = v' := by
  rcases h with ⟨rfl, hf, ht⟩ | ⟨rfl, rfl, hn⟩ <;> rcases h' with ⟨rfl, hf', ht'⟩ | ⟨rfl, rfl, hn'⟩
  · exact ⟨rfl, textOf_inj hf hf' (ht.trans ht'.symm)⟩
  · exact absurd ht (hn' _ hf)
  · exact absurd ht' (hn _ hf')
  · exact ⟨rfl, rfl⟩
theorem bcell {W w1 : World} (hb : Below W.heap.size W w1) : (∀ b o, b < W.heap.size → w1.cell? ⟨b, o, none⟩ = W.cell? ⟨b, o, none⟩) ∧ (∀ b o, b < W.heap.size → w1.frozen? ⟨b, o, none⟩ = W.frozen? ⟨b, o, none⟩) :=
  ⟨fun b o h => hb.cell (p := ⟨b, o, none⟩) h, fun b o h => hb.frozen (p := ⟨b, o, none⟩) h⟩

set_option maxHeartbeats 1000000 in
theorem specParse_any (s : ByteArray) (w : World) :
    Calls Tryd.prog 8 #[.string s] w fun e w' => ∃ c v : Int, e = .returned (.agg #[.int .i64 c, .int .i64 v]) ∧ ParseIs s c v ∧ Below w.heap.size w w' := by
  go_enter Tryd.func8, Tryd.ntmps8
  go_wp2
  go_loopw [3] (fun k wr => ∃ n : Nat, k = .int .i64 n ∧ n ≤ 200 ∧ Hid (∀ j : Int, 0 ≤ j → j < n → faultOf j = 0 → textOf j ≠ s) ∧ Below (w.heap.size + 1) (w.alloc (.cells #[.int .i64 0, .int .i64 0] 26)) wr) (fun k _ => 200 - (intOf k).toNat)
  case atStart => exact ⟨0, rfl, by omega, fun j h0 h1 => by omega, Below.refl _ _⟩
  case round =>
    obtain ⟨n, rfl, hn, hno, hb⟩ := hrel
    have hz : w.heap.size < wr.heap.size := by have := hb.size; simp at this; omega
    have hc0 : wr.cell? ⟨w.heap.size, 0, none⟩ = some (.int .i64 0) := by rw [hb.cell (by simp)]; exact World.cell?_alloc_mark w _ _ _ 0
    have hc1 : wr.cell? ⟨w.heap.size, 1, none⟩ = some (.int .i64 0) := by rw [hb.cell (by simp)]; exact World.cell?_alloc_mark w _ _ _ 1
    have hf0 : wr.frozen? ⟨w.heap.size, 0, none⟩ = false := by rw [hb.frozen (by simp)]; simp
    have hf1 : wr.frozen? ⟨w.heap.size, 1, none⟩ = false := by rw [hb.frozen (by simp)]; simp
    have hbw : Below w.heap.size w wr := ((Below.refl _ _).alloc (Nat.le_refl _) _).trans (hb.mono (by omega))
    by_cases hlt : (n : Int) ≤ 199
    · have HF : Hid (∀ w, Calls Tryd.prog 26 #[.int .i64 n] w fun e w' => e = .returned (.int .i64 (faultOf n)) ∧ w' = w) := fun w => l1Fault_any n w
      by_cases hf : faultOf n = 0
      · have HT : Hid (∀ w, Calls Tryd.prog 19 #[.int .i64 n] w fun e w' => e = .returned (.string (textOf n)) ∧ Below w.heap.size w w') := fun w => l1Text_any n w hf
        rw [hf] at HF
        by_cases ht : textOf n = s
        · have HP : Hid (ParseIs s 0 n) := Or.inl ⟨rfl, hf, ht⟩
          have dt : ((textOf n).toList == s.toList) = true := by rw [ht]; simp
          clear hf ht
          generalize textOf n = tx at *
          go_wp2_with fail
          refine (HF.out _).mono ?_
          rintro e w' ⟨rfl, rfl⟩
          go_wp2_with fail
          refine (HT.out _).mono ?_
          rintro e w1 ⟨rfl, hb1⟩
          have gc0 : w1.cell? ⟨w.heap.size, 0, none⟩ = some (.int .i64 0) := (hb1.cell (p := ⟨w.heap.size, 0, none⟩) hz).trans hc0
          have gc1 : w1.cell? ⟨w.heap.size, 1, none⟩ = some (.int .i64 0) := (hb1.cell (p := ⟨w.heap.size, 1, none⟩) hz).trans hc1
          have gf0 : w1.frozen? ⟨w.heap.size, 0, none⟩ = false := (hb1.frozen (p := ⟨w.heap.size, 0, none⟩) hz).trans hf0
          have gf1 : w1.frozen? ⟨w.heap.size, 1, none⟩ = false := (hb1.frozen (p := ⟨w.heap.size, 1, none⟩) hz).trans hf1
          have gb : Below w.heap.size w w1 := hbw.trans (hb1.mono (Nat.le_of_lt hz))
          go_wp2_with fail
          exact bodyPost_ret (v := .agg #[.int .i64 0, .int .i64 n]) (by simp [results, Tryd.results8, go_sem, gc0, gc1]) rfl ⟨0, n, rfl, HP.out, (gb.setCell (Nat.le_refl _) _).setCell (Nat.le_refl _) _⟩
        · have HN : Hid (∀ j : Int, 0 ≤ j → j < (n + 1 : Nat) → faultOf j = 0 → textOf j ≠ s) := fun j h0 h1 hj => by
            by_cases e : j = n
            · rw [e]; exact ht
            · exact hno.out j h0 (by omega) hj
          have dt : ((textOf n).toList == s.toList) = false := by
            rw [beq_eq_false_iff_ne]; intro hc; exact ht (by rw [ByteArray.toList_eq, ByteArray.toList_eq] at hc; exact ByteArray.ext (Array.toList_inj.1 hc))
          clear hf ht
          generalize textOf n = tx at *
          go_wp2_with fail
          refine (HF.out _).mono ?_
          rintro e w' ⟨rfl, rfl⟩
          go_wp2_with fail
          refine (HT.out _).mono ?_
          rintro e w1 ⟨rfl, hb1⟩
          have gb : Below (w.heap.size + 1) (w.alloc (.cells #[.int .i64 0, .int .i64 0] 26)) w1 := hb.trans (hb1.mono hz)
          go_wp2_with fail
          go_roundw
          case rel => exact ⟨n + 1, by go_num, by omega, HN, gb⟩
          case measure => simp [intOf]; omega
      · have HN : Hid (∀ j : Int, 0 ≤ j → j < (n + 1 : Nat) → faultOf j = 0 → textOf j ≠ s) := fun j h0 h1 hj => by
          by_cases e : j = n
          · rw [e] at hj; exact absurd hj hf
          · exact hno.out j h0 (by omega) hj
        have df : (faultOf n == 0) = false := beq_eq_false_iff_ne.2 hf
        clear hf
        generalize faultOf n = c at *
        go_wp2_with fail
        refine (HF.out _).mono ?_
        rintro e w' ⟨rfl, rfl⟩
        go_wp2_with fail
        go_roundw
        case rel => exact ⟨n + 1, by go_num, by omega, HN, hb⟩
        case measure => simp [intOf]; omega
    · go_wp2_with fail
      exact bodyPost_ret (v := .agg #[.int .i64 5, .int .i64 0]) (by simp [results, Tryd.results8, go_sem, hc0, hc1]) rfl ⟨5, 0, rfl, Or.inr ⟨rfl, rfl, fun key hk => hno.out key (by have := fault_zero hk; omega) (by have := fault_zero hk; omega) hk⟩, (hbw.setCell (Nat.le_refl _) _).setCell (Nat.le_refl _) _⟩
end Go.Proofs.YtdfknnhdnojfdaaDoor
