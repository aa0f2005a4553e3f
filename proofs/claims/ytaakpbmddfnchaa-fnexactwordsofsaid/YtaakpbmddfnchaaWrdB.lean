/-
  Own text. spec.l16Cut, spec.l16Words and spec.WordsOf: the pieces, the words, in new memory; at a text of at most a million bytes.
-/
import Derived.Test.YtaakpbmddfnchaaWrdA
import Derived.Laws.DeepStrings4
import Derived.Deep.DeepMust
namespace Go.Proofs.Ytaakpbmddfnchaa
open Go.RowKit

theorem byte_at (s : ByteArray) (i : Nat) (h : i < s.size) : s.get! i = s[i]'h := by
  simp [ByteArray.get!, getElem!_pos, h]; rfl
set_option maxHeartbeats 2000000 in
theorem l16Cut_is (s : ByteArray) (a : Nat) (w : World) (hs : s.size ≤ 1048576) (ha : a < 256) :
    Calls Try.prog 16 #[.string s, .int .u8 a] w fun e w' => ∃ v, e = .returned v ∧ Stgs w' w.heap.size v (cutB s a) ∧ Below w.heap.size w w' := by
  go_enter Try.func16, Try.ntmps16
  go_wp2
  go_loopw [5, 6, 7] (fun v5 v6 v7 wr => ∃ (i fr : Nat) (out : List ByteArray), v6 = .int .i64 fr ∧ v7 = .int .i64 i ∧ fr ≤ i ∧ i ≤ s.size + 1 ∧ out.length ≤ i ∧ Hid (Stgs wr w.heap.size v5 out ∧ Below w.heap.size w wr ∧ cutG s a (s.size + 1 - i) i fr out = cutB s a)) (fun _ _ v7 _ => s.size + 1 - (intOf v7).toNat)
  case atStart => exact ⟨0, 0, [], rfl, rfl, Nat.le_refl _, Nat.zero_le _, Nat.le_refl _, Stgs.lit0 w, (Below.refl _ _).alloc (Nat.le_refl _) _, rfl⟩
  case round =>
    obtain ⟨i, fr, out, rfl, rfl, hfi, hi, hol, hR⟩ := hrel
    obtain ⟨o5, c5, rfl⟩ := hR.out.1.form
    by_cases hlt : i ≤ s.size
    · have HG : Hid (cutG s a (s.size + 1 - i) i fr out = if i = s.size ∨ (s.get! i).toNat = a then cutG s a (s.size + 1 - (i + 1)) (i + 1) (i + 1) (out ++ [s.extract fr i]) else cutG s a (s.size + 1 - (i + 1)) (i + 1) fr out) := by
        unfold Hid
        rw [show s.size + 1 - i = (s.size + 1 - (i + 1)) + 1 by omega, cutG]
      by_cases hend : i = s.size ∨ (s.get! i).toNat = a
      · have HG2 : Hid (cutG s a (s.size + 1 - (i + 1)) (i + 1) (i + 1) (out ++ [s.extract fr i]) = cutB s a) := by
          have h1 := HG.out
          have h2 := hR.out.2.2
          rw [if_pos hend] at h1
          unfold Hid
          rw [← h1, h2]
        have HO : Hid (Stgs wr w.heap.size (.slice o5 out.length c5) out ∧ Below w.heap.size w wr) := ⟨hR.out.1, hR.out.2.1⟩
        clear HG hR
        have hz : (i = s.size) ∨ (i ≠ s.size ∧ i < s.size ∧ (s.get! i).toNat = a) := by
          by_cases h : i = s.size
          · exact Or.inl h
          · exact Or.inr ⟨h, by omega, hend.resolve_left h⟩
        clear hend
        rcases hz with rfl | ⟨hz, hz1, hz2⟩
        · go_wp2_with (at_builtin; go_must (refine wpList_appS rfl (.tmp 26) (.tmp 31) rfl _ w.heap.size out _ ?_ _ HO.out.1 ?_ (by omega) HO.out.2.size ?_; rotate_left 2; intro v1 w1 h1 h2 _; rotate_left 1; rfl; rfl))
          have HN : Hid (Stgs w1 w.heap.size v1 (out ++ [s.extract fr s.size]) ∧ Below w.heap.size w w1) := ⟨h1, (HO.out.2.alloc HO.out.2.size _).grown h2 (by have := HO.out.2.size; simp; omega) (fun k hk => (HO.out.1.lt k hk).1)⟩
          clear h1 h2
          go_wp2
          go_roundw
          case rel => exact ⟨s.size + 1, s.size + 1, _, by go_num, by go_num, Nat.le_refl _, by omega, by simp; omega, HN.out.1, HN.out.2, HG2.out⟩
          case measure => simp [intOf]
        · obtain ⟨c, hc⟩ : ∃ c : UInt8, s[i]'hz1 = c := ⟨_, rfl⟩
          have hca : c.toNat = a := by rw [← hc, ← byte_at s i hz1]; exact hz2
          subst hca
          have hzB : ((i : Int) == (s.size : Int)) = false := beq_eq_false_iff_ne.2 (by omega)
          go_wp2_with (at_builtin; go_must (refine wpList_appS rfl (.tmp 26) (.tmp 31) rfl _ w.heap.size out _ ?_ _ HO.out.1 ?_ (by omega) HO.out.2.size ?_; rotate_left 2; intro v1 w1 h1 h2 _; rotate_left 1; rfl; rfl))
          have HN : Hid (Stgs w1 w.heap.size v1 (out ++ [s.extract fr i]) ∧ Below w.heap.size w w1) := ⟨h1, (HO.out.2.alloc HO.out.2.size _).grown h2 (by have := HO.out.2.size; simp; omega) (fun k hk => (HO.out.1.lt k hk).1)⟩
          clear h1 h2
          go_wp2
          go_roundw
          case rel => exact ⟨i + 1, i + 1, _, by go_num, by go_num, Nat.le_refl _, by omega, by simp; omega, HN.out.1, HN.out.2, HG2.out⟩
          case measure => simp [intOf]; omega
      · have HG2 : Hid (cutG s a (s.size + 1 - (i + 1)) (i + 1) fr out = cutB s a) := by
          have h1 := HG.out
          have h2 := hR.out.2.2
          rw [if_neg hend] at h1
          unfold Hid
          rw [← h1, h2]
        have HO : Hid (Stgs wr w.heap.size (.slice o5 out.length c5) out ∧ Below w.heap.size w wr) := ⟨hR.out.1, hR.out.2.1⟩
        clear HG hR
        have hz : i ≠ s.size := fun h => hend (Or.inl h)
        have hz1 : i < s.size := by omega
        obtain ⟨c, hc⟩ : ∃ c : UInt8, s[i]'hz1 = c := ⟨_, rfl⟩
        have hca : ¬ c.toNat = a := by rw [← hc, ← byte_at s i hz1]; exact fun h => hend (Or.inr h)
        have hzB : ((i : Int) == (s.size : Int)) = false := beq_eq_false_iff_ne.2 (by omega)
        have hcB : ((c.toNat : Int) == (a : Int)) = false := beq_eq_false_iff_ne.2 (by omega)
        clear hend
        go_wp2
        go_roundw
        case rel => exact ⟨i + 1, fr, _, rfl, by go_num, by omega, by omega, by omega, HO.out.1, HO.out.2, HG2.out⟩
        case measure => simp [intOf]; omega
    · go_wp2
      go_ret
      refine ⟨_, rfl, ?_, hR.out.2.1⟩
      have h1 := hR.out.2.2
      rw [show s.size + 1 - i = 0 by omega, cutG] at h1
      rw [← h1]
      exact hR.out.1

/-- The words of the first k pieces. -/
def wordsK (L : List ByteArray) (k : Nat) : List ByteArray := (L.take k).filter (fun x => decide (x ≠ emptyB))
theorem wordsK_succ (L : List ByteArray) (k : Nat) (h : k < L.length) : wordsK L (k + 1) = wordsK L k ++ [L[k]].filter (fun x => decide (x ≠ emptyB)) := by
  unfold wordsK
  rw [List.take_succ_eq_append_getElem h, List.filter_append]
theorem wordsK_all (L : List ByteArray) : wordsK L L.length = L.filter (fun x => decide (x ≠ emptyB)) := by unfold wordsK; rw [List.take_length]
theorem wordsK_length (L : List ByteArray) (k : Nat) : (wordsK L k).length ≤ k := Nat.le_trans (List.length_filter_le _ _) (by rw [List.length_take]; omega)
set_option maxHeartbeats 2000000 in
theorem l16Words_is (s : ByteArray) (w : World) (hs : s.size ≤ 1048576) :
    Calls Try.prog 9 #[.string s] w fun e w' => ∃ v, e = .returned v ∧ Stgs w' w.heap.size v (wordsB s) ∧ Below w.heap.size w w' := by
  have HC : Hid (∀ w, Calls Try.prog 16 #[.string s, .int .u8 32] w fun e w' => ∃ v, e = .returned v ∧ Stgs w' w.heap.size v (cutB s 32) ∧ Below w.heap.size w w') := fun w => l16Cut_is s 32 w hs (by decide)
  have HL : Hid ((cutB s 32).length ≤ 1048577 ∧ wordsB s = (cutB s 32).filter (fun x => decide (x ≠ emptyB))) := ⟨Nat.le_trans (cutB_length s 32) (by omega), rfl⟩
  generalize wordsB s = WB at *
  generalize cutB s 32 = L at *
  go_enter Try.func9, Try.ntmps9
  go_wp2_with fail
  refine (HC.out _).mono ?_
  rintro e w1 ⟨v4, rfl, s1, b1⟩
  obtain ⟨o4, c4, rfl⟩ := s1.form
  have H1 : Hid (Stgs w1 w.heap.size (.slice o4 L.length c4) L ∧ Below w.heap.size w w1 ∧ Stgs w1 w.heap.size (.slice (some ⟨w.heap.size, 0, none⟩) 0 0) []) := ⟨s1.mono (by simp), ((Below.refl _ _).alloc (Nat.le_refl _) _).trans (b1.mono (by simp)), (Stgs.lit0 w).later b1⟩
  have hne : ∀ k, (Value.slice o4 L.length c4).ownBlock = some k → w.heap.size < k := fun k hk => by have := (s1.lt k hk).1; simp at this; omega
  clear s1 b1 HC
  have HF : Hid ((Value.slice o4 L.length c4).ownBlock ≠ some w.heap.size) := fun e => by have := hne _ e; omega
  clear hne
  go_wp2_with fail
  go_loopw [3, 5] (fun v3 v5 wr => ∃ (k : Nat), v5 = .int .i64 k ∧ k ≤ L.length ∧ Hid (Stgs wr w.heap.size v3 (wordsK L k) ∧ Below w.heap.size w wr ∧ Stgs wr w.heap.size (.slice o4 L.length c4) L ∧ (∀ b, v3.ownBlock = some b → (Value.slice o4 L.length c4).ownBlock ≠ some b))) (fun _ v5 _ => L.length - (intOf v5).toNat)
  case atStart => exact ⟨0, rfl, Nat.zero_le _, H1.out.2.2, H1.out.2.1, H1.out.1, fun b hb => by simp [Value.ownBlock] at hb; subst hb; exact HF.out⟩
  case round =>
    obtain ⟨k, rfl, hk, hR⟩ := hrel
    obtain ⟨o3, c3, rfl⟩ := hR.out.1.form
    have hl1 := HL.out.1
    by_cases hlt : k < L.length
    · obtain ⟨g, rfl, _, hg, hc, _⟩ := hR.out.2.2.1.at hlt
      have HW := wordsK_succ L k hlt
      obtain ⟨x, hx⟩ : ∃ x, L[k] = x := ⟨_, rfl⟩
      rw [hx] at hc HW
      have hwl := wordsK_length L k
      clear hx
      by_cases he : x = ⟨#[]⟩
      · have HN : Hid (wordsK L (k + 1) = wordsK L k) := by
          unfold Hid; rw [HW, he]
          have : ([⟨#[]⟩] : List ByteArray).filter (fun x => decide (x ≠ emptyB)) = [] := by
            rw [List.filter_cons, if_neg (by simp [emptyB])]; rfl
          rw [this, List.append_nil]
        clear HW
        subst he
        go_wp2
        go_roundw
        case rel => exact ⟨k + 1, by go_num, by omega, by rw [HN.out]; exact hR.out⟩
        case measure => simp [intOf]; omega
      · have HN : Hid (wordsK L (k + 1) = wordsK L k ++ [x]) := by
          unfold Hid; rw [HW]
          have : [x].filter (fun x => decide (x ≠ emptyB)) = [x] := by
            rw [List.filter_cons, if_pos (show decide (x ≠ emptyB) = true from decide_eq_true he)]; rfl
          rw [this]
        clear HW
        have hb : (!x.toList.isEmpty) = true := by
          rw [Bool.not_eq_true', List.isEmpty_eq_false_iff, ByteArray.toList_eq]
          exact fun e => he (ByteArray.ext (Array.toList_eq_nil_iff.1 e))
        clear he
        go_wp2_with (at_builtin; go_must (refine wpList_appS rfl (.tmp 20) (.tmp 25) rfl _ w.heap.size (wordsK L k) _ ?_ _ hR.out.1 ?_ (by omega) hR.out.2.1.size ?_; rotate_left 2; intro v1 w2 h1 h2 h5; rotate_left 1; rfl; rfl))
        have HS : Hid (Stgs w2 w.heap.size v1 (wordsK L (k + 1)) ∧ Below w.heap.size w w2 ∧ Stgs w2 w.heap.size (.slice (some ⟨g, 0, none⟩) L.length c4) L ∧ (∀ b, v1.ownBlock = some b → (Value.slice (some ⟨g, 0, none⟩) L.length c4).ownBlock ≠ some b)) := by
          have hg3 := hR.out.2.2.2
          refine ⟨by rw [HN.out]; exact h1, (hR.out.2.1.alloc hR.out.2.1.size _).grown h2 (by have := hR.out.2.1.size; simp; omega) (fun j hj => (hR.out.1.lt j hj).1), (hR.out.2.2.1.alloc _).grown h2 (fun j hj e => hg3 j e hj), fun b hb hb2 => ?_⟩
          rcases h5 with h5 | h5
          · exact hg3 b (h5.symm.trans hb) hb2
          · rw [h5] at hb
            have e1 := Option.some.inj hb
            have e2 := (hR.out.2.2.1.lt b hb2).2
            omega
        clear h1 h2 h5
        go_wp2
        go_roundw
        case rel => exact ⟨k + 1, by go_num, by omega, HS⟩
        case measure => simp [intOf]; omega
    · go_wp2
      go_ret
      refine ⟨_, rfl, ?_, hR.out.2.1⟩
      have h1 := hR.out.1
      rw [show k = L.length by omega, wordsK_all, ← HL.out.2] at h1
      rw [show k = L.length by omega, wordsK_all, ← HL.out.2]
      exact h1

set_option maxHeartbeats 1000000 in
theorem specWordsOf_is (s : ByteArray) (w : World) (hs : s.size ≤ 1048576) :
    Calls Try.prog 4 #[.string s] w fun e w' => ∃ v, e = .returned (.agg #[.int .i64 0, v]) ∧ Stgs w' w.heap.size v (wordsB s) ∧ Below w.heap.size w w' := by
  have HC : Hid (∀ w, Calls Try.prog 9 #[.string s] w fun e w' => ∃ v, e = .returned v ∧ Stgs w' w.heap.size v (wordsB s) ∧ Below w.heap.size w w') := fun w => l16Words_is s w hs
  generalize wordsB s = WB at *
  go_enter Try.func4, Try.ntmps4
  go_wp2_with fail
  refine (HC.out _).mono ?_
  rintro e w1 ⟨v4, rfl, s1, b1⟩
  obtain ⟨o4, c4, rfl⟩ := s1.form
  simp only [World.size_alloc] at s1 b1
  have hc0 : w1.cell? ⟨w.heap.size, 0, none⟩ = some (.int .i64 0) := by rw [b1.cell (by simp)]; exact World.cell?_alloc_mark w _ _ _ 0
  have hc1 : w1.cell? ⟨w.heap.size, 1, none⟩ = some (.slice none 0 0) := by rw [b1.cell (by simp)]; exact World.cell?_alloc_mark w _ _ _ 1
  have hf0 : w1.frozen? ⟨w.heap.size, 0, none⟩ = false := by rw [b1.frozen (by simp)]; simp
  have hf1 : w1.frozen? ⟨w.heap.size, 1, none⟩ = false := by rw [b1.frozen (by simp)]; simp
  have HB : Hid (Below w.heap.size w w1 ∧ Stgs w1 (w.heap.size + 1) (.slice o4 WB.length c4) WB) := ⟨((Below.refl _ _).alloc (Nat.le_refl _) _).trans (b1.mono (by omega)), s1⟩
  clear s1 b1
  have hne : ∀ k, (Value.slice o4 WB.length c4).ownBlock = some k → k ≠ w.heap.size := fun k hk => by have := (HB.out.2.lt k hk).1; omega
  go_wp2_with fail
  exact bodyPost_ret (v := .agg #[.int .i64 0, .slice o4 WB.length c4]) (by simp [results, Try.results4, go_sem, hc0, hc1]) rfl ⟨_, rfl, (((HB.out.2.set hne _ _).set hne _ _).mono (by omega)), (HB.out.1.setCell (Nat.le_refl _) _).setCell (Nat.le_refl _) _⟩
end Go.Proofs.Ytaakpbmddfnchaa
