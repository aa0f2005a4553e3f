/-
  Own text. impl.WordsOf: the words, in new memory, each a copy; at a text of at most a million bytes.
-/
import Derived.Test.YtaakpbmddfnchaaWrdB
import Derived.Test.YtaakpbmddfnchaaLay
namespace Go.Proofs.Ytaakpbmddfnchaa
open Go.RowKit Go.Shelf

theorem blank_pays (w : World) : PredAt Try.prog 11 #[] encR blankP w := by
  intro W x _
  show Calls Try.prog 11 #[.int .i32 (x : Int)] W _
  have hb : ((x : Int) == 32) = blankP x := by
    unfold blankP
    cases h : (x == 32)
    · rw [beq_eq_false_iff_ne] at h ⊢; omega
    · rw [beq_iff_eq] at h ⊢; omega
  generalize blankP x = r at *
  go_enter Try.func11, Try.ntmps11
  go_wp2
  go_ret
  exact ⟨rfl, 0, rfl⟩
theorem fields_is (s : ByteArray) (w : World) (hs : s.size ≤ 1048576) :
    Calls Try.prog 10 #[.string s, .func (.func 11) #[] #[]] w fun e w' => ∃ v, e = .returned v ∧ Stgs w' w.heap.size v (wordsB s) ∧ Below w.heap.size w w' := by
  refine (Any.strings_FieldsFunc Try.laysFields 11 #[] (enters_of Try.func11 (by kernel_rfl) rfl) blankP s w (by omega) (blank_pays w) (by kernel_rfl) (by kernel_rfl)).mono ?_
  rintro e w' ⟨A, rfl, hA, hown, hb⟩
  rw [fields_words] at hown ⊢
  exact ⟨_, rfl, hown, hb⟩
theorem clone_is (s : ByteArray) (w : World) (hs : s.size ≤ 1048576) :
    Calls Try.prog 12 #[.string s] w fun e w' => e = .returned (.string s) ∧ Below w.heap.size w w' := by
  have HC : Hid (∀ w, Calls Try.prog 17 #[.string s] w fun e w' => e = .returned (.string s) ∧ Below w.heap.size w w') := fun w => Any.stringslite_Clone Try.laysClone s w (by omega)
  go_enter Try.func12, Try.ntmps12
  go_wp2_with fail
  refine (HC.out _).mono ?_
  rintro e w1 ⟨rfl, b1⟩
  have B1 : Hid (Below w.heap.size w w1) := b1
  clear b1
  go_wp2
  go_ret
  exact ⟨rfl, B1.out⟩
theorem words_size (s : ByteArray) : ∀ x ∈ wordsB s, x.size ≤ s.size := by
  intro x hx
  rw [← fields_words] at hx
  unfold Lib.goFieldsP at hx
  obtain ⟨y, _, rfl⟩ := List.mem_map.1 hx
  rw [ByteArray.size_extract]
  omega
set_option maxHeartbeats 2000000 in
theorem implWordsOf_is (s : ByteArray) (w : World) (hs : s.size ≤ 1048576) :
    Calls Try.prog 5 #[.string s] w fun e w' => ∃ v, e = .returned (.agg #[.int .i64 0, v]) ∧ Stgs w' (w.heap.size + 1) v (wordsB s) ∧ Below w.heap.size w w' := by
  have HF : Hid (∀ w, Calls Try.prog 10 #[.string s, .func (.func 11) #[] #[]] w fun e w' => ∃ v, e = .returned v ∧ Stgs w' w.heap.size v (wordsB s) ∧ Below w.heap.size w w') := fun w => fields_is s w hs
  have HL : Hid ((wordsB s).length ≤ 1048577 ∧ ∀ x ∈ wordsB s, x.size ≤ 1048576) := ⟨Nat.le_trans (wordsB_length s) (by omega), fun x hx => Nat.le_trans (words_size s x hx) hs⟩
  generalize wordsB s = L at *
  go_enter Try.func5, Try.ntmps5
  go_wp2_with fail
  refine (HF.out _).mono ?_
  rintro e w1 ⟨v4, rfl, s1, b1⟩
  obtain ⟨o4, c4, rfl⟩ := s1.form
  simp only [World.size_alloc] at s1 b1
  have hc0 : w1.cell? ⟨w.heap.size, 0, none⟩ = some (.int .i64 0) := by rw [b1.cell (by simp)]; exact World.cell?_alloc_mark w _ _ _ 0
  have hc1 : w1.cell? ⟨w.heap.size, 1, none⟩ = some (.slice none 0 0) := by rw [b1.cell (by simp)]; exact World.cell?_alloc_mark w _ _ _ 1
  have hf0 : w1.frozen? ⟨w.heap.size, 0, none⟩ = false := by rw [b1.frozen (by simp)]; simp
  have hf1 : w1.frozen? ⟨w.heap.size, 1, none⟩ = false := by rw [b1.frozen (by simp)]; simp
  have hz : w.heap.size < w1.heap.size := by have := b1.size; simp at this; omega
  have HR0 : Hid (Stgs w1 (w.heap.size + 1) (.slice o4 L.length c4) L ∧ Below w.heap.size w w1 ∧ w1.cell? ⟨w.heap.size, 0, none⟩ = some (.int .i64 0) ∧ w1.cell? ⟨w.heap.size, 1, none⟩ = some (.slice none 0 0) ∧ w1.frozen? ⟨w.heap.size, 0, none⟩ = false ∧ w1.frozen? ⟨w.heap.size, 1, none⟩ = false ∧ w.heap.size < w1.heap.size) := ⟨s1, ((Below.refl _ _).alloc (Nat.le_refl _) _).trans (b1.mono (by omega)), hc0, hc1, hf0, hf1, hz⟩
  clear s1 b1 hc0 hc1 hf0 hf1 hz HF
  go_wp2_with fail
  go_loopw [10] (fun v10 wr => ∃ (k : Nat), v10 = .int .i64 k ∧ k ≤ L.length ∧ Hid (Stgs wr (w.heap.size + 1) (.slice o4 L.length c4) L ∧ Below w.heap.size w wr ∧ wr.cell? ⟨w.heap.size, 0, none⟩ = some (.int .i64 0) ∧ wr.cell? ⟨w.heap.size, 1, none⟩ = some (.slice none 0 0) ∧ wr.frozen? ⟨w.heap.size, 0, none⟩ = false ∧ wr.frozen? ⟨w.heap.size, 1, none⟩ = false ∧ w.heap.size < wr.heap.size)) (fun v10 _ => L.length - (intOf v10).toNat)
  case atStart => exact ⟨0, rfl, Nat.zero_le _, HR0.out⟩
  case round =>
    obtain ⟨k, rfl, hk, hR⟩ := hrel
    have hl1 := HL.out.1
    by_cases hlt : k < L.length
    · obtain ⟨g, rfl, hgB, hg, hc, hfz⟩ := hR.out.1.at hlt
      have hxs := HL.out.2 L[k] (List.getElem_mem _)
      have hset : L.set k L[k] = L := List.set_getElem_self _
      obtain ⟨x, hx⟩ : ∃ x, L[k] = x := ⟨_, rfl⟩
      rw [hx] at hc hxs hset
      clear hx
      have HS : Hid (L.set k x = L) := hset
      clear hset
      have HC := fun w => clone_is x w hxs
      go_wp2_with fail
      refine (HC _).mono ?_
      rintro e w2 ⟨rfl, b2⟩
      have hc2 : w2.cell? ⟨g, k, none⟩ = some (.string x) := by rw [b2.cell (by simpa using hg)]; exact hc
      have hf2 : w2.frozen? ⟨g, k, none⟩ = false := by rw [b2.frozen (by simpa using hg)]; exact hfz
      have HN : Hid (Stgs (w2.setCell ⟨g, k, none⟩ (.string x)) (w.heap.size + 1) (.slice (some ⟨g, 0, none⟩) L.length c4) L ∧ Below w.heap.size w (w2.setCell ⟨g, k, none⟩ (.string x)) ∧ (w2.setCell ⟨g, k, none⟩ (.string x)).cell? ⟨w.heap.size, 0, none⟩ = some (.int .i64 0) ∧ (w2.setCell ⟨g, k, none⟩ (.string x)).cell? ⟨w.heap.size, 1, none⟩ = some (.slice none 0 0) ∧ (w2.setCell ⟨g, k, none⟩ (.string x)).frozen? ⟨w.heap.size, 0, none⟩ = false ∧ (w2.setCell ⟨g, k, none⟩ (.string x)).frozen? ⟨w.heap.size, 1, none⟩ = false ∧ w.heap.size < (w2.setCell ⟨g, k, none⟩ (.string x)).heap.size) := by
        obtain ⟨r1, r2, r3, r4, r5, r6, r7⟩ := hR.out
        have hst := World.ownsRow.stored (r1.later b2) k (.string x)
        have hm : (L.map Value.string).set k (.string x) = L.map Value.string := by rw [← HS.out, ← List.map_set, HS.out]; rw [HS.out]
        rw [hm] at hst
        have hne : ¬ g = w.heap.size := by omega
        refine ⟨hst.1, (r2.trans (b2.mono (Nat.le_of_lt r7))).setCell (show w.heap.size ≤ g by omega) _, ?_, ?_, ?_, ?_, ?_⟩
        · rw [World.cell?_of_block (w := w2) (Below.heap_setCell w2 _ _ _ (fun e => hne e.symm)), b2.cell (by simpa using r7)]; exact r3
        · rw [World.cell?_of_block (w := w2) (Below.heap_setCell w2 _ _ _ (fun e => hne e.symm)), b2.cell (by simpa using r7)]; exact r4
        · rw [World.frozen?_of_block (w := w2) (Below.heap_setCell w2 _ _ _ (fun e => hne e.symm)), b2.frozen (by simpa using r7)]; exact r5
        · rw [World.frozen?_of_block (w := w2) (Below.heap_setCell w2 _ _ _ (fun e => hne e.symm)), b2.frozen (by simpa using r7)]; exact r6
        · have := b2.size; simp; omega
      clear hR b2 HC hc hfz hg HS HR0
      go_wp2_with fail
      go_roundw
      case rel => exact ⟨k + 1, by go_num, by omega, HN⟩
      case measure => simp [intOf]; omega
    · obtain ⟨r1, r2, r3, r4, r5, r6, r7⟩ := hR.out
      have HO : Hid (Stgs wr (w.heap.size + 1) (.slice o4 L.length c4) L ∧ Below w.heap.size w wr) := ⟨r1, r2⟩
      have hne : ∀ k, (Value.slice o4 L.length c4).ownBlock = some k → k ≠ w.heap.size := fun k hk => by have := (HO.out.1.lt k hk).1; omega
      clear r1 r2 hR HR0
      go_wp2_with fail
      exact bodyPost_ret (v := .agg #[.int .i64 0, .slice o4 L.length c4]) (by simp [results, Try.results5, go_sem, r3, r4]) rfl ⟨_, rfl, (HO.out.1.set hne _ _).set hne _ _, (HO.out.2.setCell (Nat.le_refl _) _).setCell (Nat.le_refl _) _⟩
end Go.Proofs.Ytaakpbmddfnchaa
