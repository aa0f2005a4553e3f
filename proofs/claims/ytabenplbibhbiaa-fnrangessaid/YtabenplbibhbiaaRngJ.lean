/-
  Own text. The program's SplitRange and MergeRange: a code, and a new row.
-/
import Derived.Test.YtabenplbibhbiaaRngP
import Derived.Test.YtabenplbibhbiaaArrD
import Derived.Test.YtabenplbibhbiaaRngI
namespace Go.Proofs.Ytabenplbibhbiaa
open Go.RowKit

theorem lit_six (w : World) (x0 x1 x2 x3 x4 x5 : Int) (t : TypeId) (b : Nat) (hb : w.heap.size = b) : Row (w.alloc (.cells #[.int .i64 x0, .int .i64 x1, .int .i64 x2, .int .i64 x3, .int .i64 x4, .int .i64 x5] t)) 0 3 2 (fun p => [x0, x1, x2, x3, x4, x5].getD p 0) (.slice (some ⟨b, 0, none⟩) 2 2) := by
  subst hb
  refine ⟨_, _, rfl, fun _ => ⟨w.heap.size, 0, rfl, Nat.zero_le _, by simp, fun p hp => ?_⟩⟩
  rw [Nat.zero_add, World.cell?_alloc_mark]
  match p, hp with
  | 0, _ => rfl
  | 1, _ => rfl
  | 2, _ => rfl
  | 3, _ => rfl
  | 4, _ => rfl
  | 5, _ => rfl
theorem replF_split {n : Nat} {F : Nat → Int} {a e : Int} {i : Nat} (hi : i < n) (h5 : n ≤ 5) (p : Nat) (hp : p < 18) : replF (arrF n F) (fun p => [F (i * 3), a, e, a, F (i * 3 + 1), e].getD p 0) i 1 2 p = if p < (n + 1) * 3 then splitG F i a e p else 0 := by
  unfold replF
  rw [show Nat.min (6 - (i + 1)) (6 - (i + 2)) = 6 - (i + 2) from Nat.min_eq_right (by omega)]
  unfold overA splitG off6 arrF
  by_cases h1 : p < i * 3
  · rw [if_neg (by split <;> omega), if_neg (by omega), if_neg (by omega), if_pos (by omega), if_pos (by omega), if_pos h1]
  · by_cases h2 : p < i * 3 + 6
    · rw [if_neg (by split <;> omega), if_pos (by omega), if_pos (by omega), if_neg h1, if_pos h2]
    · have h6 : ¬ i + 2 = 6 := by omega
      rw [if_neg h6, if_pos (by omega)]
      dsimp only
      rw [show (i + 1) * 3 + (p - (i + 2) * 3) = p - 3 by omega]
      by_cases h3 : p < (n + 1) * 3
      · rw [if_pos (by omega), if_pos h3, if_neg h1, if_neg h2]
      · rw [if_neg (by omega), if_neg h3]
theorem replF_merge {n : Nat} {F : Nat → Int} {e : Int} {i : Nat} (hi : i + 2 ≤ n) (h6 : n ≤ 6) (p : Nat) (hp : p < 18) : replF (arrF n F) (fun p => [F (i * 3), F ((i + 1) * 3 + 1), e].getD p 0) i 2 1 p = if p < (n - 1) * 3 then mergeG F i e p else 0 := by
  unfold replF
  rw [show Nat.min (6 - (i + 2)) (6 - (i + 1)) = 6 - (i + 2) from Nat.min_eq_left (by omega)]
  unfold overA mergeG off6 arrF
  have h7 : ¬ i + 1 = 6 := by omega
  rw [if_neg h7]
  by_cases h1 : p < i * 3
  · rw [if_neg (by omega), if_neg (by omega), if_neg (by omega), if_pos (by omega), if_pos (by omega), if_pos h1]
  · by_cases h2 : p < i * 3 + 3
    · rw [if_neg (by omega), if_pos (by omega), if_pos (by omega), if_neg h1, if_pos h2]
    · by_cases h4 : p < 15
      · rw [if_pos (by omega)]
        dsimp only
        rw [show (i + 2) * 3 + (p - (i + 1) * 3) = p + 3 by omega]
        by_cases h3 : p < (n - 1) * 3
        · rw [if_pos (by omega), if_pos h3, if_neg h1, if_neg h2]
        · rw [if_neg (by omega), if_neg h3]
      · rw [if_neg (by omega), if_neg (by omega), if_pos (by omega), if_neg (by omega)]
set_option maxRecDepth 100000 in
set_option maxHeartbeats 1000000 in
theorem implSplit_bad (ao : Option Addr) (cp B n : Nat) (F : Nat → Int) (a f : Int) (w : World) (h : Row w B 3 n F (.slice ao n cp)) (hn : n ≤ 1048576) (h0 : rangesF n F = f) (hf : f ≠ 0) (G : Nat → Int) :
    Calls Try.prog 11 #[.slice ao n cp, .int .i64 a] w (ResRow 3 w f 0 G) := by
  have H : Hid (Row w B 3 n F (.slice ao n cp)) := h
  clear h
  have d : (f == 0) = false := beq_eq_false_iff_ne.2 hf
  have L0 : Hid (∀ x, Below w.heap.size w x → Calls Try.prog 16 #[.slice ao n cp] x fun e w' => e = .returned (.int .i64 f) ∧ Below x.heap.size x w') := fun x hb => h0 ▸ implRanges_any _ B n F x (H.out.later hb) (by omega)
  clear h0
  go_enter Try.func11, Try.ntmps11
  go_wp2_with fail
  refine (L0.out _ (below_alloc _ _)).mono ?_
  rintro e w1 ⟨rfl, q1⟩
  have Q : Hid (Below w.heap.size w w1) := (below_alloc _ _).trans (q1.mono (by simp))
  have KB : Hid (Blk2 w1 w.heap.size (.int .i64 0) (.slice none 0 0)) := (Blk2.new w (.int .i64 0) (.slice none 0 0) 28).later q1
  obtain ⟨⟨b0, b1⟩, f0, f1⟩ := KB.out
  have hl := KB.out.lt
  clear q1 L0
  go_wp2
  obtain ⟨⟨r0, r1⟩, _, _⟩ := KB.out.put (.int .i64 f) (.slice none 0 0)
  exact bodyPost_ret (v := .agg #[.int .i64 f, .slice none 0 0]) (by simp [results, Try.results11, go_sem, r0, r1]) rfl (ResRow.none rfl ((Q.out.setCell (Nat.le_refl _) _).setCell (Nat.le_refl _) _))
set_option maxRecDepth 100000 in
set_option maxHeartbeats 1000000 in
theorem implMerge_bad (ao : Option Addr) (cp B n : Nat) (F : Nat → Int) (a f : Int) (w : World) (h : Row w B 3 n F (.slice ao n cp)) (hn : n ≤ 1048576) (h0 : rangesF n F = f) (hf : f ≠ 0) (G : Nat → Int) :
    Calls Try.prog 14 #[.slice ao n cp, .int .i64 a] w (ResRow 3 w f 0 G) := by
  have H : Hid (Row w B 3 n F (.slice ao n cp)) := h
  clear h
  have d : (f == 0) = false := beq_eq_false_iff_ne.2 hf
  have L0 : Hid (∀ x, Below w.heap.size w x → Calls Try.prog 16 #[.slice ao n cp] x fun e w' => e = .returned (.int .i64 f) ∧ Below x.heap.size x w') := fun x hb => h0 ▸ implRanges_any _ B n F x (H.out.later hb) (by omega)
  clear h0
  go_enter Try.func14, Try.ntmps14
  go_wp2_with fail
  refine (L0.out _ (below_alloc _ _)).mono ?_
  rintro e w1 ⟨rfl, q1⟩
  have Q : Hid (Below w.heap.size w w1) := (below_alloc _ _).trans (q1.mono (by simp))
  have KB : Hid (Blk2 w1 w.heap.size (.int .i64 0) (.slice none 0 0)) := (Blk2.new w (.int .i64 0) (.slice none 0 0) 28).later q1
  obtain ⟨⟨b0, b1⟩, f0, f1⟩ := KB.out
  have hl := KB.out.lt
  clear q1 L0
  go_wp2
  obtain ⟨⟨r0, r1⟩, _, _⟩ := KB.out.put (.int .i64 f) (.slice none 0 0)
  exact bodyPost_ret (v := .agg #[.int .i64 f, .slice none 0 0]) (by simp [results, Try.results14, go_sem, r0, r1]) rfl (ResRow.none rfl ((Q.out.setCell (Nat.le_refl _) _).setCell (Nat.le_refl _) _))
set_option maxRecDepth 100000 in
set_option maxHeartbeats 1000000 in
theorem implSplit_range (ao : Option Addr) (cp B n : Nat) (F : Nat → Int) (a : Int) (w : World) (h : Row w B 3 n F (.slice ao n cp)) (hn : n ≤ 1048576) (h0 : rangesF n F = 0) (h1 : a < 1 ∨ 199 < a) (G : Nat → Int) :
    Calls Try.prog 11 #[.slice ao n cp, .int .i64 a] w (ResRow 3 w 3 0 G) := by
  have H : Hid (Row w B 3 n F (.slice ao n cp)) := h
  clear h
  have L0 : Hid (∀ x, Below w.heap.size w x → Calls Try.prog 16 #[.slice ao n cp] x fun e w' => e = .returned (.int .i64 0) ∧ Below x.heap.size x w') := fun x hb => h0 ▸ implRanges_any _ B n F x (H.out.later hb) (by omega)
  clear h0
  go_enter Try.func11, Try.ntmps11
  go_wp2_with fail
  refine (L0.out _ (below_alloc _ _)).mono ?_
  rintro e w1 ⟨rfl, q1⟩
  have Q : Hid (Below w.heap.size w w1) := (below_alloc _ _).trans (q1.mono (by simp))
  have KB : Hid (Blk2 w1 w.heap.size (.int .i64 0) (.slice none 0 0)) := (Blk2.new w (.int .i64 0) (.slice none 0 0) 28).later q1
  obtain ⟨⟨b0, b1⟩, f0, f1⟩ := KB.out
  have hl := KB.out.lt
  clear q1 L0
  rcases Int.lt_or_le a 1 with h1 | h2
  · go_wp2
    obtain ⟨⟨r0, r1⟩, _, _⟩ := KB.out.put (.int .i64 3) (.slice none 0 0)
    exact bodyPost_ret (v := .agg #[.int .i64 3, .slice none 0 0]) (by simp [results, Try.results11, go_sem, r0, r1]) rfl (ResRow.none rfl ((Q.out.setCell (Nat.le_refl _) _).setCell (Nat.le_refl _) _))
  · have d : decide (a > 199) = true := decide_eq_true (by omega)
    go_wp2
    obtain ⟨⟨r0, r1⟩, _, _⟩ := KB.out.put (.int .i64 3) (.slice none 0 0)
    exact bodyPost_ret (v := .agg #[.int .i64 3, .slice none 0 0]) (by simp [results, Try.results11, go_sem, r0, r1]) rfl (ResRow.none rfl ((Q.out.setCell (Nat.le_refl _) _).setCell (Nat.le_refl _) _))
set_option maxRecDepth 100000 in
set_option maxHeartbeats 1000000 in
theorem implSplit_taken (ao : Option Addr) (cp B n : Nat) (F : Nat → Int) (a : Int) (i : Nat) (w : World) (h : Row w B 3 n F (.slice ao n cp)) (hn : n ≤ 1048576) (h0 : rangesF n F = 0) (h1 : 1 ≤ a ∧ a ≤ 199) (hi : AtR n F a i) (h2 : F (i * 3) = a) (G : Nat → Int) :
    Calls Try.prog 11 #[.slice ao n cp, .int .i64 a] w (ResRow 3 w 6 0 G) := by
  have H : Hid (Row w B 3 n F (.slice ao n cp)) := h
  clear h
  have L0 : Hid (∀ x, Below w.heap.size w x → Calls Try.prog 16 #[.slice ao n cp] x fun e w' => e = .returned (.int .i64 0) ∧ Below x.heap.size x w') := fun x hb => h0 ▸ implRanges_any _ B n F x (H.out.later hb) (by omega)
  clear h0
  go_enter Try.func11, Try.ntmps11
  go_wp2_with fail
  refine (L0.out _ (below_alloc _ _)).mono ?_
  rintro e w1 ⟨rfl, q1⟩
  have Q : Hid (Below w.heap.size w w1) := (below_alloc _ _).trans (q1.mono (by simp))
  have KB : Hid (Blk2 w1 w.heap.size (.int .i64 0) (.slice none 0 0)) := (Blk2.new w (.int .i64 0) (.slice none 0 0) 28).later q1
  obtain ⟨⟨b0, b1⟩, f0, f1⟩ := KB.out
  have hl := KB.out.lt
  clear q1 L0
  have d1 : decide (a > 199) = false := decide_eq_false (by omega)
  have HJ : Hid (AtR n F a i) := hi
  have hin := hi.1
  clear hi
  go_wp2_with fail
  refine (placeOf_is _ B n F a i _ (H.out.later Q.out) HJ.out hn).mono ?_
  rintro e w2 ⟨rfl, rfl⟩
  obtain ⟨g, o, hao, _, hg, x0, x1, x2⟩ := (H.out.later Q.out).at3 hin
  subst hao
  obtain ⟨n0, N0⟩ : ∃ x, F (i * 3) = x := ⟨_, rfl⟩
  obtain ⟨n1, N1⟩ : ∃ x, F (i * 3 + 1) = x := ⟨_, rfl⟩
  obtain ⟨n2, N2⟩ : ∃ x, F (i * 3 + 2) = x := ⟨_, rfl⟩
  rw [N0] at x0
  rw [N1] at x1
  rw [N2] at x2
  obtain rfl : n0 = a := by rw [← N0]; exact h2
  clear N0 N1 N2 h2
  go_wp2
  obtain ⟨⟨r0, r1⟩, _, _⟩ := (KB.out.put (.int .i64 6) (.slice none 0 0)).alloc (.cells #[.int .i64 n0, .int .i64 n1, .int .i64 n2] 34)
  exact bodyPost_ret (v := .agg #[.int .i64 6, .slice none 0 0]) (by simp [results, Try.results11, go_sem, r0, r1]) rfl (ResRow.none rfl (((Below.setCell Q.out (Nat.le_refl _) _).setCell (Nat.le_refl _) _).alloc (by have := Q.out.size; simp <;> omega) _))
set_option maxRecDepth 100000 in
set_option maxHeartbeats 1000000 in
theorem implSplit_six (ao : Option Addr) (cp B : Nat) (F : Nat → Int) (a : Int) (i : Nat) (w : World) (h : Row w B 3 6 F (.slice ao 6 cp)) (h0 : rangesF 6 F = 0) (h1 : 1 ≤ a ∧ a ≤ 199) (hi : AtR 6 F a i) (h2 : F (i * 3) ≠ a) (G : Nat → Int) :
    Calls Try.prog 11 #[.slice ao 6 cp, .int .i64 a] w (ResRow 3 w 2 0 G) := by
  obtain ⟨n, en⟩ : ∃ n, n = 6 := ⟨_, rfl⟩
  have hn : n ≤ 1048576 := by omega
  have d6 : ((n : Int) == 6) = true := by rw [en]; rfl
  rw [← en] at h h0 hi ⊢
  clear en
  have H : Hid (Row w B 3 n F (.slice ao n cp)) := h
  clear h
  have L0 : Hid (∀ x, Below w.heap.size w x → Calls Try.prog 16 #[.slice ao n cp] x fun e w' => e = .returned (.int .i64 0) ∧ Below x.heap.size x w') := fun x hb => h0 ▸ implRanges_any _ B n F x (H.out.later hb) (by omega)
  clear h0
  go_enter Try.func11, Try.ntmps11
  go_wp2_with fail
  refine (L0.out _ (below_alloc _ _)).mono ?_
  rintro e w1 ⟨rfl, q1⟩
  have Q : Hid (Below w.heap.size w w1) := (below_alloc _ _).trans (q1.mono (by simp))
  have KB : Hid (Blk2 w1 w.heap.size (.int .i64 0) (.slice none 0 0)) := (Blk2.new w (.int .i64 0) (.slice none 0 0) 28).later q1
  obtain ⟨⟨b0, b1⟩, f0, f1⟩ := KB.out
  have hl := KB.out.lt
  clear q1 L0
  have d1 : decide (a > 199) = false := decide_eq_false (by omega)
  have HJ : Hid (AtR n F a i) := hi
  have hin := hi.1
  clear hi
  go_wp2_with fail
  refine (placeOf_is _ B n F a i _ (H.out.later Q.out) HJ.out hn).mono ?_
  rintro e w2 ⟨rfl, rfl⟩
  obtain ⟨g, o, hao, _, hg, x0, x1, x2⟩ := (H.out.later Q.out).at3 hin
  subst hao
  obtain ⟨n0, N0⟩ : ∃ x, F (i * 3) = x := ⟨_, rfl⟩
  obtain ⟨n1, N1⟩ : ∃ x, F (i * 3 + 1) = x := ⟨_, rfl⟩
  obtain ⟨n2, N2⟩ : ∃ x, F (i * 3 + 2) = x := ⟨_, rfl⟩
  rw [N0] at x0
  rw [N1] at x1
  rw [N2] at x2
  have d2 : (n0 == a) = false := beq_eq_false_iff_ne.2 (by rw [← N0]; exact h2)
  clear N0 N1 N2 h2
  go_wp2
  obtain ⟨⟨r0, r1⟩, _, _⟩ := (KB.out.put (.int .i64 2) (.slice none 0 0)).alloc (.cells #[.int .i64 n0, .int .i64 n1, .int .i64 n2] 34)
  exact bodyPost_ret (v := .agg #[.int .i64 2, .slice none 0 0]) (by simp [results, Try.results11, go_sem, r0, r1]) rfl (ResRow.none rfl (((Below.setCell Q.out (Nat.le_refl _) _).setCell (Nat.le_refl _) _).alloc (by have := Q.out.size; simp <;> omega) _))
set_option maxRecDepth 100000 in
set_option maxHeartbeats 1000000 in
theorem implSplit_top (ao : Option Addr) (cp B n : Nat) (F : Nat → Int) (a : Int) (i : Nat) (w : World) (h : Row w B 3 n F (.slice ao n cp)) (hn : n ≤ 1048576) (h0 : rangesF n F = 0) (h1 : 1 ≤ a ∧ a ≤ 199) (hi : AtR n F a i) (h2 : F (i * 3) ≠ a) (h5 : n ≤ 5) (ht : topE F n = 9999) (G : Nat → Int) :
    Calls Try.prog 11 #[.slice ao n cp, .int .i64 a] w (ResRow 3 w 2 0 G) := by
  have H : Hid (Row w B 3 n F (.slice ao n cp)) := h
  have hE := (good_of h0).ep
  have HT : Hid (topE F n = 9999) := ht
  clear h ht
  have L0 : Hid (∀ x, Below w.heap.size w x → Calls Try.prog 16 #[.slice ao n cp] x fun e w' => e = .returned (.int .i64 0) ∧ Below x.heap.size x w') := fun x hb => h0 ▸ implRanges_any _ B n F x (H.out.later hb) (by omega)
  clear h0
  go_enter Try.func11, Try.ntmps11
  go_wp2_with fail
  refine (L0.out _ (below_alloc _ _)).mono ?_
  rintro e w1 ⟨rfl, q1⟩
  have Q : Hid (Below w.heap.size w w1) := (below_alloc _ _).trans (q1.mono (by simp))
  have KB : Hid (Blk2 w1 w.heap.size (.int .i64 0) (.slice none 0 0)) := (Blk2.new w (.int .i64 0) (.slice none 0 0) 28).later q1
  obtain ⟨⟨b0, b1⟩, f0, f1⟩ := KB.out
  have hl := KB.out.lt
  clear q1 L0
  have d1 : decide (a > 199) = false := decide_eq_false (by omega)
  have HJ : Hid (AtR n F a i) := hi
  have hin := hi.1
  clear hi
  go_wp2_with fail
  refine (placeOf_is _ B n F a i _ (H.out.later Q.out) HJ.out hn).mono ?_
  rintro e w2 ⟨rfl, rfl⟩
  obtain ⟨g, o, hao, _, hg, x0, x1, x2⟩ := (H.out.later Q.out).at3 hin
  subst hao
  obtain ⟨n0, N0⟩ : ∃ x, F (i * 3) = x := ⟨_, rfl⟩
  obtain ⟨n1, N1⟩ : ∃ x, F (i * 3 + 1) = x := ⟨_, rfl⟩
  obtain ⟨n2, N2⟩ : ∃ x, F (i * 3 + 2) = x := ⟨_, rfl⟩
  rw [N0] at x0
  rw [N1] at x1
  rw [N2] at x2
  have d2 : (n0 == a) = false := beq_eq_false_iff_ne.2 (by rw [← N0]; exact h2)
  have d6 : ((n : Int) == 6) = false := beq_eq_false_iff_ne.2 (by omega)
  clear N0 N1 N2 h2
  have HE : Hid (∀ i, i < n → 1 ≤ F (i * 3 + 2) ∧ F (i * 3 + 2) ≤ 9999) := hE
  clear hE
  go_wp2_with fail
  refine (nextEpoch_is _ B n F 2 0 _ ((H.out.later Q.out).alloc _) hn HE.out (Or.inl ⟨HT.out, rfl, rfl⟩)).mono ?_
  rintro e w3 ⟨rfl, q3⟩
  have Q3 : Hid (Below w.heap.size w w3) := (Q.out.alloc Q.out.size _).trans (q3.mono (by have := Q.out.size; simp; omega))
  have KB3 : Hid (Blk2 w3 w.heap.size (.int .i64 0) (.slice none 0 0)) := (KB.out.alloc _).later q3
  obtain ⟨⟨y0, y1, y2⟩, _⟩ := (Blk3.new w2 (.int .i64 n0) (.int .i64 n1) (.int .i64 n2) 34).later q3
  obtain ⟨⟨k0, k1⟩, l0, l1⟩ := KB3.out
  have hl3 := KB3.out.lt
  have hl4 : w2.heap.size < w3.heap.size := by have := q3.size; simp at this; omega
  clear q3 b0 b1 f0 f1 KB Q x0 x1 x2 hl
  go_wp2
  obtain ⟨⟨r0, r1⟩, _, _⟩ := (KB3.out.put (.int .i64 2) (.slice none 0 0)).alloc (.cells #[.int .i64 2, .int .i64 0] 31)
  exact bodyPost_ret (v := .agg #[.int .i64 2, .slice none 0 0]) (by simp [results, Try.results11, go_sem, r0, r1]) rfl (ResRow.none rfl (((Below.setCell Q3.out (Nat.le_refl _) _).setCell (Nat.le_refl _) _).alloc (by have := Q3.out.size; simp <;> omega) _))
theorem own_res {w x : World} {B m : Nat} {L : List Int} {G : Nat → Int} {ao : Option Addr} {cp : Nat} (h : OwnM x B 34 3 (.slice ao m cp) m L) (hB : w.heap.size ≤ B) (hl : L.length = m * 3) (hG : ∀ p, p < m * 3 → L.getD p 0 = G p) : Row x w.heap.size 3 m G (.slice ao m cp) ∧ Free x (m * 3) (.slice ao m cp) := by
  have hr := (h.own hl).row
  exact ⟨(hr.1.congr hG).mono hB, hr.2⟩
set_option maxRecDepth 100000 in
set_option maxHeartbeats 1000000 in
theorem implSplit_done (ao : Option Addr) (cp B n : Nat) (F : Nat → Int) (a : Int) (i : Nat) (w : World) (h : Row w B 3 n F (.slice ao n cp)) (h0 : rangesF n F = 0) (h1 : 1 ≤ a ∧ a ≤ 199) (hi : AtR n F a i) (h2 : F (i * 3) ≠ a) (h5 : n ≤ 5) (ht : topE F n ≠ 9999) :
    Calls Try.prog 11 #[.slice ao n cp, .int .i64 a] w (ResRow 3 w 0 (n + 1) (splitG F i a (topE F n + 1))) := by
  have H : Hid (Row w B 3 n F (.slice ao n cp)) := h
  have hn : n ≤ 1048576 := by omega
  have hn1 := (good_of h0).n1
  have hE := (good_of h0).ep
  have hte := topE_bound n hE
  have HG : Hid (Good (n + 1) (splitG F i a (topE F n + 1))) := (good_of h0).split (by omega) hi h2 h5 (by omega)
  obtain ⟨ep, hep⟩ : ∃ e, e = topE F n + 1 := ⟨_, rfl⟩
  rw [← hep] at HG ⊢
  have HT : Hid (topE F n ≠ 9999 ∧ ep = topE F n + 1) := ⟨ht, hep⟩
  clear h ht hep hte
  have L0 : Hid (∀ x, Below w.heap.size w x → Calls Try.prog 16 #[.slice ao n cp] x fun e w' => e = .returned (.int .i64 0) ∧ Below x.heap.size x w') := fun x hb => h0 ▸ implRanges_any _ B n F x (H.out.later hb) (by omega)
  clear h0
  go_enter Try.func11, Try.ntmps11
  go_wp2_with fail
  refine (L0.out _ (below_alloc _ _)).mono ?_
  rintro e w1 ⟨rfl, q1⟩
  have Q : Hid (Below w.heap.size w w1) := (below_alloc _ _).trans (q1.mono (by simp))
  have KB : Hid (Blk2 w1 w.heap.size (.int .i64 0) (.slice none 0 0)) := (Blk2.new w (.int .i64 0) (.slice none 0 0) 28).later q1
  obtain ⟨⟨b0, b1⟩, f0, f1⟩ := KB.out
  have hl := KB.out.lt
  clear q1 L0
  have d1 : decide (a > 199) = false := decide_eq_false (by omega)
  have HJ : Hid (AtR n F a i) := hi
  have hin := hi.1
  clear hi
  go_wp2_with fail
  refine (placeOf_is _ B n F a i _ (H.out.later Q.out) HJ.out hn).mono ?_
  rintro e w2 ⟨rfl, rfl⟩
  obtain ⟨g, o, hao, _, hg, x0, x1, x2⟩ := (H.out.later Q.out).at3 hin
  subst hao
  obtain ⟨n0, N0⟩ : ∃ x, F (i * 3) = x := ⟨_, rfl⟩
  obtain ⟨n1, N1⟩ : ∃ x, F (i * 3 + 1) = x := ⟨_, rfl⟩
  obtain ⟨n2, N2⟩ : ∃ x, F (i * 3 + 2) = x := ⟨_, rfl⟩
  rw [N0] at x0
  rw [N1] at x1
  rw [N2] at x2
  have d2 : (n0 == a) = false := beq_eq_false_iff_ne.2 (by rw [← N0]; exact h2)
  have d6 : ((n : Int) == 6) = false := beq_eq_false_iff_ne.2 (by omega)
  have HN : Hid (F (i * 3) = n0 ∧ F (i * 3 + 1) = n1) := ⟨N0, N1⟩
  clear N0 N1 N2 h2
  have HE : Hid (∀ i, i < n → 1 ≤ F (i * 3 + 2) ∧ F (i * 3 + 2) ≤ 9999) := hE
  clear hE
  go_wp2_with fail
  refine (nextEpoch_is _ B n F 0 ep _ ((H.out.later Q.out).alloc _) hn HE.out (Or.inr ⟨HT.out.1, rfl, HT.out.2⟩)).mono ?_
  rintro e w3 ⟨rfl, q3⟩
  have Q3 : Hid (Below w.heap.size w w3) := (Q.out.alloc Q.out.size _).trans (q3.mono (by have := Q.out.size; simp; omega))
  have KB3 : Hid (Blk2 w3 w.heap.size (.int .i64 0) (.slice none 0 0)) := (KB.out.alloc _).later q3
  obtain ⟨⟨y0, y1, y2⟩, _⟩ := (Blk3.new w2 (.int .i64 n0) (.int .i64 n1) (.int .i64 n2) 34).later q3
  obtain ⟨⟨k0, k1⟩, l0, l1⟩ := KB3.out
  have hl3 := KB3.out.lt
  have hl4 : w2.heap.size < w3.heap.size := by have := q3.size; simp at this; omega
  clear q3 b0 b1 f0 f1 KB Q x0 x1 x2 hl
  have QX : Hid (Below w.heap.size w ((w3.alloc (.cells #[.int .i64 0, .int .i64 ep] 31)).alloc (.cells #[.int .i64 n0, .int .i64 a, .int .i64 ep, .int .i64 a, .int .i64 n1, .int .i64 ep] 34))) := (Q3.out.alloc Q3.out.size _).alloc (by have := Q3.out.size; simp; omega) _
  have LX : Hid (Row ((w3.alloc (.cells #[.int .i64 0, .int .i64 ep] 31)).alloc (.cells #[.int .i64 n0, .int .i64 a, .int .i64 ep, .int .i64 a, .int .i64 n1, .int .i64 ep] 34)) 0 3 2 (fun p => [n0, a, ep, a, n1, ep].getD p 0) (.slice (some ⟨w3.heap.size + 1, 0, none⟩) 2 2)) := lit_six _ n0 a ep a n1 ep _ _ (by simp)
  have KX : Hid (Blk2 ((w3.alloc (.cells #[.int .i64 0, .int .i64 ep] 31)).alloc (.cells #[.int .i64 n0, .int .i64 a, .int .i64 ep, .int .i64 a, .int .i64 n1, .int .i64 ep] 34)) w.heap.size (.int .i64 0) (.slice none 0 0)) := (KB3.out.alloc _).alloc _
  go_wp2_with fail
  refine (arrayOf_is _ cp B n F _ (H.out.later QX.out) hn1 (by omega)).mono ?_
  rintro e w5 ⟨rfl, q5⟩
  have Q5 : Hid (Below w.heap.size w w5) := QX.out.trans (q5.mono QX.out.size)
  have L5 : Hid (Row w5 0 3 2 (fun p => [n0, a, ep, a, n1, ep].getD p 0) (.slice (some ⟨w3.heap.size + 1, 0, none⟩) 2 2)) := LX.out.later q5
  have K5 : Hid (Blk2 w5 w.heap.size (.int .i64 0) (.slice none 0 0)) := KX.out.later q5
  clear q5 QX LX KX KB3 Q3 y0 y1 y2 k0 k1 l0 l1 hl3 hl4
  go_wp2_with fail
  refine (replaced_is (arrF n F) (fun p => [n0, a, ep, a, n1, ep].getD p 0) i 1 2 _ 2 0 _ L5.out (by omega) (by omega) (by omega)).mono ?_
  rintro e w6 ⟨rfl, q6⟩
  have Q6 : Hid (Below w.heap.size w w6) := Q5.out.trans (q6.mono Q5.out.size)
  have K6 : Hid (Blk2 w6 w.heap.size (.int .i64 0) (.slice none 0 0)) := K5.out.later q6
  have hz6 : Hid (w.heap.size < w6.heap.size) := K6.out.lt
  clear q6 Q5 K5 L5
  rw [arrV_congr (C := fun p => if p < (n + 1) * 3 then splitG F i a ep p else 0) (fun p hp => by
    have := replF_split (a := a) (e := ep) (F := F) hin h5 p hp
    rw [HN.out.1, HN.out.2] at this
    exact this)]
  go_wp2_with fail
  refine (list_is _ (n + 1) (by omega) (fun j hj => by
    have := HG.out.ep j hj
    rw [if_pos (by omega)]
    omega) (fun j hj hj6 => by rw [if_neg (by omega)]) _).mono ?_
  rintro e w7 ⟨ro, rc, rfl, O7, q7⟩
  have Q7 : Hid (Below w.heap.size w w7) := Q6.out.trans (q7.mono Q6.out.size)
  have K7 : Hid (Blk2 w7 w.heap.size (.int .i64 0) (.slice none 0 0)) := K6.out.later q7
  have O8 : Hid (OwnM ((w7.setCell ⟨w.heap.size, 0, none⟩ (.int .i64 0)).setCell ⟨w.heap.size, 1, none⟩ (.slice ro (n + 1) rc)) w6.heap.size 34 3 (.slice ro (n + 1) rc) (n + 1) (nums (fun p => if p < (n + 1) * 3 then splitG F i a ep p else 0) ((n + 1) * 3))) := (O7.far (a := ⟨w.heap.size, 0, none⟩) hz6.out _).far (a := ⟨w.heap.size, 1, none⟩) hz6.out _
  obtain ⟨⟨b0, b1⟩, f0, f1⟩ := K7.out
  clear q7 Q6 K6 O7
  go_wp2
  obtain ⟨⟨r0, r1⟩, _, _⟩ := K7.out.put (.int .i64 0) (.slice ro (n + 1) rc)
  have hres := own_res (w := w) (G := splitG F i a ep) O8.out (Nat.le_of_lt hz6.out) (nums_length _ _) (fun p hp => by simp [nums, hp])
  exact bodyPost_ret (v := .agg #[.int .i64 0, .slice ro (n + 1) rc]) (by simp [results, Try.results11, go_sem, r0, r1]) rfl ⟨ro, rc, rfl, hres.1, hres.2, (Q7.out.setCell (Nat.le_refl _) _).setCell (Nat.le_refl _) _⟩
end Go.Proofs.Ytabenplbibhbiaa
