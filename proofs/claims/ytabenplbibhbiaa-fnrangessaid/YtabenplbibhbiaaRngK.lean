/-
  Own text. The model's SplitRange and MergeRange: a code, and a new row.
-/
import Derived.Test.YtabenplbibhbiaaRngP
import Derived.Test.YtabenplbibhbiaaRngI
import Derived.Test.YtabenplbibhbiaaRngJ
namespace Go.Proofs.Ytabenplbibhbiaa
open Go.RowKit

/-- A code, and a new row of its own. -/
def ResOwn (w : World) (c : Int) (m : Nat) (G : Nat → Int) (e : Ending) (w' : World) : Prop := ∃ ao cp L, e = .returned (.agg #[.int .i64 c, .slice ao m cp]) ∧ OwnM w' w.heap.size 34 3 (.slice ao m cp) m L ∧ L.length = m * 3 ∧ (∀ p, p < m * 3 → L.getD p 0 = G p) ∧ Below w.heap.size w w'
theorem ResOwn.row {w w' : World} {c : Int} {m : Nat} {G : Nat → Int} {e : Ending} (h : ResOwn w c m G e w') : ResRow 3 w c m G e w' := by
  obtain ⟨ao, cp, L, h1, h2, h3, h4, h5⟩ := h
  have hres := own_res (w := w) (G := G) h2 (Nat.le_refl _) h3 h4
  exact ⟨ao, cp, h1, hres.1, hres.2, h5⟩
theorem ResOwn.none {w w' : World} {c : Int} {e : Ending} {F : Nat → Int} (he : e = .returned (.agg #[.int .i64 c, .slice none 0 0])) (hb : Below w.heap.size w w') : ResOwn w c 0 F e w' :=
  ⟨Option.none, 0, [], he, OwnM.nil _ _ _ _, rfl, fun p hp => absurd hp (by omega), hb⟩
theorem Row.tailA {w : World} {B m n g o : Nat} {F : Nat → Int} {cp : Nat} (h : Row w B m n F (.slice (some ⟨g, o, none⟩) n cp)) (k : Nat) (hc : n ≤ cp) : Row w B m (n - k) (fun p => F (k * m + p)) (.slice (if cp = k then some ⟨g, o, none⟩ else some ⟨g, o + k * m, none⟩) (n - k) (cp - k)) := by
  by_cases hk : k < n
  · exact h.tailS hk hc
  · exact Row.over _ _ _ _ _ _ _ _ hk
set_option maxRecDepth 100000 in
set_option maxHeartbeats 1000000 in
theorem specSplit_bad (ao : Option Addr) (cp B n : Nat) (F : Nat → Int) (a f : Int) (w : World) (h : Row w B 3 n F (.slice ao n cp)) (hn : n ≤ 1048576) (h0 : rangesF n F = f) (hf : f ≠ 0) (G : Nat → Int) :
    Calls Try.prog 12 #[.slice ao n cp, .int .i64 a] w (ResRow 3 w f 0 G) := by
  have H : Hid (Row w B 3 n F (.slice ao n cp)) := h
  clear h
  have d : (f == 0) = false := beq_eq_false_iff_ne.2 hf
  have L0 : Hid (∀ x, Below w.heap.size w x → Calls Try.prog 39 #[.slice ao n cp] x fun e w' => e = .returned (.int .i64 f) ∧ Below x.heap.size x w') := fun x hb => h0 ▸ l6Fault_any _ B n F x (H.out.later hb) (by omega)
  clear h0
  go_enter Try.func12, Try.ntmps12
  go_wp2_with fail
  refine (L0.out _ (below_alloc _ _)).mono ?_
  rintro e w1 ⟨rfl, q1⟩
  have Q : Hid (Below w.heap.size w w1) := (below_alloc _ _).trans (q1.mono (by simp))
  have KB : Hid (Blk2 w1 w.heap.size (.int .i64 0) (.slice none 0 0)) := (Blk2.new w (.int .i64 0) (.slice none 0 0) 28).later q1
  obtain ⟨⟨b0, b1⟩, f0, f1⟩ := KB.out
  have hl := KB.out.lt
  clear q1 L0
  go_wp2
  obtain ⟨⟨r0, r1⟩, _, _⟩ := KB.out.put (.int .i64 f) (.slice none 0 0)
  exact bodyPost_ret (v := .agg #[.int .i64 f, .slice none 0 0]) (by simp [results, Try.results12, go_sem, r0, r1]) rfl (ResRow.none rfl ((Q.out.setCell (Nat.le_refl _) _).setCell (Nat.le_refl _) _))
set_option maxRecDepth 100000 in
set_option maxHeartbeats 1000000 in
theorem specMerge_bad (ao : Option Addr) (cp B n : Nat) (F : Nat → Int) (a f : Int) (w : World) (h : Row w B 3 n F (.slice ao n cp)) (hn : n ≤ 1048576) (h0 : rangesF n F = f) (hf : f ≠ 0) (G : Nat → Int) :
    Calls Try.prog 29 #[.slice ao n cp, .int .i64 a] w (ResRow 3 w f 0 G) := by
  have H : Hid (Row w B 3 n F (.slice ao n cp)) := h
  clear h
  have d : (f == 0) = false := beq_eq_false_iff_ne.2 hf
  have L0 : Hid (∀ x, Below w.heap.size w x → Calls Try.prog 39 #[.slice ao n cp] x fun e w' => e = .returned (.int .i64 f) ∧ Below x.heap.size x w') := fun x hb => h0 ▸ l6Fault_any _ B n F x (H.out.later hb) (by omega)
  clear h0
  go_enter Try.func29, Try.ntmps29
  go_wp2_with fail
  refine (L0.out _ (below_alloc _ _)).mono ?_
  rintro e w1 ⟨rfl, q1⟩
  have Q : Hid (Below w.heap.size w w1) := (below_alloc _ _).trans (q1.mono (by simp))
  have KB : Hid (Blk2 w1 w.heap.size (.int .i64 0) (.slice none 0 0)) := (Blk2.new w (.int .i64 0) (.slice none 0 0) 28).later q1
  obtain ⟨⟨b0, b1⟩, f0, f1⟩ := KB.out
  have hl := KB.out.lt
  clear q1 L0
  go_wp2
  obtain ⟨⟨r0, r1⟩, _, _⟩ := KB.out.put (.int .i64 f) (.slice none 0 0)
  exact bodyPost_ret (v := .agg #[.int .i64 f, .slice none 0 0]) (by simp [results, Try.results29, go_sem, r0, r1]) rfl (ResRow.none rfl ((Q.out.setCell (Nat.le_refl _) _).setCell (Nat.le_refl _) _))
set_option maxRecDepth 100000 in
set_option maxHeartbeats 1000000 in
theorem specSplit_range (ao : Option Addr) (cp B n : Nat) (F : Nat → Int) (a : Int) (w : World) (h : Row w B 3 n F (.slice ao n cp)) (hn : n ≤ 1048576) (h0 : rangesF n F = 0) (h1 : a < 1 ∨ 199 < a) (G : Nat → Int) :
    Calls Try.prog 12 #[.slice ao n cp, .int .i64 a] w (ResRow 3 w 3 0 G) := by
  have H : Hid (Row w B 3 n F (.slice ao n cp)) := h
  have dd : Hid (decide ((1 : Int) ≤ a ∧ a ≤ 199) = false) := decide_eq_false (by omega)
  clear h
  have L0 : Hid (∀ x, Below w.heap.size w x → Calls Try.prog 39 #[.slice ao n cp] x fun e w' => e = .returned (.int .i64 0) ∧ Below x.heap.size x w') := fun x hb => h0 ▸ l6Fault_any _ B n F x (H.out.later hb) (by omega)
  clear h0
  go_enter Try.func12, Try.ntmps12
  go_wp2_with fail
  refine (L0.out _ (below_alloc _ _)).mono ?_
  rintro e w1 ⟨rfl, q1⟩
  have Q : Hid (Below w.heap.size w w1) := (below_alloc _ _).trans (q1.mono (by simp))
  have KB : Hid (Blk2 w1 w.heap.size (.int .i64 0) (.slice none 0 0)) := (Blk2.new w (.int .i64 0) (.slice none 0 0) 28).later q1
  obtain ⟨⟨b0, b1⟩, f0, f1⟩ := KB.out
  have hl := KB.out.lt
  clear q1 L0
  go_wp2_with fail
  refine (inR_is _ _ _ false dd.out _).mono ?_
  rintro e w2 ⟨rfl, rfl⟩
  go_wp2
  obtain ⟨⟨r0, r1⟩, _, _⟩ := KB.out.put (.int .i64 3) (.slice none 0 0)
  exact bodyPost_ret (v := .agg #[.int .i64 3, .slice none 0 0]) (by simp [results, Try.results12, go_sem, r0, r1]) rfl (ResRow.none rfl ((Q.out.setCell (Nat.le_refl _) _).setCell (Nat.le_refl _) _))
theorem nums_at (F : Nat → Int) (N p : Nat) (h : p < N) : (nums F N)[p]? = some (F p) := by simp [nums, h]
theorem split_list {n : Nat} {F : Nat → Int} {a e n0 n1 : Int} {i : Nat} (hi : i < n) (h0 : F (i * 3) = n0) (h1 : F (i * 3 + 1) = n1) : ∀ p, p < (n + 1) * 3 → (nums F (i * 3) ++ nums (fun p => [n0, a, e, a, n1, e].getD p 0) (2 * 3) ++ nums (fun p => F ((i + 1) * 3 + p)) ((n - (i + 1)) * 3)).getD p 0 = splitG F i a e p := by
  intro p hp
  rw [List.getD_eq_getElem?_getD, List.append_assoc]
  unfold splitG
  by_cases q1 : p < i * 3
  · rw [List.getElem?_append_left (by rw [nums_length]; exact q1), nums_at _ _ _ q1, if_pos q1]; rfl
  · rw [List.getElem?_append_right (by rw [nums_length]; omega), nums_length, if_neg q1]
    by_cases q2 : p < i * 3 + 6
    · rw [List.getElem?_append_left (by rw [nums_length]; omega), nums_at _ _ _ (by omega), if_pos q2, h0, h1]; rfl
    · rw [List.getElem?_append_right (by rw [nums_length]; omega), nums_length, nums_at _ _ _ (by omega), if_neg q2]
      show F _ = F _
      congr 1
      omega
/-- The elements of the list that are read, the result's block, and that nothing old has turned. -/
def SplS (w : World) (g p0 p1 : Nat) (n0 n1 : Int) (X : World) : Prop := (X.cell? ⟨g, p0, none⟩ = some (.int .i64 n0) ∧ X.cell? ⟨g, p1, none⟩ = some (.int .i64 n1)) ∧ Blk2 X w.heap.size (.int .i64 0) (.slice none 0 0) ∧ Below w.heap.size w X
theorem SplS.grown {w X X' : World} {g p0 p1 : Nat} {n0 n1 : Int} {row : Option Nat} (h : SplS w g p0 p1 n0 n1 X) (hg : g < w.heap.size) (gr : X.grownBy X' row) (hr : ∀ r, row = some r → w.heap.size < r) : SplS w g p0 p1 n0 n1 X' := by
  obtain ⟨⟨h1, h2⟩, h3, h4⟩ := h
  have hb : Below w.heap.size w X' := h4.grown gr h4.size (fun r e => Nat.le_of_lt (hr r e))
  have c0 : ∀ p, X'.cell? ⟨g, p, none⟩ = X.cell? ⟨g, p, none⟩ := fun p => (hb.cell (p := ⟨g, p, none⟩) hg).trans (h4.cell (p := ⟨g, p, none⟩) hg).symm
  exact ⟨⟨(c0 p0).trans h1, (c0 p1).trans h2⟩, h3.kept (gr.block _ h3.lt (fun e => by have := hr _ e.symm; omega)), hb⟩
set_option maxRecDepth 100000 in
set_option maxHeartbeats 1000000 in
theorem l6Split_taken (ao : Option Addr) (cp B n : Nat) (F : Nat → Int) (a : Int) (i : Nat) (w : World) (h : Row w B 3 n F (.slice ao n cp)) (hn : n ≤ 1048576) (hi : AtR n F a i) (h2 : F (i * 3) = a) (G : Nat → Int) :
    Calls Try.prog 41 #[.slice ao n cp, .int .i64 a] w (ResOwn w 6 0 G) := by
  obtain ⟨g, o, hao, _, hg, x0, x1, x2⟩ := h.at3 hi.1
  subst hao
  have H : Hid (Row w B 3 n F (.slice (some ⟨g, o, none⟩) n cp)) := h
  have HJ : Hid (AtR n F a i) := hi
  have hin := hi.1
  obtain ⟨n0, N0⟩ : ∃ x, F (i * 3) = x := ⟨_, rfl⟩
  obtain ⟨n1, N1⟩ : ∃ x, F (i * 3 + 1) = x := ⟨_, rfl⟩
  rw [N0] at x0
  rw [N1] at x1
  have bw := below_alloc w (.cells #[.int .i64 0, .slice none 0 0] 28)
  have y0 := (bw.cell (p := ⟨g, o + i * 3, none⟩) hg).trans x0
  have y1 := (bw.cell (p := ⟨g, o + i * 3 + 1, none⟩) hg).trans x1
  clear h hi x0 x1 x2 bw
  have d2 : (n0 == a) = true := beq_iff_eq.2 (by rw [← N0]; exact h2)
  clear N0 N1 h2
  go_enter Try.func41, Try.ntmps41
  go_wp2_with fail
  refine (l6Route_is _ B n F a i _ (H.out.alloc _) HJ.out hn).mono ?_
  rintro e w1 ⟨rfl, hw1⟩
  subst hw1
  go_wp2
  exact bodyPost_ret (v := .agg #[.int .i64 6, .slice none 0 0]) (by simp [results, Try.results41, go_sem]) rfl (ResOwn.none rfl (by repeat (first | exact Below.refl _ _ | refine Below.setCell ?_ (by first | omega | (simp <;> omega)) _ | refine Below.alloc ?_ (by first | omega | (simp <;> omega)) _)))
set_option maxRecDepth 100000 in
set_option maxHeartbeats 1000000 in
theorem l6Split_six (ao : Option Addr) (cp B n : Nat) (F : Nat → Int) (a : Int) (i : Nat) (w : World) (h : Row w B 3 n F (.slice ao n cp)) (hn : n ≤ 1048576) (hE : ∀ i, i < n → 1 ≤ F (i * 3 + 2) ∧ F (i * 3 + 2) ≤ 9999) (hi : AtR n F a i) (h2 : F (i * 3) ≠ a) (h6 : 6 ≤ n) (G : Nat → Int) :
    Calls Try.prog 41 #[.slice ao n cp, .int .i64 a] w (ResOwn w 2 0 G) := by
  obtain ⟨g, o, hao, _, hg, x0, x1, x2⟩ := h.at3 hi.1
  subst hao
  have H : Hid (Row w B 3 n F (.slice (some ⟨g, o, none⟩) n cp)) := h
  have HJ : Hid (AtR n F a i) := hi
  have hin := hi.1
  obtain ⟨n0, N0⟩ : ∃ x, F (i * 3) = x := ⟨_, rfl⟩
  obtain ⟨n1, N1⟩ : ∃ x, F (i * 3 + 1) = x := ⟨_, rfl⟩
  rw [N0] at x0
  rw [N1] at x1
  have bw := below_alloc w (.cells #[.int .i64 0, .slice none 0 0] 28)
  have y0 := (bw.cell (p := ⟨g, o + i * 3, none⟩) hg).trans x0
  have y1 := (bw.cell (p := ⟨g, o + i * 3 + 1, none⟩) hg).trans x1
  clear h hi x0 x1 x2 bw
  have d2 : (n0 == a) = false := beq_eq_false_iff_ne.2 (by rw [← N0]; exact h2)
  have d6 : decide ((n : Int) ≥ 6) = true := decide_eq_true (by omega)
  have HE : Hid (∀ i, i < n → 1 ≤ F (i * 3 + 2) ∧ F (i * 3 + 2) ≤ 9999) := hE
  clear N0 N1 h2 hE
  go_enter Try.func41, Try.ntmps41
  go_wp2_with fail
  refine (l6Route_is _ B n F a i _ (H.out.alloc _) HJ.out hn).mono ?_
  rintro e w1 ⟨rfl, hw1⟩
  subst hw1
  go_wp2_with fail
  refine (l6Next_is _ B n F _ (H.out.alloc _) hn HE.out).mono ?_
  rintro e w1 ⟨rfl, hw1⟩
  subst hw1
  go_wp2
  exact bodyPost_ret (v := .agg #[.int .i64 2, .slice none 0 0]) (by simp [results, Try.results41, go_sem]) rfl (ResOwn.none rfl (by repeat (first | exact Below.refl _ _ | refine Below.setCell ?_ (by first | omega | (simp <;> omega)) _ | refine Below.alloc ?_ (by first | omega | (simp <;> omega)) _)))
set_option maxRecDepth 100000 in
set_option maxHeartbeats 1000000 in
theorem l6Split_top (ao : Option Addr) (cp B n : Nat) (F : Nat → Int) (a : Int) (i : Nat) (w : World) (h : Row w B 3 n F (.slice ao n cp)) (hn : n ≤ 5) (hE : ∀ i, i < n → 1 ≤ F (i * 3 + 2) ∧ F (i * 3 + 2) ≤ 9999) (hi : AtR n F a i) (h2 : F (i * 3) ≠ a) (ht : topE F n = 9999) (G : Nat → Int) :
    Calls Try.prog 41 #[.slice ao n cp, .int .i64 a] w (ResOwn w 2 0 G) := by
  have h5 := hn
  have hn : n ≤ 1048576 := by omega
  obtain ⟨g, o, hao, _, hg, x0, x1, x2⟩ := h.at3 hi.1
  subst hao
  have H : Hid (Row w B 3 n F (.slice (some ⟨g, o, none⟩) n cp)) := h
  have HJ : Hid (AtR n F a i) := hi
  have hin := hi.1
  obtain ⟨n0, N0⟩ : ∃ x, F (i * 3) = x := ⟨_, rfl⟩
  obtain ⟨n1, N1⟩ : ∃ x, F (i * 3 + 1) = x := ⟨_, rfl⟩
  rw [N0] at x0
  rw [N1] at x1
  have bw := below_alloc w (.cells #[.int .i64 0, .slice none 0 0] 28)
  have y0 := (bw.cell (p := ⟨g, o + i * 3, none⟩) hg).trans x0
  have y1 := (bw.cell (p := ⟨g, o + i * 3 + 1, none⟩) hg).trans x1
  clear h hi x0 x1 x2 bw
  have d2 : (n0 == a) = false := beq_eq_false_iff_ne.2 (by rw [← N0]; exact h2)
  have d6 : decide ((n : Int) ≥ 6) = false := decide_eq_false (by omega)
  have HE : Hid (∀ i, i < n → 1 ≤ F (i * 3 + 2) ∧ F (i * 3 + 2) ≤ 9999) := hE
  have HT : Hid (topE F n = 9999) := ht
  have dd : Hid (decide ((1 : Int) ≤ 9999 + 1 ∧ (9999 + 1 : Int) ≤ 9999) = false) := decide_eq_false (by omega)
  clear N0 N1 h2 hE ht
  go_enter Try.func41, Try.ntmps41
  go_wp2_with fail
  refine (l6Route_is _ B n F a i _ (H.out.alloc _) HJ.out hn).mono ?_
  rintro e w1 ⟨rfl, hw1⟩
  subst hw1
  go_wp2_with fail
  refine (l6Next_is _ B n F _ (H.out.alloc _) hn HE.out).mono ?_
  rintro e w1 ⟨rfl, hw1⟩
  subst hw1
  rw [HT.out]
  go_wp2_with fail
  refine (l6Epoch_is _ false dd.out _).mono ?_
  rintro e w1 ⟨rfl, hw1⟩
  subst hw1
  go_wp2
  exact bodyPost_ret (v := .agg #[.int .i64 2, .slice none 0 0]) (by simp [results, Try.results41, go_sem]) rfl (ResOwn.none rfl (by repeat (first | exact Below.refl _ _ | refine Below.setCell ?_ (by first | omega | (simp <;> omega)) _ | refine Below.alloc ?_ (by first | omega | (simp <;> omega)) _)))
set_option maxRecDepth 100000 in
set_option maxHeartbeats 2000000 in
theorem l6Split_done (ao : Option Addr) (cp B n : Nat) (F : Nat → Int) (a : Int) (i : Nat) (w : World) (h : Row w B 3 n F (.slice ao n cp)) (h5 : n ≤ 5) (hcap : n ≤ cp) (hE : ∀ i, i < n → 1 ≤ F (i * 3 + 2) ∧ F (i * 3 + 2) ≤ 9999) (hi : AtR n F a i) (h2 : F (i * 3) ≠ a) (ht : topE F n ≠ 9999) :
    Calls Try.prog 41 #[.slice ao n cp, .int .i64 a] w (ResOwn w 0 (n + 1) (splitG F i a (topE F n + 1))) := by
  have hn : n ≤ 1048576 := by omega
  obtain ⟨g, o, hao, _, hg, x0, x1, x2⟩ := h.at3 hi.1
  subst hao
  have H : Hid (Row w B 3 n F (.slice (some ⟨g, o, none⟩) n cp)) := h
  have HJ : Hid (AtR n F a i) := hi
  have hin := hi.1
  obtain ⟨n0, N0⟩ : ∃ x, F (i * 3) = x := ⟨_, rfl⟩
  obtain ⟨n1, N1⟩ : ∃ x, F (i * 3 + 1) = x := ⟨_, rfl⟩
  rw [N0] at x0
  rw [N1] at x1
  have bw := below_alloc w (.cells #[.int .i64 0, .slice none 0 0] 28)
  have y0 := (bw.cell (p := ⟨g, o + i * 3, none⟩) hg).trans x0
  have y1 := (bw.cell (p := ⟨g, o + i * 3 + 1, none⟩) hg).trans x1
  clear h hi x0 x1 x2 bw
  have hte := topE_bound n hE
  obtain ⟨ep, hep⟩ : ∃ e, e = topE F n + 1 := ⟨_, rfl⟩
  have d2 : (n0 == a) = false := beq_eq_false_iff_ne.2 (by rw [← N0]; exact h2)
  have d6 : decide ((n : Int) ≥ 6) = false := decide_eq_false (by omega)
  have HE : Hid (∀ i, i < n → 1 ≤ F (i * 3 + 2) ∧ F (i * 3 + 2) ≤ 9999) := hE
  have HT : Hid (topE F n + 1 = ep) := hep.symm
  have dd : Hid (decide ((1 : Int) ≤ ep ∧ ep ≤ 9999) = true) := decide_eq_true (by omega)
  have HN : Hid (F (i * 3) = n0 ∧ F (i * 3 + 1) = n1) := ⟨N0, N1⟩
  rw [← hep]
  clear N0 N1 h2 hE ht hep hte
  obtain ⟨i0, hi0, hz0, hz1, hz2⟩ := info_parts info_Range
  go_enter Try.func41, Try.ntmps41
  go_wp2_with fail
  refine (l6Route_is _ B n F a i _ (H.out.alloc _) HJ.out hn).mono ?_
  rintro e w1 ⟨rfl, hw1⟩
  subst hw1
  go_wp2_with fail
  refine (l6Next_is _ B n F _ (H.out.alloc _) hn HE.out).mono ?_
  rintro e w1 ⟨rfl, hw1⟩
  subst hw1
  rw [HT.out]
  go_wp2_with fail
  refine (l6Epoch_is _ true dd.out _).mono ?_
  rintro e w1 ⟨rfl, hw1⟩
  subst hw1
  have hicp : i ≤ cp := by omega
  have hin' : i ≤ n := by omega
  go_wp2_with (at_builtin; refine wpList_app 34 i0 (.agg #[.int .i64 0, .int .i64 0, .int .i64 0]) 3 24 rfl _ _ 24 rfl Try.underlying24 hi0 hz0 hz1 hz2 rfl (by omega) (by omega) _ (w.heap.size + 1) 0 [] _ rfl (OwnM.lit0 _ _ _ _ (by simp)) B i F _ rfl (((H.out.head hin' cp).alloc _).alloc _) (by omega) (by simp) ?_; intro ao1 cp1 w2 O2 G2)
  rw [Nat.zero_add, List.nil_append] at O2
  have O2' : Hid (OwnM w2 (w.heap.size + 1) 34 3 (.slice ao1 i cp1) i (nums F (i * 3))) := O2
  have S1 : SplS w g (o + i * 3) (o + i * 3 + 1) n0 n1 ((w.alloc (.cells #[.int .i64 0, .slice none 0 0] 28)).alloc (.cells #[] 34)) := by
    have bw := below_alloc (w.alloc (.cells #[.int .i64 0, .slice none 0 0] 28)) (.cells #[] 34)
    refine ⟨⟨(bw.cell (p := ⟨g, o + i * 3, none⟩) (by simp; omega)).trans y0, (bw.cell (p := ⟨g, o + i * 3 + 1, none⟩) (by simp; omega)).trans y1⟩, (Blk2.new w _ _ _).later bw, (below_alloc _ _).alloc (by simp) _⟩
  have S2 := S1.grown hg G2 (fun r e => by cases e; exact Nat.lt_succ_self _)
  clear O2 G2 S1 y0 y1
  refine wp_region_held_drew (S := SplS w g (o + i * 3) (o + i * 3 + 1) n0 n1) (by kernel_rfl) (show SplS _ _ _ _ _ _ w2.drew from ⟨S2.1, S2.2.1, S2.2.2.drew⟩) (fun hS => ?_)
  clear S2
  refine wpAnyH_take (i := 0) (v := ?_) rfl (by kernel_rfl) (by kernel_rfl) (by kernel_rfl) (fun _ _ _ h => h) (Or.inl ⟨by kernel_rfl, ?_⟩) hS ?_
  rotate_left
  · intro wx hx
    obtain ⟨⟨hx0, hx1⟩, _⟩ := hx
    go_simp
    try with_reducible rfl
  refine wpAnyH_take (i := 1) (v := ?_) rfl (by kernel_rfl) (by kernel_rfl) (by kernel_rfl) (fun _ _ _ h => h) (Or.inl ⟨by kernel_rfl, ?_⟩) hS ?_
  rotate_left
  · intro wx hx
    obtain ⟨⟨hx0, hx1⟩, _⟩ := hx
    go_simp
    try with_reducible rfl
  refine wpAnyH_take (i := 2) (v := ?_) rfl (by kernel_rfl) (by kernel_rfl) (by kernel_rfl) (fun _ _ _ h => h) (Or.inl ⟨by kernel_rfl, ?_⟩) hS ?_
  rotate_left
  · intro wx hx
    obtain ⟨⟨hx0, hx1⟩, _⟩ := hx
    go_simp
    try with_reducible rfl
  refine wpAnyH_take (i := 3) (v := ?_) rfl (by kernel_rfl) (by kernel_rfl) (by kernel_rfl) (fun _ _ _ h => h) (Or.inl ⟨by kernel_rfl, ?_⟩) hS ?_
  rotate_left
  · intro wx hx
    obtain ⟨⟨hx0, hx1⟩, _⟩ := hx
    go_simp
    try with_reducible rfl
  refine wpAnyH_take (i := 4) (v := ?_) rfl (by kernel_rfl) (by kernel_rfl) (by kernel_rfl) (fun _ _ _ h => h) (Or.inl ⟨by kernel_rfl, ?_⟩) hS ?_
  rotate_left
  · intro wx hx
    obtain ⟨⟨hx0, hx1⟩, _⟩ := hx
    go_simp
    try with_reducible rfl
  refine wpAnyH_take (i := 5) (v := ?_) rfl (by kernel_rfl) (by kernel_rfl) (by kernel_rfl) (fun _ _ _ h => h) (Or.inl ⟨by kernel_rfl, ?_⟩) hS ?_
  rotate_left
  · intro wx hx
    obtain ⟨⟨hx0, hx1⟩, _⟩ := hx
    go_simp
    try with_reducible rfl
  refine wpAnyH_take (i := 6) (v := ?_) rfl (by kernel_rfl) (by kernel_rfl) (by kernel_rfl) (fun _ _ _ h => h) (Or.inl ⟨by kernel_rfl, ?_⟩) hS ?_
  rotate_left
  · intro wx hx
    obtain ⟨⟨hx0, hx1⟩, _⟩ := hx
    go_simp
    try with_reducible rfl
  refine wpAnyH_take (i := 7) (v := ?_) rfl (by kernel_rfl) (by kernel_rfl) (by kernel_rfl) (fun _ _ _ h => h) (Or.inl ⟨by kernel_rfl, ?_⟩) hS ?_
  rotate_left
  · intro wx hx
    obtain ⟨⟨hx0, hx1⟩, _⟩ := hx
    go_simp
    try with_reducible rfl
  refine wpAnyH_take (i := 8) (v := ?_) rfl (by kernel_rfl) (by kernel_rfl) (by kernel_rfl) (fun _ _ _ h => h) (Or.inl ⟨by kernel_rfl, ?_⟩) hS ?_
  rotate_left
  · intro wx hx
    obtain ⟨⟨hx0, hx1⟩, _⟩ := hx
    go_simp
    try with_reducible rfl
  refine wpAnyH_take (i := 9) (v := ?_) rfl (by kernel_rfl) (by kernel_rfl) (by kernel_rfl) (fun _ _ _ h => h) (Or.inl ⟨by kernel_rfl, ?_⟩) hS ?_
  rotate_left
  · intro wx hx
    obtain ⟨⟨hx0, hx1⟩, _⟩ := hx
    go_simp
    try with_reducible rfl
  refine wpAnyH_take (i := 10) (v := ?_) rfl (by kernel_rfl) (by kernel_rfl) (by kernel_rfl) (fun _ _ _ h => h) (Or.inl ⟨by kernel_rfl, ?_⟩) hS ?_
  rotate_left
  · intro wx hx
    obtain ⟨⟨hx0, hx1⟩, _⟩ := hx
    go_simp
    try with_reducible rfl
  refine wpAnyH_take (i := 11) (v := ?_) rfl (by kernel_rfl) (by kernel_rfl) (by kernel_rfl) (fun _ _ _ h => h) (Or.inl ⟨by kernel_rfl, ?_⟩) hS ?_
  rotate_left
  · intro wx hx
    obtain ⟨⟨hx0, hx1⟩, _⟩ := hx
    go_simp
    try with_reducible rfl
  refine wpAnyH_take (i := 12) (v := ?_) rfl (by kernel_rfl) (by kernel_rfl) (by kernel_rfl) (fun _ _ _ h => h) (Or.inl ⟨by kernel_rfl, ?_⟩) hS ?_
  rotate_left
  · intro wx hx
    obtain ⟨⟨hx0, hx1⟩, _⟩ := hx
    go_simp
    try with_reducible rfl
  refine wpAnyH_take (i := 13) (v := ?_) rfl (by kernel_rfl) (by kernel_rfl) (by kernel_rfl) (fun _ _ _ h => h) (Or.inl ⟨by kernel_rfl, ?_⟩) hS ?_
  rotate_left
  · intro wx hx
    obtain ⟨⟨hx0, hx1⟩, _⟩ := hx
    go_simp
    try with_reducible rfl
  refine wpAnyH_take (i := 14) (v := ?_) rfl (by kernel_rfl) (by kernel_rfl) (by kernel_rfl) (fun _ _ _ h => h) (Or.inl ⟨by kernel_rfl, ?_⟩) hS ?_
  rotate_left
  · intro wx hx
    obtain ⟨⟨hx0, hx1⟩, _⟩ := hx
    go_simp
    try with_reducible rfl
  refine wpAnyH_take (i := 15) (v := ?_) rfl (by kernel_rfl) (by kernel_rfl) (by kernel_rfl) (fun _ _ _ h => h) (Or.inl ⟨by kernel_rfl, ?_⟩) hS ?_
  rotate_left
  · intro wx hx
    obtain ⟨⟨hx0, hx1⟩, _⟩ := hx
    go_simp
    try with_reducible rfl
  refine wpAnyH_take (i := 16) (v := ?_) rfl (by kernel_rfl) (by kernel_rfl) (by kernel_rfl) (fun _ _ _ h => h) (Or.inl ⟨by kernel_rfl, ?_⟩) hS ?_
  rotate_left
  · intro wx hx
    obtain ⟨⟨hx0, hx1⟩, _⟩ := hx
    go_simp
    try with_reducible rfl
  refine wpAnyH_ready (rs := [17]) (by kernel_rfl) (by simp) ?_
  refine AllReadyH.cons rfl (fun K hK => ?_) AllReadyH.nil
  go_simp
  have S3 := hS.grown hg (World.grownBy_alloc w2.drew (.cells #[.int .i64 n0, .int .i64 a, .int .i64 ep, .int .i64 a, .int .i64 n1, .int .i64 ep] 34) none) (fun r e => by cases e)
  have O3 : Hid (OwnM (w2.drew.alloc (.cells #[.int .i64 n0, .int .i64 a, .int .i64 ep, .int .i64 a, .int .i64 n1, .int .i64 ep] 34)) (w.heap.size + 1) 34 3 (.slice ao1 i cp1) i (nums F (i * 3))) := O2'.out.later (below_alloc w2 _).drew
  have R3 : Hid (Row (w2.drew.alloc (.cells #[.int .i64 n0, .int .i64 a, .int .i64 ep, .int .i64 a, .int .i64 n1, .int .i64 ep] 34)) 0 3 2 (fun p => [n0, a, ep, a, n1, ep].getD p 0) (.slice (some ⟨w2.heap.size, 0, none⟩) 2 2)) := lit_six w2.drew n0 a ep a n1 ep _ _ rfl
  refine hK.out _ _ S3 (fun hS => ?_)
  clear hK K S3 O2'
  refine wpAnyH_ready (rs := [18]) (by kernel_rfl) (by simp) ?_
  refine AllReadyH.cons rfl (fun K hK => ?_) AllReadyH.nil
  refine step_app 34 i0 (.agg #[.int .i64 0, .int .i64 0, .int .i64 0]) 3 24 (by rfl) _ _ 24 (by rfl) Try.underlying24 hi0 hz0 hz1 hz2 rfl (by omega) (by omega) _ (w.heap.size + 1) i (nums F (i * 3)) (.slice ao1 i cp1) (by rfl) O3.out 0 2 (fun p => [n0, a, ep, a, n1, ep].getD p 0) (.slice (some ⟨w2.heap.size, 0, none⟩) 2 2) (by rfl) R3.out (by omega) (by have := hS.2.1.lt; omega) ?_
  intro ao3 cp3 w4 O4 G4
  have S4 := hS.grown hg G4 (fun r e => by have := (O3.out.block r e).1; omega)
  have O4' : Hid (OwnM w4 (w.heap.size + 1) 34 3 (.slice ao3 (i + 2) cp3) (i + 2) (nums F (i * 3) ++ nums (fun p => [n0, a, ep, a, n1, ep].getD p 0) (2 * 3))) := O4
  clear O4 G4 O3 R3
  refine hK.out _ _ S4 (fun hS => ?_)
  clear hK K S4
  refine wpAnyH_take (i := 19) (v := ?_) rfl (by kernel_rfl) (by kernel_rfl) (by kernel_rfl) (fun _ _ _ h => h) (Or.inl ⟨by kernel_rfl, ?_⟩) hS ?_
  rotate_left
  · intro wx hx
    obtain ⟨⟨hx0, hx1⟩, _⟩ := hx
    go_simp
    try with_reducible rfl
  refine wpAnyH_done (by kernel_rfl) ?_ _
  have QV : Hid (SplS w g (o + i * 3) (o + i * 3 + 1) n0 n1 w4) := hS
  have hz4 : w.heap.size < w4.heap.size := hS.2.1.lt
  obtain ⟨_, ⟨⟨b0, b1⟩, f0, f1⟩, _⟩ := hS
  have hw1 : IntKind.i64.wrap ((i : Int) + 1) = ((i + 1 : Nat) : Int) := by simp [IntKind.wrap, IntKind.bits, IntKind.signed]; omega
  have hi1 : i + 1 ≤ n := by omega
  have hi2 : i + 1 ≤ cp := by omega
  have HR : Hid (Row w4 B 3 (n - (i + 1)) (fun p => F ((i + 1) * 3 + p)) (.slice (if cp = i + 1 then some ⟨g, o, none⟩ else some ⟨g, o + (i + 1) * 3, none⟩) (n - (i + 1)) (cp - (i + 1)))) := (H.out.later QV.out.2.2).tailA (i + 1) hcap
  go_simp
  go_wp2_with (at_builtin; refine wpList_app 34 i0 (.agg #[.int .i64 0, .int .i64 0, .int .i64 0]) 3 24 rfl _ _ 24 rfl Try.underlying24 hi0 hz0 hz1 hz2 rfl (by omega) (by omega) _ (w.heap.size + 1) (i + 2) _ _ rfl O4'.out B (n - (i + 1)) (fun p => F ((i + 1) * 3 + p)) _ rfl HR.out (by omega) (by omega) ?_; intro ao5 cp5 w6 O6 G6; have S6 := QV.out.grown hg G6 (fun r e => by have := (O4'.out.block r e).1; omega); obtain ⟨_, ⟨⟨c0, c1⟩, e0, e1⟩, _⟩ := S6)
  all_goals
    have S6 := QV.out.grown hg G6 (fun r e => by have := (O4'.out.block r e).1; omega)
    have en : i + 2 + (n - (i + 1)) = n + 1 := by omega
    have O7 : OwnM ((w6.setCell ⟨w.heap.size, 0, none⟩ (.int .i64 0)).setCell ⟨w.heap.size, 1, none⟩ (.slice ao5 (i + 2 + (n - (i + 1))) cp5)) (w.heap.size + 1) 34 3 (.slice ao5 (i + 2 + (n - (i + 1))) cp5) (i + 2 + (n - (i + 1))) (nums F (i * 3) ++ nums (fun p => [n0, a, ep, a, n1, ep].getD p 0) (2 * 3) ++ nums (fun p => F ((i + 1) * 3 + p)) ((n - (i + 1)) * 3)) := (O6.far (a := ⟨w.heap.size, 0, none⟩) (Nat.lt_succ_self _) _).far (a := ⟨w.heap.size, 1, none⟩) (Nat.lt_succ_self _) _
    obtain ⟨⟨r0, r1⟩, _, _⟩ := S6.2.1.put (.int .i64 0) (.slice ao5 (i + 2 + (n - (i + 1))) cp5)
    rw [en] at O7 r0 r1
    refine bodyPost_ret (v := .agg #[.int .i64 0, .slice ao5 (n + 1) cp5]) ?_ rfl ⟨ao5, cp5, nums F (i * 3) ++ nums (fun p => [n0, a, ep, a, n1, ep].getD p 0) (2 * 3) ++ nums (fun p => F ((i + 1) * 3 + p)) ((n - (i + 1)) * 3), rfl, ?_⟩
    · simp [results, Try.results41, go_sem, en, r0, r1]
    · rw [en]
      exact ⟨World.ownsRow.mono O7 (Nat.le_succ _), by rw [List.length_append, List.length_append, nums_length, nums_length, nums_length]; omega, split_list hin HN.out.1 HN.out.2, (S6.2.2.setCell (Nat.le_refl _) _).setCell (Nat.le_refl _) _⟩
end Go.Proofs.Ytabenplbibhbiaa
