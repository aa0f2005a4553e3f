/-
  Own text. The model's SplitRange and MergeRange: what they answer.
-/
import Derived.Test.YtabenplbibhbiaaRngK
namespace Go.Proofs.Ytabenplbibhbiaa
open Go.RowKit

theorem Free.set {w : World} {N : Nat} {v : Value} (h : Free w N v) (a : Addr) (u : Value) : Free (w.setCell a u) N v := by
  intro g o n c hv p hp
  rw [World.frozen?_setCell]
  exact h g o n c hv p hp
theorem l6Split_is (ao : Option Addr) (cp B n : Nat) (F : Nat → Int) (a c : Int) (m : Nat) (G : Nat → Int) (i : Nat) (w : World) (h : Row w B 3 n F (.slice ao n cp)) (hcap : n ≤ cp) (hn : n ≤ 6) (hE : ∀ i, i < n → 1 ≤ F (i * 3 + 2) ∧ F (i * 3 + 2) ≤ 9999) (hi : AtR n F a i)
    (ha : (F (i * 3) = a ∧ c = 6 ∧ m = 0) ∨ (F (i * 3) ≠ a ∧ (n = 6 ∨ topE F n = 9999) ∧ c = 2 ∧ m = 0) ∨ (F (i * 3) ≠ a ∧ n ≤ 5 ∧ topE F n ≠ 9999 ∧ c = 0 ∧ m = n + 1 ∧ G = splitG F i a (topE F n + 1))) :
    Calls Try.prog 41 #[.slice ao n cp, .int .i64 a] w (ResOwn w c m G) := by
  rcases ha with ⟨h2, rfl, rfl⟩ | ⟨h2, h3, rfl, rfl⟩ | ⟨h2, h3, h4, rfl, rfl, rfl⟩
  · exact l6Split_taken ao cp B n F a i w h (by omega) hi h2 G
  · by_cases h6 : n = 6
    · exact l6Split_six ao cp B n F a i w h (by omega) hE hi h2 (by omega) G
    · exact l6Split_top ao cp B n F a i w h (by omega) hE hi h2 (h3.resolve_left h6) G
  · exact l6Split_done ao cp B n F a i w h h3 hcap hE hi h2 h4
set_option maxRecDepth 100000 in
set_option maxHeartbeats 1000000 in
theorem specSplit_via (ao : Option Addr) (cp B n : Nat) (F : Nat → Int) (a c : Int) (m : Nat) (G : Nat → Int) (w : World) (h : Row w B 3 n F (.slice ao n cp)) (hn : n ≤ 1048576) (h0 : rangesF n F = 0) (h1 : 1 ≤ a ∧ a ≤ 199)
    (hl6 : ∀ x, Row x B 3 n F (.slice ao n cp) → Calls Try.prog 41 #[.slice ao n cp, .int .i64 a] x (ResRow 3 x c m G)) :
    Calls Try.prog 12 #[.slice ao n cp, .int .i64 a] w (ResRow 3 w c m G) := by
  have H : Hid (Row w B 3 n F (.slice ao n cp)) := h
  have HL : Hid (∀ x, Row x B 3 n F (.slice ao n cp) → Calls Try.prog 41 #[.slice ao n cp, .int .i64 a] x (ResRow 3 x c m G)) := hl6
  have dd : Hid (decide ((1 : Int) ≤ a ∧ a ≤ 199) = true) := decide_eq_true h1
  clear h hl6
  have L0 : Hid (∀ x, Below w.heap.size w x → Calls Try.prog 39 #[.slice ao n cp] x fun e w' => e = .returned (.int .i64 0) ∧ Below x.heap.size x w') := fun x hb => h0 ▸ l6Fault_any _ B n F x (H.out.later hb) (by omega)
  clear h0
  go_enter Try.func12, Try.ntmps12
  go_wp2_with fail
  refine (L0.out _ (below_alloc _ _)).mono ?_
  rintro e w1 ⟨rfl, q1⟩
  have Q : Hid (Below w.heap.size w w1) := (below_alloc _ _).trans (q1.mono (by simp))
  have KB : Hid (Blk2 w1 w.heap.size (.int .i64 0) (.slice none 0 0)) := (Blk2.new w (.int .i64 0) (.slice none 0 0) 28).later q1
  obtain ⟨⟨b0, b1⟩, f0, f1⟩ := KB.out
  have hl := KB.out.lt
  clear q1 L0
  go_wp2_with fail
  refine (inR_is _ _ _ true dd.out _).mono ?_
  rintro e w2 ⟨rfl, rfl⟩
  go_wp2_with fail
  refine (HL.out _ (H.out.later Q.out)).mono ?_
  rintro e w3 ⟨ro, rc, rfl, R3, F3, q3⟩
  have Q3 : Hid (Below w.heap.size w w3) := Q.out.trans (q3.mono Q.out.size)
  have K3 : Hid (Blk2 w3 w.heap.size (.int .i64 0) (.slice none 0 0)) := KB.out.later q3
  have R4 : Hid (Row ((w3.setCell ⟨w.heap.size, 0, none⟩ (.int .i64 c)).setCell ⟨w.heap.size, 1, none⟩ (.slice ro m rc)) w.heap.size 3 m G (.slice ro m rc) ∧ Free ((w3.setCell ⟨w.heap.size, 0, none⟩ (.int .i64 c)).setCell ⟨w.heap.size, 1, none⟩ (.slice ro m rc)) (m * 3) (.slice ro m rc)) := ⟨((R3.far (a := ⟨w.heap.size, 0, none⟩) (Or.inl hl) _).far (a := ⟨w.heap.size, 1, none⟩) (Or.inl hl) _).mono (Nat.le_of_lt hl), (F3.set _ _).set _ _⟩
  clear b0 b1 f0 f1 q3 R3 F3 Q KB
  obtain ⟨⟨b0, b1⟩, f0, f1⟩ := K3.out
  go_wp2
  obtain ⟨⟨r0, r1⟩, _, _⟩ := K3.out.put (.int .i64 c) (.slice ro m rc)
  exact bodyPost_ret (v := .agg #[.int .i64 c, .slice ro m rc]) (by simp [results, Try.results12, go_sem, r0, r1]) rfl ⟨ro, rc, rfl, R4.out.1, R4.out.2, (Q3.out.setCell (Nat.le_refl _) _).setCell (Nat.le_refl _) _⟩
theorem specSplit_is (ao : Option Addr) (cp B n : Nat) (F : Nat → Int) (a c : Int) (m : Nat) (G : Nat → Int) (w : World) (h : Row w B 3 n F (.slice ao n cp)) (hcap : n ≤ cp) (hn : n ≤ 1048576) (ha : SplitAns n F a c m G) :
    Calls Try.prog 12 #[.slice ao n cp, .int .i64 a] w (ResRow 3 w c m G) := by
  rcases ha with ⟨h0, rfl, rfl⟩ | ⟨h0, h1, rfl, rfl⟩ | ⟨i, h0, h1, hi, ha⟩
  · exact specSplit_bad ao cp B n F a _ w h hn rfl h0 G
  · exact specSplit_range ao cp B n F a w h hn h0 h1 G
  · exact specSplit_via ao cp B n F a c m G w h hn h0 h1 (fun x hx => (l6Split_is ao cp B n F a c m G i x hx hcap (good_of h0).n6 (good_of h0).ep hi ha).mono fun _ _ h => h.row)
set_option maxRecDepth 100000 in
set_option maxHeartbeats 1000000 in
theorem specMerge_range (ao : Option Addr) (cp B n : Nat) (F : Nat → Int) (a : Int) (w : World) (h : Row w B 3 n F (.slice ao n cp)) (hn : n ≤ 1048576) (h0 : rangesF n F = 0) (h1 : a < 0 ∨ (n : Int) - 2 < a) (G : Nat → Int) :
    Calls Try.prog 29 #[.slice ao n cp, .int .i64 a] w (ResOwn w 3 0 G) := by
  have H : Hid (Row w B 3 n F (.slice ao n cp)) := h
  have dd : Hid (decide ((0 : Int) ≤ a ∧ a ≤ (n : Int) - 2) = false) := decide_eq_false (by omega)
  clear h
  have hw : IntKind.i64.wrap ((n : Int) - 2) = n - 2 := by simp [IntKind.wrap, IntKind.bits, IntKind.signed]; omega
  have L0 : Hid (∀ x, Below w.heap.size w x → Calls Try.prog 39 #[.slice ao n cp] x fun e w' => e = .returned (.int .i64 0) ∧ Below x.heap.size x w') := fun x hb => h0 ▸ l6Fault_any _ B n F x (H.out.later hb) (by omega)
  clear h0
  go_enter Try.func29, Try.ntmps29
  go_wp2_with fail
  refine (L0.out _ (below_alloc _ _)).mono ?_
  rintro e w1 ⟨rfl, q1⟩
  have Q : Hid (Below w.heap.size w w1) := (below_alloc _ _).trans (q1.mono (by simp))
  have KB : Hid (Blk2 w1 w.heap.size (.int .i64 0) (.slice none 0 0)) := (Blk2.new w (.int .i64 0) (.slice none 0 0) 28).later q1
  obtain ⟨⟨b0, b1⟩, f0, f1⟩ := KB.out
  have hl := KB.out.lt
  clear q1 L0
  go_wp2_with fail
  refine (inR_is _ _ _ false dd.out _).mono ?_
  rintro e w2 ⟨rfl, rfl⟩
  go_wp2
  obtain ⟨⟨r0, r1⟩, _, _⟩ := KB.out.put (.int .i64 3) (.slice none 0 0)
  exact bodyPost_ret (v := .agg #[.int .i64 3, .slice none 0 0]) (by simp [results, Try.results29, go_sem, r0, r1]) rfl (ResOwn.none rfl ((Q.out.setCell (Nat.le_refl _) _).setCell (Nat.le_refl _) _))
set_option maxRecDepth 100000 in
set_option maxHeartbeats 1000000 in
theorem specMerge_top (ao : Option Addr) (cp B n : Nat) (F : Nat → Int) (i : Nat) (w : World) (h : Row w B 3 n F (.slice ao n cp)) (hn : n ≤ 1048576) (h0 : rangesF n F = 0) (hi : i + 2 ≤ n) (ht : topE F n = 9999) (G : Nat → Int) :
    Calls Try.prog 29 #[.slice ao n cp, .int .i64 (i : Int)] w (ResOwn w 2 0 G) := by
  have H : Hid (Row w B 3 n F (.slice ao n cp)) := h
  have dd : Hid (decide ((0 : Int) ≤ (i : Int) ∧ (i : Int) ≤ (n : Int) - 2) = true) := decide_eq_true (by omega)
  have HE : Hid (∀ i, i < n → 1 ≤ F (i * 3 + 2) ∧ F (i * 3 + 2) ≤ 9999) := (good_of h0).ep
  have HT : Hid (topE F n = 9999) := ht
  have de : Hid (decide ((1 : Int) ≤ 9999 + 1 ∧ (9999 + 1 : Int) ≤ 9999) = false) := decide_eq_false (by omega)
  clear h ht
  have hw : IntKind.i64.wrap ((n : Int) - 2) = n - 2 := by simp [IntKind.wrap, IntKind.bits, IntKind.signed]; omega
  have L0 : Hid (∀ x, Below w.heap.size w x → Calls Try.prog 39 #[.slice ao n cp] x fun e w' => e = .returned (.int .i64 0) ∧ Below x.heap.size x w') := fun x hb => h0 ▸ l6Fault_any _ B n F x (H.out.later hb) (by omega)
  clear h0
  go_enter Try.func29, Try.ntmps29
  go_wp2_with fail
  refine (L0.out _ (below_alloc _ _)).mono ?_
  rintro e w1 ⟨rfl, q1⟩
  have Q : Hid (Below w.heap.size w w1) := (below_alloc _ _).trans (q1.mono (by simp))
  have KB : Hid (Blk2 w1 w.heap.size (.int .i64 0) (.slice none 0 0)) := (Blk2.new w (.int .i64 0) (.slice none 0 0) 28).later q1
  obtain ⟨⟨b0, b1⟩, f0, f1⟩ := KB.out
  have hl := KB.out.lt
  clear q1 L0
  go_wp2_with fail
  refine (inR_is _ _ _ true dd.out _).mono ?_
  rintro e w2 ⟨rfl, rfl⟩
  go_wp2_with fail
  refine (l6Next_is _ B n F _ (H.out.later Q.out) hn HE.out).mono ?_
  rintro e w3 ⟨rfl, rfl⟩
  rw [HT.out]
  go_wp2_with fail
  refine (l6Epoch_is _ false de.out _).mono ?_
  rintro e w4 ⟨rfl, rfl⟩
  go_wp2
  obtain ⟨⟨r0, r1⟩, _, _⟩ := KB.out.put (.int .i64 2) (.slice none 0 0)
  exact bodyPost_ret (v := .agg #[.int .i64 2, .slice none 0 0]) (by simp [results, Try.results29, go_sem, r0, r1]) rfl (ResOwn.none rfl ((Q.out.setCell (Nat.le_refl _) _).setCell (Nat.le_refl _) _))
theorem merge_list {n : Nat} {F : Nat → Int} {e n0 n1 : Int} {i : Nat} (hi : i + 2 ≤ n) (h0 : F (i * 3) = n0) (h1 : F ((i + 1) * 3 + 1) = n1) : ∀ p, p < (n - 1) * 3 → (nums F (i * 3) ++ nums (fun p => [n0, n1, e].getD p 0) (1 * 3) ++ nums (fun p => F ((i + 2) * 3 + p)) ((n - (i + 2)) * 3)).getD p 0 = mergeG F i e p := by
  intro p hp
  rw [List.getD_eq_getElem?_getD, List.append_assoc]
  unfold mergeG
  by_cases q1 : p < i * 3
  · rw [List.getElem?_append_left (by rw [nums_length]; exact q1), nums_at _ _ _ q1, if_pos q1]; rfl
  · rw [List.getElem?_append_right (by rw [nums_length]; omega), nums_length, if_neg q1]
    by_cases q2 : p < i * 3 + 3
    · rw [List.getElem?_append_left (by rw [nums_length]; omega), nums_at _ _ _ (by omega), if_pos q2, h0, h1]; rfl
    · rw [List.getElem?_append_right (by rw [nums_length]; omega), nums_length, nums_at _ _ _ (by omega), if_neg q2]
      show F _ = F _
      congr 1
      omega
set_option maxRecDepth 100000 in
set_option maxHeartbeats 2000000 in
theorem specMerge_done (ao : Option Addr) (cp B n : Nat) (F : Nat → Int) (i : Nat) (w : World) (h : Row w B 3 n F (.slice ao n cp)) (hcap : n ≤ cp) (h0 : rangesF n F = 0) (hi : i + 2 ≤ n) (ht : topE F n ≠ 9999) :
    Calls Try.prog 29 #[.slice ao n cp, .int .i64 (i : Int)] w (ResOwn w 0 (n - 1) (mergeG F i (topE F n + 1))) := by
  have hn6 := (good_of h0).n6
  have hn : n ≤ 1048576 := by omega
  obtain ⟨g, o, hao, _, hg, _⟩ := h.at3 (k := i) (by omega)
  subst hao
  have H : Hid (Row w B 3 n F (.slice (some ⟨g, o, none⟩) n cp)) := h
  have dd : Hid (decide ((0 : Int) ≤ (i : Int) ∧ (i : Int) ≤ (n : Int) - 2) = true) := decide_eq_true (by omega)
  have hte := topE_bound n (good_of h0).ep
  have HE : Hid (∀ i, i < n → 1 ≤ F (i * 3 + 2) ∧ F (i * 3 + 2) ≤ 9999) := (good_of h0).ep
  obtain ⟨ep, hep⟩ : ∃ e, e = topE F n + 1 := ⟨_, rfl⟩
  have HT : Hid (topE F n + 1 = ep) := hep.symm
  have de : Hid (decide ((1 : Int) ≤ ep ∧ ep ≤ 9999) = true) := decide_eq_true (by omega)
  rw [← hep]
  clear h ht hep hte
  obtain ⟨i0, hi0, hz0, hz1, hz2⟩ := info_parts info_Range
  have hw : IntKind.i64.wrap ((n : Int) - 2) = n - 2 := by simp [IntKind.wrap, IntKind.bits, IntKind.signed]; omega
  have L0 : Hid (∀ x, Below w.heap.size w x → Calls Try.prog 39 #[.slice (some ⟨g, o, none⟩) n cp] x fun e w' => e = .returned (.int .i64 0) ∧ Below x.heap.size x w') := fun x hb => h0 ▸ l6Fault_any _ B n F x (H.out.later hb) (by omega)
  clear h0
  go_enter Try.func29, Try.ntmps29
  go_wp2_with fail
  refine (L0.out _ (below_alloc _ _)).mono ?_
  rintro e w1 ⟨rfl, q1⟩
  have Q : Hid (Below w.heap.size w w1) := (below_alloc _ _).trans (q1.mono (by simp))
  have KB : Hid (Blk2 w1 w.heap.size (.int .i64 0) (.slice none 0 0)) := (Blk2.new w (.int .i64 0) (.slice none 0 0) 28).later q1
  obtain ⟨⟨b0, b1⟩, f0, f1⟩ := KB.out
  have hl := KB.out.lt
  clear q1 L0
  go_wp2_with fail
  refine (inR_is _ _ _ true dd.out _).mono ?_
  rintro e w2 ⟨rfl, rfl⟩
  go_wp2_with fail
  refine (l6Next_is _ B n F _ (H.out.later Q.out) hn HE.out).mono ?_
  rintro e w3 ⟨rfl, rfl⟩
  rw [HT.out]
  go_wp2_with fail
  refine (l6Epoch_is _ true de.out _).mono ?_
  rintro e w4 ⟨rfl, rfl⟩
  obtain ⟨_, _, he, _, _, x0, _, _⟩ := (H.out.later Q.out).at3 (k := i) (by omega)
  simp only [Option.some.injEq, Addr.mk.injEq, and_true] at he
  obtain ⟨rfl, rfl⟩ := he
  obtain ⟨_, _, he, _, _, _, x1, _⟩ := (H.out.later Q.out).at3 (k := i + 1) (by omega)
  simp only [Option.some.injEq, Addr.mk.injEq, and_true] at he
  obtain ⟨rfl, rfl⟩ := he
  obtain ⟨n0, N0⟩ : ∃ x, F (i * 3) = x := ⟨_, rfl⟩
  obtain ⟨n1, N1⟩ : ∃ x, F ((i + 1) * 3 + 1) = x := ⟨_, rfl⟩
  rw [N0] at x0
  rw [N1] at x1
  have HN : Hid (F (i * 3) = n0 ∧ F ((i + 1) * 3 + 1) = n1) := ⟨N0, N1⟩
  clear N0 N1
  have hicp : i ≤ cp := by omega
  have hin' : i ≤ n := by omega
  have hlw : w.heap.size + 1 ≤ w4.heap.size := hl
  have S1 : Hid (SplS w g (o + i * 3) (o + (i + 1) * 3 + 1) n0 n1 (w4.alloc (.cells #[] 34))) := by
    have bw := below_alloc w4 (.cells #[] 34)
    have hg4 : g < w4.heap.size := by omega
    exact ⟨⟨(bw.cell (p := ⟨g, o + i * 3, none⟩) hg4).trans x0, (bw.cell (p := ⟨g, o + (i + 1) * 3 + 1, none⟩) hg4).trans x1⟩, KB.out.later bw, Q.out.alloc Q.out.size _⟩
  clear x0 x1
  go_wp2_with (at_builtin; refine wpList_app 34 i0 (.agg #[.int .i64 0, .int .i64 0, .int .i64 0]) 3 24 rfl _ _ 24 rfl Try.underlying24 hi0 hz0 hz1 hz2 rfl (by omega) (by omega) _ w4.heap.size 0 [] _ rfl (OwnM.lit0 _ _ _ _ rfl) B i F _ rfl ((((H.out.later Q.out).head hin' cp)).alloc _) (by omega) (by simp) ?_; intro ao1 cp1 w2 O2 G2)
  rw [Nat.zero_add, List.nil_append] at O2
  have O2' : Hid (OwnM w2 w4.heap.size 34 3 (.slice ao1 i cp1) i (nums F (i * 3))) := O2
  have S2 := S1.out.grown hg G2 (fun r e => by cases e; exact hlw)
  have hz2' : Hid (w4.heap.size ≤ w2.heap.size) := Nat.le_trans (by simp) G2.size
  clear O2 G2 S1 b0 b1 f0 f1 Q KB
  refine wp_region_held_drew (S := SplS w g (o + i * 3) (o + (i + 1) * 3 + 1) n0 n1) (by kernel_rfl) (show SplS _ _ _ _ _ _ w2.drew from ⟨S2.1, S2.2.1, S2.2.2.drew⟩) (fun hS => ?_)
  clear S2
  have hin : i < n := by omega
  have hw2 : IntKind.i64.wrap ((i : Int) + 1) = ((i + 1 : Nat) : Int) := by simp [IntKind.wrap, IntKind.bits, IntKind.signed]; omega
  have hin2 : (0 : Int) ≤ (i : Int) + 1 := by omega
  have hin3 : (i : Int) + 1 < n := by omega
  have hin4 : (0 : Int) ≤ (i : Int) + 1 ∧ (i : Int) + 1 < n := ⟨hin2, hin3⟩
  refine wpAnyH_take (i := 0) (v := ?_) rfl (by kernel_rfl) (by kernel_rfl) (by kernel_rfl) (fun _ _ _ h => h) (Or.inl ⟨by kernel_rfl, ?_⟩) hS ?_
  rotate_left
  · intro wx hx
    obtain ⟨⟨hx0, hx1⟩, _⟩ := hx
    go_simp
    try with_reducible rfl
  refine wpAnyH_take (i := 1) (v := ?_) rfl (by kernel_rfl) (by kernel_rfl) (by kernel_rfl) (fun _ _ _ h => h) (Or.inl ⟨by kernel_rfl, ?_⟩) hS ?_
  rotate_left
  · intro wx hx
    obtain ⟨⟨hx0, hx1⟩, _⟩ := hx
    go_simp
    try with_reducible rfl
  refine wpAnyH_take (i := 2) (v := ?_) rfl (by kernel_rfl) (by kernel_rfl) (by kernel_rfl) (fun _ _ _ h => h) (Or.inl ⟨by kernel_rfl, ?_⟩) hS ?_
  rotate_left
  · intro wx hx
    obtain ⟨⟨hx0, hx1⟩, _⟩ := hx
    go_simp
    try with_reducible rfl
  refine wpAnyH_take (i := 3) (v := ?_) rfl (by kernel_rfl) (by kernel_rfl) (by kernel_rfl) (fun _ _ _ h => h) (Or.inl ⟨by kernel_rfl, ?_⟩) hS ?_
  rotate_left
  · intro wx hx
    obtain ⟨⟨hx0, hx1⟩, _⟩ := hx
    go_simp
    try with_reducible rfl
  refine wpAnyH_take (i := 4) (v := ?_) rfl (by kernel_rfl) (by kernel_rfl) (by kernel_rfl) (fun _ _ _ h => h) (Or.inl ⟨by kernel_rfl, ?_⟩) hS ?_
  rotate_left
  · intro wx hx
    obtain ⟨⟨hx0, hx1⟩, _⟩ := hx
    go_simp
    try with_reducible rfl
  refine wpAnyH_take (i := 5) (v := ?_) rfl (by kernel_rfl) (by kernel_rfl) (by kernel_rfl) (fun _ _ _ h => h) (Or.inl ⟨by kernel_rfl, ?_⟩) hS ?_
  rotate_left
  · intro wx hx
    obtain ⟨⟨hx0, hx1⟩, _⟩ := hx
    go_simp
    try with_reducible rfl
  refine wpAnyH_take (i := 6) (v := ?_) rfl (by kernel_rfl) (by kernel_rfl) (by kernel_rfl) (fun _ _ _ h => h) (Or.inl ⟨by kernel_rfl, ?_⟩) hS ?_
  rotate_left
  · intro wx hx
    obtain ⟨⟨hx0, hx1⟩, _⟩ := hx
    go_simp
    try with_reducible rfl
  refine wpAnyH_take (i := 7) (v := ?_) rfl (by kernel_rfl) (by kernel_rfl) (by kernel_rfl) (fun _ _ _ h => h) (Or.inl ⟨by kernel_rfl, ?_⟩) hS ?_
  rotate_left
  · intro wx hx
    obtain ⟨⟨hx0, hx1⟩, _⟩ := hx
    go_simp
    try with_reducible rfl
  refine wpAnyH_take (i := 8) (v := ?_) rfl (by kernel_rfl) (by kernel_rfl) (by kernel_rfl) (fun _ _ _ h => h) (Or.inl ⟨by kernel_rfl, ?_⟩) hS ?_
  rotate_left
  · intro wx hx
    obtain ⟨⟨hx0, hx1⟩, _⟩ := hx
    go_simp
    try with_reducible rfl
  refine wpAnyH_take (i := 9) (v := ?_) rfl (by kernel_rfl) (by kernel_rfl) (by kernel_rfl) (fun _ _ _ h => h) (Or.inl ⟨by kernel_rfl, ?_⟩) hS ?_
  rotate_left
  · intro wx hx
    obtain ⟨⟨hx0, hx1⟩, _⟩ := hx
    go_simp
    try with_reducible rfl
  refine wpAnyH_take (i := 10) (v := ?_) rfl (by kernel_rfl) (by kernel_rfl) (by kernel_rfl) (fun _ _ _ h => h) (Or.inl ⟨by kernel_rfl, ?_⟩) hS ?_
  rotate_left
  · intro wx hx
    obtain ⟨⟨hx0, hx1⟩, _⟩ := hx
    go_simp
    try with_reducible rfl
  refine wpAnyH_take (i := 11) (v := ?_) rfl (by kernel_rfl) (by kernel_rfl) (by kernel_rfl) (fun _ _ _ h => h) (Or.inl ⟨by kernel_rfl, ?_⟩) hS ?_
  rotate_left
  · intro wx hx
    obtain ⟨⟨hx0, hx1⟩, _⟩ := hx
    go_simp
    try with_reducible rfl
  refine wpAnyH_take (i := 12) (v := ?_) rfl (by kernel_rfl) (by kernel_rfl) (by kernel_rfl) (fun _ _ _ h => h) (Or.inl ⟨by kernel_rfl, ?_⟩) hS ?_
  rotate_left
  · intro wx hx
    obtain ⟨⟨hx0, hx1⟩, _⟩ := hx
    go_simp
    try with_reducible rfl
  refine wpAnyH_take (i := 13) (v := ?_) rfl (by kernel_rfl) (by kernel_rfl) (by kernel_rfl) (fun _ _ _ h => h) (Or.inl ⟨by kernel_rfl, ?_⟩) hS ?_
  rotate_left
  · intro wx hx
    obtain ⟨⟨hx0, hx1⟩, _⟩ := hx
    go_simp
    try with_reducible rfl
  refine wpAnyH_ready (rs := [14]) (by kernel_rfl) (by simp) ?_
  refine AllReadyH.cons rfl (fun K hK => ?_) AllReadyH.nil
  go_simp
  have S3 := hS.grown hg (World.grownBy_alloc w2.drew (.cells #[.int .i64 n0, .int .i64 n1, .int .i64 ep] 34) none) (fun r e => by cases e)
  have O3 : Hid (OwnM (w2.drew.alloc (.cells #[.int .i64 n0, .int .i64 n1, .int .i64 ep] 34)) w4.heap.size 34 3 (.slice ao1 i cp1) i (nums F (i * 3))) := O2'.out.later (below_alloc w2 _).drew
  have R3 : Hid (Row (w2.drew.alloc (.cells #[.int .i64 n0, .int .i64 n1, .int .i64 ep] 34)) 0 3 1 (fun p => [n0, n1, ep].getD p 0) (.slice (some ⟨w2.heap.size, 0, none⟩) 1 1)) := row_lit3 w2.drew n0 n1 ep _ _ rfl
  refine hK.out _ _ S3 (fun hS => ?_)
  clear hK K S3 O2'
  refine wpAnyH_ready (rs := [15]) (by kernel_rfl) (by simp) ?_
  refine AllReadyH.cons rfl (fun K hK => ?_) AllReadyH.nil
  refine step_app 34 i0 (.agg #[.int .i64 0, .int .i64 0, .int .i64 0]) 3 24 (by rfl) _ _ 24 (by rfl) Try.underlying24 hi0 hz0 hz1 hz2 rfl (by omega) (by omega) _ w4.heap.size i (nums F (i * 3)) (.slice ao1 i cp1) (by rfl) O3.out 0 1 (fun p => [n0, n1, ep].getD p 0) (.slice (some ⟨w2.heap.size, 0, none⟩) 1 1) (by rfl) R3.out (by omega) (by have := hz2'.out; show w4.heap.size ≤ (World.alloc w2 _).heap.size; simp; omega) ?_
  intro ao3 cp3 w6 O4 G4
  have S4 := hS.grown hg G4 (fun r e => by have := (O3.out.block r e).1; omega)
  have hz6 : Hid (w4.heap.size ≤ w6.heap.size) := Nat.le_trans (by have := hz2'.out; show w4.heap.size ≤ (World.alloc w2 _).heap.size; simp; omega) G4.size
  have O4' : Hid (OwnM w6 w4.heap.size 34 3 (.slice ao3 (i + 1) cp3) (i + 1) (nums F (i * 3) ++ nums (fun p => [n0, n1, ep].getD p 0) (1 * 3))) := O4
  clear O4 G4 O3 R3
  refine hK.out _ _ S4 (fun hS => ?_)
  clear hK K S4
  refine wpAnyH_take (i := 16) (v := ?_) rfl (by kernel_rfl) (by kernel_rfl) (by kernel_rfl) (fun _ _ _ h => h) (Or.inl ⟨by kernel_rfl, ?_⟩) hS ?_
  rotate_left
  · intro wx hx
    obtain ⟨⟨hx0, hx1⟩, _⟩ := hx
    go_simp
    try with_reducible rfl
  refine wpAnyH_done (by kernel_rfl) ?_ _
  have QV : Hid (SplS w g (o + i * 3) (o + (i + 1) * 3 + 1) n0 n1 w6) := hS
  obtain ⟨_, ⟨⟨b0, b1⟩, f0, f1⟩, _⟩ := hS
  have hw1 : IntKind.i64.wrap ((i : Int) + 2) = ((i + 2 : Nat) : Int) := by simp [IntKind.wrap, IntKind.bits, IntKind.signed]; omega
  have hi1 : i + 2 ≤ n := hi
  have hi2 : i + 2 ≤ cp := by omega
  have HR : Hid (Row w6 B 3 (n - (i + 2)) (fun p => F ((i + 2) * 3 + p)) (.slice (if cp = i + 2 then some ⟨g, o, none⟩ else some ⟨g, o + (i + 2) * 3, none⟩) (n - (i + 2)) (cp - (i + 2)))) := (H.out.later QV.out.2.2).tailA (i + 2) hcap
  go_simp
  go_wp2_with (at_builtin; refine wpList_app 34 i0 (.agg #[.int .i64 0, .int .i64 0, .int .i64 0]) 3 24 rfl _ _ 24 rfl Try.underlying24 hi0 hz0 hz1 hz2 rfl (by omega) (by omega) _ w4.heap.size (i + 1) _ _ rfl O4'.out B (n - (i + 2)) (fun p => F ((i + 2) * 3 + p)) _ rfl HR.out (by omega) hz6.out ?_; intro ao5 cp5 w8 O6 G6; have S6 := QV.out.grown hg G6 (fun r e => by have := (O4'.out.block r e).1; omega); obtain ⟨_, ⟨⟨c0, c1⟩, e0, e1⟩, _⟩ := S6)
  all_goals
    have S6 := QV.out.grown hg G6 (fun r e => by have := (O4'.out.block r e).1; omega)
    have en : i + 1 + (n - (i + 2)) = n - 1 := by omega
    have O7 : OwnM ((w8.setCell ⟨w.heap.size, 0, none⟩ (.int .i64 0)).setCell ⟨w.heap.size, 1, none⟩ (.slice ao5 (i + 1 + (n - (i + 2))) cp5)) w4.heap.size 34 3 (.slice ao5 (i + 1 + (n - (i + 2))) cp5) (i + 1 + (n - (i + 2))) (nums F (i * 3) ++ nums (fun p => [n0, n1, ep].getD p 0) (1 * 3) ++ nums (fun p => F ((i + 2) * 3 + p)) ((n - (i + 2)) * 3)) := (O6.far (a := ⟨w.heap.size, 0, none⟩) hlw _).far (a := ⟨w.heap.size, 1, none⟩) hlw _
    obtain ⟨⟨r0, r1⟩, _, _⟩ := S6.2.1.put (.int .i64 0) (.slice ao5 (i + 1 + (n - (i + 2))) cp5)
    rw [en] at O7 r0 r1
    refine bodyPost_ret (v := .agg #[.int .i64 0, .slice ao5 (n - 1) cp5]) ?_ rfl ⟨ao5, cp5, nums F (i * 3) ++ nums (fun p => [n0, n1, ep].getD p 0) (1 * 3) ++ nums (fun p => F ((i + 2) * 3 + p)) ((n - (i + 2)) * 3), rfl, ?_⟩
    · simp [results, Try.results29, go_sem, en, r0, r1]
    · rw [en]
      exact ⟨World.ownsRow.mono O7 (by omega), by rw [List.length_append, List.length_append, nums_length, nums_length, nums_length]; omega, merge_list hi HN.out.1 HN.out.2, (S6.2.2.setCell (Nat.le_refl _) _).setCell (Nat.le_refl _) _⟩
theorem specMerge_own (ao : Option Addr) (cp B n : Nat) (F : Nat → Int) (a c : Int) (m : Nat) (G : Nat → Int) (w : World) (h : Row w B 3 n F (.slice ao n cp)) (hcap : n ≤ cp) (hn : n ≤ 1048576) (h0 : rangesF n F = 0) (ha : MergeAns n F a c m G) :
    Calls Try.prog 29 #[.slice ao n cp, .int .i64 a] w (ResOwn w c m G) := by
  rcases ha with ⟨h0', _⟩ | ⟨_, h1, rfl, rfl⟩ | ⟨i, _, rfl, hi, ha⟩
  · exact absurd h0 h0'
  · exact specMerge_range ao cp B n F a w h hn h0 h1 G
  · rcases ha with ⟨h2, rfl, rfl⟩ | ⟨h2, rfl, rfl, rfl⟩
    · exact specMerge_top ao cp B n F i w h hn h0 hi h2 G
    · exact specMerge_done ao cp B n F i w h hcap h0 hi h2
theorem specMerge_is (ao : Option Addr) (cp B n : Nat) (F : Nat → Int) (a c : Int) (m : Nat) (G : Nat → Int) (w : World) (h : Row w B 3 n F (.slice ao n cp)) (hcap : n ≤ cp) (hn : n ≤ 1048576) (ha : MergeAns n F a c m G) :
    Calls Try.prog 29 #[.slice ao n cp, .int .i64 a] w (ResRow 3 w c m G) := by
  rcases ha with ⟨h0, rfl, rfl⟩ | ⟨h0, h1, rfl, rfl⟩ | ⟨i, h0, rfl, hi, ha⟩
  · exact specMerge_bad ao cp B n F a _ w h hn rfl h0 G
  · exact (specMerge_range ao cp B n F a w h hn h0 h1 G).mono fun _ _ h => h.row
  · rcases ha with ⟨h2, rfl, rfl⟩ | ⟨h2, rfl, rfl, rfl⟩
    · exact (specMerge_top ao cp B n F i w h hn h0 hi h2 G).mono fun _ _ h => h.row
    · exact (specMerge_done ao cp B n F i w h hcap h0 hi h2).mono fun _ _ h => h.row
end Go.Proofs.Ytabenplbibhbiaa
