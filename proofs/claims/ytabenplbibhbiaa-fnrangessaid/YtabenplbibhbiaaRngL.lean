/-
  Own text. The program's MergeRange: a code, and a new row.
-/
import Derived.Test.YtabenplbibhbiaaRngJ
namespace Go.Proofs.Ytabenplbibhbiaa
open Go.RowKit

set_option maxRecDepth 100000 in
set_option maxHeartbeats 1000000 in
theorem implMerge_range (ao : Option Addr) (cp B n : Nat) (F : Nat → Int) (a : Int) (w : World) (h : Row w B 3 n F (.slice ao n cp)) (hn : n ≤ 1048576) (h0 : rangesF n F = 0) (h1 : a < 0 ∨ (n : Int) - 2 < a) (G : Nat → Int) :
    Calls Try.prog 14 #[.slice ao n cp, .int .i64 a] w (ResRow 3 w 3 0 G) := by
  have H : Hid (Row w B 3 n F (.slice ao n cp)) := h
  clear h
  have hw : IntKind.i64.wrap ((n : Int) - 1) = n - 1 := by simp [IntKind.wrap, IntKind.bits, IntKind.signed]; omega
  have L0 : Hid (∀ x, Below w.heap.size w x → Calls Try.prog 16 #[.slice ao n cp] x fun e w' => e = .returned (.int .i64 0) ∧ Below x.heap.size x w') := fun x hb => h0 ▸ implRanges_any _ B n F x (H.out.later hb) (by omega)
  clear h0
  go_enter Try.func14, Try.ntmps14
  go_wp2_with fail
  refine (L0.out _ (below_alloc _ _)).mono ?_
  rintro e w1 ⟨rfl, q1⟩
  have Q : Hid (Below w.heap.size w w1) := (below_alloc _ _).trans (q1.mono (by simp))
  have KB : Hid (Blk2 w1 w.heap.size (.int .i64 0) (.slice none 0 0)) := (Blk2.new w (.int .i64 0) (.slice none 0 0) 28).later q1
  obtain ⟨⟨b0, b1⟩, f0, f1⟩ := KB.out
  have hl := KB.out.lt
  clear q1 L0
  rcases Int.lt_or_le a 0 with h1 | h2
  · go_wp2
    obtain ⟨⟨r0, r1⟩, _, _⟩ := KB.out.put (.int .i64 3) (.slice none 0 0)
    exact bodyPost_ret (v := .agg #[.int .i64 3, .slice none 0 0]) (by simp [results, Try.results14, go_sem, r0, r1]) rfl (ResRow.none rfl ((Q.out.setCell (Nat.le_refl _) _).setCell (Nat.le_refl _) _))
  · have d : decide (a ≥ (n : Int) - 1) = true := decide_eq_true (by omega)
    go_wp2
    obtain ⟨⟨r0, r1⟩, _, _⟩ := KB.out.put (.int .i64 3) (.slice none 0 0)
    exact bodyPost_ret (v := .agg #[.int .i64 3, .slice none 0 0]) (by simp [results, Try.results14, go_sem, r0, r1]) rfl (ResRow.none rfl ((Q.out.setCell (Nat.le_refl _) _).setCell (Nat.le_refl _) _))
set_option maxRecDepth 100000 in
set_option maxHeartbeats 1000000 in
theorem implMerge_top (ao : Option Addr) (cp B n : Nat) (F : Nat → Int) (i : Nat) (w : World) (h : Row w B 3 n F (.slice ao n cp)) (hn : n ≤ 1048576) (h0 : rangesF n F = 0) (hi : i + 2 ≤ n) (ht : topE F n = 9999) (G : Nat → Int) :
    Calls Try.prog 14 #[.slice ao n cp, .int .i64 (i : Int)] w (ResRow 3 w 2 0 G) := by
  have H : Hid (Row w B 3 n F (.slice ao n cp)) := h
  have hE := (good_of h0).ep
  have HT : Hid (topE F n = 9999) := ht
  clear h ht
  have hw : IntKind.i64.wrap ((n : Int) - 1) = n - 1 := by simp [IntKind.wrap, IntKind.bits, IntKind.signed]; omega
  have d : decide ((i : Int) ≥ (n : Int) - 1) = false := decide_eq_false (by omega)
  have L0 : Hid (∀ x, Below w.heap.size w x → Calls Try.prog 16 #[.slice ao n cp] x fun e w' => e = .returned (.int .i64 0) ∧ Below x.heap.size x w') := fun x hb => h0 ▸ implRanges_any _ B n F x (H.out.later hb) (by omega)
  clear h0
  go_enter Try.func14, Try.ntmps14
  go_wp2_with fail
  refine (L0.out _ (below_alloc _ _)).mono ?_
  rintro e w1 ⟨rfl, q1⟩
  have Q : Hid (Below w.heap.size w w1) := (below_alloc _ _).trans (q1.mono (by simp))
  have KB : Hid (Blk2 w1 w.heap.size (.int .i64 0) (.slice none 0 0)) := (Blk2.new w (.int .i64 0) (.slice none 0 0) 28).later q1
  obtain ⟨⟨b0, b1⟩, f0, f1⟩ := KB.out
  have hl := KB.out.lt
  clear q1 L0
  have HE : Hid (∀ i, i < n → 1 ≤ F (i * 3 + 2) ∧ F (i * 3 + 2) ≤ 9999) := hE
  clear hE
  go_wp2_with fail
  refine (nextEpoch_is _ B n F 2 0 _ (H.out.later Q.out) hn HE.out (Or.inl ⟨HT.out, rfl, rfl⟩)).mono ?_
  rintro e w3 ⟨rfl, q3⟩
  have Q3 : Hid (Below w.heap.size w w3) := Q.out.trans (q3.mono Q.out.size)
  have KB3 : Hid (Blk2 w3 w.heap.size (.int .i64 0) (.slice none 0 0)) := KB.out.later q3
  obtain ⟨⟨k0, k1⟩, l0, l1⟩ := KB3.out
  have hl3 := KB3.out.lt
  clear q3 b0 b1 f0 f1 KB Q hl
  go_wp2
  obtain ⟨⟨r0, r1⟩, _, _⟩ := (KB3.out.put (.int .i64 2) (.slice none 0 0)).alloc (.cells #[.int .i64 2, .int .i64 0] 31)
  exact bodyPost_ret (v := .agg #[.int .i64 2, .slice none 0 0]) (by simp [results, Try.results14, go_sem, r0, r1]) rfl (ResRow.none rfl (((Below.setCell Q3.out (Nat.le_refl _) _).setCell (Nat.le_refl _) _).alloc (by have := Q3.out.size; simp <;> omega) _))
/-- What the region that makes the joined range holds. -/
def MergS (w : World) (g o i k : Nat) (n0 n1 ep : Int) (X : World) : Prop := (X.cell? ⟨g, o + i * 3, none⟩ = some (.int .i64 n0) ∧ X.cell? ⟨g, o + (i + 1) * 3 + 1, none⟩ = some (.int .i64 n1) ∧ X.cell? ⟨k, 1, none⟩ = some (.int .i64 ep)) ∧ Blk2 X w.heap.size (.int .i64 0) (.slice none 0 0) ∧ Below w.heap.size w X
theorem MergS.later {w X X' : World} {g o i k : Nat} {n0 n1 ep : Int} (h : MergS w g o i k n0 n1 ep X) (hb : Below X.heap.size X X') : MergS w g o i k n0 n1 ep X' := by
  obtain ⟨⟨h1, h2, h3⟩, h4, h5⟩ := h
  exact ⟨⟨(hb.cell (World.block_lt_of_cell? X _ h1)).trans h1, (hb.cell (World.block_lt_of_cell? X _ h2)).trans h2, (hb.cell (World.block_lt_of_cell? X _ h3)).trans h3⟩, h4.later hb, h5.trans (hb.mono h5.size)⟩
set_option maxRecDepth 100000 in
set_option maxHeartbeats 2000000 in
theorem implMerge_done (ao : Option Addr) (cp B n : Nat) (F : Nat → Int) (i : Nat) (w : World) (h : Row w B 3 n F (.slice ao n cp)) (h0 : rangesF n F = 0) (hi : i + 2 ≤ n) (ht : topE F n ≠ 9999) :
    Calls Try.prog 14 #[.slice ao n cp, .int .i64 (i : Int)] w (ResRow 3 w 0 (n - 1) (mergeG F i (topE F n + 1))) := by
  have H : Hid (Row w B 3 n F (.slice ao n cp)) := h
  have hn6 := (good_of h0).n6
  have hn : n ≤ 1048576 := by omega
  have hE := (good_of h0).ep
  have hte := topE_bound n hE
  have HG : Hid (Good (n - 1) (mergeG F i (topE F n + 1))) := (good_of h0).merge hi (by omega)
  obtain ⟨ep, hep⟩ : ∃ e, e = topE F n + 1 := ⟨_, rfl⟩
  rw [← hep] at HG ⊢
  have HT : Hid (topE F n ≠ 9999 ∧ ep = topE F n + 1) := ⟨ht, hep⟩
  clear h ht hep hte
  have hw : IntKind.i64.wrap ((n : Int) - 1) = n - 1 := by simp [IntKind.wrap, IntKind.bits, IntKind.signed]; omega
  have hw2 : IntKind.i64.wrap ((i : Int) + 1) = ((i + 1 : Nat) : Int) := by simp [IntKind.wrap, IntKind.bits, IntKind.signed]; omega
  have d : decide ((i : Int) ≥ (n : Int) - 1) = false := decide_eq_false (by omega)
  have L0 : Hid (∀ x, Below w.heap.size w x → Calls Try.prog 16 #[.slice ao n cp] x fun e w' => e = .returned (.int .i64 0) ∧ Below x.heap.size x w') := fun x hb => h0 ▸ implRanges_any _ B n F x (H.out.later hb) (by omega)
  clear h0
  go_enter Try.func14, Try.ntmps14
  go_wp2_with fail
  refine (L0.out _ (below_alloc _ _)).mono ?_
  rintro e w1 ⟨rfl, q1⟩
  have Q : Hid (Below w.heap.size w w1) := (below_alloc _ _).trans (q1.mono (by simp))
  have KB : Hid (Blk2 w1 w.heap.size (.int .i64 0) (.slice none 0 0)) := (Blk2.new w (.int .i64 0) (.slice none 0 0) 28).later q1
  obtain ⟨⟨b0, b1⟩, f0, f1⟩ := KB.out
  have hl := KB.out.lt
  clear q1 L0
  have HE : Hid (∀ i, i < n → 1 ≤ F (i * 3 + 2) ∧ F (i * 3 + 2) ≤ 9999) := hE
  clear hE
  go_wp2_with fail
  refine (nextEpoch_is _ B n F 0 ep _ (H.out.later Q.out) hn HE.out (Or.inr ⟨HT.out.1, rfl, HT.out.2⟩)).mono ?_
  rintro e w3 ⟨rfl, q3⟩
  have Q3 : Hid (Below w.heap.size w w3) := Q.out.trans (q3.mono Q.out.size)
  have KB3 : Hid (Blk2 w3 w.heap.size (.int .i64 0) (.slice none 0 0)) := KB.out.later q3
  obtain ⟨⟨k0, k1⟩, l0, l1⟩ := KB3.out
  have hl3 := KB3.out.lt
  clear q3 b0 b1 f0 f1 KB Q hl
  obtain ⟨g, o, hao, _, hg, x0, _, _⟩ := (H.out.later Q3.out).at3 (k := i) (by omega)
  subst hao
  obtain ⟨g', o', he, _, _, _, x1, _⟩ := (H.out.later Q3.out).at3 (k := i + 1) (by omega)
  simp only [Option.some.injEq, Addr.mk.injEq, and_true] at he
  obtain ⟨rfl, rfl⟩ := he
  obtain ⟨n0, N0⟩ : ∃ x, F (i * 3) = x := ⟨_, rfl⟩
  obtain ⟨n1, N1⟩ : ∃ x, F ((i + 1) * 3 + 1) = x := ⟨_, rfl⟩
  rw [N0] at x0
  rw [N1] at x1
  have HN : Hid (F (i * 3) = n0 ∧ F ((i + 1) * 3 + 1) = n1) := ⟨N0, N1⟩
  clear N0 N1
  have bw := below_alloc w3 (.cells #[.int .i64 0, .int .i64 ep] 31)
  have HS : MergS w g o i w3.heap.size n0 n1 ep (w3.alloc (.cells #[.int .i64 0, .int .i64 ep] 31)).drew := ⟨⟨(bw.cell hg).trans x0, (bw.cell hg).trans x1, World.cell?_alloc_mark w3 _ _ _ 1⟩, KB3.out.later bw.drew, (Q3.out.alloc Q3.out.size _).drew⟩
  have HY : Hid (Below w.heap.size w w3) := Q3.out
  clear x0 x1 bw Q3 KB3 hg
  go_wp2_with fail
  refine wp_region_held_drew (S := MergS w g o i w3.heap.size n0 n1 ep) (by kernel_rfl) HS (fun hS => ?_)
  clear HS k0 k1 l0 l1
  have hin : i < n := by omega
  have hin1 : i + 1 < n := by omega
  have hin2 : (0 : Int) ≤ (i : Int) + 1 := by omega
  have hin3 : (i : Int) + 1 < n := by omega
  have hin4 : (0 : Int) ≤ (i : Int) + 1 ∧ (i : Int) + 1 < n := ⟨hin2, hin3⟩
  refine wpAnyH_take (i := 0) (v := ?_) rfl (by kernel_rfl) (by kernel_rfl) (by kernel_rfl) (fun _ _ _ h => h) (Or.inl ⟨by kernel_rfl, ?_⟩) hS ?_
  rotate_left
  · intro wx hx
    obtain ⟨⟨hx0, hx1, hx2⟩, _⟩ := hx
    go_simp
    try with_reducible rfl
  refine wpAnyH_take (i := 1) (v := ?_) rfl (by kernel_rfl) (by kernel_rfl) (by kernel_rfl) (fun _ _ _ h => h) (Or.inl ⟨by kernel_rfl, ?_⟩) hS ?_
  rotate_left
  · intro wx hx
    obtain ⟨⟨hx0, hx1, hx2⟩, _⟩ := hx
    go_simp
    try with_reducible rfl
  refine wpAnyH_take (i := 2) (v := ?_) rfl (by kernel_rfl) (by kernel_rfl) (by kernel_rfl) (fun _ _ _ h => h) (Or.inl ⟨by kernel_rfl, ?_⟩) hS ?_
  rotate_left
  · intro wx hx
    obtain ⟨⟨hx0, hx1, hx2⟩, _⟩ := hx
    go_simp
    try with_reducible rfl
  refine wpAnyH_take (i := 3) (v := ?_) rfl (by kernel_rfl) (by kernel_rfl) (by kernel_rfl) (fun _ _ _ h => h) (Or.inl ⟨by kernel_rfl, ?_⟩) hS ?_
  rotate_left
  · intro wx hx
    obtain ⟨⟨hx0, hx1, hx2⟩, _⟩ := hx
    go_simp
    try with_reducible rfl
  refine wpAnyH_take (i := 4) (v := ?_) rfl (by kernel_rfl) (by kernel_rfl) (by kernel_rfl) (fun _ _ _ h => h) (Or.inl ⟨by kernel_rfl, ?_⟩) hS ?_
  rotate_left
  · intro wx hx
    obtain ⟨⟨hx0, hx1, hx2⟩, _⟩ := hx
    go_simp
    try with_reducible rfl
  refine wpAnyH_take (i := 5) (v := ?_) rfl (by kernel_rfl) (by kernel_rfl) (by kernel_rfl) (fun _ _ _ h => h) (Or.inl ⟨by kernel_rfl, ?_⟩) hS ?_
  rotate_left
  · intro wx hx
    obtain ⟨⟨hx0, hx1, hx2⟩, _⟩ := hx
    go_simp
    try with_reducible rfl
  refine wpAnyH_take (i := 6) (v := ?_) rfl (by kernel_rfl) (by kernel_rfl) (by kernel_rfl) (fun _ _ _ h => h) (Or.inl ⟨by kernel_rfl, ?_⟩) hS ?_
  rotate_left
  · intro wx hx
    obtain ⟨⟨hx0, hx1, hx2⟩, _⟩ := hx
    go_simp
    try with_reducible rfl
  refine wpAnyH_take (i := 7) (v := ?_) rfl (by kernel_rfl) (by kernel_rfl) (by kernel_rfl) (fun _ _ _ h => h) (Or.inl ⟨by kernel_rfl, ?_⟩) hS ?_
  rotate_left
  · intro wx hx
    obtain ⟨⟨hx0, hx1, hx2⟩, _⟩ := hx
    go_simp
    try with_reducible rfl
  refine wpAnyH_take (i := 8) (v := ?_) rfl (by kernel_rfl) (by kernel_rfl) (by kernel_rfl) (fun _ _ _ h => h) (Or.inl ⟨by kernel_rfl, ?_⟩) hS ?_
  rotate_left
  · intro wx hx
    obtain ⟨⟨hx0, hx1, hx2⟩, _⟩ := hx
    go_simp
    try with_reducible rfl
  refine wpAnyH_take (i := 9) (v := ?_) rfl (by kernel_rfl) (by kernel_rfl) (by kernel_rfl) (fun _ _ _ h => h) (Or.inl ⟨by kernel_rfl, ?_⟩) hS ?_
  rotate_left
  · intro wx hx
    obtain ⟨⟨hx0, hx1, hx2⟩, _⟩ := hx
    go_simp
    try with_reducible rfl
  refine wpAnyH_take (i := 10) (v := ?_) rfl (by kernel_rfl) (by kernel_rfl) (by kernel_rfl) (fun _ _ _ h => h) (Or.inl ⟨by kernel_rfl, ?_⟩) hS ?_
  rotate_left
  · intro wx hx
    obtain ⟨⟨hx0, hx1, hx2⟩, _⟩ := hx
    go_simp
    try with_reducible rfl
  refine wpAnyH_take (i := 11) (v := ?_) rfl (by kernel_rfl) (by kernel_rfl) (by kernel_rfl) (fun _ _ _ h => h) (Or.inl ⟨by kernel_rfl, ?_⟩) hS ?_
  rotate_left
  · intro wx hx
    obtain ⟨⟨hx0, hx1, hx2⟩, _⟩ := hx
    go_simp
    try with_reducible rfl
  refine wpAnyH_take (i := 12) (v := ?_) rfl (by kernel_rfl) (by kernel_rfl) (by kernel_rfl) (fun _ _ _ h => h) (Or.inl ⟨by kernel_rfl, ?_⟩) hS ?_
  rotate_left
  · intro wx hx
    obtain ⟨⟨hx0, hx1, hx2⟩, _⟩ := hx
    go_simp
    try with_reducible rfl
  refine wpAnyH_take (i := 13) (v := ?_) rfl (by kernel_rfl) (by kernel_rfl) (by kernel_rfl) (fun _ _ _ h => h) (Or.inl ⟨by kernel_rfl, ?_⟩) hS ?_
  rotate_left
  · intro wx hx
    obtain ⟨⟨hx0, hx1, hx2⟩, _⟩ := hx
    go_simp
    try with_reducible rfl
  refine wpAnyH_ready (rs := [14]) (by kernel_rfl) (by simp) ?_
  refine AllReadyH.cons rfl (fun K hK => ?_) AllReadyH.nil
  go_simp
  have SX := hS.later (below_alloc (w3.alloc (.cells #[.int .i64 0, .int .i64 ep] 31)).drew (.cells #[.int .i64 n0, .int .i64 n1, .int .i64 ep] 34))
  have LX : Hid (Row ((w3.alloc (.cells #[.int .i64 0, .int .i64 ep] 31)).drew.alloc (.cells #[.int .i64 n0, .int .i64 n1, .int .i64 ep] 34)) 0 3 1 (fun p => [n0, n1, ep].getD p 0) (.slice (some ⟨w3.heap.size + 1, 0, none⟩) 1 1)) := row_lit3 _ n0 n1 ep _ _ (by show (World.alloc w3 _).heap.size = _; simp)
  refine hK.out _ _ SX (fun hS => ?_)
  clear hK K SX
  refine wpAnyH_take (i := 15) (v := ?_) rfl (by kernel_rfl) (by kernel_rfl) (by kernel_rfl) (fun _ _ _ h => h) (Or.inl ⟨by kernel_rfl, ?_⟩) hS ?_
  rotate_left
  · intro wx hx
    obtain ⟨⟨hx0, hx1, hx2⟩, _⟩ := hx
    go_simp
    try with_reducible rfl
  refine wpAnyH_done (by kernel_rfl) ?_ _
  have QX : Hid (Below w.heap.size w ((w3.alloc (.cells #[.int .i64 0, .int .i64 ep] 31)).drew.alloc (.cells #[.int .i64 n0, .int .i64 n1, .int .i64 ep] 34))) := hS.2.2
  have KX : Hid (Blk2 ((w3.alloc (.cells #[.int .i64 0, .int .i64 ep] 31)).drew.alloc (.cells #[.int .i64 n0, .int .i64 n1, .int .i64 ep] 34)) w.heap.size (.int .i64 0) (.slice none 0 0)) := hS.2.1
  clear hS hw2
  go_simp
  go_wp2_with fail
  refine (arrayOf_is _ cp B n F _ (H.out.later QX.out) (by omega) hn6).mono ?_
  rintro e w5 ⟨rfl, q5⟩
  have Q5 : Hid (Below w.heap.size w w5) := QX.out.trans (q5.mono QX.out.size)
  have L5 : Hid (Row w5 0 3 1 (fun p => [n0, n1, ep].getD p 0) (.slice (some ⟨w3.heap.size + 1, 0, none⟩) 1 1)) := LX.out.later q5
  have K5 : Hid (Blk2 w5 w.heap.size (.int .i64 0) (.slice none 0 0)) := KX.out.later q5
  clear q5 QX LX KX hl3
  go_wp2_with fail
  refine (replaced_is (arrF n F) (fun p => [n0, n1, ep].getD p 0) i 2 1 _ 1 0 _ L5.out (by omega) (by omega) (by omega)).mono ?_
  rintro e w6 ⟨rfl, q6⟩
  have Q6 : Hid (Below w.heap.size w w6) := Q5.out.trans (q6.mono Q5.out.size)
  have K6 : Hid (Blk2 w6 w.heap.size (.int .i64 0) (.slice none 0 0)) := K5.out.later q6
  have hz6 : Hid (w.heap.size < w6.heap.size) := K6.out.lt
  clear q6 Q5 K5 L5
  rw [arrV_congr (C := fun p => if p < (n - 1) * 3 then mergeG F i ep p else 0) (fun p hp => by
    have := replF_merge (e := ep) (F := F) hi hn6 p hp
    rw [HN.out.1, HN.out.2] at this
    exact this)]
  go_wp2_with fail
  refine (list_is _ (n - 1) (by omega) (fun j hj => by
    have := HG.out.ep j hj
    rw [if_pos (by omega)]
    omega) (fun j hj hj6 => by rw [if_neg (by omega)]) _).mono ?_
  rintro e w7 ⟨ro, rc, rfl, O7, q7⟩
  have Q7 : Hid (Below w.heap.size w w7) := Q6.out.trans (q7.mono Q6.out.size)
  have K7 : Hid (Blk2 w7 w.heap.size (.int .i64 0) (.slice none 0 0)) := K6.out.later q7
  have O8 : Hid (OwnM ((w7.setCell ⟨w.heap.size, 0, none⟩ (.int .i64 0)).setCell ⟨w.heap.size, 1, none⟩ (.slice ro (n - 1) rc)) w6.heap.size 34 3 (.slice ro (n - 1) rc) (n - 1) (nums (fun p => if p < (n - 1) * 3 then mergeG F i ep p else 0) ((n - 1) * 3))) := (O7.far (a := ⟨w.heap.size, 0, none⟩) hz6.out _).far (a := ⟨w.heap.size, 1, none⟩) hz6.out _
  obtain ⟨⟨b0, b1⟩, f0, f1⟩ := K7.out
  clear q7 Q6 K6 O7
  go_wp2
  obtain ⟨⟨r0, r1⟩, _, _⟩ := K7.out.put (.int .i64 0) (.slice ro (n - 1) rc)
  have hres := own_res (w := w) (G := mergeG F i ep) O8.out (Nat.le_of_lt hz6.out) (nums_length _ _) (fun p hp => by simp [nums, hp])
  exact bodyPost_ret (v := .agg #[.int .i64 0, .slice ro (n - 1) rc]) (by simp [results, Try.results14, go_sem, r0, r1]) rfl ⟨ro, rc, rfl, hres.1, hres.2, (Q7.out.setCell (Nat.le_refl _) _).setCell (Nat.le_refl _) _⟩
theorem implSplit_is (ao : Option Addr) (cp B n : Nat) (F : Nat → Int) (a c : Int) (m : Nat) (G : Nat → Int) (w : World) (h : Row w B 3 n F (.slice ao n cp)) (hn : n ≤ 1048576) (ha : SplitAns n F a c m G) :
    Calls Try.prog 11 #[.slice ao n cp, .int .i64 a] w (ResRow 3 w c m G) := by
  rcases ha with ⟨h0, rfl, rfl⟩ | ⟨h0, h1, rfl, rfl⟩ | ⟨i, h0, h1, hi, ha⟩
  · exact implSplit_bad ao cp B n F a _ w h hn rfl h0 G
  · exact implSplit_range ao cp B n F a w h hn h0 h1 G
  · rcases ha with ⟨h2, rfl, rfl⟩ | ⟨h2, h3, rfl, rfl⟩ | ⟨h2, h3, h4, rfl, rfl, rfl⟩
    · exact implSplit_taken ao cp B n F a i w h hn h0 h1 hi h2 G
    · by_cases h6 : n = 6
      · subst h6
        exact implSplit_six ao cp B F a i w h h0 h1 hi h2 G
      · have := (good_of h0).n6
        exact implSplit_top ao cp B n F a i w h hn h0 h1 hi h2 (by omega) (h3.resolve_left h6) G
    · exact implSplit_done ao cp B n F a i w h h0 h1 hi h2 h3 h4
theorem implMerge_is (ao : Option Addr) (cp B n : Nat) (F : Nat → Int) (a c : Int) (m : Nat) (G : Nat → Int) (w : World) (h : Row w B 3 n F (.slice ao n cp)) (hn : n ≤ 1048576) (ha : MergeAns n F a c m G) :
    Calls Try.prog 14 #[.slice ao n cp, .int .i64 a] w (ResRow 3 w c m G) := by
  rcases ha with ⟨h0, rfl, rfl⟩ | ⟨h0, h1, rfl, rfl⟩ | ⟨i, h0, rfl, hi, ha⟩
  · exact implMerge_bad ao cp B n F a _ w h hn rfl h0 G
  · exact implMerge_range ao cp B n F a w h hn h0 h1 G
  · rcases ha with ⟨h2, rfl, rfl⟩ | ⟨h2, rfl, rfl, rfl⟩
    · exact implMerge_top ao cp B n F i w h hn h0 hi h2 G
    · exact implMerge_done ao cp B n F i w h h0 hi h2
end Go.Proofs.Ytabenplbibhbiaa
