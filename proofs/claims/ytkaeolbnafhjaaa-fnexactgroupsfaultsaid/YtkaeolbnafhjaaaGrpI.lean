/-
  Own text. The walk of the law FnExactGroupsFault: over all groups it returns true and turns nothing that was there.
-/
import Derived.Test.YtkaeolbnafhjaaaGrpH
namespace Go.Proofs.Ytkaeolbnafhjaaa
open Go.RowKit

/-- What the law's last region stands on: its argument, and the copy that the program was given. -/
def TwoG (w : World) (vr vs : Value) (q : Nat) (ur us : Value) (x : World) : Prop := Below w.heap.size w x ∧ Blk2 x w.heap.size vr vs ∧ Blk2 x q ur us
theorem TwoG.later {w x x' : World} {vr vs ur us : Value} {q : Nat} (h : TwoG w vr vs q ur us x) (hb : Below x.heap.size x x') : TwoG w vr vs q ur us x' := ⟨h.1.trans (hb.mono h.1.size), h.2.1.later hb, h.2.2.later hb⟩
theorem TwoG.drew {w x : World} {vr vs ur us : Value} {q : Nat} (h : TwoG w vr vs q ur us x) : TwoG w vr vs q ur us x.drew := ⟨below_dr h.1 1, h.2.1.kept rfl, h.2.2.kept rfl⟩
set_option maxRecDepth 100000 in
set_option maxHeartbeats 8000000 in
theorem groupsFault_walk (nr : Nat) (F : Nat → Int) (n : Nat) (S : Nat → Sto) (V : Nat → Nat → Value) (vr vs : Value) (w : World) (h : Grs w 0 nr F n S V vr vs) (hr : nr ≤ 9223372036854775807) (hn : n ≤ 9223372036854775807) (hs : ∀ i, i < n → BigS (S i)) :
    Calls Try.prog 3 #[.agg #[vr, vs]] w fun e w' => e = .returned (.bool true) ∧ Below w.heap.size w w' := by
  obtain ⟨a0, c0, a1, c1, rfl, rfl⟩ := h.form
  have H : Hid (CallG w nr F n S V 0 (.slice a0 nr c0) (.slice a1 n c1) (w.alloc (.cells #[.slice a0 nr c0, .slice a1 n c1] 25))) := CallG.new h _
  have HG0 : Hid (Grs w 0 nr F n S V (.slice a0 nr c0) (.slice a1 n c1)) := h
  have HN : Hid (∀ i, i < n → BigS (S i)) := hs
  clear h hs
  obtain ⟨f, HF⟩ : ∃ f, Hid (groupsF nr F n S = f) := ⟨_, rfl⟩
  obtain ⟨⟨p0, p1⟩, _⟩ := H.out.1
  go_enter Try.func3, Try.ntmps3
  go_wp2_with fail
  refine (szGroups_any nr F n S V _ _ 0 _ H.out.2.1 hr hn HN.out).mono ?_
  rintro e w1 ⟨r, rfl, hA, q1⟩
  have H1 : Hid (CallG w nr F n S V 0 (.slice a0 nr c0) (.slice a1 n c1) w1) := H.out.later q1
  clear q1 H p0 p1
  rcases hA with rfl | ⟨h1, h2, h3, h4⟩
  · go_wp2
    go_ret
    exact ⟨rfl, H1.out.2.2⟩
  have HB : Hid (nr ≤ 1048576 ∧ n ≤ 1048576 ∧ ∀ i, i < n → SmallS (S i)) := ⟨h2, h3, h4⟩
  have dr : decide (r < 0) = false := decide_eq_false (by omega)
  clear h1 h2 h3 h4 hr hn HN
  obtain ⟨⟨p0, p1⟩, _⟩ := H1.out.1
  go_wp2_with fail
  refine (toGroups_any nr F n S V _ _ 0 _ H1.out.2.1 HB.out.1 HB.out.2.1 HB.out.2.2).mono ?_
  rintro e w2 ⟨ra, rc, g, U, z, rfl, hF, q2⟩
  have H2 : Hid (CallG w nr F n S V 0 (.slice a0 nr c0) (.slice a1 n c1) w2) := H1.out.later q2
  have G2 : Hid (Grs w2 0 nr F n S U (.slice ra nr rc) (.slice (some ⟨g, 0, none⟩) n n)) := hF.grs.mono (Nat.zero_le _)
  clear q2 hF H1 p0 p1
  go_wp2_with fail
  refine (specGroupsFault_any nr F n S U _ _ 0 _ G2.out (by have := HB.out.1; omega) (by have := HB.out.2.1; omega)).mono ?_
  rw [HF.out]
  rintro e w3 ⟨rfl, q3⟩
  have H3 : Hid (CallG w nr F n S V 0 (.slice a0 nr c0) (.slice a1 n c1) w3) := H2.out.later q3
  clear q3 H2 G2
  obtain ⟨⟨p0, p1⟩, _⟩ := H3.out.1
  go_wp2_with fail
  refine (toGroups_any nr F n S V _ _ 0 _ H3.out.2.1 HB.out.1 HB.out.2.1 HB.out.2.2).mono ?_
  rintro e w4 ⟨ra', rc', g', U', z', rfl, hF, q4⟩
  have G4 : Hid (Grs (w4.alloc (.cells #[.slice ra' nr rc', .slice (some ⟨g', 0, none⟩) n n] 31)) 0 nr F n S U' (.slice ra' nr rc') (.slice (some ⟨g', 0, none⟩) n n)) := (hF.grs.mono (Nat.zero_le _)).alloc _
  have T4 : Hid (TwoG w (.slice a0 nr c0) (.slice a1 n c1) w4.heap.size (.slice ra' nr rc') (.slice (some ⟨g', 0, none⟩) n n) (w4.alloc (.cells #[.slice ra' nr rc', .slice (some ⟨g', 0, none⟩) n n] 31))) := ⟨((H3.out.later q4).later (below_alloc _ _)).2.2, ((H3.out.later q4).later (below_alloc _ _)).1, Blk2.new _ _ _ _⟩
  clear q4 hF H3 p0 p1
  go_wp2_with fail
  generalize w4.alloc (.cells #[.slice ra' nr rc', .slice (some ⟨g', 0, none⟩) n n] 31) = w5 at G4 T4 ⊢
  refine (implGroupsFault_any nr F n S U' _ _ 0 _ G4.out (by have := HB.out.1; omega) (by have := HB.out.2.1; omega)).mono ?_
  rw [HF.out]
  rintro e w6 ⟨rfl, q6⟩
  have G6 : Hid (Grs w6 0 nr F n S U' (.slice ra' nr rc') (.slice (some ⟨g', 0, none⟩) n n)) := G4.out.later q6
  have T6 : Hid (TwoG w (.slice a0 nr c0) (.slice a1 n c1) w4.heap.size (.slice ra' nr rc') (.slice (some ⟨g', 0, none⟩) n n) w6) := T4.out.later q6
  clear q6 G4 T4
  go_wp2_with fail
  refine wp_region_held_drew (S := TwoG w (.slice a0 nr c0) (.slice a1 n c1) w4.heap.size (.slice ra' nr rc') (.slice (some ⟨g', 0, none⟩) n n)) (by kernel_rfl) T6.out.drew (fun hS => ?_)
  clear T6
  refine wpAnyH_take (i := 0) (v := ?_) rfl (by kernel_rfl) (by kernel_rfl) (by kernel_rfl) (fun _ _ _ h => h) (Or.inl ⟨by kernel_rfl, ?_⟩) hS ?_
  rotate_left
  · intro wx hx
    obtain ⟨_, ⟨⟨hx0, hx1⟩, _⟩, ⟨⟨hx2, hx3⟩, _⟩⟩ := hx
    go_simp
    try with_reducible rfl
  refine wpAnyH_take (i := 1) (v := ?_) rfl (by kernel_rfl) (by kernel_rfl) (by kernel_rfl) (fun _ _ _ h => h) (Or.inl ⟨by kernel_rfl, ?_⟩) hS ?_
  rotate_left
  · intro wx hx
    obtain ⟨_, ⟨⟨hx0, hx1⟩, _⟩, ⟨⟨hx2, hx3⟩, _⟩⟩ := hx
    go_simp
    try with_reducible rfl
  refine wpAnyH_ready (rs := [2]) (by kernel_rfl) (by simp) ?_
  refine AllReadyH.cons rfl (fun K hK => ?_) AllReadyH.nil
  go_simp
  go_wp2_with fail
  refine (toGroups_any nr F n S V _ _ 0 _ (HG0.out.later hS.1) HB.out.1 HB.out.2.1 HB.out.2.2).mono ?_
  rintro e w7 ⟨rb, rd, g2, U2, z2, rfl, hF, q7⟩
  have q7' : Below w6.heap.size w6 w7 := ⟨q7.os, q7.tape, q7.output, q7.size, q7.block⟩
  have G7 : Hid (Grs w7 0 nr F n S U' (.slice ra' nr rc') (.slice (some ⟨g', 0, none⟩) n n) ∧ Grs w7 0 nr F n S U2 (.slice rb nr rd) (.slice (some ⟨g2, 0, none⟩) n n)) := ⟨G6.out.later q7', hF.grs.mono (Nat.zero_le _)⟩
  have hS' := hS.later q7
  clear q7 q7' hF G6
  go_wp2_with fail
  refine hK.out _ _ hS' (fun hS => ?_)
  clear hK K hS'
  refine wpAnyH_ready (rs := [3]) (by kernel_rfl) (by simp) ?_
  refine AllReadyH.cons rfl (fun K hK => ?_) AllReadyH.nil
  go_simp
  go_wp2_with fail
  refine (eqGroups_same nr F n S U' U2 _ _ _ _ 0 0 _ G7.out.1 G7.out.2 HB.out.1 HB.out.2.1 HB.out.2.2).mono ?_
  rintro e w8 ⟨rfl, q8⟩
  have hS' := hS.later q8
  clear q8 G7
  go_wp2_with fail
  refine hK.out _ _ hS' (fun hS => ?_)
  clear hK K hS'
  refine wpAnyH_take (i := 4) (v := ?_) rfl (by kernel_rfl) (by kernel_rfl) (by kernel_rfl) (fun _ _ _ h => h) (Or.inl ⟨by kernel_rfl, ?_⟩) hS ?_
  rotate_left
  · intro wx hx
    obtain ⟨_, ⟨⟨hx0, hx1⟩, _⟩, ⟨⟨hx2, hx3⟩, _⟩⟩ := hx
    go_simp
    try with_reducible rfl
  refine wpAnyH_done (by kernel_rfl) ?_ _
  have BB : Hid (Below w.heap.size w w8) := hS.1
  clear hS
  go_simp
  go_wp2
  go_ret
  exact ⟨rfl, BB.out⟩
end Go.Proofs.Ytkaeolbnafhjaaa
