/-
  Own text, merged of TreJ, TreK, PaiK, PaiL, ApyB, TreL, DrawA, DrawB, DrawC, DrawT, PaiN, PaiO, PaiP, WhoA, WhoB, FtrA, FtrB, WldE, PlnB, PlnC, PlnD.
-/
import Derived.Test.YtbpppaolcgibnaaGreatDoorPk4
namespace Go.Proofs.YtbpppaolcgibnaaGreatDoor
open Go.RowKit

theorem all_toL (L : Prs) (r dir : Bool) (a : Int) : ∀ T : Prs, (T.all fun e => !(badE L r dir a e)) = ((toL (lnkL T) a).all fun l => !(!r || (!(dirB L l.1) || (dir && decide (l.1 ≥ a)))))
  | [] => rfl
  | e :: t => by
    rw [List.all_cons, all_toL L r dir a t, lnkL]
    unfold toL
    rw [List.filter_append, List.all_append]
    congr 1
    unfold badE
    by_cases h : partK e.1 = 2
    · rw [if_pos h, h]
      by_cases h2 : e.2 = a
      · simp [h2]
      · simp [h2]
    · rw [if_neg h, beq_eq_false_iff_ne.2 h]
      simp
theorem all_noI : ∀ T : Prs, (T.all fun e => !(noInode e)) = !((lnkL T).any fun l => !(decide (0 ≤ l.2 ∧ l.2 ≤ 9)))
  | [] => rfl
  | e :: t => by
    rw [List.all_cons, all_noI t, lnkL, List.any_append, Bool.not_or]
    congr 1
    unfold noInode
    by_cases h : partK e.1 = 2
    · rw [if_pos h, h]; simp
    · rw [if_neg h, beq_eq_false_iff_ne.2 h]; simp
theorem hangs_eq (L : Prs) (r : Bool) (z : Int) (s : Bool) (nx a : Int) : hangsR L (toL (lnkL L) a) r z s nx a = inodeV L r z (linkN L a) s nx a := by
  unfold inodeV
  rw [all_toL L r _ a L]
  unfold linkN
  generalize toL (lnkL L) a = M
  unfold hangsR
  cases r with
  | false =>
    rw [if_pos rfl]
    cases M with
    | nil => cases s <;> simp [dirV, fileV]
    | cons x t =>
      rw [beq_eq_false_iff_ne.2 (by simp only [List.length_cons]; omega)]
      cases s <;> simp [dirV, fileV]
  | true =>
    rw [if_neg (by simp)]
    by_cases hnx : a ≥ nx
    · rw [if_pos hnx]; simp [hnx]
    · rw [if_neg hnx, decide_eq_false hnx]
      by_cases hz : z = 1000
      · rw [if_pos hz]
        subst hz
        have hfv : fileV true 1000 ((M.length : Nat) : Int) = false := by
          unfold fileV
          rw [beq_eq_false_iff_ne.2 (show (1000 : Int) ≠ 2000 + ((M.length : Nat) : Int) by omega)]; simp
        have hdv : dirV true 1000 = true := by unfold dirV; simp
        rw [hfv, hdv]
        unfold dirR
        by_cases ha : a = 0
        · rw [if_pos ha]
          cases M with
          | nil => cases s <;> simp [ha]
          | cons x t =>
            have h1 : ((((x :: t).length : Nat) : Int) != 0) = true := bne_iff_ne.2 (by simp only [List.length_cons]; omega)
            have h2 : ((x :: t).length == 0) = false := by simp
            rw [h1, h2]
            simp [ha]
        · rw [if_neg ha]
          have h0 : (a == 0) = false := beq_eq_false_iff_ne.2 ha
          have h0' : (a != 0) = true := bne_iff_ne.2 ha
          rw [h0, h0']
          match M with
          | [] => simp
          | [x] =>
            have hd : decide (x.1 < a) = !(decide (x.1 ≥ a)) := by
              by_cases h : x.1 < a
              · rw [decide_eq_true h, decide_eq_false (by omega)]; rfl
              · rw [decide_eq_false h, decide_eq_true (by omega)]; rfl
            simp only [List.length_cons, List.length_nil, List.getD_cons_zero, List.all_cons, List.all_nil, hd]
            cases s <;> cases dirB L x.1 <;> cases decide (x.1 ≥ a) <;> decide
          | x :: y :: t =>
            have h1 : ((((x :: y :: t).length : Nat) : Int) != 1) = true := bne_iff_ne.2 (by simp only [List.length_cons]; omega)
            have h2 : ((x :: y :: t).length == 1) = false := by simp
            rw [h1, h2]
            simp
      · rw [if_neg hz]
        have hdv : dirV true z = false := by unfold dirV; simp [hz]
        rw [hdv]
        unfold fileR fileV anyH
        have hany : (M.all fun l => !(!true || (!(dirB L l.1) || (false && decide (l.1 ≥ a))))) = !(M.any fun l => !(dirB L l.1)) := by
          rw [List.not_any_eq_all_not]
          simp
        rw [hany]
        by_cases hm : M.length = 0
        · rw [beq_iff_eq.2 (show ((M.length : Nat) : Int) = 0 by omega), decide_eq_false (show ¬ ((M.length : Nat) : Int) > 0 by omega)]
          simp
        · rw [beq_eq_false_iff_ne.2 (show ((M.length : Nat) : Int) ≠ 0 by omega), decide_eq_true (show ((M.length : Nat) : Int) > 0 by omega)]
          cases s <;> cases (z == 2000 + ((M.length : Nat) : Int)) <;> simp
theorem lookF_val {L : Prs} (hv : ∀ e ∈ L, 0 ≤ e.2 ∧ e.2 ≤ 9999) (k : Int) : 0 ≤ (lookF L k).2 ∧ (lookF L k).2 ≤ 9999 := by
  unfold lookF
  split
  · rename_i e he
    exact hv e (List.mem_of_find?_eq_some he)
  · exact ⟨Int.le_refl _, by decide⟩
theorem lookF_zero {L : Prs} {k : Int} (h : (lookF L k).1 = false) : (lookF L k).2 = 0 := by
  unfold lookF at h ⊢
  split at h
  · simp at h
  · rfl
theorem pairs_vals {F : Nat → Int} {n : Nat} (h : pairsF F n 0 = 0) : ∀ e ∈ listOf F n, 0 ≤ e.2 ∧ e.2 ≤ 9999 := by
  intro e he
  unfold listOf at he
  obtain ⟨k, hk, rfl⟩ := List.mem_map.1 he
  have := pairsF_all h k (List.mem_range.1 hk)
  rw [Nat.zero_add] at this
  exact (pairF_zero this).2.1
/-- The program's way to ask whether all hangs together. -/
theorem whole_eq (L : Prs) : wholeB L = (dirB L 0 && (decide (1 ≤ (lookF L 0).2 ∧ (lookF L 0).2 ≤ 10) && ((List.range 10).all (fun a => inodeB L (lookF L 0).2 (a : Nat)) && !((lnkL L).any fun l => !(decide (0 ≤ l.2 ∧ l.2 ≤ 9)))))) := by
  unfold wholeB
  rw [all_noI]
  cases h : (lookF L 0).1 with
  | false =>
    rw [decide_eq_false (show ¬ (1 ≤ (lookF L 0).2 ∧ (lookF L 0).2 ≤ 10) by rw [lookF_zero h]; omega)]
    simp
  | true =>
    cases dirB L 0 <;> cases decide (1 ≤ (lookF L 0).2 ∧ (lookF L 0).2 ≤ 10) <;> simp
set_option maxRecDepth 100000 in
set_option maxHeartbeats 4000000 in
theorem isWhole_is (L : Prs) (b rb mb : Nat) (zs : List Int) (vz lv : Value) (w : World) (h : Hung w b rb mb L zs vz lv) (hrs : Rises L) (hn : L.length ≤ 800) (hv : ∀ k, 0 ≤ (lookF L k).2 ∧ (lookF L k).2 ≤ 9999) :
    Calls Tryz.prog 21 #[.agg #[.pointer (some ⟨b, 0, none⟩), lv]] w (LookRes w b rb mb L vz lv (.bool (wholeB L))) := by
  obtain ⟨lo, lc, rfl⟩ := h.2.row.form
  have HG : Hid (HgS (w.alloc (.cells #[.pointer (some ⟨b, 0, none⟩), .slice lo (lnkL L).length lc] 53)) (w.alloc (.cells #[.pointer (some ⟨b, 0, none⟩), .slice lo (lnkL L).length lc] 53)) b rb mb w.heap.size L vz zs vz (.slice lo (lnkL L).length lc)) := ⟨h.later (below_alloc _ _), h.box, Keeps.below _ _ _ (Below.refl _ _)⟩
  have HKw : Hid (Keeps w (w.alloc (.cells #[.pointer (some ⟨b, 0, none⟩), .slice lo (lnkL L).length lc] 53)) b mb vz vz) := Keeps.below b mb vz (below_alloc w _)
  have H : Hid (Rises L ∧ ∀ k, 0 ≤ (lookF L k).2 ∧ (lookF L k).2 ≤ 9999) := ⟨hrs, hv⟩
  have fs1 := fun h v w => field_sight1 h v w
  have hlk := lnkL_len L
  obtain ⟨res, hres⟩ : ∃ res, wholeB L = res := ⟨_, rfl⟩
  have hR := (whole_eq L).symm.trans hres
  obtain ⟨t, ht⟩ : ∃ t, lookF L 0 = t := ⟨_, rfl⟩
  obtain ⟨h0, nx⟩ := t
  have HV : Hid (lookF L 0 = (h0, nx)) := ht
  have hnx := hv 0
  rw [ht] at hR hnx
  simp only at hR hnx
  rw [hres]
  clear h hrs hv hres ht
  go_enter Tryz.func21, Tryz.ntmps21
  go_upto_region 1 with fail
  generalize w.alloc (.cells #[.pointer (some ⟨b, 0, none⟩), .slice lo (lnkL L).length lc] 53) = X0 at HG HKw ⊢
  refine wp_region_held_drew (S := fun X => X.cell? ⟨w.heap.size, 0, none⟩ = some (.pointer (some ⟨b, 0, none⟩))) (by kernel_rfl) HG.out.2.1.1.1.1 (fun hS => ?_)
  have HG1 : Hid (HgS X0 X0.drew b rb mb w.heap.size L vz zs vz (.slice lo (lnkL L).length lc)) := HG.out.later (below_drewT _)
  clear HG
  generalize X0.drew = z0 at hS HG1 ⊢
  refine tkH 0 ?_ hS (fun wx hx => ?_) ?_; rotate_left
  · go_simp; try with_reducible rfl
  refine tkH 1 ?_ hS (fun wx hx => ?_) ?_; rotate_left
  · go_simp; try with_reducible rfl
  refine rdH 2 (fun K hK => ?_)
  go_simp
  go_wp2_with fail
  refine (nextKey_is _).mono ?_
  rintro e z1 ⟨rfl, q1⟩
  have HG2 : Hid (HgS X0 z1 b rb mb w.heap.size L vz zs vz (.slice lo (lnkL L).length lc)) := HG1.out.later q1
  clear q1 HG1 hS
  go_wp2_with fail
  refine hK.out _ _ HG2.out.2.1.1.1.1 (fun hS => ?_)
  clear hK K
  refine rdH 3 (fun K hK => ?_)
  go_simp
  go_wp2_with fail
  refine (look_h L b rb mb zs vz _ 0 _ HG2.out.1 H.out.1 hn (by omega)).mono ?_
  rintro e z2 ⟨rfl, ys, vy, hg, hk⟩
  rw [HV.out]
  have HG3 : Hid (HgS X0 z2 b rb mb w.heap.size L vz ys vy (.slice lo (lnkL L).length lc)) := HG2.out.keeps hg hk
  clear hg hk HG2 hS
  go_wp2_with fail
  refine hK.out _ _ HG3.out.2.1.1.1.1 (fun hS => ?_)
  clear hK K
  refine tkH 4 ?_ hS (fun wx hx => ?_) ?_; rotate_left
  · go_simp; try with_reducible rfl
  refine tkH 5 ?_ hS (fun wx hx => ?_) ?_; rotate_left
  · go_simp; try with_reducible rfl
  refine wpAnyH_done (by kernel_rfl) ?_ _
  go_simp
  clear hS
  obtain ⟨⟨x0, x1⟩, y0, y1⟩ := HG3.out.2.1.1
  go_wp2_with fail
  refine (isDir_h L b rb mb ys vy _ 0 _ HG3.out.1 H.out.1 hn (by omega)).mono ?_
  rintro e z3 ⟨rfl, ys3, vy3, hg3, hk3⟩
  have HG4 : Hid (HgS X0 z3 b rb mb w.heap.size L vz ys3 vy3 (.slice lo (lnkL L).length lc)) := HG3.out.keeps hg3 hk3
  clear hg3 hk3 HG3 x0 x1 y0 y1
  obtain ⟨⟨x0, x1⟩, y0, y1⟩ := HG4.out.2.1.1
  cases hd : dirB L 0 with
  | false =>
    have HQ : Hid (res = false) := by unfold Hid; rw [← hR, hd]; rfl
    clear hR hd
    go_wp2
    go_ret
    exact ⟨by rw [HQ.out]; rfl, _, _, HG4.out.1, HKw.out.trans HG4.out.2.2⟩
  | true =>
  rw [hd] at hR
  clear hd
  by_cases h1 : nx < 1
  · have d1 : decide (nx < 1) = true := decide_eq_true h1
    have HQ : Hid (res = false) := by unfold Hid; rw [← hR, decide_eq_false (show ¬ (1 ≤ nx ∧ nx ≤ 10) by omega)]; rfl
    clear hR h1
    go_wp2
    go_ret
    exact ⟨by rw [HQ.out]; rfl, _, _, HG4.out.1, HKw.out.trans HG4.out.2.2⟩
  have d1 : decide (nx < 1) = false := decide_eq_false h1
  by_cases h2 : nx > 10
  · have d2 : decide (nx > 10) = true := decide_eq_true h2
    have HQ : Hid (res = false) := by unfold Hid; rw [← hR, decide_eq_false (show ¬ (1 ≤ nx ∧ nx ≤ 10) by omega)]; rfl
    clear hR h1 h2
    go_wp2
    go_ret
    exact ⟨by rw [HQ.out]; rfl, _, _, HG4.out.1, HKw.out.trans HG4.out.2.2⟩
  have d2 : decide (nx > 10) = false := decide_eq_false h2
  rw [decide_eq_true (show 1 ≤ nx ∧ nx ≤ 10 by omega)] at hR
  obtain ⟨ba, hba⟩ : ∃ ba, ((lnkL L).any fun l => !(decide (0 ≤ l.2 ∧ l.2 ≤ 9))) = ba := ⟨_, rfl⟩
  have HBA : Hid (((lnkL L).any fun l => !(decide (0 ≤ l.2 ∧ l.2 ≤ 9))) = ba) := hba
  rw [hba] at hR
  have HN1 : Hid (∀ k : Nat, k < 10 → inodeB L nx k = false → res = false) := fun k hk e => by rw [← hR, range_no hk e]; rfl
  have HOK : Hid ((∀ k : Nat, k < 10 → inodeB L nx k = true) → res = !ba) := fun e => by rw [← hR, range_ok e]; rfl
  clear hR hba h1 h2
  go_wp2
  go_loopw [22] (fun i wr => ∃ k : Nat, k ≤ 10 ∧ i = .int .i64 k ∧ Hid (∀ j : Nat, j < k → inodeB L nx j = true) ∧ ∃ ys vy, Hid (HgS X0 wr b rb mb w.heap.size L vz ys vy (.slice lo (lnkL L).length lc))) (fun i _ => 10 - (intOf i).toNat)
  case atStart => exact ⟨0, Nat.zero_le _, rfl, fun j hj => absurd hj (Nat.not_lt_zero j), ys3, vy3, HG4⟩
  case round =>
    obtain ⟨k, hk, rfl, HS, ys5, vy5, HG5⟩ := hrel
    clear HG4 x0 x1 y0 y1
    obtain ⟨⟨x0, x1⟩, y0, y1⟩ := HG5.out.2.1.1
    by_cases hlt : k < 10
    · have dk : decide ((k : Int) < 10) = true := decide_eq_true (by omega)
      obtain ⟨t, ht⟩ : ∃ t, lookF L (kI k) = t := ⟨_, rfl⟩
      obtain ⟨r, z⟩ := t
      obtain ⟨t, hu⟩ : ∃ t, lookF L (kB k) = t := ⟨_, rfl⟩
      obtain ⟨s, sz⟩ := t
      obtain ⟨q, hq⟩ : ∃ q, inodeB L nx k = q := ⟨_, rfl⟩
      have HI : Hid (inodeB L nx k = q) := hq
      have HE : Hid (hangsR L (toL (lnkL L) k) r z s nx k = q) := by
        unfold Hid
        rw [hangs_eq, ← hq]
        unfold inodeB
        rw [ht, hu]
      have HT : Hid (lookF L (kI k) = (r, z) ∧ lookF L (kB k) = (s, sz) ∧ (0 ≤ z ∧ z ≤ 9999)) := ⟨ht, hu, by have := H.out.2 (kI k); rw [ht] at this; exact this⟩
      clear hq ht hu
      go_wp2_with fail
      refine (hangs_is L b rb mb ys5 vy5 _ k nx _ r z s sz HG5.out.1 H.out.1 hn (by omega) HT.out.1 HT.out.2.1 HT.out.2.2).mono ?_
      rintro e z5 ⟨rfl, ys6, vy6, hg6, hk6⟩
      rw [HE.out]
      have HG6 : Hid (HgS X0 z5 b rb mb w.heap.size L vz ys6 vy6 (.slice lo (lnkL L).length lc)) := HG5.out.keeps hg6 hk6
      clear hg6 hk6 HG5 x0 x1 y0 y1
      cases q with
      | false =>
        have HQ : Hid (res = false) := HN1.out k hlt HI.out
        go_wp2
        go_ret
        exact ⟨by rw [HQ.out]; rfl, _, _, HG6.out.1, HKw.out.trans HG6.out.2.2⟩
      | true =>
        have HS2 : Hid (∀ j : Nat, j < k + 1 → inodeB L nx j = true) := fun j hj => by
          rcases Nat.eq_or_lt_of_le (Nat.lt_succ_iff.1 hj) with rfl | qq
          · exact HI.out
          · exact HS.out j qq
        go_wp2
        go_roundw
        case rel => exact ⟨k + 1, by omega, by go_num, HS2, ys6, vy6, HG6⟩
        case measure => simp [intOf]; omega
    · have dk : decide ((k : Int) < 10) = false := decide_eq_false (by omega)
      have HQ : Hid (res = !ba) := HOK.out fun j hj => HS.out j (by omega)
      clear HS HN1 HOK HV
      go_wp2_with fail
      refine (containsW_is (lnkL L) _ 0 ba HBA.out _ HG5.out.1.2.row (by omega)).mono ?_
      rintro e z6 ⟨rfl, q6⟩
      have HG6 : Hid (HgS X0 z6 b rb mb w.heap.size L vz ys5 vy5 (.slice lo (lnkL L).length lc)) := HG5.out.later q6
      clear q6 HG5 x0 x1 y0 y1
      go_wp2
      go_ret
      exact ⟨by rw [HQ.out]; rfl, _, _, HG6.out.1, HKw.out.trans HG6.out.2.2⟩
end Go.Proofs.YtbpppaolcgibnaaGreatDoor

namespace Go.Proofs.YtbpppaolcgibnaaGreatDoor
open Go.RowKit

set_option maxRecDepth 100000 in
set_option maxHeartbeats 2000000 in
theorem implFs_is (y : Value) (B n : Nat) (F : Nat → Int) (w : World) (h : Row w B 2 n F y) (hn : n ≤ 1048576) :
    Calls Tryz.prog 8 #[y] w fun e w' => e = .returned (.int .i64 (fsF n F)) ∧ Below w.heap.size w w' := by
  have H : Hid (Row w B 2 n F y) := h
  clear h
  by_cases h1 : pairsF F n 0 = 0
  case neg =>
    obtain ⟨f, hf⟩ : ∃ f, pairsF F n 0 = f := ⟨_, rfl⟩
    have HF : Hid (pairsF F n 0 = f) := hf
    have HQ : Hid (fsF n F = f) := (fsF_bad h1).trans hf
    have dd : (f != 0) = true := bne_iff_ne.2 (by rw [← hf]; exact h1)
    rw [HQ.out]
    clear h1 hf
    go_enter Tryz.func8, Tryz.ntmps8
    go_wp2_with fail
    refine (implPairs_any _ B n F _ H.out hn).mono ?_
    rintro e w1 ⟨rfl, q1⟩
    rw [HF.out]
    have HB : Hid (Below w.heap.size w w1) := q1
    clear q1
    go_wp2
    go_ret
    exact ⟨rfl, HB.out⟩
  have HF : Hid (pairsF F n 0 = 0) := h1
  obtain ⟨q, hq⟩ : ∃ q, wholeB (listOf F n) = q := ⟨_, rfl⟩
  have HW : Hid (wholeB (listOf F n) = q) := hq
  have HQ : Hid (fsF n F = if q = true then 0 else 1) := by
    cases q with
    | true => exact fsF_ok h1 hq
    | false => exact fsF_no h1 hq
  have hn2 := (pairs_rise h1).2
  rw [HQ.out]
  clear h1 hq
  go_enter Tryz.func8, Tryz.ntmps8
  go_wp2_with fail
  refine (implPairs_any _ B n F _ H.out hn).mono ?_
  rintro e w1 ⟨rfl, q1⟩
  rw [HF.out]
  have HB : Hid (Below w.heap.size w w1) := q1
  clear q1
  go_wp2_with fail
  refine (hangingIn_is (listOf F n) _ B _ (row_list (H.out.later HB.out)) (pairs_rise HF.out).1 (by rw [listOf_length]; omega) (pairs_keys HF.out)).mono ?_
  rintro e w2 ⟨b, rb, mb, lv, rfl, hl, ho, hrb, q2⟩
  have HH : Hid (Hung w2 b rb mb (listOf F n) [] (.slice none 0 0) lv ∧ w1.heap.size ≤ mb ∧ w1.heap.size ≤ b) := ⟨Hung.new hl ho, by have := hl.2.2.2.2; omega, by have := hl.2.2.2.2; omega⟩
  have HB2 : Hid (Below w.heap.size w w2 ∧ w1.heap.size ≤ w2.heap.size) := ⟨HB.out.trans (q2.mono HB.out.size), q2.size⟩
  clear hl ho hrb q2
  go_wp2_with fail
  refine (isWhole_is (listOf F n) b rb mb [] (.slice none 0 0) lv _ HH.out.1 (pairs_rise HF.out).1 (by rw [listOf_length]; omega) (lookF_val (pairs_vals HF.out))).mono ?_
  rintro e w3 ⟨rfl, ys, vy, hg, hk⟩
  have HB3 : Hid (Below w.heap.size w w3) := HB2.out.1.trans (hk.toBelow HB2.out.1.size (Nat.le_trans HB.out.size HH.out.2.2) (Nat.le_trans HB.out.size HH.out.2.1) (fun k hk => by cases hk))
  rw [HW.out]
  clear hg hk HH HB HB2
  cases q with
  | true =>
    go_wp2
    go_ret
    exact ⟨rfl, HB3.out⟩
  | false =>
    go_wp2
    go_ret
    exact ⟨rfl, HB3.out⟩
end Go.Proofs.YtbpppaolcgibnaaGreatDoor

namespace Go.Proofs.YtbpppaolcgibnaaGreatDoor
open Go.RowKit

/-- What is told of an item that is applied. -/
def appF (k kd v : Int) : Int := if faultOf k ≠ 0 then faultOf k else if ¬ (1 ≤ kd ∧ kd ≤ 3) ∨ ¬ (0 ≤ v ∧ v ≤ 9999) then 3 else 0
def appsF (G : Nat → Int) : Nat → Nat → Int
  | 0, _ => 0
  | m + 1, k => if appF (G (k * 3)) (G (k * 3 + 1)) (G (k * 3 + 2)) ≠ 0 then appF (G (k * 3)) (G (k * 3 + 1)) (G (k * 3 + 2)) else appsF G m (k + 1)
theorem appsF_all {G : Nat → Int} : ∀ {m k : Nat}, appsF G m k = 0 → ∀ j, j < m → appF (G ((k + j) * 3)) (G ((k + j) * 3 + 1)) (G ((k + j) * 3 + 2)) = 0
  | 0, _, _, j, hj => absurd hj (Nat.not_lt_zero j)
  | m + 1, k, h, j, hj => by
    by_cases h0 : appF (G (k * 3)) (G (k * 3 + 1)) (G (k * 3 + 2)) = 0
    · rw [appsF, if_neg (fun q => q h0)] at h
      cases j with
      | zero => exact h0
      | succ j =>
        have := appsF_all h j (by omega)
        rwa [show k + 1 + j = k + (j + 1) by omega] at this
    · rw [appsF, if_pos h0] at h
      exact absurd h h0
theorem appF_zero {k kd v : Int} (h : appF k kd v = 0) : faultOf k = 0 ∧ (1 ≤ kd ∧ kd ≤ 3) ∧ (0 ≤ v ∧ v ≤ 9999) := by
  unfold appF at h
  by_cases h1 : faultOf k = 0
  · rw [if_neg (fun q => q h1)] at h
    by_cases h2 : ¬ (1 ≤ kd ∧ kd ≤ 3) ∨ ¬ (0 ≤ v ∧ v ≤ 9999)
    · rw [if_pos h2] at h; omega
    · exact ⟨h1, by omega, by omega⟩
  · rw [if_pos h1] at h; exact absurd h h1
/-- What is told of items that are applied. -/
def appliedF (m : Nat) (G : Nat → Int) : Int := if 12 < m then 2 else appsF G m 0
def ItmE (w : World) (g o i : Nat) (n0 n1 n2 : Int) (X : World) : Prop := (X.cell? ⟨g, o + i * 3, none⟩ = some (.int .i64 n0) ∧ X.cell? ⟨g, o + i * 3 + 1, none⟩ = some (.int .i64 n1) ∧ X.cell? ⟨g, o + i * 3 + 2, none⟩ = some (.int .i64 n2)) ∧ Below w.heap.size w X
theorem ItmE.later {w X X' : World} {g o i : Nat} {n0 n1 n2 : Int} (h : ItmE w g o i n0 n1 n2 X) (hb : Below X.heap.size X X') : ItmE w g o i n0 n1 n2 X' := by
  obtain ⟨⟨h0, h1, h2⟩, hy⟩ := h
  exact ⟨⟨(hb.cell (lt_cellP h0)).trans h0, (hb.cell (lt_cellP h1)).trans h1, (hb.cell (lt_cellP h2)).trans h2⟩, hy.trans (hb.mono hy.size)⟩
set_option maxRecDepth 100000 in
set_option maxHeartbeats 4000000 in
theorem l11Apply_any (L : Prs) (G : Nat → Int) (m : Nat) (v y : Value) (B B' : Nat) (w : World) (h : Row w B 2 L.length (rowL L) v) (hi' : Row w B' 3 m G y) (hn : L.length ≤ 800) (hm : m ≤ 12) (hk : ∀ i, i < m → 1 ≤ G (i * 3 + 1) ∧ G (i * 3 + 1) ≤ 3) :
    Calls Tryz.prog 70 #[v, y] w fun e w' => ∃ ao cp, e = .returned (.slice ao (applyN L G m).length cp) ∧ Own w' w.heap.size 35 2 (applyN L G m).length (rowL (applyN L G m)) (.slice ao (applyN L G m).length cp) ∧ Below w.heap.size w w' := by
  obtain ⟨ao0, cp0, rfl⟩ := h.form
  obtain ⟨bo0, bp0, rfl⟩ := hi'.form
  have H : Hid (Row w B 2 L.length (rowL L) (.slice ao0 L.length cp0) ∧ Row w B' 3 m G (.slice bo0 m bp0)) := ⟨h, hi'⟩
  clear h hi'
  obtain ⟨i0, hi, iz0, iz1, iz2⟩ := info_parts infoz_Pair
  go_enter Tryz.func70, Tryz.ntmps70
  go_wp2_with (at_builtin; refine wpList_app 35 i0 (.agg #[.int .i64 0, .int .i64 0]) 2 16 rfl _ _ 24 rfl Tryz.underlying24 hi iz0 iz1 iz2 rfl (by omega) (by omega) _ w.heap.size 0 [] (.slice (some ⟨w.heap.size, 0, none⟩) 0 0) rfl (OwnM.lit0 _ _ _ _ rfl) B L.length (rowL L) (.slice ao0 L.length cp0) rfl (H.out.1.alloc _) (by omega) (by simp) ?_; intro ao1 cp1 w2 O2 G2)
  have HS2 : Hid (Own w2 w.heap.size 35 2 L.length (rowL L) (.slice ao1 L.length cp1) ∧ Below w.heap.size w w2) := by
    rw [Nat.zero_add, List.nil_append] at O2
    exact ⟨own_eqP (O2.own (nums_length _ _)) (fun p hp => by simp [nums, hp]), (below_alloc w _).grown G2 (by simp) (fun r e => by simp [Value.ownBlock] at e; omega)⟩
  clear O2 G2
  go_wp2
  go_loopw [5, 6] (fun out i wr => ∃ (j : Nat) (ao : Option Addr) (cp : Nat), j ≤ m ∧ i = .int .i64 j ∧ out = .slice ao (applyN L G j).length cp ∧ Hid (Own wr w.heap.size 35 2 (applyN L G j).length (rowL (applyN L G j)) (.slice ao (applyN L G j).length cp) ∧ Below w.heap.size w wr)) (fun _ i _ => m - (intOf i).toNat)
  case atStart => exact ⟨0, ao1, cp1, Nat.zero_le _, rfl, rfl, HS2⟩
  case round =>
    obtain ⟨j, ao, cp, hj, rfl, rfl, HS⟩ := hrel
    by_cases hlt : j < m
    case neg =>
      obtain rfl : j = m := by omega
      go_wp2
      exact bodyPost_ret (v := .slice ao (applyN L G j).length cp) (by simp [results, Tryz.results70, go_sem]) rfl ⟨ao, cp, rfl, HS.out⟩
    have hlen : (applyN L G j).length ≤ 812 := Nat.le_trans (applyN_len L G j) (by omega)
    have hkj := hk j hlt
    obtain ⟨g, o, hbo, _, hg, y0, y1, y2⟩ := (H.out.2.later HS.out.2).at3 hlt
    subst hbo
    obtain ⟨n0, N0⟩ : ∃ x, G (j * 3) = x := ⟨_, rfl⟩
    rw [N0] at y0
    obtain ⟨n1, N1⟩ : ∃ x, G (j * 3 + 1) = x := ⟨_, rfl⟩
    rw [N1] at y1 hkj
    obtain ⟨n2, N2⟩ : ∃ x, G (j * 3 + 2) = x := ⟨_, rfl⟩
    rw [N2] at y2
    have HP : Hid (applyN L G (j + 1) = stepA (applyN L G j) n0 n1 n2) := by
      unfold Hid
      rw [← N0, ← N1, ← N2]
      rfl
    clear N0 N1 N2 HS2
    obtain ⟨A, hA⟩ : ∃ A, applyN L G j = A := ⟨_, rfl⟩
    rw [hA] at hlen HS HP
    rw [hA]
    clear hA
    by_cases k3 : n1 = 3
    · have HE : Hid (applyN L G (j + 1) = A) := by unfold Hid; rw [HP.out, stepA, if_neg (by omega), if_neg (by omega)]
      subst k3
      clear HP hkj
      go_wp2
      go_roundw
      case rel =>
        refine ⟨j + 1, ao, cp, by omega, by go_num, by rw [HE.out], ?_⟩
        rw [HE.out]
        exact HS
      case measure => simp [intOf]; omega
    have d3 : (n1 != 3) = true := bne_iff_ne.2 k3
    by_cases k1 : n1 = 1
    · have HE : Hid (applyN L G (j + 1) = setS A n0 n2 true) := by unfold Hid; rw [HP.out, stepA, if_pos k1, setS_put]
      subst k1
      clear HP hkj k3 d3
      go_wp2_with fail
      refine wp_region_held_drew (S := ItmE w g o j n0 1 n2) (by kernel_rfl) ⟨⟨y0, y1, y2⟩, HS.out.2.drew⟩ (fun hS => ?_)
      refine tkH 0 ?_ hS (fun wx hx => ?_) ?_; rotate_left
      · obtain ⟨⟨hx0, hx1, hx2⟩, _⟩ := hx; go_simp; try with_reducible rfl
      refine tkH 1 ?_ hS (fun wx hx => ?_) ?_; rotate_left
      · obtain ⟨⟨hx0, hx1, hx2⟩, _⟩ := hx; go_simp; try with_reducible rfl
      refine tkH 2 ?_ hS (fun wx hx => ?_) ?_; rotate_left
      · obtain ⟨⟨hx0, hx1, hx2⟩, _⟩ := hx; go_simp; try with_reducible rfl
      try simp only [Act.put, List.getElem_toArray, List.getElem_cons_zero, List.getElem_cons_succ, List.setIfInBounds_toArray, List.set_cons_succ, List.set_cons_zero]
      refine tkH 3 ?_ hS (fun wx hx => ?_) ?_; rotate_left
      · obtain ⟨⟨hx0, hx1, hx2⟩, _⟩ := hx; go_simp; try with_reducible rfl
      refine tkH 4 ?_ hS (fun wx hx => ?_) ?_; rotate_left
      · obtain ⟨⟨hx0, hx1, hx2⟩, _⟩ := hx; go_simp; try with_reducible rfl
      refine tkH 5 ?_ hS (fun wx hx => ?_) ?_; rotate_left
      · obtain ⟨⟨hx0, hx1, hx2⟩, _⟩ := hx; go_simp; try with_reducible rfl
      try simp only [Act.put, List.getElem_toArray, List.getElem_cons_zero, List.getElem_cons_succ, List.setIfInBounds_toArray, List.set_cons_succ, List.set_cons_zero]
      refine tkH 6 ?_ hS (fun wx hx => ?_) ?_; rotate_left
      · obtain ⟨⟨hx0, hx1, hx2⟩, _⟩ := hx; go_simp; try with_reducible rfl
      refine tkH 7 ?_ hS (fun wx hx => ?_) ?_; rotate_left
      · obtain ⟨⟨hx0, hx1, hx2⟩, _⟩ := hx; go_simp; try with_reducible rfl
      refine tkH 8 ?_ hS (fun wx hx => ?_) ?_; rotate_left
      · obtain ⟨⟨hx0, hx1, hx2⟩, _⟩ := hx; go_simp; try with_reducible rfl
      try simp only [Act.put, List.getElem_toArray, List.getElem_cons_zero, List.getElem_cons_succ, List.setIfInBounds_toArray, List.set_cons_succ, List.set_cons_zero]
      refine tkH 9 ?_ hS (fun wx hx => ?_) ?_; rotate_left
      · obtain ⟨⟨hx0, hx1, hx2⟩, _⟩ := hx; go_simp; try with_reducible rfl
      refine tkH 10 ?_ hS (fun wx hx => ?_) ?_; rotate_left
      · obtain ⟨⟨hx0, hx1, hx2⟩, _⟩ := hx; go_simp; try with_reducible rfl
      refine tkH 11 ?_ hS (fun wx hx => ?_) ?_; rotate_left
      · obtain ⟨⟨hx0, hx1, hx2⟩, _⟩ := hx; go_simp; try with_reducible rfl
      try simp only [Act.put, List.getElem_toArray, List.getElem_cons_zero, List.getElem_cons_succ, List.setIfInBounds_toArray, List.set_cons_succ, List.set_cons_zero]
      refine tkH 12 ?_ hS (fun wx hx => ?_) ?_; rotate_left
      · obtain ⟨⟨hx0, hx1, hx2⟩, _⟩ := hx; go_simp; try with_reducible rfl
      refine tkH 13 ?_ hS (fun wx hx => ?_) ?_; rotate_left
      · obtain ⟨⟨hx0, hx1, hx2⟩, _⟩ := hx; go_simp; try with_reducible rfl
      refine tkH 14 ?_ hS (fun wx hx => ?_) ?_; rotate_left
      · obtain ⟨⟨hx0, hx1, hx2⟩, _⟩ := hx; go_simp; try with_reducible rfl
      try simp only [Act.put, List.getElem_toArray, List.getElem_cons_zero, List.getElem_cons_succ, List.setIfInBounds_toArray, List.set_cons_succ, List.set_cons_zero]
      refine tkH 15 ?_ hS (fun wx hx => ?_) ?_; rotate_left
      · obtain ⟨⟨hx0, hx1, hx2⟩, _⟩ := hx; go_simp; try with_reducible rfl
      refine tkH 16 ?_ hS (fun wx hx => ?_) ?_; rotate_left
      · obtain ⟨⟨hx0, hx1, hx2⟩, _⟩ := hx; go_simp; try with_reducible rfl
      refine tkH 17 ?_ hS (fun wx hx => ?_) ?_; rotate_left
      · obtain ⟨⟨hx0, hx1, hx2⟩, _⟩ := hx; go_simp; try with_reducible rfl
      try simp only [Act.put, List.getElem_toArray, List.getElem_cons_zero, List.getElem_cons_succ, List.setIfInBounds_toArray, List.set_cons_succ, List.set_cons_zero]
      refine rdH 18 (fun K hK => ?_)
      go_simp
      go_wp2_with fail
      refine (l11Set_any A _ w.heap.size n0 n2 true _ (HS.out.1.later (Below.drew (Below.refl _ _))).row.1 (by omega)).mono ?_
      rintro e w1 ⟨ao1, cp1, rfl, o1, q1⟩
      have hS1 := hS.later q1
      have HS1 : Hid (Own w1 w.heap.size 35 2 (setS A n0 n2 true).length (rowL (setS A n0 n2 true)) (.slice ao1 (setS A n0 n2 true).length cp1) ∧ Below w.heap.size w w1) := ⟨o1.mono hS.2.size, hS1.2⟩
      clear hS q1 o1
      go_wp2_with fail
      refine hK.out _ _ hS1 (fun hS => ?_)
      clear hK K hS1
      refine tkH 19 ?_ hS (fun wx hx => ?_) ?_; rotate_left
      · obtain ⟨⟨hx0, hx1, hx2⟩, _⟩ := hx; go_simp; try with_reducible rfl
      refine wpAnyH_done (by kernel_rfl) ?_ _
      obtain ⟨LEN, hLEN⟩ : ∃ LEN, LEN = (setS A n0 n2 true).length := ⟨_, rfl⟩
      rw [← hLEN]
      have HLEN : Hid (LEN = (setS A n0 n2 true).length) := hLEN
      clear hLEN
      go_simp
      go_wp2
      go_roundw
      case rel =>
        refine ⟨j + 1, ao1, cp1, by omega, by go_num, by rw [HE.out, HLEN.out], ?_⟩
        rw [HE.out]
        exact HS1
      case measure => simp [intOf]; omega
    · have HE : Hid (applyN L G (j + 1) = setS A n0 n2 false) := by unfold Hid; rw [HP.out, stepA, if_neg k1, if_pos (by omega), setS_gone]
      obtain rfl : n1 = 2 := by omega
      clear HP hkj k3 k1 d3
      go_wp2_with fail
      refine wp_region_held_drew (S := ItmE w g o j n0 2 n2) (by kernel_rfl) ⟨⟨y0, y1, y2⟩, HS.out.2.drew⟩ (fun hS => ?_)
      refine tkH 0 ?_ hS (fun wx hx => ?_) ?_; rotate_left
      · obtain ⟨⟨hx0, hx1, hx2⟩, _⟩ := hx; go_simp; try with_reducible rfl
      refine tkH 1 ?_ hS (fun wx hx => ?_) ?_; rotate_left
      · obtain ⟨⟨hx0, hx1, hx2⟩, _⟩ := hx; go_simp; try with_reducible rfl
      refine tkH 2 ?_ hS (fun wx hx => ?_) ?_; rotate_left
      · obtain ⟨⟨hx0, hx1, hx2⟩, _⟩ := hx; go_simp; try with_reducible rfl
      try simp only [Act.put, List.getElem_toArray, List.getElem_cons_zero, List.getElem_cons_succ, List.setIfInBounds_toArray, List.set_cons_succ, List.set_cons_zero]
      refine tkH 3 ?_ hS (fun wx hx => ?_) ?_; rotate_left
      · obtain ⟨⟨hx0, hx1, hx2⟩, _⟩ := hx; go_simp; try with_reducible rfl
      refine tkH 4 ?_ hS (fun wx hx => ?_) ?_; rotate_left
      · obtain ⟨⟨hx0, hx1, hx2⟩, _⟩ := hx; go_simp; try with_reducible rfl
      refine tkH 5 ?_ hS (fun wx hx => ?_) ?_; rotate_left
      · obtain ⟨⟨hx0, hx1, hx2⟩, _⟩ := hx; go_simp; try with_reducible rfl
      try simp only [Act.put, List.getElem_toArray, List.getElem_cons_zero, List.getElem_cons_succ, List.setIfInBounds_toArray, List.set_cons_succ, List.set_cons_zero]
      refine tkH 6 ?_ hS (fun wx hx => ?_) ?_; rotate_left
      · obtain ⟨⟨hx0, hx1, hx2⟩, _⟩ := hx; go_simp; try with_reducible rfl
      refine tkH 7 ?_ hS (fun wx hx => ?_) ?_; rotate_left
      · obtain ⟨⟨hx0, hx1, hx2⟩, _⟩ := hx; go_simp; try with_reducible rfl
      refine tkH 8 ?_ hS (fun wx hx => ?_) ?_; rotate_left
      · obtain ⟨⟨hx0, hx1, hx2⟩, _⟩ := hx; go_simp; try with_reducible rfl
      try simp only [Act.put, List.getElem_toArray, List.getElem_cons_zero, List.getElem_cons_succ, List.setIfInBounds_toArray, List.set_cons_succ, List.set_cons_zero]
      refine tkH 9 ?_ hS (fun wx hx => ?_) ?_; rotate_left
      · obtain ⟨⟨hx0, hx1, hx2⟩, _⟩ := hx; go_simp; try with_reducible rfl
      refine tkH 10 ?_ hS (fun wx hx => ?_) ?_; rotate_left
      · obtain ⟨⟨hx0, hx1, hx2⟩, _⟩ := hx; go_simp; try with_reducible rfl
      refine tkH 11 ?_ hS (fun wx hx => ?_) ?_; rotate_left
      · obtain ⟨⟨hx0, hx1, hx2⟩, _⟩ := hx; go_simp; try with_reducible rfl
      try simp only [Act.put, List.getElem_toArray, List.getElem_cons_zero, List.getElem_cons_succ, List.setIfInBounds_toArray, List.set_cons_succ, List.set_cons_zero]
      refine tkH 12 ?_ hS (fun wx hx => ?_) ?_; rotate_left
      · obtain ⟨⟨hx0, hx1, hx2⟩, _⟩ := hx; go_simp; try with_reducible rfl
      refine tkH 13 ?_ hS (fun wx hx => ?_) ?_; rotate_left
      · obtain ⟨⟨hx0, hx1, hx2⟩, _⟩ := hx; go_simp; try with_reducible rfl
      refine tkH 14 ?_ hS (fun wx hx => ?_) ?_; rotate_left
      · obtain ⟨⟨hx0, hx1, hx2⟩, _⟩ := hx; go_simp; try with_reducible rfl
      try simp only [Act.put, List.getElem_toArray, List.getElem_cons_zero, List.getElem_cons_succ, List.setIfInBounds_toArray, List.set_cons_succ, List.set_cons_zero]
      refine tkH 15 ?_ hS (fun wx hx => ?_) ?_; rotate_left
      · obtain ⟨⟨hx0, hx1, hx2⟩, _⟩ := hx; go_simp; try with_reducible rfl
      refine tkH 16 ?_ hS (fun wx hx => ?_) ?_; rotate_left
      · obtain ⟨⟨hx0, hx1, hx2⟩, _⟩ := hx; go_simp; try with_reducible rfl
      refine tkH 17 ?_ hS (fun wx hx => ?_) ?_; rotate_left
      · obtain ⟨⟨hx0, hx1, hx2⟩, _⟩ := hx; go_simp; try with_reducible rfl
      try simp only [Act.put, List.getElem_toArray, List.getElem_cons_zero, List.getElem_cons_succ, List.setIfInBounds_toArray, List.set_cons_succ, List.set_cons_zero]
      refine rdH 18 (fun K hK => ?_)
      go_simp
      go_wp2_with fail
      refine (l11Set_any A _ w.heap.size n0 n2 false _ (HS.out.1.later (Below.drew (Below.refl _ _))).row.1 (by omega)).mono ?_
      rintro e w1 ⟨ao1, cp1, rfl, o1, q1⟩
      have hS1 := hS.later q1
      have HS1 : Hid (Own w1 w.heap.size 35 2 (setS A n0 n2 false).length (rowL (setS A n0 n2 false)) (.slice ao1 (setS A n0 n2 false).length cp1) ∧ Below w.heap.size w w1) := ⟨o1.mono hS.2.size, hS1.2⟩
      clear hS q1 o1
      go_wp2_with fail
      refine hK.out _ _ hS1 (fun hS => ?_)
      clear hK K hS1
      refine tkH 19 ?_ hS (fun wx hx => ?_) ?_; rotate_left
      · obtain ⟨⟨hx0, hx1, hx2⟩, _⟩ := hx; go_simp; try with_reducible rfl
      refine wpAnyH_done (by kernel_rfl) ?_ _
      obtain ⟨LEN, hLEN⟩ : ∃ LEN, LEN = (setS A n0 n2 false).length := ⟨_, rfl⟩
      rw [← hLEN]
      have HLEN : Hid (LEN = (setS A n0 n2 false).length) := hLEN
      clear hLEN
      go_simp
      go_wp2
      go_roundw
      case rel =>
        refine ⟨j + 1, ao1, cp1, by omega, by go_num, by rw [HE.out, HLEN.out], ?_⟩
        rw [HE.out]
        exact HS1
      case measure => simp [intOf]; omega
end Go.Proofs.YtbpppaolcgibnaaGreatDoor

namespace Go.Proofs.YtbpppaolcgibnaaGreatDoor
open Go.RowKit

theorem appF_ok {k kd v : Int} (h : faultOf k = 0) (h1 : 1 ≤ kd ∧ kd ≤ 3) (h2 : 0 ≤ v ∧ v ≤ 9999) : appF k kd v = 0 := by unfold appF; rw [if_neg (fun q => q h), if_neg (by omega)]
theorem appliedF_zero {m : Nat} {G : Nat → Int} (h : appliedF m G = 0) : m ≤ 12 ∧ appsF G m 0 = 0 ∧ ∀ i, i < m → 1 ≤ G (i * 3 + 1) ∧ G (i * 3 + 1) ≤ 3 := by
  unfold appliedF at h
  by_cases q : 12 < m
  · rw [if_pos q] at h; omega
  · rw [if_neg q] at h
    exact ⟨by omega, h, fun i hi => by have := appsF_all h i hi; rw [Nat.zero_add] at this; exact (appF_zero this).2.1⟩
end Go.Proofs.YtbpppaolcgibnaaGreatDoor

namespace Go.Proofs.YtbpppaolcgibnaaGreatDoor
open Go.RowKit

theorem kI_ok {a : Int} (h : 0 ≤ a ∧ a ≤ 9) : faultOf (kI a) = 0 := faultOf_ok (by unfold kI; omega)
theorem kB_ok {a : Int} (h : 0 ≤ a ∧ a ≤ 9) : faultOf (kB a) = 0 := faultOf_ok (by unfold kB; omega)
theorem appsF_of {G : Nat → Int} : ∀ {m k : Nat}, (∀ j, j < m → appF (G ((k + j) * 3)) (G ((k + j) * 3 + 1)) (G ((k + j) * 3 + 2)) = 0) → appsF G m k = 0
  | 0, _, _ => rfl
  | m + 1, k, h => by
    rw [appsF, if_neg (by have := h 0 (Nat.succ_pos _); simpa using this)]
    exact appsF_of fun j hj => by
      have := h (j + 1) (by omega)
      rwa [show k + (j + 1) = k + 1 + j by omega] at this
/-- What is written, and how many: items without a fault. -/
def ItemsOk (m : Nat) (W : List Int) : Prop := appliedF m (fun p => W.getD p 0) = 0 ∧ W.length = m * 3
theorem items0 : ItemsOk 0 [] := ⟨rfl, rfl⟩
theorem items1 {a0 a1 a2 : Int} (h0 : appF a0 a1 a2 = 0) : ItemsOk 1 [a0, a1, a2] := by
  refine ⟨?_, rfl⟩
  unfold appliedF
  rw [if_neg (by omega)]
  exact appsF_of fun j hj => by
    match j, hj with
    | 0, _ => exact h0
theorem items2 {a0 a1 a2 b0 b1 b2 : Int} (h0 : appF a0 a1 a2 = 0) (h1 : appF b0 b1 b2 = 0) : ItemsOk 2 [a0, a1, a2, b0, b1, b2] := by
  refine ⟨?_, rfl⟩
  unfold appliedF
  rw [if_neg (by omega)]
  exact appsF_of fun j hj => by
    match j, hj with
    | 0, _ => exact h0
    | 1, _ => exact h1
theorem items3 {a0 a1 a2 b0 b1 b2 c0 c1 c2 : Int} (h0 : appF a0 a1 a2 = 0) (h1 : appF b0 b1 b2 = 0) (h2 : appF c0 c1 c2 = 0) : ItemsOk 3 [a0, a1, a2, b0, b1, b2, c0, c1, c2] := by
  refine ⟨?_, rfl⟩
  unfold appliedF
  rw [if_neg (by omega)]
  exact appsF_of fun j hj => by
    match j, hj with
    | 0, _ => exact h0
    | 1, _ => exact h1
    | 2, _ => exact h2
theorem op_value {kd d n td tn vv : Int} (h : opF kd d n td tn vv = 0) : 0 ≤ vv ∧ vv ≤ 9999 := by
  unfold opF at h
  cases h1 : suitsB kd td tn vv with
  | false => rw [h1] at h; simp at h
  | true =>
    cases h2 : boundsB d n td tn vv with
    | false => rw [h1, h2] at h; simp at h
    | true =>
      have b := of_decide_eq_true h2
      exact b.2.2.2.2
/-- Whatever an operation finds: with a reply nothing is written; what is written has no fault. -/
theorem reply_items {L : Prs} (hv : ∀ k, 0 ≤ (lookF L k).2 ∧ (lookF L k).2 ≤ 9999) {kd d n td tn vv : Int} (ho : opF kd d n td tn vv = 0) :
    ItemsOk (replyP L kd d n td tn vv).2.2.2.1 (replyP L kd d n td tn vv).2.2.2.2 ∧ ((replyP L kd d n td tn vv).1 ≠ 0 → (replyP L kd d n td tn vv).2.2.2.1 = 0) ∧ (0 ≤ (replyP L kd d n td tn vv).2.1 ∧ (replyP L kd d n td tn vv).2.1 ≤ 9999) := by
  obtain ⟨hkd, hd, hn, htd, htn⟩ := op_bounds ho
  have hvv := op_value ho
  have hc : 0 ≤ minC (lookF L (kE d n)).2 ∧ minC (lookF L (kE d n)).2 ≤ 9 := minC_in (hv _).1
  have hcv := hv (kI (minC (lookF L (kE d n)).2))
  have hbv := hv (kB (minC (lookF L (kE d n)).2))
  have h0v := hv 0
  have e0 : faultOf (0 : Int) = 0 := by decide
  unfold replyP
  split
  · split
    · split
      · exact ⟨items0, fun _ => rfl, by simp only; omega⟩
      · unfold makeP
        split
        · rename_i hnx
          exact ⟨items3 (appF_ok e0 (by omega) (by omega)) (appF_ok (kI_ok (by omega)) (by omega) (by split <;> omega)) (appF_ok (kE_ok hd hn) (by omega) (by omega)), fun h => absurd rfl h, by simp only; omega⟩
        · exact ⟨items0, fun _ => rfl, by simp only; omega⟩
    · split
      · unfold childP
        generalize minC (lookF L (kE d n)).2 = c at hc hcv hbv ⊢
        generalize (lookF L (kI c)).2 = cv at hcv ⊢
        split
        · unfold removeP
          split
          · split
            · exact ⟨items2 (appF_ok (kE_ok hd hn) (by omega) (by omega)) (appF_ok (kI_ok hc) (by omega) (by omega)), fun h => absurd rfl h, by simp only; omega⟩
            · exact ⟨items0, fun _ => rfl, by simp only; omega⟩
          · split
            · exact ⟨items2 (appF_ok (kE_ok hd hn) (by omega) (by omega)) (appF_ok (kI_ok hc) (by omega) (by omega)), fun h => absurd rfl h, by simp only; omega⟩
            · exact ⟨items3 (appF_ok (kE_ok hd hn) (by omega) (by omega)) (appF_ok (kI_ok hc) (by omega) (by omega)) (appF_ok (kB_ok hc) (by omega) (by omega)), fun h => absurd rfl h, by simp only; omega⟩
        · split
          · unfold moveP
            split
            · exact ⟨items0, fun _ => rfl, by simp only; omega⟩
            · split
              · exact ⟨items2 (appF_ok (kE_ok hd hn) (by omega) (by omega)) (appF_ok (kE_ok htd htn) (by omega) (by omega)), fun h => absurd rfl h, by simp only; omega⟩
              · exact ⟨items0, fun _ => rfl, by simp only; omega⟩
          · split
            · unfold linkP
              split
              · exact ⟨items0, fun _ => rfl, by simp only; omega⟩
              · split
                · split
                  · exact ⟨items0, fun _ => rfl, by simp only; omega⟩
                  · exact ⟨items2 (appF_ok (kI_ok hc) (by omega) (by omega)) (appF_ok (kE_ok htd htn) (by omega) (by omega)), fun h => absurd rfl h, by simp only; omega⟩
                · exact ⟨items0, fun _ => rfl, by simp only; omega⟩
            · split
              · exact ⟨items0, fun h => absurd rfl h, by simp only; omega⟩
              · split
                · exact ⟨items0, fun _ => rfl, by simp only; omega⟩
                · split
                  · exact ⟨items1 (appF_ok (kB_ok hc) (by omega) (by omega)), fun h => absurd rfl h, by simp only; omega⟩
                  · exact ⟨items0, fun _ => rfl, by simp only; omega⟩
      · exact ⟨items0, fun _ => rfl, by simp only; omega⟩
  · exact ⟨items0, fun _ => rfl, by simp only; omega⟩
/-- A list of pairs that has no fault. -/
def GoodP (L : Prs) : Prop := Rises L ∧ ∀ e ∈ L, faultOf e.1 = 0 ∧ 0 ≤ e.2 ∧ e.2 ≤ 9999
theorem good_of_pairs {F : Nat → Int} {n : Nat} (h : pairsF F n 0 = 0) : GoodP (listOf F n) := by
  refine ⟨(pairs_rise h).1, fun e he => ⟨?_, pairs_vals h e he⟩⟩
  unfold listOf at he
  obtain ⟨k, hk, rfl⟩ := List.mem_map.1 he
  have := pairsF_all h k (List.mem_range.1 hk)
  rw [Nat.zero_add] at this
  exact (pairF_zero this).1
theorem pairsF_of {F : Nat → Int} : ∀ {m k : Nat}, (∀ j, j < m → pairF F (k + j) = 0) → pairsF F m k = 0
  | 0, _, _ => rfl
  | m + 1, k, h => by
    rw [pairsF, if_neg (by have := h 0 (Nat.succ_pos _); simpa using this)]
    exact pairsF_of fun j hj => by
      have := h (j + 1) (by omega)
      rwa [show k + (j + 1) = k + 1 + j by omega] at this
theorem pairs_of_good {L : Prs} (h : GoodP L) : pairsF (rowL L) L.length 0 = 0 := by
  refine pairsF_of fun j hj => ?_
  rw [Nat.zero_add]
  have hm : L.getD j (0, 0) ∈ L := by
    rw [List.getD_eq_getElem?_getD, List.getElem?_eq_getElem hj]
    exact List.getElem_mem hj
  have he := h.2 _ hm
  refine pairF_ok (rowL_key L j) (rowL_val L j) rfl he.1 he.2 (fun q => ?_)
  have hr := List.pairwise_iff_getElem.1 h.1 (j - 1) j (by omega) hj (by omega)
  rw [rowL_key] at q
  rw [List.getD_eq_getElem?_getD, List.getElem?_eq_getElem hj, List.getD_eq_getElem?_getD, List.getElem?_eq_getElem (show j - 1 < L.length by omega)] at q
  simp only [Option.getD_some] at q
  omega
theorem GoodP.step {L : Prs} (h : GoodP L) {k kd v : Int} (hi : appF k kd v = 0) : GoodP (stepA L k kd v) := by
  have h3 := appF_zero hi
  refine ⟨stepA_rises h.1 k kd v, fun e he => ?_⟩
  unfold stepA at he
  split at he
  · rcases putPr_mem he with rfl | q
    · exact ⟨h3.1, h3.2.2⟩
    · exact h.2 e q
  · split at he
    · exact h.2 e (List.mem_filter.1 he).1
    · exact h.2 e he
theorem GoodP.apply {L : Prs} (h : GoodP L) {G : Nat → Int} : ∀ {m : Nat}, (∀ i, i < m → appF (G (i * 3)) (G (i * 3 + 1)) (G (i * 3 + 2)) = 0) → GoodP (applyN L G m)
  | 0, _ => h
  | m + 1, hi => (GoodP.apply h (m := m) (fun i him => hi i (by omega))).step (hi m (Nat.lt_succ_self _))
theorem ItemsOk.all {m : Nat} {W : List Int} (h : ItemsOk m W) : ∀ i, i < m → appF (W.getD (i * 3) 0) (W.getD (i * 3 + 1) 0) (W.getD (i * 3 + 2) 0) = 0 := fun i hi => by
  have := appsF_all (appliedF_zero h.1).2.1 i hi
  rwa [Nat.zero_add] at this
theorem GoodP.vals {L : Prs} (h : GoodP L) : ∀ k, 0 ≤ (lookF L k).2 ∧ (lookF L k).2 ≤ 9999 := lookF_val fun e he => (h.2 e he).2
theorem GoodP.len {L : Prs} (h : GoodP L) : L.length ≤ 200 := by
  have := (pairs_rise (pairs_of_good h)).2
  exact this
/-- What an operation comes to: its reply, its value, the view behind it. -/
def applyP (L : Prs) (kd d n td tn vv : Int) : Int × Int × Prs :=
  ((replyP L kd d n td tn vv).1, (replyP L kd d n td tn vv).2.1, applyN L (fun p => (replyP L kd d n td tn vv).2.2.2.2.getD p 0) (replyP L kd d n td tn vv).2.2.2.1)
theorem GoodP.applyOp {L : Prs} (h : GoodP L) {kd d n td tn vv : Int} (ho : opF kd d n td tn vv = 0) : GoodP (applyP L kd d n td tn vv).2.2 :=
  h.apply ((reply_items h.vals ho).1.all)
end Go.Proofs.YtbpppaolcgibnaaGreatDoor

namespace Go.Proofs.YtbpppaolcgibnaaGreatDoor
open Go.RowKit

/-- What is told of an entry of a directory: the node, and what is below it. -/
def nodeX (L : Prs) (rec : Int → List Int) (dir depth i : Int) : List Int :=
  [(lookF L (kE dir i)).2, depth, i, (lookF L (kI (lookF L (kE dir i)).2)).2] ++ (if (lookF L (kI (lookF L (kE dir i)).2)).2 = 1000 then rec (lookF L (kE dir i)).2 else [])
def nodesX (L : Prs) (rec : Int → List Int) (dir depth : Int) : List Int → List Int
  | [] => []
  | i :: t => nodeX L rec dir depth i ++ nodesX L rec dir depth t
def belowF (L : Prs) : Nat → Int → Int → List Int
  | 0, _, _ => []
  | f + 1, dir, depth => nodesX L (fun c => belowF L f c (depth + 1)) dir depth (entP L dir 6 0 [])
theorem nodesX_append (L : Prs) (rec : Int → List Int) (dir depth : Int) : ∀ (xs ys : List Int), nodesX L rec dir depth (xs ++ ys) = nodesX L rec dir depth xs ++ nodesX L rec dir depth ys
  | [], _ => rfl
  | i :: t, ys => by simp only [List.cons_append, nodesX, nodesX_append L rec dir depth t ys, List.append_assoc]
/-- What the names are: those that have an entry. -/
theorem ent_mem (L : Prs) (d : Int) : ∀ (j : Nat) (i : Int) (xs : List Int) (x : Int), x ∈ entP L d j i xs → x ∈ xs ∨ ((lookF L (kE d x)).1 = true ∧ i ≤ x ∧ x < i + (j : Nat))
  | 0, _, _, _, h => Or.inl h
  | j + 1, i, xs, x, h => by
    rw [entP] at h
    rcases ent_mem L d j (i + 1) _ x h with q | ⟨q1, q2, q3⟩
    · split at q
      · rename_i ht
        rcases List.mem_append.1 q with r | r
        · exact Or.inl r
        · rw [List.mem_singleton] at r
          subst r
          exact Or.inr ⟨ht, Int.le_refl _, by omega⟩
      · exact Or.inl q
    · exact Or.inr ⟨q1, by omega, by omega⟩
theorem ent_nodup (L : Prs) (d : Int) : ∀ (j : Nat) (i : Int) (xs : List Int), xs.Nodup → (∀ x ∈ xs, x < i) → (entP L d j i xs).Nodup
  | 0, _, _, h, _ => h
  | j + 1, i, xs, h, hl => by
    rw [entP]
    refine ent_nodup L d j (i + 1) _ ?_ ?_
    · split
      · rw [List.nodup_append]
        refine ⟨h, by simp, fun a ha b hb e => ?_⟩
        rw [List.mem_singleton] at hb
        have := hl a ha
        omega
      · exact h
    · intro x hx
      split at hx
      · rcases List.mem_append.1 hx with q | q
        · have := hl x q; omega
        · rw [List.mem_singleton] at q; omega
      · have := hl x hx; omega
theorem ent_in {L : Prs} {d x : Int} (h : x ∈ entP L d 6 0 []) : (lookF L (kE d x)).1 = true ∧ 0 ≤ x ∧ x ≤ 5 := by
  rcases ent_mem L d 6 0 [] x h with q | ⟨q1, q2, q3⟩
  · cases q
  · exact ⟨q1, q2, by omega⟩
/-- What holds of the entries of a view that hangs together. -/
structure Tree (L : Prs) : Prop where
  ino : ∀ d i, 0 ≤ d ∧ d ≤ 9 → 0 ≤ i ∧ i ≤ 5 → (lookF L (kE d i)).1 = true → 0 ≤ (lookF L (kE d i)).2 ∧ (lookF L (kE d i)).2 ≤ 9
  up : ∀ d i, 0 ≤ d ∧ d ≤ 9 → 0 ≤ i ∧ i ≤ 5 → (lookF L (kE d i)).1 = true → (lookF L (kI (lookF L (kE d i)).2)).2 = 1000 → d < (lookF L (kE d i)).2
  one : ∀ d i i', 0 ≤ d ∧ d ≤ 9 → 0 ≤ i ∧ i ≤ 5 → 0 ≤ i' ∧ i' ≤ 5 → (lookF L (kE d i)).1 = true → (lookF L (kE d i')).1 = true → (lookF L (kI (lookF L (kE d i)).2)).2 = 1000 → (lookF L (kE d i')).2 = (lookF L (kE d i)).2 → i = i'
theorem look_mem {L : Prs} {k : Int} (h : (lookF L k).1 = true) : (k, (lookF L k).2) ∈ L := by
  unfold lookF at h ⊢
  split
  · rename_i e he
    have h1 := List.mem_of_find?_eq_some he
    have h2 := List.find?_some he
    have h3 : e.1 = k := by simpa using h2
    rw [← h3]
    exact h1
  · rename_i he
    rw [he] at h
    cases h
theorem parts_entry {d i : Int} (hd : 0 ≤ d ∧ d ≤ 9) (hi : 0 ≤ i ∧ i ≤ 5) : partK (kE d i) = 2 ∧ partA (kE d i) = d := by
  have hf := kE_ok hd hi
  rcases parts_ways (kE d i) with ⟨h, _⟩ | ⟨h1, _⟩ | ⟨h1, h2, _⟩ | ⟨_, _, _, _, e1, e2, _⟩ | ⟨h1, _⟩
  · exact absurd hf h
  · unfold kE at h1; omega
  · unfold kE at h2; omega
  · exact ⟨e1, by rw [e2]; unfold kE; omega⟩
  · unfold kE at h1; omega
theorem linkN_filter (a : Int) : ∀ L : Prs, linkN L a = (L.filter fun e => partK e.1 == 2 && e.2 == a).length
  | [] => rfl
  | e :: t => by
    have ih := linkN_filter a t
    unfold linkN toL at ih ⊢
    rw [lnkL, List.filter_append, List.length_append, ih]
    by_cases h : partK e.1 = 2
    · rw [if_pos h]
      by_cases h2 : e.2 = a
      · simp [h, h2]; omega
      · simp [h2]
    · rw [if_neg h]
      simp [h]
theorem two_mem {α : Type} {l : List α} {a b : α} (ha : a ∈ l) (hb : b ∈ l) (h : a ≠ b) : 2 ≤ l.length := by
  match l, ha, hb with
  | [], q, _ => cases q
  | [x], q, r =>
    rw [List.mem_singleton] at q r
    exact absurd (q.trans r.symm) h
  | _ :: _ :: _, _, _ => simp
theorem all_of {L : Prs} {p : Int × Int → Bool} (h : (L.all fun e => !(p e)) = true) {e : Int × Int} (he : e ∈ L) : p e = false := by
  have := List.all_eq_true.1 h e he
  simpa using this
theorem whole_tree {L : Prs} (h : wholeB L = true) : Tree L := by
  unfold wholeB at h
  rw [Bool.and_eq_true, Bool.and_eq_true, Bool.and_eq_true, Bool.and_eq_true] at h
  obtain ⟨_, _, _, hA, hN⟩ := h
  have ino : ∀ d i, 0 ≤ d ∧ d ≤ 9 → 0 ≤ i ∧ i ≤ 5 → (lookF L (kE d i)).1 = true → 0 ≤ (lookF L (kE d i)).2 ∧ (lookF L (kE d i)).2 ≤ 9 := fun d i hd hi ht => by
    have := all_of hN (look_mem ht)
    unfold noInode at this
    rw [(parts_entry hd hi).1] at this
    simpa using this
  have ok : ∀ d i, 0 ≤ d ∧ d ≤ 9 → 0 ≤ i ∧ i ≤ 5 → (lookF L (kE d i)).1 = true → inodeB L (lookF L 0).2 (lookF L (kE d i)).2 = true := fun d i hd hi ht => by
    have h1 := ino d i hd hi ht
    have := List.all_eq_true.1 hA ((lookF L (kE d i)).2.toNat) (List.mem_range.2 (by omega))
    rwa [Int.toNat_of_nonneg h1.1] at this
  have has : ∀ c, (lookF L (kI c)).2 = 1000 → (lookF L (kI c)).1 = true := fun c h => by
    cases q : (lookF L (kI c)).1 with
    | true => rfl
    | false => rw [lookF_zero q] at h; omega
  have up : ∀ d i, 0 ≤ d ∧ d ≤ 9 → 0 ≤ i ∧ i ≤ 5 → (lookF L (kE d i)).1 = true → (lookF L (kI (lookF L (kE d i)).2)).2 = 1000 → d < (lookF L (kE d i)).2 := fun d i hd hi ht hz => by
    have := ok d i hd hi ht
    unfold inodeB inodeV at this
    rw [has _ hz, hz] at this
    rw [Bool.and_eq_true, Bool.and_eq_true, Bool.and_eq_true] at this
    have hb := all_of this.2.2.2 (look_mem ht)
    unfold badE at hb
    simp only [(parts_entry hd hi).1, (parts_entry hd hi).2, dirV] at hb
    simp at hb
    exact Int.lt_of_not_ge fun q => by have := hb.2; omega
  refine ⟨ino, up, fun d i i' hd hi hi' ht ht' hz he => ?_⟩
  apply Classical.byContradiction
  intro hne
  have hc := up d i hd hi ht hz
  have := ok d i hd hi ht
  unfold inodeB inodeV at this
  rw [has _ hz, hz] at this
  rw [Bool.and_eq_true, Bool.and_eq_true] at this
  have h1 := this.2.1
  have hl : ((linkN L (lookF L (kE d i)).2 : Nat) : Int) = 1 := by
    rw [beq_eq_false_iff_ne.2 (show (lookF L (kE d i)).2 ≠ 0 by omega), bne_iff_ne.2 (show (lookF L (kE d i)).2 ≠ 0 by omega)] at h1
    simpa [dirV] using h1
  have h2 : 2 ≤ linkN L (lookF L (kE d i)).2 := by
    rw [linkN_filter]
    refine two_mem (a := (kE d i, (lookF L (kE d i)).2)) (b := (kE d i', (lookF L (kE d i')).2)) (List.mem_filter.2 ⟨look_mem ht, ?_⟩) (List.mem_filter.2 ⟨look_mem ht', ?_⟩) (fun e => ?_)
    · simp [(parts_entry hd hi).1]
    · simp [(parts_entry hd hi').1, he]
    · have := congrArg Prod.fst e
      simp only [kE] at this
      omega
  omega
/-- A sum over directories above one. -/
def sumP (f : Int → Nat) : List Int → Nat
  | [] => 0
  | c :: t => f c + sumP f t
theorem sumP_erase (f : Int → Nat) (x : Int) : ∀ S : List Int, sumP f S ≤ f x + sumP f (S.erase x)
  | [] => Nat.zero_le _
  | c :: t => by
    rw [List.erase_cons]
    split
    · rename_i h
      have : c = x := by simpa using h
      rw [sumP, this]
      exact Nat.le_refl _
    · have := sumP_erase f x t
      simp only [sumP]
      omega
def pw (c : Int) : Nat := 6 * 2 ^ (9 - c).toNat
theorem sum_pw : ∀ (k : Nat) (d : Int) (S : List Int), (9 - d).toNat = k → d ≤ 9 → S.Nodup → (∀ c ∈ S, d < c ∧ c ≤ 9) → sumP pw S + 6 ≤ 6 * 2 ^ k
  | 0, d, S, hk, _, _, hS => by
    have : S = [] := List.eq_nil_iff_forall_not_mem.2 fun c hc => by have := hS c hc; omega
    subst this
    exact Nat.le_refl _
  | k + 1, d, S, hk, hd, hn, hS => by
    have h1 := sum_pw k (d + 1) (S.erase (d + 1)) (by omega) (by omega) (hn.erase _) fun c hc => by
      have h2 := hS c (List.mem_of_mem_erase hc)
      have : c ≠ d + 1 := fun e => by rw [e] at hc; exact (List.Nodup.not_mem_erase hn) hc
      omega
    have h2 := sumP_erase pw (d + 1) S
    have h3 : pw (d + 1) = 6 * 2 ^ k := by unfold pw; rw [show (9 - (d + 1)).toNat = k by omega]
    rw [Nat.pow_succ]
    omega
/-- The directories among the entries of some names. -/
def dirsX (L : Prs) (dir : Int) : List Int → List Int
  | [] => []
  | i :: t => (if (lookF L (kI (lookF L (kE dir i)).2)).2 = 1000 then [(lookF L (kE dir i)).2] else []) ++ dirsX L dir t
theorem dirsX_mem {L : Prs} {dir c : Int} : ∀ {xs : List Int}, c ∈ dirsX L dir xs → ∃ i ∈ xs, (lookF L (kE dir i)).2 = c ∧ (lookF L (kI c)).2 = 1000
  | [], h => by cases h
  | i :: t, h => by
    rw [dirsX] at h
    rcases List.mem_append.1 h with q | q
    · split at q
      · rename_i hz
        rw [List.mem_singleton] at q
        exact ⟨i, by simp, q.symm, by rw [q]; exact hz⟩
      · cases q
    · obtain ⟨j, hj, e1, e2⟩ := dirsX_mem q
      exact ⟨j, List.mem_cons_of_mem _ hj, e1, e2⟩
theorem dirsX_nodup {L : Prs} (hT : Tree L) {dir : Int} (hd : 0 ≤ dir ∧ dir ≤ 9) : ∀ {xs : List Int}, xs.Nodup → (∀ x ∈ xs, (lookF L (kE dir x)).1 = true ∧ 0 ≤ x ∧ x ≤ 5) → (dirsX L dir xs).Nodup
  | [], _, _ => List.nodup_nil
  | i :: t, hn, hx => by
    rw [List.nodup_cons] at hn
    have ih := dirsX_nodup hT hd hn.2 fun x hxt => hx x (List.mem_cons_of_mem _ hxt)
    rw [dirsX]
    split
    · rename_i hz
      rw [List.singleton_append, List.nodup_cons]
      refine ⟨fun hm => ?_, ih⟩
      obtain ⟨j, hj, e1, e2⟩ := dirsX_mem hm
      have hi := hx i (by simp)
      have hjx := hx j (List.mem_cons_of_mem _ hj)
      have := hT.one dir i j hd hi.2 hjx.2 hi.1 hjx.1 hz e1
      rw [this] at hn
      exact hn.1 hj
    · exact ih
theorem nodesX_len {L : Prs} {rec : Int → List Int} {dir depth : Int} (hr : ∀ c, c ∈ dirsX L dir (entP L dir 6 0 []) → (rec c).length ≤ 4 * pw c) : ∀ xs : List Int, (∀ c ∈ dirsX L dir xs, c ∈ dirsX L dir (entP L dir 6 0 [])) → (nodesX L rec dir depth xs).length ≤ 4 * (xs.length + sumP pw (dirsX L dir xs))
  | [], _ => Nat.le_refl _
  | i :: t, h => by
    have ih := nodesX_len (depth := depth) hr t fun c hc => h c (by rw [dirsX]; exact List.mem_append_right _ hc)
    rw [nodesX, List.length_append]
    unfold nodeX
    rw [dirsX] at h ⊢
    split
    · rename_i hz
      rw [if_pos hz] at h
      have := hr _ (h _ (List.mem_append_left _ (List.mem_singleton.2 rfl)))
      simp only [List.length_append, List.length_cons, List.length_nil, List.singleton_append, sumP]
      omega
    · simp only [List.length_append, List.length_cons, List.length_nil, List.nil_append]
      omega
theorem below_len {L : Prs} (hT : Tree L) : ∀ (f : Nat) (dir depth : Int), 0 ≤ dir ∧ dir ≤ 9 → (belowF L f dir depth).length ≤ 4 * pw dir
  | 0, _, _, _ => Nat.zero_le _
  | f + 1, dir, depth, hd => by
    have hin : ∀ x ∈ entP L dir 6 0 [], (lookF L (kE dir x)).1 = true ∧ 0 ≤ x ∧ x ≤ 5 := fun x hx => ent_in hx
    have hup : ∀ c ∈ dirsX L dir (entP L dir 6 0 []), dir < c ∧ c ≤ 9 := fun c hc => by
      obtain ⟨i, hi, e1, e2⟩ := dirsX_mem hc
      have h1 := hin i hi
      rw [← e1] at e2 ⊢
      exact ⟨hT.up dir i hd h1.2 h1.1 e2, (hT.ino dir i hd h1.2 h1.1).2⟩
    have h1 := nodesX_len (L := L) (rec := fun c => belowF L f c (depth + 1)) (dir := dir) (depth := depth) (fun c hc => below_len hT f c (depth + 1) (by have := hup c hc; omega)) (entP L dir 6 0 []) (fun c hc => hc)
    have h2 := sum_pw (9 - dir).toNat dir _ rfl hd.2 (dirsX_nodup hT hd (ent_nodup L dir 6 0 [] List.nodup_nil (fun x hx => by cases hx)) hin) hup
    have h3 := ent_len L dir 6 0 []
    rw [belowF]
    unfold pw
    simp only [List.length_nil] at h3
    omega
theorem pw_le {d : Int} (h : 0 ≤ d) : pw d ≤ 3072 := by
  unfold pw
  have h9 : (9 - d).toNat ≤ 9 := by omega
  have := Nat.pow_le_pow_right (show 0 < 2 by decide) h9
  omega
theorem node_four {L : Prs} {rec : Int → List Int} {dir depth : Int} (hr : ∀ c, ∃ q, (rec c).length = q * 4) (i : Int) : ∃ q, (nodeX L rec dir depth i).length = q * 4 := by
  unfold nodeX
  split
  · obtain ⟨q, hq⟩ := hr (lookF L (kE dir i)).2
    exact ⟨q + 1, by simp [hq]; omega⟩
  · exact ⟨1, by simp⟩
theorem nodes_four {L : Prs} {rec : Int → List Int} {dir depth : Int} (hr : ∀ c, ∃ q, (rec c).length = q * 4) : ∀ xs : List Int, ∃ q, (nodesX L rec dir depth xs).length = q * 4
  | [] => ⟨0, rfl⟩
  | i :: t => by
    obtain ⟨a, ha⟩ := node_four (L := L) (dir := dir) (depth := depth) hr i
    obtain ⟨b, hb⟩ := nodes_four hr t
    exact ⟨a + b, by rw [nodesX, List.length_append, ha, hb]; omega⟩
theorem below_four (L : Prs) : ∀ (f : Nat) (dir depth : Int), ∃ q, (belowF L f dir depth).length = q * 4
  | 0, _, _ => ⟨0, rfl⟩
  | f + 1, dir, depth => by rw [belowF]; exact nodes_four (fun c => below_four L f c (depth + 1)) _
end Go.Proofs.YtbpppaolcgibnaaGreatDoor

namespace Go.Proofs.YtbpppaolcgibnaaGreatDoor
open Go.RowKit

/-- A source at block b: the bytes that it draws from, and how often it drew. -/
structure Src (w : World) (b : Nat) (o : Option Addr) (len cap : Nat) (at' : Int) : Prop where
  code : w.cell? ⟨b, 0, none⟩ = some (.slice o len cap)
  count : w.cell? ⟨b, 1, none⟩ = some (.int .i64 at')
  live : w.frozen? ⟨b, 1, none⟩ = false
  pos : 0 ≤ at'
  bytes : ∀ j, j < len → ∃ (g off : Nat) (n : Int), o = some ⟨g, off, none⟩ ∧ g ≠ b ∧ w.cell? ⟨g, off + j, none⟩ = some (.int .u8 n) ∧ 0 ≤ n ∧ n < 256

theorem Src.next {w : World} {b : Nat} {o : Option Addr} {len cap : Nat} {a : Int} (h : Src w b o len cap a) : Src (w.setCell ⟨b, 1, none⟩ (.int .i64 (a + 1))) b o len cap (a + 1) where
  code := (World.cell?_setCell_other _ _ _ _ (by simp)).trans h.code
  count := World.cell?_setCell_same _ _ _ h.count
  live := (World.frozen?_setCell _ _ _ _).trans h.live
  pos := by have := h.pos; omega
  bytes := fun j hj => by
    obtain ⟨g, off, n, e1, e2, e3, e4⟩ := h.bytes j hj
    exact ⟨g, off, n, e1, e2, (World.cell?_setCell_other _ _ _ _ (fun e => e2 (congrArg Addr.block e).symm)).trans e3, e4⟩
theorem Src.drewN {w : World} {b : Nat} {o : Option Addr} {len cap : Nat} {a : Int} (h : Src w b o len cap a) (n : Nat) : Src (w.drewN n) b o len cap a := ⟨h.code, h.count, h.live, h.pos, h.bytes⟩
/-- The world but for block b is as it was. -/
def But (b : Nat) (w w' : World) : Prop := w.grownBy w' (some b)
theorem But.next (w : World) (b : Nat) (v : Value) : But b w (w.setCell ⟨b, 1, none⟩ v) :=
  ⟨rfl, rfl, rfl, by simp [World.setCell], fun k _ hk => Below.heap_setCell w ⟨b, 1, none⟩ v k (fun e => hk (by simp [e]))⟩

set_option maxHeartbeats 400000 in
theorem l1Next_less (w : World) (b : Nat) (o : Option Addr) (len cap : Nat) (a n : Int) (h : Src w b o len cap a) (ha : a ≤ 1000000) (hn : n < 1) :
    Calls Tryz.prog 42 #[.pointer (some ⟨b, 0, none⟩), .int .i64 n] w fun e w' => e = .returned (.int .i64 0) ∧ w' = w.setCell ⟨b, 1, none⟩ (.int .i64 (a + 1)) := by
  have h1 := h.count
  have h2 := h.live
  have h3 := h.pos
  clear h
  go_enter Tryz.func42, Tryz.ntmps42
  go_wp2
  go_ret
  exact ⟨rfl, rfl⟩
set_option maxHeartbeats 400000 in
theorem l1Next_none (w : World) (b : Nat) (o : Option Addr) (cap : Nat) (a n : Int) (h : Src w b o 0 cap a) (ha : a ≤ 1000000) (hn : 1 ≤ n) :
    Calls Tryz.prog 42 #[.pointer (some ⟨b, 0, none⟩), .int .i64 n] w fun e w' => e = .returned (.int .i64 ((a * 7) % n)) ∧ w' = w.setCell ⟨b, 1, none⟩ (.int .i64 (a + 1)) := by
  have g0 := h.next.code
  have g1 := h.next.count
  have h1 := h.count
  have h2 := h.live
  have h3 := h.pos
  clear h
  go_enter Tryz.func42, Tryz.ntmps42
  go_wp2
  go_ret
  exact ⟨rfl, rfl⟩
set_option maxHeartbeats 400000 in
theorem l1Next_some (w : World) (b g off : Nat) (len cap : Nat) (a n x : Int) (h : Src w b (some ⟨g, off, none⟩) len cap a) (ha : a ≤ 1000000) (hl : 0 < len) (hl2 : len ≤ 1048576) (hn : 1 ≤ n) (hn2 : n ≤ 200)
    (hc : w.cell? ⟨g, off + (a % len).toNat, none⟩ = some (.int .u8 x)) (hg : g ≠ b) (x0 : 0 ≤ x) (x1 : x < 256) :
    Calls Tryz.prog 42 #[.pointer (some ⟨b, 0, none⟩), .int .i64 n] w fun e w' => e = .returned (.int .i64 ((x + a / len * 37) % n)) ∧ ∃ m, w' = (w.setCell ⟨b, 1, none⟩ (.int .i64 (a + 1))).drewN m := by
  have g0 := h.next.code
  have g1 := h.next.count
  have gc : (w.setCell ⟨b, 1, none⟩ (.int .i64 (a + 1))).cell? ⟨g, off + (a % len).toNat, none⟩ = some (.int .u8 x) := (World.cell?_setCell_other _ _ _ _ (fun e => hg (congrArg Addr.block e).symm)).trans hc
  have h1 := h.count
  have h2 := h.live
  have h3 := h.pos
  clear h hc
  have q0 : 0 ≤ a / len := Int.ediv_nonneg h3 (by omega)
  have q1 : a / len ≤ a := Int.ediv_le_self _ h3
  have r0 : 0 ≤ a % len := Int.emod_nonneg _ (by omega)
  have r1 : a % len < len := Int.emod_lt_of_pos _ (by omega)
  have hl0 : ((len : Int) == 0) = false := beq_eq_false_iff_ne.2 (by omega)
  go_enter Tryz.func42, Tryz.ntmps42
  go_wp2
  go_quiet (fail)
  go_wp2
  go_ret
  exact ⟨rfl, _, rfl⟩
set_option maxHeartbeats 400000 in
theorem l1Next_big (w : World) (b g off : Nat) (len cap : Nat) (a n x y : Int) (h : Src w b (some ⟨g, off, none⟩) len cap a) (ha : a ≤ 1000000) (hl : 0 < len) (hl2 : len ≤ 1048576) (hn : 200 < n)
    (hc : w.cell? ⟨g, off + (a % len).toNat, none⟩ = some (.int .u8 x)) (hd : w.cell? ⟨g, off + ((a + 1) % len).toNat, none⟩ = some (.int .u8 y)) (hg : g ≠ b) (x0 : 0 ≤ x) (x1 : x < 256) (y0 : 0 ≤ y) (y1 : y < 256) :
    Calls Tryz.prog 42 #[.pointer (some ⟨b, 0, none⟩), .int .i64 n] w fun e w' => e = .returned (.int .i64 (((x + a / len * 37) * 251 + y * 13 + a) % n)) ∧ ∃ m, w' = (w.setCell ⟨b, 1, none⟩ (.int .i64 (a + 1))).drewN m := by
  have g0 := h.next.code
  have g1 := h.next.count
  have gc : (w.setCell ⟨b, 1, none⟩ (.int .i64 (a + 1))).cell? ⟨g, off + (a % len).toNat, none⟩ = some (.int .u8 x) := (World.cell?_setCell_other _ _ _ _ (fun e => hg (congrArg Addr.block e).symm)).trans hc
  have gd : (w.setCell ⟨b, 1, none⟩ (.int .i64 (a + 1))).cell? ⟨g, off + ((a + 1) % len).toNat, none⟩ = some (.int .u8 y) := (World.cell?_setCell_other _ _ _ _ (fun e => hg (congrArg Addr.block e).symm)).trans hd
  have h1 := h.count
  have h2 := h.live
  have h3 := h.pos
  clear h hc hd
  have q0 : 0 ≤ a / len := Int.ediv_nonneg h3 (by omega)
  have q1 : a / len ≤ a := Int.ediv_le_self _ h3
  have r0 : 0 ≤ a % len := Int.emod_nonneg _ (by omega)
  have r1 : a % len < len := Int.emod_lt_of_pos _ (by omega)
  have s0 : 0 ≤ (a + 1) % len := Int.emod_nonneg _ (by omega)
  have s1 : (a + 1) % len < len := Int.emod_lt_of_pos _ (by omega)
  have hl0 : ((len : Int) == 0) = false := beq_eq_false_iff_ne.2 (by omega)
  go_enter Tryz.func42, Tryz.ntmps42
  go_wp2
  go_quiet (fail)
  go_wp2
  go_quiet (fail)
  go_wp2
  go_ret
  exact ⟨rfl, _, rfl⟩

theorem But.drewN {b : Nat} {w w' : World} (h : But b w w') (n : Nat) : But b w (w'.drewN n) := ⟨h.os, h.tape, h.output, h.size, h.block⟩
/-- Whatever it draws from: a number in its bounds; its count goes on by one; all else stays. -/
theorem l1Next_any (w : World) (b : Nat) (o : Option Addr) (len cap : Nat) (a n : Int) (h : Src w b o len cap a) (ha : a ≤ 1000000) (hl : len ≤ 1048576) :
    Calls Tryz.prog 42 #[.pointer (some ⟨b, 0, none⟩), .int .i64 n] w fun e w' => ∃ r : Int, e = .returned (.int .i64 r) ∧ 0 ≤ r ∧ (1 ≤ n → r < n) ∧ Src w' b o len cap (a + 1) ∧ But b w w' := by
  by_cases hn : n < 1
  · exact (l1Next_less w b o len cap a n h ha hn).mono fun e w' ⟨he, hw⟩ => ⟨0, he, Int.le_refl _, fun h1 => by omega, hw ▸ h.next, hw ▸ But.next _ _ _⟩
  by_cases h0 : len = 0
  · subst h0
    exact (l1Next_none w b o cap a n h ha (by omega)).mono fun e w' ⟨he, hw⟩ => ⟨_, he, Int.emod_nonneg _ (by omega), fun _ => Int.emod_lt_of_pos _ (by omega), hw ▸ h.next, hw ▸ But.next _ _ _⟩
  · have h3 := h.pos
    have r0 : 0 ≤ a % len := Int.emod_nonneg _ (by omega)
    have r1 : a % len < len := Int.emod_lt_of_pos _ (by omega)
    have s0 : 0 ≤ (a + 1) % len := Int.emod_nonneg _ (by omega)
    have s1 : (a + 1) % len < len := Int.emod_lt_of_pos _ (by omega)
    obtain ⟨g, off, x, rfl, hg, hx, x0, x1⟩ := h.bytes (a % len).toNat (by omega)
    obtain ⟨g', off', y, he', hg', hy, y0, y1⟩ := h.bytes ((a + 1) % len).toNat (by omega)
    simp only [Option.some.injEq, Addr.mk.injEq, and_true] at he'
    obtain ⟨rfl, rfl⟩ := he'
    by_cases h2 : 200 < n
    · exact (l1Next_big w b g off len cap a n x y h ha (by omega) hl h2 hx hy hg x0 x1 y0 y1).mono fun e w' ⟨he, m, hw⟩ => ⟨_, he, Int.emod_nonneg _ (by omega), fun _ => Int.emod_lt_of_pos _ (by omega), hw ▸ h.next.drewN m, hw ▸ (But.next _ _ _).drewN m⟩
    · exact (l1Next_some w b g off len cap a n x h ha (by omega) hl (by omega) (by omega) hx hg x0 x1).mono fun e w' ⟨he, m, hw⟩ => ⟨_, he, Int.emod_nonneg _ (by omega), fun _ => Int.emod_lt_of_pos _ (by omega), hw ▸ h.next.drewN m, hw ▸ (But.next _ _ _).drewN m⟩
end Go.Proofs.YtbpppaolcgibnaaGreatDoor

namespace Go.Proofs.YtbpppaolcgibnaaGreatDoor
open Go.RowKit

theorem lt_of_cell {w : World} {b off : Nat} {v : Value} (h : w.cell? ⟨b, off, none⟩ = some v) : b < w.heap.size := World.block_lt_of_cell? w ⟨b, off, none⟩ h
theorem Src.lt {w : World} {b : Nat} {o : Option Addr} {len cap : Nat} {a : Int} (h : Src w b o len cap a) : b < w.heap.size := lt_of_cell h.code
theorem Src.later {w w' : World} {b : Nat} {o : Option Addr} {len cap : Nat} {a : Int} (h : Src w b o len cap a) (hb : Below w.heap.size w w') : Src w' b o len cap a where
  code := (hb.cell (p := ⟨b, 0, none⟩) h.lt).trans h.code
  count := (hb.cell (p := ⟨b, 1, none⟩) h.lt).trans h.count
  live := (hb.frozen (p := ⟨b, 1, none⟩) h.lt).trans h.live
  pos := h.pos
  bytes := fun j hj => by
    obtain ⟨g, off, n, e1, e2, e3, e4⟩ := h.bytes j hj
    exact ⟨g, off, n, e1, e2, (hb.cell (p := ⟨g, off + j, none⟩) (lt_of_cell e3)).trans e3, e4⟩
theorem Src.alloc {w : World} {b : Nat} {o : Option Addr} {len cap : Nat} {a : Int} (h : Src w b o len cap a) (x : Obj) : Src (w.alloc x) b o len cap a := h.later ((Below.refl _ _).alloc (Nat.le_refl _) _)
theorem But.refl (b : Nat) (w : World) : But b w w := ⟨rfl, rfl, rfl, Nat.le_refl _, fun _ _ _ => rfl⟩
theorem But.trans {b : Nat} {a c d : World} (h : But b a c) (k : But b c d) : But b a d := grown_trans h k
theorem But.alloc {b : Nat} {a c : World} (h : But b a c) (x : Obj) : But b a (c.alloc x) := grown_trans h (grown_refl_alloc x _)
theorem But.below {b : Nat} {a c d : World} (h : But b a c) (k : Below c.heap.size c d) : But b a d := grown_trans h ⟨k.os, k.tape, k.output, k.size, fun i hi _ => k.block i hi⟩
theorem But.cell {b : Nat} {w w' : World} (h : But b w w') {g off : Nat} {v : Value} (hc : w.cell? ⟨g, off, none⟩ = some v) (hg : g ≠ b) : w'.cell? ⟨g, off, none⟩ = some v := World.grownBy.cell h (a := ⟨g, off, none⟩) hc (by simp; exact hg)
theorem But.frozen {b : Nat} {w w' : World} (h : But b w w') {g off : Nat} (hl : g < w.heap.size) (hg : g ≠ b) : w'.frozen? ⟨g, off, none⟩ = w.frozen? ⟨g, off, none⟩ := World.frozen?_of_block (w := w) (h.block g hl (by simp; exact hg))
theorem But.ints {b B : Nat} {w w' : World} {v : Value} {xs : List Int} (h : But b w w') (hI : Ints w B v xs) (hb : b < B) : Ints w' B v xs := hI.grown h (fun k hk e => by have := (hI.lt k hk).1; simp at e; omega)
/-- What the source drew leaves all that was there ahead of it as it was. -/
theorem Below.but {B b : Nat} {a w w' : World} (h : Below B a w) (k : But b w w') (hB : B ≤ w.heap.size) (hb : B ≤ b) : Below B a w' := h.grown k hB (fun j e => by simp at e; omega)

/-- The bytes that come in. -/
def Code (w : World) (o : Option Addr) (len : Nat) : Prop := ∀ j, j < len → ∃ (g off : Nat) (n : Int), o = some ⟨g, off, none⟩ ∧ w.cell? ⟨g, off + j, none⟩ = some (.int .u8 n) ∧ 0 ≤ n ∧ n < 256
theorem Code.later {w w' : World} {o : Option Addr} {len : Nat} (h : Code w o len) (hb : Below w.heap.size w w') : Code w' o len := fun j hj => by
  obtain ⟨g, off, n, e1, e3, e4⟩ := h j hj
  exact ⟨g, off, n, e1, (hb.cell (p := ⟨g, off + j, none⟩) (lt_of_cell e3)).trans e3, e4⟩
set_option maxHeartbeats 400000 in
theorem l1Source_any (w : World) (o : Option Addr) (len cap : Nat) (h : Code w o len) :
    Calls Tryz.prog 15 #[.slice o len cap] w fun e w' => e = .returned (.pointer (some ⟨w.heap.size, 0, none⟩)) ∧ Src w' w.heap.size o len cap 0 ∧ Below w.heap.size w w' ∧ w'.heap.size = w.heap.size + 1 := by
  have HS : Hid (Src (w.alloc (.cells #[.slice o len cap, .int .i64 0] 88)) w.heap.size o len cap 0) := {
    code := World.cell?_alloc_mark w _ _ _ 0
    count := World.cell?_alloc_mark w _ _ _ 1
    live := by simp
    pos := Int.le_refl _
    bytes := fun j hj => by
      obtain ⟨g, off, n, e1, e3, e4⟩ := h j hj
      have hl := lt_of_cell e3
      exact ⟨g, off, n, e1, by omega, (World.cell?_alloc_lt _ _ _ hl).trans e3, e4⟩ }
  clear h
  go_enter Tryz.func15, Tryz.ntmps15
  go_wp2
  go_ret
  exact ⟨rfl, HS.out, (Below.refl _ _).alloc (Nat.le_refl _) _, by simp⟩

set_option maxHeartbeats 400000 in
theorem l1Pick_any (w : World) (b : Nat) (o : Option Addr) (len cap : Nat) (a : Int) (v : Value) (B : Nat) (xs : List Int) (h : Src w b o len cap a) (ha : a ≤ 1000000) (hl : len ≤ 1048576)
    (hI : Ints w B v xs) (hB : b < B) (hx : 0 < xs.length) (hx2 : xs.length ≤ 1000) :
    Calls Tryz.prog 46 #[.pointer (some ⟨b, 0, none⟩), v] w fun e w' => ∃ r : Int, e = .returned (.int .i64 r) ∧ r ∈ xs ∧ Src w' b o len cap (a + 1) ∧ But b w w' := by
  obtain ⟨ao, cp, rfl⟩ := hI.form
  have HN : Hid (Calls Tryz.prog 42 #[.pointer (some ⟨b, 0, none⟩), .int .i64 xs.length] w fun e w' => ∃ r : Int, e = .returned (.int .i64 r) ∧ 0 ≤ r ∧ (1 ≤ (xs.length : Int) → r < xs.length) ∧ Src w' b o len cap (a + 1) ∧ But b w w') := l1Next_any w b o len cap a xs.length h ha hl
  have HI : Hid (Ints w B (.slice ao xs.length cp) xs) := hI
  clear h hI
  go_enter Tryz.func46, Tryz.ntmps46
  go_wp2_with fail
  refine HN.out.mono ?_
  rintro e w1 ⟨r, rfl, r0, r1, hS, hT⟩
  have r1' : r < xs.length := r1 (by omega)
  clear r1
  have I1 : Ints w1 B (.slice ao xs.length cp) xs := hT.ints HI.out hB
  obtain ⟨k, rfl⟩ := Int.eq_ofNat_of_zero_le r0
  have hk : k < xs.length := by omega
  obtain ⟨g, rfl, _, hc, _⟩ := I1.at hk
  have HR : Hid (xs[k] ∈ xs ∧ Src w1 b o len cap (a + 1) ∧ But b w w1) := ⟨List.getElem_mem hk, hS, hT⟩
  clear hS hT I1
  go_wp2
  go_ret
  exact ⟨_, rfl, HR.out⟩
end Go.Proofs.YtbpppaolcgibnaaGreatDoor

namespace Go.Proofs.YtbpppaolcgibnaaGreatDoor
open Go.RowKit

set_option maxHeartbeats 1000000 in
theorem l1Key_any (w : World) (b : Nat) (o : Option Addr) (len cap : Nat) (a : Int) (h : Src w b o len cap a) (ha : a ≤ 900000) (hl : len ≤ 1048576) :
    Calls Tryz.prog 45 #[.pointer (some ⟨b, 0, none⟩)] w fun e w' => ∃ r : Int, e = .returned (.int .i64 r) ∧ faultOf r = 0 ∧ Src w' b o len cap (a + 5) ∧ But b w w' := by
  have H0 : Hid (Src w b o len cap a) := h
  have hp := h.pos
  clear h
  go_enter Tryz.func45, Tryz.ntmps45
  go_wp2_with fail
  refine (l1Next_any _ b o len cap a 4 H0.out (by omega) hl).mono ?_
  rintro e w1 ⟨r, rfl, r0, r1, hS, hT⟩
  have r4 : r < 4 := r1 (by omega)
  have H1 : Hid (Src w1 b o len cap (a + 1) ∧ But b w w1) := ⟨hS, hT⟩
  clear r1 hS hT
  go_wp2_with fail
  refine (l1Next_any _ b o len cap (a + 1) 3 H1.out.1 (by omega) hl).mono ?_
  rintro e w2 ⟨s, rfl, s0, s1, hS, hT⟩
  have s3 : s < 3 := s1 (by omega)
  have H2 : Hid (Src w2 b o len cap (a + 1 + 1) ∧ But b w w2) := ⟨hS, H1.out.2.trans hT⟩
  clear s1 hS hT H1
  go_wp2_with fail
  refine (l1Next_any _ b o len cap (a + 1 + 1) 3 H2.out.1 (by omega) hl).mono ?_
  rintro e w3 ⟨t, rfl, t0, t1, hS, hT⟩
  have t3 : t < 3 := t1 (by omega)
  have H3 : Hid (Src w3 b o len cap (a + 1 + 1 + 1) ∧ But b w w3) := ⟨hS, H2.out.2.trans hT⟩
  clear t1 hS hT H2
  go_wp2_with fail
  refine (l1Next_any _ b o len cap (a + 1 + 1 + 1) 3 H3.out.1 (by omega) hl).mono ?_
  rintro e w4 ⟨u, rfl, u0, u1, hS, hT⟩
  have u3 : u < 3 := u1 (by omega)
  have H4 : Hid (Src w4 b o len cap (a + 1 + 1 + 1 + 1) ∧ But b w w4) := ⟨hS, H3.out.2.trans hT⟩
  clear u1 hS hT H3
  go_wp2_with fail
  have hI : Ints (w4.alloc (.cells #[.int .i64 0, .int .i64 (10 + r), .int .i64 (20 + 10 * s + t), .int .i64 (180 + u)] 2)) w4.heap.size (.slice (some ⟨w4.heap.size, 0, none⟩) 4 4) [0, 10 + r, 20 + 10 * s + t, 180 + u] := World.ownsRow_lit w4 #[.int .i64 0, .int .i64 (10 + r), .int .i64 (20 + 10 * s + t), .int .i64 (180 + u)] 4 (Nat.le_refl _) (by decide) rfl
  refine (l1Pick_any _ b o len cap (a + 1 + 1 + 1 + 1) _ w4.heap.size [0, 10 + r, 20 + 10 * s + t, 180 + u] (H4.out.1.alloc _) (by omega) hl hI H4.out.1.lt (by simp) (by simp)).mono ?_
  rintro e w5 ⟨k, rfl, hk, hS, hT⟩
  have HR : Hid (faultOf k = 0 ∧ Src w5 b o len cap (a + 5) ∧ But b w w5) := by
    refine ⟨?_, ?_, (H4.out.2.alloc _).trans hT⟩
    · simp only [List.mem_cons, List.not_mem_nil, or_false] at hk
      apply faultOf_ok
      omega
    · have e5 : a + 1 + 1 + 1 + 1 + 1 = a + 5 := by omega
      rw [e5] at hS; exact hS
  clear hk hS hT hI H4
  go_wp2
  go_ret
  exact ⟨_, rfl, HR.out⟩
end Go.Proofs.YtbpppaolcgibnaaGreatDoor

namespace Go.Proofs.YtbpppaolcgibnaaGreatDoor
open Go.RowKit

theorem Src.keepT {w X X' : World} {b : Nat} {o : Option Addr} {len cap : Nat} {a a0 : Int} (h0 : Src w b o len cap a0) (h : Src X b o len cap a) (hT : But b w X) {row : Option Nat} (gr : X.grownBy X' row) (hr : ∀ r, row = some r → w.heap.size ≤ r) : Src X' b o len cap a ∧ But b w X' := by
  have hb := h0.lt
  have hbX : b < X.heap.size := Nat.lt_of_lt_of_le hb hT.size
  have kb : X'.heap[b]? = X.heap[b]? := gr.block b hbX (fun e => by have := hr b e.symm; omega)
  have hB : But b w X' := ⟨gr.os.trans hT.os, gr.tape.trans hT.tape, gr.output.trans hT.output, Nat.le_trans hT.size gr.size, fun i hi hne => (gr.block i (Nat.lt_of_lt_of_le hi hT.size) (fun e => by have := hr i e.symm; omega)).trans (hT.block i hi hne)⟩
  refine ⟨⟨(World.cell?_of_block (w := X) (a := ⟨b, 0, none⟩) kb).trans h.code, (World.cell?_of_block (w := X) (a := ⟨b, 1, none⟩) kb).trans h.count, (World.frozen?_of_block (w := X) (a := ⟨b, 1, none⟩) kb).trans h.live, h.pos, fun j hj => ?_⟩, hB⟩
  obtain ⟨g, off, n, e1, e2, e3, e4⟩ := h0.bytes j hj
  exact ⟨g, off, n, e1, e2, hB.cell e3 e2, e4⟩
theorem OwnM.but {w w' : World} {b B : Nat} {e : TypeId} {m n : Nat} {v : Value} {L : List Int} (h : OwnM w B e m v n L) (hT : But b w w') (hb : b < B) : OwnM w' B e m v n L :=
  h.keptB (fun k hk => hT.block k (h.block k hk).2 (fun e' => by have := Option.some.inj e'; have := (h.block k hk).1; omega))
theorem Blk3.but {x x' : World} {b c : Nat} {a0 a1 a2 : Value} (h : Blk3 x c a0 a1 a2) (hT : But b x x') (hc : c ≠ b) : Blk3 x' c a0 a1 a2 := h.kept (hT.block c h.lt (fun e => hc (Option.some.inj e)))
theorem But.setNew {b : Nat} {w x : World} (h : But b w x) {c : Nat} (hc : w.heap.size ≤ c) (off : Nat) (v : Value) : But b w (x.setCell ⟨c, off, none⟩ v) :=
  ⟨h.os, h.tape, h.output, by simpa [World.setCell] using h.size, fun k hk hne => (Below.heap_setCell x ⟨c, off, none⟩ v k (by simp; omega)).trans (h.block k hk hne)⟩
theorem Src.setNew {w x : World} {b : Nat} {o : Option Addr} {len cap : Nat} {a a0 : Int} (h0 : Src w b o len cap a0) (h : Src x b o len cap a) (hT : But b w x) {c : Nat} (hc : w.heap.size ≤ c) (off : Nat) (v : Value) : Src (x.setCell ⟨c, off, none⟩ v) b o len cap a :=
  (Src.keepT (X' := x.setCell ⟨c, off, none⟩ v) h0 h hT (row := some c) ⟨rfl, rfl, rfl, by simp [World.setCell], fun k _ hne => Below.heap_setCell x ⟨c, off, none⟩ v k (fun e => hne (by rw [e]))⟩ (fun r e => by have := Option.some.inj e; omega)).1
end Go.Proofs.YtbpppaolcgibnaaGreatDoor

namespace Go.Proofs.YtbpppaolcgibnaaGreatDoor
open Go.RowKit

theorem own_but {w w' : World} {b B m n : Nat} {e : TypeId} {v : Value} {F : Nat → Int} (h : Own w B e m n F v) (hT : But b w w') (hb : b < B) : Own w' B e m n F v :=
  own_kept h (fun k hk => hT.block k (own_in h k hk).2 (fun q => by have := (own_in h k hk).1; cases q; omega))
structure DrP (w : World) (b : Nat) (o : Option Addr) (len cap : Nat) (L : Prs) (v : Value) (a : Int) (x : World) : Prop where
  own : Own x w.heap.size 35 2 L.length (rowL L) v
  src : Src x b o len cap a
  but : But b w x
set_option maxRecDepth 100000 in
set_option maxHeartbeats 2000000 in
theorem l11Right_any (w : World) (b : Nat) (o : Option Addr) (len cap : Nat) (a : Int) (h : Src w b o len cap a) (ha : a ≤ 500000) (hl : len ≤ 1048576) :
    Calls Tryz.prog 74 #[.pointer (some ⟨b, 0, none⟩)] w fun e w' => ∃ (L : Prs) (ao : Option Addr) (cp : Nat) (a1 : Int), e = .returned (.slice ao L.length cp) ∧ L.length ≤ 8 ∧ a1 ≤ a + 80 ∧ DrP w b o len cap L (.slice ao L.length cp) a1 w' := by
  have H : Hid (Src w b o len cap a) := h
  have hbl := h.lt
  clear h
  have D0 : Hid (DrP w b o len cap [] (.slice (some ⟨w.heap.size, 0, none⟩) 0 0) a (w.alloc (.cells #[] 35))) := ⟨ownM_own (L := []) (OwnM.lit0 _ _ _ _ rfl), H.out.alloc _, (But.refl _ _).alloc _⟩
  go_enter Tryz.func74, Tryz.ntmps74
  go_wp2_with fail
  refine (l1Next_any _ b o len cap a 8 D0.out.src (by omega) hl).mono ?_
  rintro e w1 ⟨r, rfl, p0, p1, hS1, hT1⟩
  have p2 : r < 8 := p1 (by omega)
  obtain ⟨k0, rfl⟩ : ∃ k : Nat, r = k := ⟨r.toNat, by omega⟩
  have D1 : Hid (DrP w b o len cap [] (.slice (some ⟨w.heap.size, 0, none⟩) 0 0) (a + 1) w1) := ⟨own_but D0.out.own hT1 hbl, hS1, D0.out.but.trans hT1⟩
  clear hS1 hT1 D0 p0 p1
  go_wp2
  go_loopw [3, 4] (fun v k wr => ∃ (L : Prs) (z : Nat) (ao : Option Addr) (cp : Nat) (a1 : Int), v = .slice ao L.length cp ∧ k = .int .i64 z ∧ L.length + z ≤ 8 ∧ a1 + 8 * z ≤ a + 80 ∧ Hid (DrP w b o len cap L (.slice ao L.length cp) a1 wr)) (fun _ k _ => (intOf k).toNat)
  case atStart => exact ⟨[], k0, _, _, a + 1, rfl, rfl, by simp; omega, by omega, D1⟩
  case round =>
    clear D1
    obtain ⟨L, z, ao, cp, a1, rfl, rfl, hnz, haz, HD⟩ := hrel
    by_cases hz : 0 < z
    case neg =>
      obtain rfl : z = 0 := by omega
      go_wp2
      go_ret
      exact ⟨L, ao, cp, a1, rfl, by omega, by omega, HD.out⟩
    have dz : decide (0 < z) = true := decide_eq_true hz
    have hwz : IntKind.i64.wrap ((z : Int) - 1) = ((z - 1 : Nat) : Int) := by simp [IntKind.wrap, IntKind.bits, IntKind.signed]; omega
    go_wp2_with fail
    refine (l1Key_any _ b o len cap a1 HD.out.src (by omega) hl).mono ?_
    rintro e w2 ⟨x0, rfl, _, hS2, hT2⟩
    have D2 : Hid (DrP w b o len cap L (.slice ao L.length cp) (a1 + 5) w2) := ⟨own_but HD.out.own hT2 hbl, hS2, HD.out.but.trans hT2⟩
    clear hS2 hT2 HD
    go_wp2_with fail
    refine (l1Next_any _ b o len cap (a1 + 5) 99 D2.out.src (by omega) hl).mono ?_
    rintro e w3 ⟨x1, rfl, _, _, hS3, hT3⟩
    have D3 : Hid (DrP w b o len cap L (.slice ao L.length cp) (a1 + 5 + 1) w3) := ⟨own_but D2.out.own hT3 hbl, hS3, D2.out.but.trans hT3⟩
    clear hS3 hT3 D2
    go_wp2_with fail
    refine (l11Set_any L _ w.heap.size x0 x1 true _ D3.out.own.row.1 (by omega)).mono ?_
    rintro e w4 ⟨ao4, cp4, rfl, o4, q4⟩
    have D4 : Hid (DrP w b o len cap (setS L x0 x1 true) (.slice ao4 (setS L x0 x1 true).length cp4) (a1 + 5 + 1) w4) := ⟨o4.mono D3.out.but.size, D3.out.src.later q4, D3.out.but.below q4⟩
    have hln : (setS L x0 x1 true).length ≤ L.length + 1 := by rw [setS_put]; exact putPr_len L x0 x1
    clear o4 q4 D3
    obtain ⟨M, hM⟩ : ∃ M, setS L x0 x1 true = M := ⟨_, rfl⟩
    rw [hM] at D4 hln
    rw [hM]
    clear hM
    go_wp2
    go_roundw
    case rel => exact ⟨M, z - 1, ao4, cp4, a1 + 5 + 1, rfl, by go_num, by omega, by omega, D4⟩
    case measure => simp [intOf]; omega
/-- Pairs that were drawn: whatever they are. -/
structure DrQ (w : World) (b : Nat) (o : Option Addr) (len cap : Nat) (n : Nat) (v : Value) (a : Int) (x : World) : Prop where
  row : ∃ F, Row x w.heap.size 2 n F v
  src : Src x b o len cap a
  but : But b w x
theorem row_set1 {w : World} {B n g o cp : Nat} {F : Nat → Int} (h : Row w B 2 n F (.slice (some ⟨g, o, none⟩) n cp)) (u : Int) : Row (w.setCell ⟨g, o + 1, none⟩ (.int .i64 u)) B 2 n (fun p => if p = 1 then u else F p) (.slice (some ⟨g, o, none⟩) n cp) := by
  obtain ⟨ao, cp', hv, hr⟩ := h
  refine ⟨_, _, rfl, fun hn => ?_⟩
  obtain ⟨g', o', h1, h2, h3, h4⟩ := hr hn
  simp only [Value.slice.injEq] at hv
  obtain ⟨rfl, _, rfl⟩ := hv
  simp only [Option.some.injEq, Addr.mk.injEq] at h1
  obtain ⟨rfl, rfl, _⟩ := h1
  refine ⟨g, o, rfl, h2, by simpa using h3, fun p hp => ?_⟩
  by_cases q : p = 1
  · subst q
    rw [show (fun p => if p = 1 then u else F p) 1 = u from if_pos rfl]
    exact World.cell?_setCell_same _ _ _ (u := .int .i64 (F 1)) (h4 1 hp)
  · rw [show (fun p => if p = 1 then u else F p) p = F p from if_neg q]
    exact (World.cell?_setCell_other _ _ _ _ (fun e => q (by have := congrArg Addr.off e; simp at this; omega))).trans (h4 p hp)
set_option maxRecDepth 100000 in
set_option maxHeartbeats 2000000 in
theorem l11Bent_any (w : World) (b : Nat) (o : Option Addr) (len cap : Nat) (a : Int) (h : Src w b o len cap a) (ha : a ≤ 400000) (hl : len ≤ 1048576) :
    Calls Tryz.prog 43 #[.pointer (some ⟨b, 0, none⟩)] w fun e w' => ∃ (n : Nat) (ao : Option Addr) (cp : Nat) (a1 : Int), e = .returned (.slice ao n cp) ∧ n ≤ 9 ∧ a1 ≤ a + 90 ∧ DrQ w b o len cap n (.slice ao n cp) a1 w' := by
  have H : Hid (Src w b o len cap a) := h
  have hbl := h.lt
  clear h
  obtain ⟨i0, hi, iz0, iz1, iz2⟩ := info_parts infoz_Pair
  go_enter Tryz.func43, Tryz.ntmps43
  go_wp2_with fail
  refine (l11Right_any _ b o len cap a H.out (by omega) hl).mono ?_
  rintro e w1 ⟨L, ao, cp, a1, rfl, hL, ha1, D1⟩
  have D1 : Hid (DrP w b o len cap L (.slice ao L.length cp) a1 w1) := D1
  obtain ⟨N, hN⟩ : ∃ N, L.length = N := ⟨_, rfl⟩
  have HN : Hid (L.length = N) := hN
  have hpos := D1.out.src.pos
  rw [hN] at hL
  rw [hN]
  go_wp2_with fail
  refine (l1Next_any _ b o len cap a1 10 D1.out.src (by omega) hl).mono ?_
  rintro e w2 ⟨q, rfl, q0, q1, hS2, hT2⟩
  have D2 : Hid (Own w2 w.heap.size 35 2 N (rowL L) (.slice ao N cp) ∧ Src w2 b o len cap (a1 + 1) ∧ But b w w2) := by
    have := own_but D1.out.own hT2 hbl
    rw [hN] at this
    exact ⟨this, hS2, D1.out.but.trans hT2⟩
  have hz2 : w.heap.size ≤ w2.heap.size := D2.out.2.2.size
  clear hS2 hT2 D1 q1 hN
  by_cases h0 : q = 0
  · subst h0
    have hIx0 : Hid (Ints (w2.alloc (.cells #[.int .i64 189, .int .i64 5, .int .i64 0] 2)) w2.heap.size (.slice (some ⟨w2.heap.size, 0, none⟩) 3 3) [189, 5, 0]) := World.ownsRow_lit w2 #[.int .i64 189, .int .i64 5, .int .i64 0] 3 (Nat.le_refl _) (by decide) rfl
    go_wp2_with fail
    refine (l1Pick_any _ b o len cap (a1 + 1) _ w2.heap.size [189, 5, 0] (D2.out.2.1.alloc _) (by omega) hl hIx0.out D2.out.2.1.lt (by simp) (by simp)).mono ?_
    rintro e w3 ⟨x0, rfl, _, hSx0, hTx0⟩
    have D3 : Hid (Own w3 w.heap.size 35 2 N (rowL L) (.slice ao N cp) ∧ Src w3 b o len cap (a1 + 1 + 1) ∧ But b w w3) := ⟨own_but (D2.out.1.alloc _) hTx0 hbl, hSx0, (D2.out.2.2.alloc _).trans hTx0⟩
    clear hSx0 hTx0 D2 hIx0
    have hIx1 : Hid (Ints (w3.alloc (.cells #[.int .i64 5, .int .i64 (-1), .int .i64 10000] 2)) w3.heap.size (.slice (some ⟨w3.heap.size, 0, none⟩) 3 3) [5, -1, 10000]) := World.ownsRow_lit w3 #[.int .i64 5, .int .i64 (-1), .int .i64 10000] 3 (Nat.le_refl _) (by decide) rfl
    go_wp2_with fail
    refine (l1Pick_any _ b o len cap (a1 + 1 + 1) _ w3.heap.size [5, -1, 10000] (D3.out.2.1.alloc _) (by omega) hl hIx1.out D3.out.2.1.lt (by simp) (by simp)).mono ?_
    rintro e w4 ⟨x1, rfl, _, hSx1, hTx1⟩
    have D4 : Hid (Own w4 w.heap.size 35 2 N (rowL L) (.slice ao N cp) ∧ Src w4 b o len cap (a1 + 1 + 1 + 1) ∧ But b w w4) := ⟨own_but (D3.out.1.alloc _) hTx1 hbl, hSx1, (D3.out.2.2.alloc _).trans hTx1⟩
    have hz4 : w.heap.size ≤ w4.heap.size := D4.out.2.2.size
    have OM : Hid (OwnM w4 w.heap.size 35 2 (.slice ao N cp) N (flatL L)) := by
      have := own_ownP (L := L) (by rw [HN.out]; exact D4.out.1)
      rwa [HN.out] at this
    clear hSx1 hTx1 D3 hIx1
    go_wp2_with (at_builtin; refine wpList_app 35 i0 (.agg #[.int .i64 0, .int .i64 0]) 2 16 rfl _ _ 24 rfl Tryz.underlying24 hi iz0 iz1 iz2 rfl (by omega) (by omega) _ w.heap.size N (flatL L) (.slice ao N cp) rfl (OM.out.later (below_alloc _ _)) 0 1 (fun p => [x0, x1].getD p 0) (.slice (some ⟨w4.heap.size, 0, none⟩) 1 1) rfl (row_lit2 w4 x0 x1 35) (by omega) (by simp; omega) ?_; intro ao5 cp5 w5 O5 G5)
    have K5 := Src.keepT H.out (D4.out.2.1.alloc (.cells #[.int .i64 x0, .int .i64 x1] 35)) (D4.out.2.2.alloc _) G5 (fun r e => (OM.out.block r e).1)
    have HQ : Hid (DrQ w b o len cap (N + 1) (.slice ao5 (N + 1) cp5) (a1 + 1 + 1 + 1) w5) := by
      have e1 : (flatL L ++ nums (fun p => [x0, x1].getD p 0) (1 * 2)).length = (N + 1) * 2 := by rw [List.length_append, flatL_length, HN.out, nums_length]; omega
      exact ⟨⟨_, (O5.own e1).row.1⟩, K5.1, K5.2⟩
    clear O5 G5 K5 OM
    go_wp2
    go_ret
    exact ⟨N + 1, ao5, cp5, a1 + 1 + 1 + 1, rfl, by omega, by omega, HQ.out⟩
  have d0 : (q == 0) = false := beq_eq_false_iff_ne.2 h0
  by_cases h1 : q = 1
  · subst h1
    by_cases hN0 : 0 < N
    · have dN : decide ((N : Int) > 0) = true := decide_eq_true (by omega)
      have HR2 : Hid (Row w2 w.heap.size 2 N (rowL L) (.slice ao N cp)) := D2.out.1.row.1
      obtain ⟨g, oo, hao, hgB, hg, y0, y1⟩ := HR2.out.at2 hN0
      subst hao
      have fr : w2.frozen? ⟨g, oo + 1, none⟩ = false := by
        rcases D2.out.1.parts with ⟨_, e0⟩ | ⟨g', c', e0, _, _, _, hbk, _⟩
        · omega
        · simp only [Value.slice.injEq, Option.some.injEq, Addr.mk.injEq] at e0
          obtain ⟨⟨rfl, _⟩, _⟩ := e0
          exact hbk.frozen _
      simp only [Nat.zero_mul, Nat.add_zero] at y0 y1
      have HQ : Hid (DrQ w b o len cap N (.slice (some ⟨g, oo, none⟩) N cp) (a1 + 1) (w2.setCell ⟨g, oo + 1, none⟩ (.int .i64 (-1)))) := ⟨⟨_, row_set1 HR2.out (-1)⟩, Src.setNew H.out D2.out.2.1 D2.out.2.2 hgB _ _, But.setNew D2.out.2.2 hgB _ _⟩
      clear D2 HR2
      go_wp2
      go_ret
      exact ⟨N, _, cp, a1 + 1, rfl, by omega, by omega, HQ.out⟩
    · obtain rfl : N = 0 := by omega
      go_wp2
      go_ret
      exact ⟨0, ao, cp, a1 + 1, rfl, by omega, by omega, ⟨_, D2.out.1.row.1⟩, D2.out.2.1, D2.out.2.2⟩
  have d1 : (q == 1) = false := beq_eq_false_iff_ne.2 h1
  go_wp2
  go_ret
  exact ⟨N, ao, cp, a1 + 1, rfl, by omega, by omega, ⟨_, D2.out.1.row.1⟩, D2.out.2.1, D2.out.2.2⟩
end Go.Proofs.YtbpppaolcgibnaaGreatDoor

namespace Go.Proofs.YtbpppaolcgibnaaGreatDoor
open Go.RowKit

theorem but_below {w w1 x : World} (h : Below w.heap.size w w1) (hT : But w.heap.size w1 x) : Below w.heap.size w x :=
  ⟨hT.os.trans h.os, hT.tape.trans h.tape, hT.output.trans h.output, Nat.le_trans h.size hT.size, fun i hi => (hT.block i (Nat.lt_of_lt_of_le hi h.size) (fun e => by cases e; omega)).trans (h.block i hi)⟩
end Go.Proofs.YtbpppaolcgibnaaGreatDoor

namespace Go.Proofs.YtbpppaolcgibnaaGreatDoor
open Go.RowKit

theorem lookF_cons (e : Int × Int) (t : Prs) (k : Int) : lookF (e :: t) k = if e.1 = k then (true, e.2) else lookF t k := by
  unfold lookF
  by_cases h : e.1 = k
  · rw [List.find?_cons_of_pos (by simpa using h), if_pos h]
  · rw [List.find?_cons_of_neg (by simpa using h), if_neg h]
theorem lwBigP_is (o : Option Addr) (len cap : Nat) (r : Bool) (w : World) (h : decide ((1048576 : Int) < (len : Int)) = r) :
    Calls Tryz.prog 4 #[.slice o len cap] w fun e w' => e = .returned (.bool r) ∧ w' = w := by
  go_enter Tryz.func4, Tryz.ntmps4
  go_wp2
  go_ret
  exact ⟨by first | rfl | (rw [← h]; rfl), rfl⟩
end Go.Proofs.YtbpppaolcgibnaaGreatDoor

namespace Go.Proofs.YtbpppaolcgibnaaGreatDoor

/-- A view hangs together: f, what is read of it; c, how many entries lead to an inode. -/
structure Whole (f : Int → Bool × Int) (c : Int → Nat) : Prop where
  nx : (f 0).1 = true ∧ 1 ≤ (f 0).2 ∧ (f 0).2 ≤ 10
  root : f (kI 0) = (true, 1000)
  ino : ∀ a, 0 ≤ a → a ≤ 9 → (f (kI a)).1 = true → a < (f 0).2 ∧ ((f (kI a)).2 = 1000 ∨ (0 < c a ∧ (f (kI a)).2 = 2000 + c a))
  dir : ∀ a, 0 ≤ a → a ≤ 9 → f (kI a) = (true, 1000) → (a ≠ 0 → c a = 1) ∧ (a = 0 → c a = 0)
  bytes : ∀ a, 0 ≤ a → a ≤ 9 → (f (kB a)).1 = true → (f (kI a)).1 = true ∧ 0 < c a ∧ (f (kI a)).2 = 2000 + c a
  ent : ∀ d n v, 0 ≤ d → d ≤ 9 → 0 ≤ n → n ≤ 5 → f (kE d n) = (true, v) → (0 ≤ v ∧ v ≤ 9) ∧ (f (kI v)).1 = true ∧ f (kI d) = (true, 1000) ∧ (f (kI v) = (true, 1000) → d < v)
theorem pair_of {x : Bool × Int} {b : Bool} {v : Int} (h1 : x.1 = b) (h2 : x.2 = v) : x = (b, v) := by cases x; simp_all
end Go.Proofs.YtbpppaolcgibnaaGreatDoor

namespace Go.Proofs.YtbpppaolcgibnaaGreatDoor

theorem key_entry {k : Int} (h : partK k = 2) : ∃ d n, (0 ≤ d ∧ d ≤ 9) ∧ (0 ≤ n ∧ n ≤ 5) ∧ k = kE d n ∧ partA k = d := by
  have hf : faultOf k = 0 := by
    apply Classical.byContradiction
    intro q
    rw [(parts_bad q).1] at h
    omega
  obtain ⟨e1, e2, _⟩ := parts_ok hf
  rw [h] at e1
  rw [← e1, if_pos rfl] at e2
  have h2 := fault_zero hf
  have h3 : 20 ≤ k ∧ k < 180 := by
    unfold kindAt at e1
    split at e1
    · omega
    · split at e1
      · omega
      · split at e1
        · omega
        · omega
  refine ⟨(k - 20) / 10, k % 10, by omega, by omega, by unfold kE; omega, e2⟩
theorem mem_look {L : Prs} (hr : Rises L) {e : Int × Int} (he : e ∈ L) : lookF L e.1 = (true, e.2) := by
  induction L with
  | nil => cases he
  | cons x t ih =>
    obtain ⟨h1, h2⟩ := List.pairwise_cons.1 hr
    rw [lookF_cons]
    rcases List.mem_cons.1 he with rfl | ht
    · rw [if_pos rfl]
    · have := h1 e ht
      rw [if_neg (by omega)]
      exact ih h2 ht
theorem linkN_cons (e : Int × Int) (t : Prs) (a : Int) : linkN (e :: t) a = linkN t a + if partK e.1 = 2 ∧ e.2 = a then 1 else 0 := by
  rw [linkN_filter, linkN_filter, List.filter_cons]
  by_cases h : partK e.1 = 2 ∧ e.2 = a
  · rw [if_pos h, if_pos (by simp [h.1, h.2])]; rfl
  · rw [if_neg h, if_neg (by simpa using h)]; rfl
theorem dirE_iff {L : Prs} {a : Int} : dirB L a = true ↔ lookF L (kI a) = (true, 1000) := by
  unfold dirB
  rw [beq_iff_eq]
  constructor
  · intro h
    refine pair_of ?_ h
    cases q : (lookF L (kI a)).1 with
    | true => rfl
    | false => rw [lookF_zero q] at h; omega
  · intro h; rw [h]
theorem ino1 (r : Bool) (z nx a : Int) (c : Nat) : (!(r && (decide (a ≥ nx) || (!dirV r z && !fileV r z c)))) = true ↔ (r = true → a < nx ∧ (z = 1000 ∨ (0 < c ∧ z = 2000 + (c : Int)))) := by
  cases r
  · simp
  · simp only [dirV, fileV, Bool.true_and, Bool.not_eq_true', Bool.or_eq_false_iff, decide_eq_false_iff_not, forall_const, Bool.and_eq_false_iff, Bool.not_eq_false', beq_iff_eq, Bool.and_eq_true, decide_eq_true_eq]
    constructor
    · rintro ⟨h1, h2⟩
      exact ⟨by omega, by omega⟩
    · rintro ⟨h1, h2⟩
      exact ⟨by omega, by omega⟩
theorem ino2 (r : Bool) (z a : Int) (c : Nat) : (!(dirV r z && ((a != 0 && (c : Int) != 1) || (a == 0 && (c : Int) != 0)))) = true ↔ ((r, z) = (true, (1000 : Int)) → (a ≠ 0 → c = 1) ∧ (a = 0 → c = 0)) := by
  cases r
  · simp [dirV]
  · simp only [dirV, Bool.true_and, Bool.not_eq_true', Bool.and_eq_false_iff, beq_eq_false_iff_ne, Bool.or_eq_false_iff, bne_eq_false_iff_eq, ne_eq, Prod.mk.injEq, true_and]
    constructor
    · intro h hz
      rcases h with h | ⟨h1, h2⟩
      · exact absurd hz h
      · exact ⟨fun q => by rcases h1 with h1 | h1 <;> omega, fun q => by rcases h2 with h2 | h2 <;> omega⟩
    · intro h
      by_cases hz : z = 1000
      · obtain ⟨h1, h2⟩ := h hz
        refine Or.inr ⟨?_, ?_⟩
        · by_cases q : a = 0
          · exact Or.inl q
          · exact Or.inr (by have := h1 q; omega)
        · by_cases q : a = 0
          · exact Or.inr (by have := h2 q; omega)
          · exact Or.inl q
      · exact Or.inl hz
theorem ino3 (r s : Bool) (z : Int) (c : Nat) : (!(s && !fileV r z c)) = true ↔ (s = true → r = true ∧ 0 < c ∧ z = 2000 + (c : Int)) := by
  cases s
  · simp
  · cases r
    · simp [fileV]
    · simp only [fileV, Bool.true_and, Bool.not_not, Bool.and_eq_true, decide_eq_true_eq, beq_iff_eq, forall_const]
      constructor
      · rintro ⟨h1, h2⟩
        exact ⟨trivial, by omega, by omega⟩
      · rintro ⟨_, h1, h2⟩
        exact ⟨by omega, by omega⟩
theorem ino4 (L : Prs) (r : Bool) (z a : Int) : (L.all fun e => !(badE L r (dirV r z) a e)) = true ↔ ∀ e ∈ L, partK e.1 = 2 → e.2 = a → r = true ∧ dirB L (partA e.1) = true ∧ ((r, z) = (true, (1000 : Int)) → partA e.1 < a) := by
  rw [List.all_eq_true]
  refine forall_congr' fun e => forall_congr' fun _ => ?_
  unfold badE
  by_cases h1 : partK e.1 = 2
  · by_cases h2 : e.2 = a
    · rw [beq_iff_eq.2 h1, beq_iff_eq.2 h2]
      cases r
      · simp [h1, h2]
      · cases hd : dirB L (partA e.1)
        · simp [h1, h2]
        · simp only [dirV, Bool.true_and, Bool.not_true, Bool.false_or, Bool.not_eq_true', Bool.and_eq_false_iff, beq_eq_false_iff_ne, decide_eq_false_iff_not, h1, h2, forall_const, true_and, Prod.mk.injEq]
          constructor
          · intro h hz
            rcases h with h | h
            · exact absurd hz h
            · omega
          · intro h
            by_cases hz : z = 1000
            · exact Or.inr (by have := h hz; omega)
            · exact Or.inl hz
    · have : (e.2 == a) = false := beq_eq_false_iff_ne.2 h2
      simp [this, h2]
  · have : (partK e.1 == 2) = false := beq_eq_false_iff_ne.2 h1
    simp [this, h1]
theorem inode_iff {L : Prs} {nx a : Int} : inodeB L nx a = true ↔
    (((lookF L (kI a)).1 = true → a < nx ∧ ((lookF L (kI a)).2 = 1000 ∨ (0 < linkN L a ∧ (lookF L (kI a)).2 = 2000 + (linkN L a : Int)))) ∧
     (lookF L (kI a) = (true, 1000) → (a ≠ 0 → linkN L a = 1) ∧ (a = 0 → linkN L a = 0)) ∧
     ((lookF L (kB a)).1 = true → (lookF L (kI a)).1 = true ∧ 0 < linkN L a ∧ (lookF L (kI a)).2 = 2000 + (linkN L a : Int)) ∧
     ∀ e ∈ L, partK e.1 = 2 → e.2 = a → (lookF L (kI a)).1 = true ∧ dirB L (partA e.1) = true ∧ (lookF L (kI a) = (true, 1000) → partA e.1 < a)) := by
  unfold inodeB inodeV
  rw [Bool.and_eq_true, Bool.and_eq_true, Bool.and_eq_true, ino1, ino2, ino3, ino4]
theorem whole_iff {L : Prs} (hg : GoodP L) : wholeB L = true ↔ Whole (lookF L) (linkN L) := by
  unfold wholeB
  rw [Bool.and_eq_true, Bool.and_eq_true, Bool.and_eq_true, Bool.and_eq_true, decide_eq_true_eq, dirE_iff]
  constructor
  · rintro ⟨h1, h2, h3, h4, h5⟩
    have hi : ∀ a, 0 ≤ a → a ≤ 9 → inodeB L (lookF L 0).2 a = true := fun a h0 h9 => by
      have := List.all_eq_true.1 h4 a.toNat (List.mem_range.2 (by omega))
      rwa [Int.toNat_of_nonneg h0] at this
    refine ⟨⟨h1, h2.1, h2.2⟩, h3, fun a h0 h9 => (inode_iff.1 (hi a h0 h9)).1, fun a h0 h9 => (inode_iff.1 (hi a h0 h9)).2.1, fun a h0 h9 => (inode_iff.1 (hi a h0 h9)).2.2.1, ?_⟩
    intro d n v d0 d9 n0 n5 q
    have hm := look_mem (L := L) (k := kE d n) (by rw [q])
    rw [q] at hm
    have hp := parts_entry (d := d) (i := n) ⟨d0, d9⟩ ⟨n0, n5⟩
    have hv : 0 ≤ v ∧ v ≤ 9 := by
      have := all_of h5 hm
      unfold noInode at this
      rw [hp.1] at this
      simpa using this
    have := (inode_iff.1 (hi v hv.1 hv.2)).2.2.2 _ hm hp.1 rfl
    rw [hp.2, dirE_iff] at this
    exact ⟨hv, this.1, this.2.1, this.2.2⟩
  · intro h
    have hen : ∀ e ∈ L, partK e.1 = 2 → (0 ≤ e.2 ∧ e.2 ≤ 9) ∧ (lookF L (kI e.2)).1 = true ∧ lookF L (kI (partA e.1)) = (true, 1000) ∧ (lookF L (kI e.2) = (true, 1000) → partA e.1 < e.2) := by
      intro e he hk
      obtain ⟨d, n, hd, hn, hk2, hk3⟩ := key_entry hk
      have := mem_look hg.1 he
      rw [hk2] at this
      rw [hk3]
      exact h.ent d n e.2 hd.1 hd.2 hn.1 hn.2 this
    refine ⟨h.nx.1, h.nx.2, h.root, ?_, ?_⟩
    · rw [List.all_eq_true]
      intro a ha
      have ha' := List.mem_range.1 ha
      refine inode_iff.2 ⟨h.ino a (by omega) (by omega), h.dir a (by omega) (by omega), h.bytes a (by omega) (by omega), ?_⟩
      intro e he hk q
      obtain ⟨_, w2, w3, w4⟩ := hen e he hk
      rw [q] at w2 w4
      exact ⟨w2, dirE_iff.2 w3, w4⟩
    · rw [List.all_eq_true]
      intro e he
      unfold noInode
      by_cases hk : partK e.1 = 2
      · have := (hen e he hk).1
        simp [hk, this.1, this.2]
      · simp [hk]
end Go.Proofs.YtbpppaolcgibnaaGreatDoor

namespace Go.Proofs.YtbpppaolcgibnaaGreatDoor

def six (h : Int → Nat) : Nat := h 0 + h 1 + h 2 + h 3 + h 4 + h 5
def ten (h : Int → Nat) : Nat := h 0 + h 1 + h 2 + h 3 + h 4 + h 5 + h 6 + h 7 + h 8 + h 9
/-- What some pairs' values come to. -/
def sumL (p : Int × Int → Bool) (g : Int → Nat) : Prs → Nat
  | [] => 0
  | e :: t => (if p e = true then g e.2 else 0) + sumL p g t
def isE (e : Int × Int) : Bool := partK e.1 == 2
def inD (d : Int) (e : Int × Int) : Bool := partK e.1 == 2 && partA e.1 == d
/-- What the entry of a name comes to. -/
def entG (L : Prs) (d : Int) (g : Int → Nat) (n : Int) : Nat := if (lookF L (kE d n)).1 = true then g (lookF L (kE d n)).2 else 0
theorem ten_add (f g : Int → Nat) : ten (fun a => f a + g a) = ten f + ten g := by simp only [ten]; omega
theorem sum_dir {d : Int} (hd : 0 ≤ d ∧ d ≤ 9) (g : Int → Nat) : ∀ {L : Prs}, Rises L → six (entG L d g) = sumL (inD d) g L
  | [], _ => rfl
  | e :: t, hr => by
    obtain ⟨h1, h2⟩ := List.pairwise_cons.1 hr
    have ih := sum_dir hd g (L := t) h2
    rw [sumL, ← ih]
    by_cases hp : inD d e = true
    · rw [if_pos hp]
      unfold inD at hp
      rw [Bool.and_eq_true, beq_iff_eq, beq_iff_eq] at hp
      obtain ⟨d', n, hd', hn, hk, ha⟩ := key_entry hp.1
      have : d' = d := ha.symm.trans hp.2
      subst this
      have hm : ∀ m, entG (e :: t) d' g m = (if m = n then g e.2 else 0) + entG t d' g m := by
        intro m
        unfold entG
        by_cases q : m = n
        · subst q
          have e1 : lookF (e :: t) (kE d' m) = (true, e.2) := by rw [lookF_cons, if_pos hk]
          rw [e1, if_pos rfl, if_pos rfl]
          have : (lookF t (kE d' m)).1 = false := by
            cases w : (lookF t (kE d' m)).1 with
            | false => rfl
            | true =>
              have := h1 _ (look_mem w)
              simp only at this
              omega
          simp [this]
        · have e1 : lookF (e :: t) (kE d' m) = lookF t (kE d' m) := by rw [lookF_cons, if_neg (by rw [hk]; unfold kE; omega)]
          rw [e1, if_neg q, Nat.zero_add]
      unfold six
      rw [hm, hm, hm, hm, hm, hm]
      have : n = 0 ∨ n = 1 ∨ n = 2 ∨ n = 3 ∨ n = 4 ∨ n = 5 := by omega
      rcases this with rfl | rfl | rfl | rfl | rfl | rfl <;> simp <;> omega
    · rw [if_neg hp, Nat.zero_add]
      have hm : ∀ m, 0 ≤ m ∧ m ≤ 5 → entG (e :: t) d g m = entG t d g m := by
        intro m hm
        have e1 : lookF (e :: t) (kE d m) = lookF t (kE d m) := by
          rw [lookF_cons, if_neg]
          intro q
          refine hp ?_
          unfold inD
          rw [q, (parts_entry hd hm).1, (parts_entry hd hm).2]
          simp
        unfold entG
        rw [e1]
      unfold six
      rw [hm 0 (by omega), hm 1 (by omega), hm 2 (by omega), hm 3 (by omega), hm 4 (by omega), hm 5 (by omega)]
theorem sum_dirs (g : Int → Nat) : ∀ L : Prs, ten (fun d => sumL (inD d) g L) = sumL isE g L
  | [] => rfl
  | e :: t => by
    have ih := sum_dirs g t
    simp only [sumL]
    rw [ten_add (fun d => if inD d e = true then g e.2 else 0) (fun d => sumL (inD d) g t), ih]
    congr 1
    by_cases hp : isE e = true
    · rw [if_pos hp]
      unfold isE at hp
      rw [beq_iff_eq] at hp
      obtain ⟨d, n, hd, _, _, ha⟩ := key_entry hp
      unfold ten inD
      rw [hp, ha]
      have : d = 0 ∨ d = 1 ∨ d = 2 ∨ d = 3 ∨ d = 4 ∨ d = 5 ∨ d = 6 ∨ d = 7 ∨ d = 8 ∨ d = 9 := by omega
      rcases this with rfl | rfl | rfl | rfl | rfl | rfl | rfl | rfl | rfl | rfl <;> simp
    · rw [if_neg hp]
      unfold isE at hp
      unfold ten inD
      simp [hp]
theorem sum_links (g : Int → Nat) : ∀ {L : Prs}, (∀ e ∈ L, partK e.1 = 2 → 0 ≤ e.2 ∧ e.2 ≤ 9) → sumL isE g L = ten (fun a => g a * linkN L a)
  | [], _ => by simp [sumL, ten, linkN, lnkL, toL]
  | e :: t, h => by
    have ih := sum_links g (L := t) (fun x hx => h x (List.mem_cons_of_mem _ hx))
    rw [sumL, ih]
    have hl : (fun a => g a * linkN (e :: t) a) = fun a => g a * (if partK e.1 = 2 ∧ e.2 = a then 1 else 0) + g a * linkN t a := by
      funext a
      rw [linkN_cons, Nat.mul_add, Nat.add_comm]
    rw [hl, ten_add]
    congr 1
    by_cases hp : partK e.1 = 2
    · have he := h e (by simp) hp
      unfold isE
      rw [hp]
      unfold ten
      obtain ⟨a, ha⟩ : ∃ a, e.2 = a := ⟨_, rfl⟩
      rw [ha] at he ⊢
      have : a = 0 ∨ a = 1 ∨ a = 2 ∨ a = 3 ∨ a = 4 ∨ a = 5 ∨ a = 6 ∨ a = 7 ∨ a = 8 ∨ a = 9 := by omega
      rcases this with rfl | rfl | rfl | rfl | rfl | rfl | rfl | rfl | rfl | rfl <;> simp
    · unfold isE ten
      simp [hp]
/-- Sums over names. -/
def sumI (L : Prs) (d : Int) (g : Int → Nat) : Nat → Int → Nat
  | 0, _ => 0
  | j + 1, i => (if (lookF L (kE d i)).1 = true then g i else 0) + sumI L d g j (i + 1)
theorem sumP_append (g : Int → Nat) : ∀ xs ys : List Int, sumP g (xs ++ ys) = sumP g xs + sumP g ys
  | [], ys => by simp [sumP]
  | x :: t, ys => by
    simp only [List.cons_append, sumP]
    rw [sumP_append g t ys]
    omega
theorem sumP_ent (L : Prs) (d : Int) (g : Int → Nat) : ∀ (j : Nat) (i : Int) (xs : List Int), sumP g (entP L d j i xs) = sumP g xs + sumI L d g j i
  | 0, _, _ => rfl
  | j + 1, i, xs => by
    rw [entP, sumP_ent L d g j (i + 1), sumI]
    split
    · rw [sumP_append]
      simp only [sumP]
      omega
    · omega
theorem sumP_len : ∀ xs : List Int, sumP (fun _ => 1) xs = xs.length
  | [] => rfl
  | _ :: t => by
    rw [sumP, sumP_len t, List.length_cons]
    omega
theorem sumP_congr {f g : Int → Nat} : ∀ {xs : List Int}, (∀ x ∈ xs, f x = g x) → sumP f xs = sumP g xs
  | [], _ => rfl
  | x :: t, h => by
    rw [sumP, sumP, h x (by simp), sumP_congr (xs := t) (fun y hy => h y (List.mem_cons_of_mem _ hy))]
/-- What a directory weighs. -/
def wD (L : Prs) (Z : Int → Nat) (a : Int) : Nat := if (lookF L (kI a)).2 = 1000 then Z a else 0
theorem sumP_dirs (L : Prs) (Z : Int → Nat) (d : Int) : ∀ xs : List Int, sumP Z (dirsX L d xs) = sumP (fun i => wD L Z (lookF L (kE d i)).2) xs
  | [] => rfl
  | i :: t => by
    rw [dirsX, sumP_append, sumP_dirs L Z d t, sumP]
    unfold wD
    congr 1
    split
    · simp [sumP]
    · rfl
theorem sumP_six (L : Prs) (d : Int) (g : Int → Nat) : sumP (fun i => g (lookF L (kE d i)).2) (entP L d 6 0 []) = six (entG L d g) := by
  rw [sumP_ent]
  simp [sumP, sumI, six, entG, Nat.add_assoc]
/-- How many nodes are told below a directory. -/
def szF (L : Prs) : Nat → Int → Nat
  | 0, _ => 0
  | f + 1, d => (entP L d 6 0 []).length + sumP (szF L f) (dirsX L d (entP L d 6 0 []))
theorem nodes_count {L : Prs} {rec : Int → List Int} {dir depth : Int} {Z : Int → Nat} (hr : ∀ c, (rec c).length = 4 * Z c) : ∀ xs : List Int, (nodesX L rec dir depth xs).length = 4 * (xs.length + sumP Z (dirsX L dir xs))
  | [] => rfl
  | i :: t => by
    rw [nodesX, List.length_append, nodes_count hr t, dirsX]
    unfold nodeX
    split
    · simp [sumP, hr]
      omega
    · simp
      omega
theorem below_count (L : Prs) : ∀ (f : Nat) (d depth : Int), (belowF L f d depth).length = 4 * szF L f d
  | 0, _, _ => rfl
  | f + 1, d, depth => by
    rw [belowF, nodes_count (Z := szF L f) (fun c => below_count L f c (depth + 1)), szF]
theorem sz_fuel {L : Prs} (hT : Tree L) : ∀ (f f' : Nat) (d : Int), 0 ≤ d ∧ d ≤ 9 → 10 - d ≤ f → 10 - d ≤ f' → szF L f d = szF L f' d
  | 0, _, d, hd, h, _ => by omega
  | _, 0, d, hd, _, h => by omega
  | f + 1, f' + 1, d, hd, h, h' => by
    rw [szF, szF]
    congr 1
    refine sumP_congr (fun c hc => ?_)
    obtain ⟨i, hi, e1, e2⟩ := dirsX_mem hc
    have h1 := ent_in hi
    rw [← e1] at e2
    have h2 := hT.up d i hd h1.2 h1.1 e2
    have h3 := hT.ino d i hd h1.2 h1.1
    rw [e1] at h2 h3
    exact sz_fuel hT f f' c h3 (by omega) (by omega)
/-- Of all entries the tree tells each, once; and the links are as many. -/
theorem tree_counts {L : Prs} (hg : GoodP L) (hw : wholeB L = true) : szF L 10 0 = sumL isE (fun _ => 1) L ∧ ten (linkN L) = sumL isE (fun _ => 1) L := by
  have hT := whole_tree hw
  have h := (whole_iff hg).1 hw
  have hv : ∀ e ∈ L, partK e.1 = 2 → 0 ≤ e.2 ∧ e.2 ≤ 9 := fun e he hk => by
    obtain ⟨d, n, hd, hn, hkey, _⟩ := key_entry hk
    have := mem_look hg.1 he
    rw [hkey] at this
    exact (h.ent d n e.2 hd.1 hd.2 hn.1 hn.2 this).1
  have hl1 := sum_links (fun _ => 1) hv
  simp only [Nat.one_mul] at hl1
  refine ⟨?_, hl1.symm⟩
  obtain ⟨Z, hZ⟩ : ∃ Z, szF L 10 = Z := ⟨_, rfl⟩
  have hz : ∀ d, 0 ≤ d ∧ d ≤ 9 → Z d = sumL (inD d) (fun _ => 1) L + sumL (inD d) (wD L Z) L := fun d hd => by
    rw [← hZ, sz_fuel hT 10 11 d hd (by omega) (by omega), szF, hZ, ← sumP_len, sumP_dirs, sumP_six L d (wD L Z), ← sum_dir hd _ hg.1, ← sum_dir hd _ hg.1]
    congr 1
    exact sumP_six L d (fun _ => 1)
  have hnone : ∀ d, 0 ≤ d ∧ d ≤ 9 → (lookF L (kI d)).2 ≠ 1000 → ∀ g : Int → Nat, sumL (inD d) g L = 0 := fun d hd hnd g => by
    rw [← sum_dir hd g hg.1]
    have h0 : ∀ n, 0 ≤ n ∧ n ≤ 5 → entG L d g n = 0 := fun n hn => by
      unfold entG
      by_cases q : (lookF L (kE d n)).1 = true
      · have := (h.ent d n _ hd.1 hd.2 hn.1 hn.2 (pair_of q rfl)).2.2.1
        rw [this] at hnd
        exact absurd rfl hnd
      · rw [if_neg q]
    unfold six
    rw [h0 0 (by omega), h0 1 (by omega), h0 2 (by omega), h0 3 (by omega), h0 4 (by omega), h0 5 (by omega)]
  have hwz : ∀ d, 0 ≤ d ∧ d ≤ 9 → wD L Z d = sumL (inD d) (fun _ => 1) L + sumL (inD d) (wD L Z) L := fun d hd => by
    by_cases q : (lookF L (kI d)).2 = 1000
    · rw [← hz d hd]
      unfold wD
      rw [if_pos q]
    · rw [hnone d hd q, hnone d hd q]
      unfold wD
      rw [if_neg q]
  have htot : ten (wD L Z) = sumL isE (fun _ => 1) L + sumL isE (wD L Z) L := by
    rw [← sum_dirs, ← sum_dirs, ← ten_add]
    unfold ten
    rw [hwz 0 (by omega), hwz 1 (by omega), hwz 2 (by omega), hwz 3 (by omega), hwz 4 (by omega), hwz 5 (by omega), hwz 6 (by omega), hwz 7 (by omega), hwz 8 (by omega), hwz 9 (by omega)]
  have hlk := sum_links (wD L Z) hv
  have hone : ∀ a, 0 ≤ a ∧ a ≤ 9 → a ≠ 0 → wD L Z a * linkN L a = wD L Z a := fun a ha hne => by
    by_cases q : (lookF L (kI a)).2 = 1000
    · have hh : (lookF L (kI a)).1 = true := by
        cases w : (lookF L (kI a)).1 with
        | true => rfl
        | false => rw [lookF_zero w] at q; omega
      have := (h.dir a ha.1 ha.2 (pair_of hh q)).1 hne
      rw [this, Nat.mul_one]
    · unfold wD
      rw [if_neg q, Nat.zero_mul]
  have hzero : wD L Z 0 * linkN L 0 = 0 := by
    have := (h.dir 0 (by omega) (by omega) h.root).2 rfl
    rw [this, Nat.mul_zero]
  have hroot : wD L Z 0 = Z 0 := by
    unfold wD
    rw [if_pos (by rw [h.root])]
  simp only [ten] at hlk htot
  rw [hzero, hone 1 (by omega) (by omega), hone 2 (by omega) (by omega), hone 3 (by omega) (by omega), hone 4 (by omega) (by omega), hone 5 (by omega) (by omega), hone 6 (by omega) (by omega), hone 7 (by omega) (by omega), hone 8 (by omega) (by omega), hone 9 (by omega) (by omega)] at hlk
  rw [congrFun hZ 0]
  omega
end Go.Proofs.YtbpppaolcgibnaaGreatDoor

namespace Go.Proofs.YtbpppaolcgibnaaGreatDoor

/-- A list of fours. -/
def Quads (P : Int → Int → Int → Int → Prop) : List Int → Prop
  | [] => True
  | a :: b :: c :: d :: t => P a b c d ∧ Quads P t
  | _ => False
theorem Quads.append {P : Int → Int → Int → Int → Prop} : ∀ {xs ys : List Int}, Quads P xs → Quads P ys → Quads P (xs ++ ys)
  | [], _, _, h => h
  | [_], _, h, _ => absurd h id
  | [_, _], _, h, _ => absurd h id
  | [_, _, _], _, h, _ => absurd h id
  | _ :: _ :: _ :: _ :: t, _, h, h' => ⟨h.1, Quads.append (xs := t) h.2 h'⟩
theorem Quads.at {P : Int → Int → Int → Int → Prop} : ∀ {xs : List Int}, Quads P xs → ∀ k, k * 4 < xs.length → P (xs.getD (k * 4) 0) (xs.getD (k * 4 + 1) 0) (xs.getD (k * 4 + 2) 0) (xs.getD (k * 4 + 3) 0)
  | [], _, k, hk => absurd hk (Nat.not_lt_zero _)
  | [_], h, _, _ => absurd h id
  | [_, _], h, _, _ => absurd h id
  | [_, _, _], h, _, _ => absurd h id
  | a :: b :: c :: d :: t, h, 0, _ => h.1
  | a :: b :: c :: d :: t, h, k + 1, hk => by
    have := Quads.at (xs := t) h.2 k (by simp only [List.length_cons] at hk; omega)
    have e : ∀ j, (a :: b :: c :: d :: t).getD ((k + 1) * 4 + j) 0 = t.getD (k * 4 + j) 0 := fun j => by
      rw [show (k + 1) * 4 + j = (k * 4 + j) + 1 + 1 + 1 + 1 by omega]
      simp
    have e0 := e 0
    rw [Nat.add_zero, Nat.add_zero] at e0
    rw [e0, e 1, e 2, e 3]
    exact this
/-- What a node may be. -/
def OkN (i d m v : Int) : Prop := (0 ≤ i ∧ i ≤ 9) ∧ (1 ≤ d ∧ d ≤ 20) ∧ (0 ≤ m ∧ m ≤ 5) ∧ (0 ≤ v ∧ v ≤ 9999)
theorem nodes_ok {L : Prs} (hT : Tree L) (hv : ∀ k, 0 ≤ (lookF L k).2 ∧ (lookF L k).2 ≤ 9999) {rec : Int → List Int} {dir depth : Int} (hd : 0 ≤ dir ∧ dir ≤ 9) (hp : 1 ≤ depth ∧ depth ≤ 20) (hr : ∀ c, 0 ≤ c ∧ c ≤ 9 → Quads OkN (rec c)) : ∀ xs : List Int, (∀ x ∈ xs, (lookF L (kE dir x)).1 = true ∧ 0 ≤ x ∧ x ≤ 5) → Quads OkN (nodesX L rec dir depth xs)
  | [], _ => trivial
  | i :: t, h => by
    have hi := h i (by simp)
    have h1 := hT.ino dir i hd hi.2 hi.1
    rw [nodesX]
    refine Quads.append ?_ (nodes_ok hT hv hd hp hr t (fun x hx => h x (List.mem_cons_of_mem _ hx)))
    unfold nodeX
    refine Quads.append ⟨⟨h1, hp, hi.2, hv _⟩, trivial⟩ ?_
    split
    · exact hr _ h1
    · trivial
theorem below_ok {L : Prs} (hT : Tree L) (hv : ∀ k, 0 ≤ (lookF L k).2 ∧ (lookF L k).2 ≤ 9999) : ∀ (f : Nat) (d depth : Int), 0 ≤ d ∧ d ≤ 9 → 1 ≤ depth → depth + f ≤ 20 → Quads OkN (belowF L f d depth)
  | 0, _, _, _, _, _ => trivial
  | f + 1, d, depth, hd, h1, h2 => by
    rw [belowF]
    exact nodes_ok hT hv hd ⟨h1, by omega⟩ (fun c hc => below_ok hT hv f c (depth + 1) hc (by omega) (by omega)) _ (fun x hx => ent_in hx)
theorem six_le (h : Int → Nat) (hh : ∀ n, h n ≤ 1) : six h ≤ 6 := by
  unfold six
  have := hh 0; have := hh 1; have := hh 2; have := hh 3; have := hh 4; have := hh 5
  omega
theorem ent_total {L : Prs} (hr : Rises L) : sumL isE (fun _ => 1) L ≤ 60 := by
  rw [← sum_dirs]
  have h : ∀ d, 0 ≤ d ∧ d ≤ 9 → sumL (inD d) (fun _ => 1) L ≤ 6 := fun d hd => by
    rw [← sum_dir hd _ hr]
    exact six_le _ (fun n => by unfold entG; split <;> simp)
  simp only [ten]
  have := h 0 (by omega); have := h 1 (by omega); have := h 2 (by omega); have := h 3 (by omega); have := h 4 (by omega)
  have := h 5 (by omega); have := h 6 (by omega); have := h 7 (by omega); have := h 8 (by omega); have := h 9 (by omega)
  omega
/-- The tree of a whole view, told. -/
theorem tree_told {L : Prs} (hg : GoodP L) (hw : wholeB L = true) {N : Nat} (hN : (belowF L 10 0 1).length = N * 4) :
    N = sumL isE (fun _ => 1) L ∧ ten (linkN L) = N ∧ N ≤ 60 ∧ ∀ k, k < N → OkN ((belowF L 10 0 1).getD (k * 4) 0) ((belowF L 10 0 1).getD (k * 4 + 1) 0) ((belowF L 10 0 1).getD (k * 4 + 2) 0) ((belowF L 10 0 1).getD (k * 4 + 3) 0) := by
  have h1 := below_count L 10 0 1
  have h2 := tree_counts hg hw
  have h3 := ent_total hg.1
  have h4 : N = sumL isE (fun _ => 1) L := by omega
  refine ⟨h4, by rw [h2.2, h4], by omega, fun k hk => ?_⟩
  exact (below_ok (whole_tree hw) hg.vals 10 0 1 (by omega) (by omega) (by omega)).at k (by omega)
/-- The entries among the first k pairs; the links to the first k inodes. -/
def cntE (V : Nat → Int) (m k : Nat) : Nat := sumL isE (fun _ => 1) ((listOf V m).take k)
theorem sumL_append (p : Int × Int → Bool) (g : Int → Nat) : ∀ xs ys : Prs, sumL p g (xs ++ ys) = sumL p g xs + sumL p g ys
  | [], ys => by simp [sumL]
  | x :: t, ys => by
    simp only [List.cons_append, sumL]
    rw [sumL_append p g t ys]
    omega
theorem cntE_succ {V : Nat → Int} {m k : Nat} (h : k < m) : cntE V m (k + 1) = cntE V m k + if partK (V (k * 2)) = 2 then 1 else 0 := by
  have hl : k < (listOf V m).length := by rw [listOf_length]; exact h
  have he : (listOf V m)[k] = (V (k * 2), V (k * 2 + 1)) := by
    have := listOf_get (F := V) h
    rw [List.getD_eq_getElem?_getD, List.getElem?_eq_getElem hl] at this
    exact this
  unfold cntE
  rw [List.take_succ_eq_append_getElem hl, sumL_append, he]
  simp only [sumL, isE]
  by_cases q : partK (V (k * 2)) = 2
  · simp [q]
  · simp [q]
theorem cntE_all (V : Nat → Int) (m : Nat) : cntE V m m = sumL isE (fun _ => 1) (listOf V m) := by
  unfold cntE
  rw [List.take_of_length_le (by rw [listOf_length]; exact Nat.le_refl _)]
theorem cntE_le (V : Nat → Int) (m : Nat) : ∀ k, k ≤ m → cntE V m k ≤ k
  | 0, _ => by simp [cntE, sumL]
  | k + 1, h => by
    have := cntE_le V m k (by omega)
    rw [cntE_succ (by omega)]
    split <;> omega
def lnkS (L : Prs) : Nat → Nat
  | 0 => 0
  | k + 1 => lnkS L k + linkN L k
theorem linkN_le (L : Prs) (a : Int) : linkN L a ≤ L.length := by
  rw [linkN_filter]
  exact List.length_filter_le _ _
theorem lnkS_le (L : Prs) : ∀ k, lnkS L k ≤ k * L.length
  | 0 => by simp [lnkS]
  | k + 1 => by
    have h1 := lnkS_le L k
    have h2 := linkN_le L k
    rw [lnkS, Nat.succ_mul]
    omega
theorem lnkS_ten (L : Prs) : lnkS L 10 = ten (linkN L) := by
  simp [lnkS, ten]
end Go.Proofs.YtbpppaolcgibnaaGreatDoor

namespace Go.Proofs.YtbpppaolcgibnaaGreatDoor
open Go.RowKit

theorem setCell_otherE {x : World} {b i j : Nat} {u v : Value} (hn : i ≠ j) (h : x.cell? ⟨b, i, none⟩ = some u) : (x.setCell ⟨b, j, none⟩ v).cell? ⟨b, i, none⟩ = some u := (World.cell?_setCell_other _ _ _ _ (fun e => hn (congrArg Addr.off e).symm)).trans h
theorem Blk6.put34 {x : World} {b : Nat} {a0 a1 a2 a3 a4 a5 : Value} (h : Blk6 x b a0 a1 a2 a3 a4 a5) (c3 c4 : Value) : Blk6 ((x.setCell ⟨b, 3, none⟩ c3).setCell ⟨b, 4, none⟩ c4) b a0 a1 a2 c3 c4 a5 := by
  obtain ⟨⟨h0, h1, h2, h3, h4, h5⟩, f0, f1, f2, f3, f4, f5⟩ := h
  refine ⟨⟨?_, ?_, ?_, ?_, ?_, ?_⟩, by simpa using f0, by simpa using f1, by simpa using f2, by simpa using f3, by simpa using f4, by simpa using f5⟩
  · exact setCell_otherE (by decide) (setCell_otherE (by decide) h0)
  · exact setCell_otherE (by decide) (setCell_otherE (by decide) h1)
  · exact setCell_otherE (by decide) (setCell_otherE (by decide) h2)
  · exact setCell_otherE (by decide) (World.cell?_setCell_same _ _ _ h3)
  · exact World.cell?_setCell_same _ _ _ (setCell_otherE (by decide) h4)
  · exact setCell_otherE (by decide) (setCell_otherE (by decide) h5)
theorem Blk6.putAll {x : World} {b : Nat} {a0 a1 a2 a3 a4 a5 : Value} (h : Blk6 x b a0 a1 a2 a3 a4 a5) (c0 c1 c2 c3 c4 c5 : Value) : Blk6 ((((((x.setCell ⟨b, 0, none⟩ c0).setCell ⟨b, 1, none⟩ c1).setCell ⟨b, 2, none⟩ c2).setCell ⟨b, 3, none⟩ c3).setCell ⟨b, 4, none⟩ c4).setCell ⟨b, 5, none⟩ c5) b c0 c1 c2 c3 c4 c5 := by
  obtain ⟨⟨h0, h1, h2, h3, h4, h5⟩, f0, f1, f2, f3, f4, f5⟩ := h
  refine ⟨⟨?_, ?_, ?_, ?_, ?_, ?_⟩, by simpa using f0, by simpa using f1, by simpa using f2, by simpa using f3, by simpa using f4, by simpa using f5⟩
  · exact setCell_otherE (by decide) (setCell_otherE (by decide) (setCell_otherE (by decide) (setCell_otherE (by decide) (setCell_otherE (by decide) (World.cell?_setCell_same _ _ _ h0)))))
  · exact setCell_otherE (by decide) (setCell_otherE (by decide) (setCell_otherE (by decide) (setCell_otherE (by decide) (World.cell?_setCell_same _ _ _ (setCell_otherE (by decide) h1)))))
  · exact setCell_otherE (by decide) (setCell_otherE (by decide) (setCell_otherE (by decide) (World.cell?_setCell_same _ _ _ (setCell_otherE (by decide) (setCell_otherE (by decide) h2)))))
  · exact setCell_otherE (by decide) (setCell_otherE (by decide) (World.cell?_setCell_same _ _ _ (setCell_otherE (by decide) (setCell_otherE (by decide) (setCell_otherE (by decide) h3)))))
  · exact setCell_otherE (by decide) (World.cell?_setCell_same _ _ _ (setCell_otherE (by decide) (setCell_otherE (by decide) (setCell_otherE (by decide) (setCell_otherE (by decide) h4)))))
  · exact World.cell?_setCell_same _ _ _ (setCell_otherE (by decide) (setCell_otherE (by decide) (setCell_otherE (by decide) (setCell_otherE (by decide) (setCell_otherE (by decide) h5)))))

end Go.Proofs.YtbpppaolcgibnaaGreatDoor

namespace Go.Proofs.YtbpppaolcgibnaaGreatDoor
open Go.RowKit

/-- An operation that was drawn: it suits, and nothing in it is great. -/
def DrawnO (kd d n td tn v : Int) : Prop := (1 ≤ kd ∧ kd ≤ 8) ∧ (0 ≤ d ∧ d ≤ 2) ∧ (0 ≤ n ∧ n ≤ 2) ∧ ((kd = 4 ∨ kd = 5) ∧ (0 ≤ td ∧ td ≤ 2) ∧ (0 ≤ tn ∧ tn ≤ 3) ∨ td = 0 ∧ tn = 0) ∧ (kd = 6 ∧ (0 ≤ v ∧ v ≤ 98) ∨ v = 0)
def zeroO : Obj := .cells #[.int .i64 0, .int .i64 0, .int .i64 0, .int .i64 0, .int .i64 0, .int .i64 0] 125
structure DrO (w : World) (b : Nat) (o : Option Addr) (len cap : Nat) (a : Int) (x : World) : Prop where
  src : Src x b o len cap a
  but : But b w x
  res : Blk6 x w.heap.size (.int .i64 0) (.int .i64 0) (.int .i64 0) (.int .i64 0) (.int .i64 0) (.int .i64 0)
theorem DrO.alloc {w x : World} {b : Nat} {o : Option Addr} {len cap : Nat} {a : Int} (h : DrO w b o len cap a x) (ob : Obj) : DrO w b o len cap a (x.alloc ob) := ⟨h.src.alloc _, h.but.alloc _, h.res.alloc _⟩
theorem DrO.step {w x x' : World} {b : Nat} {o : Option Addr} {len cap : Nat} {a a' : Int} (h : DrO w b o len cap a x) (hb : b < w.heap.size) (hS : Src x' b o len cap a') (hT : But b x x') : DrO w b o len cap a' x' :=
  ⟨hS, h.but.trans hT, h.res.kept (hT.block _ h.res.lt (fun e => by have := Option.some.inj e; omega))⟩
def pickA : Array Value := #[.int .i64 1, .int .i64 1, .int .i64 2, .int .i64 2, .int .i64 3, .int .i64 4, .int .i64 5, .int .i64 6, .int .i64 6, .int .i64 7, .int .i64 8]
def pickB : Array Value := #[.int .i64 0, .int .i64 0, .int .i64 1, .int .i64 2]
theorem intsA (x : World) : Ints (x.alloc (.cells #[.int .i64 1, .int .i64 1, .int .i64 2, .int .i64 2, .int .i64 3, .int .i64 4, .int .i64 5, .int .i64 6, .int .i64 6, .int .i64 7, .int .i64 8] 2)) x.heap.size (.slice (some ⟨x.heap.size, 0, none⟩) 11 11) [1, 1, 2, 2, 3, 4, 5, 6, 6, 7, 8] := World.ownsRow_lit x pickA 11 (Nat.le_refl _) (by decide) rfl
theorem intsB (x : World) : Ints (x.alloc (.cells #[.int .i64 0, .int .i64 0, .int .i64 1, .int .i64 2] 2)) x.heap.size (.slice (some ⟨x.heap.size, 0, none⟩) 4 4) [0, 0, 1, 2] := World.ownsRow_lit x pickB 4 (Nat.le_refl _) (by decide) rfl
theorem memB {r : Int} (h : r ∈ [(0 : Int), 0, 1, 2]) : 0 ≤ r ∧ r ≤ 2 := by
  simp only [List.mem_cons, List.not_mem_nil, or_false] at h
  omega
theorem memA {r : Int} (h : r ∈ [(1 : Int), 1, 2, 2, 3, 4, 5, 6, 6, 7, 8]) : 1 ≤ r ∧ r ≤ 8 := by
  simp only [List.mem_cons, List.not_mem_nil, or_false] at h
  omega
/-- Behind the build: the operation's box. -/
structure DrB (w : World) (b : Nat) (o : Option Addr) (len cap : Nat) (g : Nat) (kd d n td tn v : Int) (a : Int) (x : World) : Prop where
  dr : DrO w b o len cap a x
  box : Blk6 x g (.int .i64 kd) (.int .i64 d) (.int .i64 n) (.int .i64 td) (.int .i64 tn) (.int .i64 v)
  lt : w.heap.size < g
theorem DrB.step {w x x' : World} {b : Nat} {o : Option Addr} {len cap g : Nat} {kd d n td tn v a a' : Int} (h : DrB w b o len cap g kd d n td tn v a x) (hb : b < w.heap.size) (hS : Src x' b o len cap a') (hT : But b x x') : DrB w b o len cap g kd d n td tn v a' x' :=
  ⟨h.dr.step hb hS hT, h.box.kept (hT.block _ h.box.lt (fun e => by have := Option.some.inj e; have := h.lt; omega)), h.lt⟩
theorem DrB.alloc {w x : World} {b : Nat} {o : Option Addr} {len cap g : Nat} {kd d n td tn v a : Int} (h : DrB w b o len cap g kd d n td tn v a x) (ob : Obj) : DrB w b o len cap g kd d n td tn v a (x.alloc ob) := ⟨h.dr.alloc _, h.box.alloc _, h.lt⟩
theorem But.setO {b : Nat} {w x : World} (h : But b w x) {c : Nat} (hc : w.heap.size ≤ c) (off : Nat) (v : Value) : But b w (x.setCell ⟨c, off, none⟩ v) :=
  ⟨h.os, h.tape, h.output, by simpa [World.setCell] using h.size, fun k hk hne => (Below.heap_setCell x ⟨c, off, none⟩ v k (by simp; omega)).trans (h.block k hk hne)⟩
theorem Src.setO {x : World} {b : Nat} {o : Option Addr} {len cap : Nat} {a : Int} (h : Src x b o len cap a) {w : World} {a0 : Int} (h0 : Src w b o len cap a0) (hT : But b w x) {c : Nat} (hc : w.heap.size ≤ c) (off : Nat) (v : Value) : Src (x.setCell ⟨c, off, none⟩ v) b o len cap a := by
  have hb := h0.lt
  have kb : (x.setCell ⟨c, off, none⟩ v).heap[b]? = x.heap[b]? := Below.heap_setCell x ⟨c, off, none⟩ v b (by simp; omega)
  refine ⟨(World.cell?_of_block (w := x) (a := ⟨b, 0, none⟩) kb).trans h.code, (World.cell?_of_block (w := x) (a := ⟨b, 1, none⟩) kb).trans h.count, (World.frozen?_of_block (w := x) (a := ⟨b, 1, none⟩) kb).trans h.live, h.pos, fun j hj => ?_⟩
  obtain ⟨g, off', n, e1, e2, e3, e4⟩ := h0.bytes j hj
  exact ⟨g, off', n, e1, e2, (hT.setO hc off v).cell e3 e2, e4⟩
theorem DrO.set {w x : World} {b : Nat} {o : Option Addr} {len cap : Nat} {a : Int} (h : DrO w b o len cap a x) {a0 : Int} (h0 : Src w b o len cap a0) {c : Nat} (hc : w.heap.size < c) (off : Nat) (v : Value) : DrO w b o len cap a (x.setCell ⟨c, off, none⟩ v) :=
  ⟨h.src.setO h0 h.but (by omega) off v, h.but.setO (by omega) off v, h.res.kept (Below.heap_setCell x ⟨c, off, none⟩ v _ (by simp; omega))⟩
theorem DrB.put34 {w x : World} {b : Nat} {o : Option Addr} {len cap g : Nat} {kd d n td tn v a : Int} (h : DrB w b o len cap g kd d n td tn v a x) {a0 : Int} (h0 : Src w b o len cap a0) (u : Int) (j : Nat) (hj : j = 3 ∨ j = 4 ∨ j = 5) :
    DrB w b o len cap g kd d n (if j = 3 then u else td) (if j = 4 then u else tn) (if j = 5 then u else v) a (x.setCell ⟨g, j, none⟩ (.int .i64 u)) := by
  refine ⟨h.dr.set h0 h.lt _ _, ?_, h.lt⟩
  obtain ⟨⟨c0, c1, c2, c3, c4, c5⟩, f0, f1, f2, f3, f4, f5⟩ := h.box
  rcases hj with rfl | rfl | rfl
  · refine ⟨⟨?_, ?_, ?_, ?_, ?_, ?_⟩, by simpa using f0, by simpa using f1, by simpa using f2, by simpa using f3, by simpa using f4, by simpa using f5⟩
    · exact setCell_otherE (by decide) c0
    · exact setCell_otherE (by decide) c1
    · exact setCell_otherE (by decide) c2
    · exact World.cell?_setCell_same _ _ _ c3
    · exact setCell_otherE (by decide) c4
    · exact setCell_otherE (by decide) c5
  · refine ⟨⟨?_, ?_, ?_, ?_, ?_, ?_⟩, by simpa using f0, by simpa using f1, by simpa using f2, by simpa using f3, by simpa using f4, by simpa using f5⟩
    · exact setCell_otherE (by decide) c0
    · exact setCell_otherE (by decide) c1
    · exact setCell_otherE (by decide) c2
    · exact setCell_otherE (by decide) c3
    · exact World.cell?_setCell_same _ _ _ c4
    · exact setCell_otherE (by decide) c5
  · refine ⟨⟨?_, ?_, ?_, ?_, ?_, ?_⟩, by simpa using f0, by simpa using f1, by simpa using f2, by simpa using f3, by simpa using f4, by simpa using f5⟩
    · exact setCell_otherE (by decide) c0
    · exact setCell_otherE (by decide) c1
    · exact setCell_otherE (by decide) c2
    · exact setCell_otherE (by decide) c3
    · exact setCell_otherE (by decide) c4
    · exact World.cell?_setCell_same _ _ _ c5
end Go.Proofs.YtbpppaolcgibnaaGreatDoor

namespace Go.Proofs.YtbpppaolcgibnaaGreatDoor
open Go.RowKit

theorem DrO.fin {w x : World} {b : Nat} {o : Option Addr} {len cap : Nat} {a a0 : Int} (h : DrO w b o len cap a x) (h0 : Src w b o len cap a0) (c0 c1 c2 c3 c4 c5 : Value) :
    Src ((((((x.setCell ⟨w.heap.size, 0, none⟩ c0).setCell ⟨w.heap.size, 1, none⟩ c1).setCell ⟨w.heap.size, 2, none⟩ c2).setCell ⟨w.heap.size, 3, none⟩ c3).setCell ⟨w.heap.size, 4, none⟩ c4).setCell ⟨w.heap.size, 5, none⟩ c5) b o len cap a ∧
      But b w ((((((x.setCell ⟨w.heap.size, 0, none⟩ c0).setCell ⟨w.heap.size, 1, none⟩ c1).setCell ⟨w.heap.size, 2, none⟩ c2).setCell ⟨w.heap.size, 3, none⟩ c3).setCell ⟨w.heap.size, 4, none⟩ c4).setCell ⟨w.heap.size, 5, none⟩ c5) := by
  have l := Nat.le_refl w.heap.size
  have s0 := h.src.setO h0 h.but l 0 c0
  have t0 := h.but.setO l 0 c0
  have s1 := s0.setO h0 t0 l 1 c1
  have t1 := t0.setO l 1 c1
  have s2 := s1.setO h0 t1 l 2 c2
  have t2 := t1.setO l 2 c2
  have s3 := s2.setO h0 t2 l 3 c3
  have t3 := t2.setO l 3 c3
  have s4 := s3.setO h0 t3 l 4 c4
  have t4 := t3.setO l 4 c4
  exact ⟨s4.setO h0 t4 l 5 c5, t4.setO l 5 c5⟩
theorem intsAg (x : World) (g : Nat) (hg : x.heap.size = g) : Ints (x.alloc (.cells #[.int .i64 1, .int .i64 1, .int .i64 2, .int .i64 2, .int .i64 3, .int .i64 4, .int .i64 5, .int .i64 6, .int .i64 6, .int .i64 7, .int .i64 8] 2)) g (.slice (some ⟨g, 0, none⟩) 11 11) [1, 1, 2, 2, 3, 4, 5, 6, 6, 7, 8] := hg ▸ intsA x
theorem intsBg (x : World) (g : Nat) (hg : x.heap.size = g) : Ints (x.alloc (.cells #[.int .i64 0, .int .i64 0, .int .i64 1, .int .i64 2] 2)) g (.slice (some ⟨g, 0, none⟩) 4 4) [0, 0, 1, 2] := hg ▸ intsB x
theorem hidPln {p : Prop} (h : p) : Hid p := h
set_option maxRecDepth 100000 in
set_option maxHeartbeats 4000000 in
theorem l13Draw_any (w : World) (b : Nat) (o : Option Addr) (len cap : Nat) (a : Int) (h : Src w b o len cap a) (ha : a ≤ 900000) (hl : len ≤ 1048576) :
    Calls Tryz.prog 72 #[.pointer (some ⟨b, 0, none⟩)] w fun e w' => ∃ kd d n td tn v a1 : Int, e = .returned (.agg #[.int .i64 kd, .int .i64 d, .int .i64 n, .int .i64 td, .int .i64 tn, .int .i64 v]) ∧ DrawnO kd d n td tn v ∧ a1 ≤ a + 6 ∧ Src w' b o len cap a1 ∧ But b w w' := by
  have H : Hid (Src w b o len cap a) := h
  have hbl := h.lt
  have H0 : Hid (DrO w b o len cap a (w.alloc zeroO)) := ⟨h.alloc _, (But.refl _ _).alloc _, Blk6.new w _ _ _ _ _ _ _⟩
  clear h
  go_enter Tryz.func72, Tryz.ntmps72
  go_wp2_with fail
  refine (l1Pick_any _ b o len cap a _ _ [1, 1, 2, 2, 3, 4, 5, 6, 6, 7, 8] (H0.out.src.alloc _) (by omega) hl (intsAg (w.alloc zeroO) (w.heap.size + 1) (World.size_alloc _ _)) (by omega) (by simp) (by simp)).mono ?_
  rintro e w1 ⟨kd, rfl, mk, hS, hT⟩
  have H1 : Hid (DrO w b o len cap (a + 1) w1) := (H0.out.alloc _).step hbl hS hT
  have mk' := memA mk
  clear hS hT H0 mk
  go_wp2_with fail
  refine (l1Pick_any _ b o len cap (a + 1) _ _ [0, 0, 1, 2] (H1.out.src.alloc _) (by omega) hl (intsBg w1 w1.heap.size rfl) H1.out.src.lt (by simp) (by simp)).mono ?_
  rintro e w2 ⟨d, rfl, md, hS, hT⟩
  have H2 : Hid (DrO w b o len cap (a + 1 + 1) w2) := (H1.out.alloc _).step hbl hS hT
  have md' := memB md
  clear hS hT H1 md
  go_wp2_with fail
  refine (l1Next_any _ b o len cap (a + 1 + 1) 3 H2.out.src (by omega) hl).mono ?_
  rintro e w3 ⟨n, rfl, n0, n1, hS, hT⟩
  have n3 := n1 (by omega)
  have HW3 : Hid (DrO w b o len cap (a + 1 + 1 + 1) w3) := H2.out.step hbl hS hT
  have H3 : Hid (DrB w b o len cap w3.heap.size kd d n 0 0 0 (a + 1 + 1 + 1) (w3.alloc (.cells #[.int .i64 kd, .int .i64 d, .int .i64 n, .int .i64 0, .int .i64 0, .int .i64 0] 125))) := ⟨HW3.out.alloc _, Blk6.new w3 _ _ _ _ _ _ _, HW3.out.res.lt⟩
  clear hS hT H2 n1
  obtain ⟨⟨q0, q1, q2, q3, q4, q5⟩, p0, p1, p2, p3, p4, p5⟩ := HW3.out.res
  have hwl := HW3.out.res.lt
  rcases (show kd = 4 ∨ kd = 5 ∨ kd = 6 ∨ (kd ≠ 4 ∧ kd ≠ 5 ∧ kd ≠ 6) by omega) with rfl | rfl | rfl | ⟨k4, k5, k6⟩
  · obtain ⟨⟨c0, c1, c2, c3, c4, c5⟩, f0, f1, f2, f3, f4, f5⟩ := H3.out.box
    obtain ⟨⟨r0, r1, r2, r3, r4, r5⟩, g0, g1, g2, g3, g4, g5⟩ := H3.out.dr.res
    have hgl := H3.out.lt
    go_wp2_with fail
    refine (l1Pick_any _ b o len cap (a + 1 + 1 + 1) _ _ [0, 0, 1, 2] (H3.out.dr.src.alloc _) (by omega) hl (intsBg (w3.alloc (.cells #[.int .i64 4, .int .i64 d, .int .i64 n, .int .i64 0, .int .i64 0, .int .i64 0] 125)) (w3.heap.size + 1) (World.size_alloc _ _)) (by omega) (by simp) (by simp)).mono ?_
    rintro e w4 ⟨td, rfl, mtd, hS, hT⟩
    have H4 : Hid (DrB w b o len cap w3.heap.size 4 d n 0 0 0 (a + 1 + 1 + 1 + 1) w4) := (H3.out.alloc _).step hbl hS hT
    clear c0 c1 c2 c3 c4 c5 f0 f1 f2 f3 f4 f5 r0 r1 r2 r3 r4 r5 g0 g1 g2 g3 g4 g5
    clear hS hT H3 hgl
    obtain ⟨⟨c0, c1, c2, c3, c4, c5⟩, f0, f1, f2, f3, f4, f5⟩ := H4.out.box
    obtain ⟨⟨r0, r1, r2, r3, r4, r5⟩, g0, g1, g2, g3, g4, g5⟩ := H4.out.dr.res
    have hgl := H4.out.lt
    have H5 : Hid (DrB w b o len cap w3.heap.size 4 d n td 0 0 (a + 1 + 1 + 1 + 1) (w4.setCell ⟨w3.heap.size, 3, none⟩ (.int .i64 td))) := H4.out.put34 H.out td 3 (Or.inl rfl)
    go_wp2_with fail
    refine (l1Next_any _ b o len cap (a + 1 + 1 + 1 + 1) 4 H5.out.dr.src (by omega) hl).mono ?_
    rintro e w5 ⟨tn, rfl, tn0, tn1, hS, hT⟩
    have H6 : Hid (DrB w b o len cap w3.heap.size 4 d n td 0 0 (a + 1 + 1 + 1 + 1 + 1) w5) := H5.out.step hbl hS hT
    clear c0 c1 c2 c3 c4 c5 f0 f1 f2 f3 f4 f5 r0 r1 r2 r3 r4 r5 g0 g1 g2 g3 g4 g5
    clear hS hT H4 H5 hgl
    obtain ⟨⟨c0, c1, c2, c3, c4, c5⟩, f0, f1, f2, f3, f4, f5⟩ := H6.out.box
    obtain ⟨⟨r0, r1, r2, r3, r4, r5⟩, g0, g1, g2, g3, g4, g5⟩ := H6.out.dr.res
    have hgl := H6.out.lt
    have H7 : Hid (DrB w b o len cap w3.heap.size 4 d n td tn 0 (a + 1 + 1 + 1 + 1 + 1) (w5.setCell ⟨w3.heap.size, 4, none⟩ (.int .i64 tn))) := H6.out.put34 H.out tn 4 (Or.inr (Or.inl rfl))
    have tn4 := tn1 (by omega)
    have mtd' := memB mtd
    have HD : Hid (DrawnO 4 d n td tn 0) := ⟨by omega, md', ⟨n0, by omega⟩, Or.inl ⟨by omega, mtd', tn0, by omega⟩, Or.inr rfl⟩
    clear mtd H6
    have KL := hidPln (H7.out.dr.res.putAll (.int .i64 4) (.int .i64 d) (.int .i64 n) (.int .i64 td) (.int .i64 tn) (.int .i64 0))
    obtain ⟨⟨c0, c1, c2, c3, c4, c5⟩, f0, f1, f2, f3, f4, f5⟩ := H7.out.box
    obtain ⟨⟨r0, r1, r2, r3, r4, r5⟩, g0, g1, g2, g3, g4, g5⟩ := H7.out.dr.res
    have hgl := H7.out.lt
    go_wp2
    obtain ⟨⟨e0, e1, e2, e3, e4, e5⟩, _⟩ := KL.out
    refine bodyPost_ret (v := .agg #[.int .i64 4, .int .i64 d, .int .i64 n, .int .i64 td, .int .i64 tn, .int .i64 0]) (by simp [results, Tryz.results72, go_sem, e0, e1, e2, e3, e4, e5]) rfl ?_
    exact ⟨_, _, _, _, _, _, _, rfl, HD.out, by omega, H7.out.dr.fin H.out _ _ _ _ _ _⟩
  · obtain ⟨⟨c0, c1, c2, c3, c4, c5⟩, f0, f1, f2, f3, f4, f5⟩ := H3.out.box
    obtain ⟨⟨r0, r1, r2, r3, r4, r5⟩, g0, g1, g2, g3, g4, g5⟩ := H3.out.dr.res
    have hgl := H3.out.lt
    go_wp2_with fail
    refine (l1Pick_any _ b o len cap (a + 1 + 1 + 1) _ _ [0, 0, 1, 2] (H3.out.dr.src.alloc _) (by omega) hl (intsBg (w3.alloc (.cells #[.int .i64 5, .int .i64 d, .int .i64 n, .int .i64 0, .int .i64 0, .int .i64 0] 125)) (w3.heap.size + 1) (World.size_alloc _ _)) (by omega) (by simp) (by simp)).mono ?_
    rintro e w4 ⟨td, rfl, mtd, hS, hT⟩
    have H4 : Hid (DrB w b o len cap w3.heap.size 5 d n 0 0 0 (a + 1 + 1 + 1 + 1) w4) := (H3.out.alloc _).step hbl hS hT
    clear c0 c1 c2 c3 c4 c5 f0 f1 f2 f3 f4 f5 r0 r1 r2 r3 r4 r5 g0 g1 g2 g3 g4 g5
    clear hS hT H3 hgl
    obtain ⟨⟨c0, c1, c2, c3, c4, c5⟩, f0, f1, f2, f3, f4, f5⟩ := H4.out.box
    obtain ⟨⟨r0, r1, r2, r3, r4, r5⟩, g0, g1, g2, g3, g4, g5⟩ := H4.out.dr.res
    have hgl := H4.out.lt
    have H5 : Hid (DrB w b o len cap w3.heap.size 5 d n td 0 0 (a + 1 + 1 + 1 + 1) (w4.setCell ⟨w3.heap.size, 3, none⟩ (.int .i64 td))) := H4.out.put34 H.out td 3 (Or.inl rfl)
    go_wp2_with fail
    refine (l1Next_any _ b o len cap (a + 1 + 1 + 1 + 1) 4 H5.out.dr.src (by omega) hl).mono ?_
    rintro e w5 ⟨tn, rfl, tn0, tn1, hS, hT⟩
    have H6 : Hid (DrB w b o len cap w3.heap.size 5 d n td 0 0 (a + 1 + 1 + 1 + 1 + 1) w5) := H5.out.step hbl hS hT
    clear c0 c1 c2 c3 c4 c5 f0 f1 f2 f3 f4 f5 r0 r1 r2 r3 r4 r5 g0 g1 g2 g3 g4 g5
    clear hS hT H4 H5 hgl
    obtain ⟨⟨c0, c1, c2, c3, c4, c5⟩, f0, f1, f2, f3, f4, f5⟩ := H6.out.box
    obtain ⟨⟨r0, r1, r2, r3, r4, r5⟩, g0, g1, g2, g3, g4, g5⟩ := H6.out.dr.res
    have hgl := H6.out.lt
    have H7 : Hid (DrB w b o len cap w3.heap.size 5 d n td tn 0 (a + 1 + 1 + 1 + 1 + 1) (w5.setCell ⟨w3.heap.size, 4, none⟩ (.int .i64 tn))) := H6.out.put34 H.out tn 4 (Or.inr (Or.inl rfl))
    have tn4 := tn1 (by omega)
    have mtd' := memB mtd
    have HD : Hid (DrawnO 5 d n td tn 0) := ⟨by omega, md', ⟨n0, by omega⟩, Or.inl ⟨by omega, mtd', tn0, by omega⟩, Or.inr rfl⟩
    clear mtd H6
    have KL := hidPln (H7.out.dr.res.putAll (.int .i64 5) (.int .i64 d) (.int .i64 n) (.int .i64 td) (.int .i64 tn) (.int .i64 0))
    obtain ⟨⟨c0, c1, c2, c3, c4, c5⟩, f0, f1, f2, f3, f4, f5⟩ := H7.out.box
    obtain ⟨⟨r0, r1, r2, r3, r4, r5⟩, g0, g1, g2, g3, g4, g5⟩ := H7.out.dr.res
    have hgl := H7.out.lt
    go_wp2
    obtain ⟨⟨e0, e1, e2, e3, e4, e5⟩, _⟩ := KL.out
    refine bodyPost_ret (v := .agg #[.int .i64 5, .int .i64 d, .int .i64 n, .int .i64 td, .int .i64 tn, .int .i64 0]) (by simp [results, Tryz.results72, go_sem, e0, e1, e2, e3, e4, e5]) rfl ?_
    exact ⟨_, _, _, _, _, _, _, rfl, HD.out, by omega, H7.out.dr.fin H.out _ _ _ _ _ _⟩
  · go_wp2_with fail
    refine (l1Next_any _ b o len cap (a + 1 + 1 + 1) 99 H3.out.dr.src (by omega) hl).mono ?_
    rintro e w4 ⟨v, rfl, v0, v1, hS, hT⟩
    have H4 : Hid (DrB w b o len cap w3.heap.size 6 d n 0 0 0 (a + 1 + 1 + 1 + 1) w4) := H3.out.step hbl hS hT
    have v9 := v1 (by omega)
    clear hS hT H3 v1
    obtain ⟨⟨c0, c1, c2, c3, c4, c5⟩, f0, f1, f2, f3, f4, f5⟩ := H4.out.box
    obtain ⟨⟨r0, r1, r2, r3, r4, r5⟩, g0, g1, g2, g3, g4, g5⟩ := H4.out.dr.res
    have hgl := H4.out.lt
    have H5 : Hid (DrB w b o len cap w3.heap.size 6 d n 0 0 v (a + 1 + 1 + 1 + 1) (w4.setCell ⟨w3.heap.size, 5, none⟩ (.int .i64 v))) := H4.out.put34 H.out v 5 (Or.inr (Or.inr rfl))
    have HD : Hid (DrawnO 6 d n 0 0 v) := ⟨by omega, md', ⟨n0, by omega⟩, Or.inr ⟨rfl, rfl⟩, Or.inl ⟨rfl, v0, by omega⟩⟩
    clear H4
    have KL := hidPln (H5.out.dr.res.putAll (.int .i64 6) (.int .i64 d) (.int .i64 n) (.int .i64 0) (.int .i64 0) (.int .i64 v))
    obtain ⟨⟨c0, c1, c2, c3, c4, c5⟩, f0, f1, f2, f3, f4, f5⟩ := H5.out.box
    obtain ⟨⟨r0, r1, r2, r3, r4, r5⟩, g0, g1, g2, g3, g4, g5⟩ := H5.out.dr.res
    have hgl := H5.out.lt
    go_wp2
    obtain ⟨⟨e0, e1, e2, e3, e4, e5⟩, _⟩ := KL.out
    refine bodyPost_ret (v := .agg #[.int .i64 6, .int .i64 d, .int .i64 n, .int .i64 0, .int .i64 0, .int .i64 v]) (by simp [results, Tryz.results72, go_sem, e0, e1, e2, e3, e4, e5]) rfl ?_
    exact ⟨_, _, _, _, _, _, _, rfl, HD.out, by omega, H5.out.dr.fin H.out _ _ _ _ _ _⟩
  · have d4 : (kd == 4) = false := by simp [k4]
    have d5 : (kd == 5) = false := by simp [k5]
    have d6 : (kd == 6) = false := by simp [k6]
    have HD : Hid (DrawnO kd d n 0 0 0) := ⟨mk', md', ⟨n0, by omega⟩, Or.inr ⟨rfl, rfl⟩, Or.inr rfl⟩
    clear k4 k5 k6
    go_upto_region 2 with fail
    generalize w3.alloc (.cells #[.int .i64 kd, .int .i64 d, .int .i64 n, .int .i64 0, .int .i64 0, .int .i64 0] 125) = x3 at H3 ⊢
    clear q0 q1 q2 q3 q4 q5 p0 p1 p2 p3 p4 p5
    have KL := hidPln (H3.out.dr.res.putAll (.int .i64 kd) (.int .i64 d) (.int .i64 n) (.int .i64 0) (.int .i64 0) (.int .i64 0))
    obtain ⟨⟨c0, c1, c2, c3, c4, c5⟩, f0, f1, f2, f3, f4, f5⟩ := H3.out.box
    obtain ⟨⟨r0, r1, r2, r3, r4, r5⟩, g0, g1, g2, g3, g4, g5⟩ := H3.out.dr.res
    have hgl := H3.out.lt
    go_wp2
    obtain ⟨⟨e0, e1, e2, e3, e4, e5⟩, _⟩ := KL.out
    refine bodyPost_ret (v := .agg #[.int .i64 kd, .int .i64 d, .int .i64 n, .int .i64 0, .int .i64 0, .int .i64 0]) (by simp [results, Tryz.results72, go_sem, e0, e1, e2, e3, e4, e5]) rfl ?_
    exact ⟨_, _, _, _, _, _, _, rfl, HD.out, by omega, H3.out.dr.fin H.out _ _ _ _ _ _⟩
end Go.Proofs.YtbpppaolcgibnaaGreatDoor

namespace Go.Proofs.YtbpppaolcgibnaaGreatDoor
open Go.RowKit

theorem field_plan4 (a b c d e : Value) (w : World) : (Instr.field 122 (.agg #[a, b, c, d, e]) 4).run Tryz.prog w = .ok e w := by kernel_rfl
theorem DrawnO.op {kd d n td tn v : Int} (h : DrawnO kd d n td tn v) : opF kd d n td tn v = 0 := by
  obtain ⟨h1, h2, h3, h4, h5⟩ := h
  exact opF_ok (decide_eq_true (by omega)) (decide_eq_true (by omega))
theorem Own.butD {x x' w : World} {b : Nat} {e : TypeId} {m n : Nat} {F : Nat → Int} {v : Value} (h : Own x w.heap.size e m n F v) (hT : But b x x') (hb : b < w.heap.size) : Own x' w.heap.size e m n F v :=
  h.keptT (fun k hk => hT.block k (own_in h k hk).2 (fun q => by have := (own_in h k hk).1; cases q; omega))
/-- What stands while a view grows. -/
def VwG (w : World) (b : Nat) (o : Option Addr) (len cap : Nat) (a : Int) (L : Prs) (u : Value) (x : World) : Prop := Src x b o len cap a ∧ But b w x ∧ Own x w.heap.size 35 2 L.length (rowL L) u
theorem VwG.below {w x x' : World} {b : Nat} {o : Option Addr} {len cap : Nat} {a : Int} {L : Prs} {u : Value} (h : VwG w b o len cap a L u x) (hb : Below x.heap.size x x') : VwG w b o len cap a L u x' := ⟨h.1.later hb, h.2.1.below hb, h.2.2.later hb⟩
set_option maxRecDepth 100000 in
set_option maxHeartbeats 4000000 in
theorem l13View_any (w : World) (b : Nat) (o : Option Addr) (len cap : Nat) (a : Int) (q : Nat) (h : Src w b o len cap a) (hq : q ≤ 100) (ha : a ≤ 800000) (hl : len ≤ 1048576) :
    Calls Tryz.prog 41 #[.pointer (some ⟨b, 0, none⟩), .int .i64 q] w fun e w' => ∃ (L : Prs) (ao : Option Addr) (cp : Nat) (a1 : Int), e = .returned (.slice ao L.length cp) ∧ GoodP L ∧ a1 ≤ a + 6 * q ∧ VwG w b o len cap a1 L (.slice ao L.length cp) w' := by
  have H : Hid (Src w b o len cap a) := h
  have hbl := h.lt
  have hfd := field_plan4
  clear h
  go_enter Tryz.func41, Tryz.ntmps41
  go_wp2_with fail
  refine (specEmpty_is 1 0 2 [0, 1, 1, 10, 1, 1000] _ (Or.inr ⟨by decide, rfl, rfl, rfl⟩)).mono ?_
  rintro e w1 ⟨vr, vw, rfl, ⟨_, hW, _⟩, q1⟩
  have H1 : Hid (Row w1 0 3 2 (fun p => [(0 : Int), 1, 1, 10, 1, 1000].getD p 0) vw ∧ Below w.heap.size w w1) := ⟨(OwnM.rowL hW).1.mono (Nat.zero_le _), q1⟩
  clear hW q1
  go_wp2_with fail
  refine (l11Apply_any [] (fun p => [(0 : Int), 1, 1, 10, 1, 1000].getD p 0) 2 (.slice none 0 0) vw 0 0 _ ⟨_, _, rfl, fun q => absurd q (Nat.lt_irrefl 0)⟩ H1.out.1 (by simp) (by decide) (fun i hi => by
    match i, hi with
    | 0, _ => exact ⟨by decide, by decide⟩
    | 1, _ => exact ⟨by decide, by decide⟩)).mono ?_
  rintro e w2 ⟨uo, uc, rfl, hO, q2⟩
  obtain ⟨V0, hV0⟩ : ∃ V0, applyN [] (fun p => [(0 : Int), 1, 1, 10, 1, 1000].getD p 0) 2 = V0 := ⟨_, rfl⟩
  have hg0 : GoodP V0 := by
    rw [← hV0]
    refine GoodP.apply ⟨List.Pairwise.nil, fun e he => absurd he (by simp)⟩ (fun i hi => ?_)
    match i, hi with
    | 0, _ => decide
    | 1, _ => decide
  rw [hV0] at hO ⊢
  have H2 : Hid (VwG w b o len cap a V0 (.slice uo V0.length uc) w2 ∧ GoodP V0) := ⟨⟨H.out.later (H1.out.2.trans (q2.mono H1.out.2.size)), (But.refl b w).below (H1.out.2.trans (q2.mono H1.out.2.size)), hO.mono H1.out.2.size⟩, hg0⟩
  clear hO q2 H1 hV0 hg0
  go_wp2
  go_loopw [1, 5] (fun i out wr => ∃ (k : Nat) (L : Prs) (ao : Option Addr) (cp : Nat) (a1 : Int), k ≤ q ∧ i = .int .i64 k ∧ out = .slice ao L.length cp ∧ a1 + 6 * k ≤ a + 6 * q ∧ Hid (VwG w b o len cap a1 L (.slice ao L.length cp) wr ∧ GoodP L)) (fun i _ _ => (intOf i).toNat)
  case atStart => exact ⟨q, V0, uo, uc, a, Nat.le_refl _, rfl, rfl, by omega, H2⟩
  case round =>
    clear H2
    obtain ⟨k, L, ao, cp, a1, hk, rfl, rfl, hak, HB⟩ := hrel
    obtain ⟨wa, rfl⟩ : ∃ x, x = wr := ⟨_, rfl⟩
    by_cases hlt : 0 < k
    case neg =>
      obtain rfl : k = 0 := by omega
      obtain ⟨LN, hLN⟩ : ∃ LN, L.length = LN := ⟨_, rfl⟩
      have HLN : Hid (L.length = LN) := hLN
      rw [hLN]
      clear hLN
      go_wp2
      refine bodyPost_ret (v := .slice ao LN cp) (by simp [results, Tryz.results41, go_sem]) rfl ?_
      rw [← HLN.out]
      exact ⟨L, ao, cp, a1, rfl, HB.out.2, by omega, HB.out.1⟩
    go_wp2_with fail
    refine (l13Draw_any _ b o len cap a1 HB.out.1.1 (by omega) hl).mono ?_
    rintro e w3 ⟨kd, d, n, td, tn, v, a2, rfl, hd, ha2, hS, hT⟩
    have hop := hd.op
    have hbd := op_bounds hop
    have H3 : Hid (VwG w b o len cap a2 L (.slice ao L.length cp) w3 ∧ GoodP L) := ⟨⟨hS, HB.out.1.2.1.trans hT, HB.out.1.2.2.butD hT hbl⟩, HB.out.2⟩
    have HA : Hid (a2 ≤ a1 + 6) := ha2
    clear hS hT HB hd ha2
    obtain ⟨r, vv, ys, m, W, hp⟩ : ∃ r vv ys m W, replyP L kd d n td tn v = (r, vv, ys, m, W) := ⟨_, _, _, _, _, rfl⟩
    have HI : Hid (ItemsOk m W ∧ GoodP (applyN L (fun p => W.getD p 0) m)) := by
      have i1 := (reply_items H3.out.2.vals hop).1
      have i2 := H3.out.2.applyOp hop
      unfold applyP at i2
      rw [hp] at i1 i2
      exact ⟨i1, i2⟩
    have HP : Hid (replyP L kd d n td tn v = (r, vv, ys, m, W)) := hp
    have HC : Hid (VwG w b o len cap a2 L (.slice ao L.length cp) (w3.alloc (.cells #[.int .i64 kd, .int .i64 d, .int .i64 n, .int .i64 td, .int .i64 tn, .int .i64 v] 125)) ∧ Ctx (w3.alloc (.cells #[.int .i64 kd, .int .i64 d, .int .i64 n, .int .i64 td, .int .i64 tn, .int .i64 v] 125)) L (.slice ao L.length cp) w3.heap.size 0 kd d n td tn v) := by
      have k1 := H3.out.1.below (below_alloc w3 (.cells #[.int .i64 kd, .int .i64 d, .int .i64 n, .int .i64 td, .int .i64 tn, .int .i64 v] 125))
      exact ⟨k1, ⟨k1.2.2.row.1.mono (Nat.zero_le _), by have := H3.out.2.len; omega⟩, (Blk6.new w3 _ _ _ _ _ _ _).toO, H3.out.2.vals, hbd.2.1, hbd.2.2.1, hbd.2.2.2.1, hbd.2.2.2.2⟩
    have hkd := hbd.1
    have hgl := H3.out.2
    clear hp hbd hop H3
    go_wp2_with fail
    generalize w3.alloc (.cells #[.int .i64 kd, .int .i64 d, .int .i64 n, .int .i64 td, .int .i64 tn, .int .i64 v] 125) = w4 at HC ⊢
    refine (l13Compile_is L _ w3.heap.size 0 kd d n td tn v _ HC.out.2 hkd r vv ys m W HP.out).mono ?_
    rintro e w5 ⟨pr, pw, rfl, ⟨hI, hW, _⟩, q5⟩
    obtain ⟨g1, g2, rfl⟩ := hI.form
    obtain ⟨g3, g4, rfl⟩ := hW.form
    have H5 : Hid (VwG w b o len cap a2 L (.slice ao L.length cp) (w5.alloc (.cells #[.int .i64 0, .int .i64 r, .int .i64 vv, .slice g1 ys.length g2, .slice g3 m g4] 122)) ∧ Row (w5.alloc (.cells #[.int .i64 0, .int .i64 r, .int .i64 vv, .slice g1 ys.length g2, .slice g3 m g4] 122)) 0 3 m (fun p => W.getD p 0) (.slice g3 m g4)) := ⟨(HC.out.1.below q5).below (below_alloc _ _), ((OwnM.rowL hW).1.mono (Nat.zero_le _)).alloc _⟩
    clear hW hI q5 HC HP
    by_cases hr : r = 0
    case neg =>
      have d1 : (r == 0) = false := beq_eq_false_iff_ne.2 hr
      clear hr HI
      go_wp2
      go_roundw
      case rel => exact ⟨k - 1, L, ao, cp, a2, by omega, by go_num, rfl, by have := HA.out; omega, H5.out.1, hgl⟩
      case measure => simp [intOf]; omega
    have d1 : (r == 0) = true := beq_iff_eq.2 hr
    clear hr
    go_wp2_with fail
    refine (l11Apply_any L (fun p => W.getD p 0) m _ _ w.heap.size 0 _ H5.out.1.2.2.row.1 H5.out.2 (by have := hgl.len; omega) (appliedF_zero HI.out.1.1).1 (fun i hi => (appF_zero (HI.out.1.all i hi)).2.1)).mono ?_
    rintro e w6 ⟨bo, bc, rfl, hO, q6⟩
    have H6 : Hid (VwG w b o len cap a2 (applyN L (fun p => W.getD p 0) m) (.slice bo (applyN L (fun p => W.getD p 0) m).length bc) w6 ∧ GoodP (applyN L (fun p => W.getD p 0) m)) := by
      have k1 := H5.out.1.below q6
      exact ⟨⟨k1.1, k1.2.1, hO.mono (H5.out.1.2.1.size)⟩, HI.out.2⟩
    clear hO q6 H5 HI
    go_wp2
    go_roundw
    case rel => exact ⟨k - 1, _, bo, bc, a2, by omega, by go_num, rfl, by have := HA.out; omega, H6⟩
    case measure => simp [intOf]; omega
end Go.Proofs.YtbpppaolcgibnaaGreatDoor

