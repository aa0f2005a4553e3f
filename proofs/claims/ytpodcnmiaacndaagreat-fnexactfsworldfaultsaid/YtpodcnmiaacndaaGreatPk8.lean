/-
  Own text, merged of RunD, RunG, RunE, RunW.
-/
import Derived.Test.YtpodcnmiaacndaaGreatPk7
namespace Go.Proofs.YtpodcnmiaacndaaGreat
open Go.RowKit

theorem wrap_id15 {a : Int} (h0 : -1 ≤ a) (h1 : a ≤ 100000) : IntKind.i64.wrap a = a := by simp [IntKind.wrap, IntKind.bits, IntKind.signed]; omega
set_option maxRecDepth 100000 in
set_option maxHeartbeats 2000000 in
theorem l15Fault_any (b : Nat) (nw nx bd : Int) (nr : Nat) (F : Nat → Int) (n : Nat) (S : Nat → Sto) (V : Nat → Nat → Value) (vr vs : Value) (nt : Nat) (T : Nat → Tx) (X : Nat → Value) (vt : Value) (nq : Nat) (R : Nat → Int) (vq : Value) (w : World) (h : LiesF w b nw nx bd nr F n S V vr vs nt T X vt nq R vq) (hr : nr ≤ 9223372036854775807) (hn : n ≤ 9223372036854775807) (hnt : nt ≤ 9223372036854775807) (hnq : nq ≤ 9223372036854775807) (hm : ∀ i, i < nt → (T i).m ≤ 9223372036854775807) :
    Calls Tryz.prog 27 #[.pointer (some ⟨b, 0, none⟩)] w fun e w' => e = .returned (.int .i64 (fsW nw nx bd nr F n S nt T nq R)) ∧ Below w.heap.size w w' := by
  obtain ⟨a0, c0, a1, c1, rfl, rfl⟩ := h.2.1.form
  obtain ⟨a2, c2, rfl⟩ := h.2.2.1.form
  obtain ⟨a3, c3, rfl⟩ := h.2.2.2.form
  have H : Hid (LiesF w b nw nx bd nr F n S V (.slice a0 nr c0) (.slice a1 n c1) nt T X (.slice a2 nt c2) nq R (.slice a3 nq c3)) := h
  have HM : Hid (∀ i, i < nt → (T i).m ≤ 9223372036854775807) := hm
  clear h hm
  obtain ⟨f, hf⟩ : ∃ f, worldF nw nx bd nr F n S nt T = f := ⟨_, rfl⟩
  have HF : Hid (worldF nw nx bd nr F n S nt T = f) := hf
  clear hf
  go_enter Tryz.func27, Tryz.ntmps27
  go_wp2_with fail
  refine (l10Fault_any b nw nx bd nr F n S V _ _ nt T X _ _ H.out.world hr hn hnt HM.out).mono ?_
  rw [HF.out]
  rintro e w1 ⟨rfl, q1⟩
  have B1 : Hid (Below w.heap.size w w1) := q1
  clear q1
  by_cases hz : f = 0
  case neg =>
    have d' : (f != 0) = true := bne_iff_ne.2 hz
    have E : Hid (fsW nw nx bd nr F n S nt T nq R = f) := fsW_world HF.out hz
    clear hz HF
    go_wp2
    go_ret
    exact ⟨by rw [E.out]; rfl, B1.out⟩
  subst hz
  obtain ⟨⟨p0, p1, p2, p3, p4, p5, p6⟩, _⟩ := (H.out.later B1.out).1
  by_cases h30 : 30 < nq
  · have d : decide ((30 : Int) < (nq : Int)) = true := decide_eq_true (by omega)
    have E : Hid (fsW nw nx bd nr F n S nt T nq R = 2) := fsW_many HF.out h30
    clear h30 HF
    go_wp2
    go_ret
    exact ⟨by rw [E.out]; rfl, B1.out⟩
  have d : decide ((30 : Int) < (nq : Int)) = false := decide_eq_false (by omega)
  have EW : Hid (fsW nw nx bd nr F n S nt T nq R = scan (runF nx nt R) nq) := fsW_runs HF.out h30
  have HZ : Hid (nt ≤ 16 ∧ 1 ≤ nx ∧ nx ≤ 100000) := by
    have z := worldF_zero HF.out
    have y := oFault_zero z.2.1
    exact ⟨z.2.2.2.1, by omega⟩
  have hn30 : nq ≤ 30 := by omega
  clear h30 HF
  go_wp2_with fail
  clear p0 p1 p2 p3 p4 p5 p6 d
  go_loopw [4] (fun i wr => ∃ k : Nat, k ≤ nq ∧ i = .int .i64 k ∧ Hid (scan (runF nx nt R) k = 0) ∧ Hid (Below w.heap.size w wr)) (fun i _ => nq - (intOf i).toNat)
  case atStart => exact ⟨0, Nat.zero_le _, rfl, rfl, B1⟩
  case round =>
    clear B1
    obtain ⟨k, hk, rfl, HS, HB⟩ := hrel
    have LR : Hid (LiesF wr b nw nx bd nr F n S V (.slice a0 nr c0) (.slice a1 n c1) nt T X (.slice a2 nt c2) nq R (.slice a3 nq c3)) := H.out.later HB.out
    obtain ⟨⟨p0, p1, p2, p3, p4, p5, p6⟩, _⟩ := LR.out.1
    by_cases hlt : k < nq
    case neg =>
      obtain rfl : k = nq := by omega
      have E : Hid (fsW nw nx bd nr F n S nt T k R = 0) := EW.out.trans HS.out
      go_wp2
      go_ret
      exact ⟨by rw [E.out]; rfl, HB.out⟩
    obtain ⟨g, o, rfl, _, hg, y0, y1, y2, y3, y4, y5, y6, y7, y8, y9⟩ := LR.out.2.2.2.at10 hlt
    obtain ⟨x0, hx0⟩ : ∃ x, R (k * 10) = x := ⟨_, rfl⟩
    rw [hx0] at y0
    obtain ⟨x1, hx1⟩ : ∃ x, R (k * 10 + 1) = x := ⟨_, rfl⟩
    rw [hx1] at y1
    obtain ⟨x2, hx2⟩ : ∃ x, R (k * 10 + 2) = x := ⟨_, rfl⟩
    rw [hx2] at y2
    obtain ⟨x3, hx3⟩ : ∃ x, R (k * 10 + 3) = x := ⟨_, rfl⟩
    rw [hx3] at y3
    obtain ⟨x4, hx4⟩ : ∃ x, R (k * 10 + 4) = x := ⟨_, rfl⟩
    rw [hx4] at y4
    obtain ⟨x5, hx5⟩ : ∃ x, R (k * 10 + 5) = x := ⟨_, rfl⟩
    rw [hx5] at y5
    obtain ⟨x6, hx6⟩ : ∃ x, R (k * 10 + 6) = x := ⟨_, rfl⟩
    rw [hx6] at y6
    obtain ⟨x7, hx7⟩ : ∃ x, R (k * 10 + 7) = x := ⟨_, rfl⟩
    rw [hx7] at y7
    obtain ⟨x8, hx8⟩ : ∃ x, R (k * 10 + 8) = x := ⟨_, rfl⟩
    rw [hx8] at y8
    obtain ⟨x9, hx9⟩ : ∃ x, R (k * 10 + 9) = x := ⟨_, rfl⟩
    rw [hx9] at y9
    have HX : Hid (R (k * 10) = x0 ∧ R (k * 10 + 1) = x1 ∧ R (k * 10 + 2) = x2 ∧ R (k * 10 + 3) = x3 ∧ R (k * 10 + 4) = x4 ∧ R (k * 10 + 5) = x5 ∧ R (k * 10 + 6) = x6 ∧ R (k * 10 + 7) = x7 ∧ R (k * 10 + 8) = x8 ∧ R (k * 10 + 9) = x9) := ⟨hx0, hx1, hx2, hx3, hx4, hx5, hx6, hx7, hx8, hx9⟩
    clear hx0 hx1 hx2 hx3 hx4 hx5 hx6 hx7 hx8 hx9
    obtain ⟨f, hf⟩ : ∃ f, opF x0 x1 x2 x3 x4 x5 = f := ⟨_, rfl⟩
    have HF : Hid (opF x0 x1 x2 x3 x4 x5 = f) := hf
    clear hf
    have HO : Hid (opF (R (k * 10)) (R (k * 10 + 1)) (R (k * 10 + 2)) (R (k * 10 + 3)) (R (k * 10 + 4)) (R (k * 10 + 5)) = f) := by
      obtain ⟨e0, e1, e2, e3, e4, e5, e6, e7, e8, e9⟩ := HX.out
      show opF (R (k * 10)) (R (k * 10 + 1)) (R (k * 10 + 2)) (R (k * 10 + 3)) (R (k * 10 + 4)) (R (k * 10 + 5)) = f
      rw [e0, e1, e2, e3, e4, e5]
      exact HF.out
    have HFT : Hid (Fits nx nt (R (k * 10 + 6)) (R (k * 10 + 7)) (R (k * 10 + 8)) (R (k * 10 + 9)) ↔ Fits nx nt x6 x7 x8 x9) := by
      obtain ⟨e0, e1, e2, e3, e4, e5, e6, e7, e8, e9⟩ := HX.out
      show Fits nx nt (R (k * 10 + 6)) (R (k * 10 + 7)) (R (k * 10 + 8)) (R (k * 10 + 9)) ↔ _
      rw [e6, e7, e8, e9]
    have K0 : Hid (Blk10 (wr.alloc (.cells #[.int .i64 x0, .int .i64 x1, .int .i64 x2, .int .i64 x3, .int .i64 x4, .int .i64 x5, .int .i64 x6, .int .i64 x7, .int .i64 x8, .int .i64 x9] 74)) wr.heap.size (.int .i64 x0) (.int .i64 x1) (.int .i64 x2) (.int .i64 x3) (.int .i64 x4) (.int .i64 x5) (.int .i64 x6) (.int .i64 x7) (.int .i64 x8) (.int .i64 x9)) := Blk10.new wr _ _ _ _ _ _ _ _ _ _ _
    go_wp2_with fail
    refine (specFsOp_any x0 x1 x2 x3 x4 x5 _).mono ?_
    rw [HF.out]
    rintro e w2 ⟨rfl, q2⟩
    have B2 : Hid (Below w.heap.size w w2) := (HB.out.alloc HB.out.size _).trans (q2.mono (by simp; have := HB.out.size; omega))
    have K2 : Hid (Blk10 w2 wr.heap.size (.int .i64 x0) (.int .i64 x1) (.int .i64 x2) (.int .i64 x3) (.int .i64 x4) (.int .i64 x5) (.int .i64 x6) (.int .i64 x7) (.int .i64 x8) (.int .i64 x9)) := K0.out.later q2
    clear q2 HB LR K0 p0 p1 p2 p3 p4 p5 p6 y0 y1 y2 y3 y4 y5 y6 y7 y8 y9
    by_cases hz : f = 0
    case neg =>
      have d' : (f != 0) = true := bne_iff_ne.2 hz
      have E : Hid (fsW nw nx bd nr F n S nt T nq R = f) := by
        have h1 : runF nx nt R k = f := runF_op HO.out hz
        exact EW.out.trans ((scan_stop HS.out (by rw [h1]; exact hz) hlt).trans h1)
      clear hz HF HS EW
      go_wp2
      go_ret
      exact ⟨by rw [E.out]; rfl, B2.out⟩
    subst hz
    have hnt16 : nt ≤ 16 := HZ.out.1
    have hnx1 : 1 ≤ nx := HZ.out.2.1
    have hnx2 : nx ≤ 100000 := HZ.out.2.2
    have HW1 : Hid (IntKind.i64.wrap ((nt : Int) - 1) = (nt : Int) - 1) := wrap_id15 (by omega) (by omega)
    have HW2 : Hid (IntKind.i64.wrap (nx - 1) = nx - 1) := wrap_id15 (by omega) (by omega)
    have h0 : S15 w b wr.heap.size nx (.slice a2 nt c2) x6 x7 x8 x9 w2.drew := by
      obtain ⟨⟨p0, p1, p2, p3, p4, p5, p6⟩, _⟩ := (H.out.later B2.out).1
      obtain ⟨⟨y0, y1, y2, y3, y4, y5, y6, y7, y8, y9⟩, _⟩ := K2.out
      exact ⟨⟨p1, p5, y6, y7, y8, y9⟩, B2.out.drew⟩
    by_cases c0 : -1 ≤ x6 ∧ x6 ≤ (nt : Int) - 1
    case neg =>
      have D1 : Hid (decide (-1 ≤ x6 ∧ x6 ≤ (nt : Int) - 1) = false) := decide_eq_false c0
      have E : Hid (fsW nw nx bd nr F n S nt T nq R = 3) := by
        have h1 : runF nx nt R k = 3 := runF_no HO.out (fun q => c0 ((HFT.out.1 q).1))
        exact EW.out.trans ((scan_stop HS.out (by rw [h1]; decide) hlt).trans h1)
      clear c0 HF HS EW HO HFT HX
      go_wp2_with fail
      refine wp_region_held_drew (S := S15 w b wr.heap.size nx (.slice a2 nt c2) x6 x7 x8 x9) (by kernel_rfl) h0 (fun hS => ?_)
      clear h0 B2 K2
      refine tkH 0 ?_ hS (fun wx hx => ?_) ?_; rotate_left
      · obtain ⟨⟨hx0, hx1, hx2, hx3, hx4, hx5⟩, _⟩ := hx; go_simp; try with_reducible rfl
      refine tkH 1 ?_ hS (fun wx hx => ?_) ?_; rotate_left
      · obtain ⟨⟨hx0, hx1, hx2, hx3, hx4, hx5⟩, _⟩ := hx; go_simp; try with_reducible rfl
      refine tkH 2 ?_ hS (fun wx hx => ?_) ?_; rotate_left
      · obtain ⟨⟨hx0, hx1, hx2, hx3, hx4, hx5⟩, _⟩ := hx; go_simp; try with_reducible rfl
      refine tkH 3 ?_ hS (fun wx hx => ?_) ?_; rotate_left
      · obtain ⟨⟨hx0, hx1, hx2, hx3, hx4, hx5⟩, _⟩ := hx; go_simp; try with_reducible rfl
      refine tkH 4 ?_ hS (fun wx hx => ?_) ?_; rotate_left
      · obtain ⟨⟨hx0, hx1, hx2, hx3, hx4, hx5⟩, _⟩ := hx; go_simp; try with_reducible rfl
      refine tkH 5 ?_ hS (fun wx hx => ?_) ?_; rotate_left
      · obtain ⟨⟨hx0, hx1, hx2, hx3, hx4, hx5⟩, _⟩ := hx; go_simp; try with_reducible rfl
      refine tkH 6 ?_ hS (fun wx hx => ?_) ?_; rotate_left
      · obtain ⟨⟨hx0, hx1, hx2, hx3, hx4, hx5⟩, _⟩ := hx; go_simp; try with_reducible rfl
      refine tkH 7 ?_ hS (fun wx hx => ?_) ?_; rotate_left
      · obtain ⟨⟨hx0, hx1, hx2, hx3, hx4, hx5⟩, _⟩ := hx; go_simp; try with_reducible rfl
      refine tkH 8 ?_ hS (fun wx hx => ?_) ?_; rotate_left
      · obtain ⟨⟨hx0, hx1, hx2, hx3, hx4, hx5⟩, _⟩ := hx; go_simp; try with_reducible rfl
      refine rdH 9 (fun K hK => ?_)
      go_simp
      go_wp2_with fail
      try rw [HW1.out]
      try rw [HW2.out]
      refine (inT_is _ _ _ _ D1.out _).mono ?_
      rintro e w9 ⟨rfl, hw9⟩
      obtain rfl := hw9.symm
      go_wp2_with fail
      refine hK.out _ _ hS (fun hS => ?_)
      clear hK K
      refine tkH 10 ?_ hS (fun wx hx => ?_) ?_; rotate_left
      · obtain ⟨⟨hx0, hx1, hx2, hx3, hx4, hx5⟩, _⟩ := hx; go_simp; try with_reducible rfl
      refine tkH 11 ?_ hS (fun wx hx => ?_) ?_; rotate_left
      · obtain ⟨⟨hx0, hx1, hx2, hx3, hx4, hx5⟩, _⟩ := hx; go_simp; try with_reducible rfl
      try simp only [Act.put, List.getElem_toArray, List.getElem_cons_zero, List.getElem_cons_succ, List.setIfInBounds_toArray, List.set_cons_succ, List.set_cons_zero]
      refine noH 12 hS ?_
      refine noH 13 hS ?_
      refine noH 14 hS ?_
      refine noH 15 hS ?_
      refine noH 16 hS ?_
      refine noH 17 hS ?_
      refine noH 18 hS ?_
      refine noH 19 hS ?_
      refine noH 20 hS ?_
      refine noH 21 hS ?_
      refine noH 22 hS ?_
      refine tkH 23 ?_ hS (fun wx hx => ?_) ?_; rotate_left
      · obtain ⟨⟨hx0, hx1, hx2, hx3, hx4, hx5⟩, _⟩ := hx; go_simp; try with_reducible rfl
      refine tkH 24 ?_ hS (fun wx hx => ?_) ?_; rotate_left
      · obtain ⟨⟨hx0, hx1, hx2, hx3, hx4, hx5⟩, _⟩ := hx; go_simp; try with_reducible rfl
      refine noH 25 hS ?_
      refine noH 26 hS ?_
      refine noH 27 hS ?_
      refine noH 28 hS ?_
      refine tkH 29 ?_ hS (fun wx hx => ?_) ?_; rotate_left
      · obtain ⟨⟨hx0, hx1, hx2, hx3, hx4, hx5⟩, _⟩ := hx; go_simp; try with_reducible rfl
      refine tkH 30 ?_ hS (fun wx hx => ?_) ?_; rotate_left
      · obtain ⟨⟨hx0, hx1, hx2, hx3, hx4, hx5⟩, _⟩ := hx; go_simp; try with_reducible rfl
      refine noH 31 hS ?_
      refine noH 32 hS ?_
      refine noH 33 hS ?_
      refine noH 34 hS ?_
      refine tkH 35 ?_ hS (fun wx hx => ?_) ?_; rotate_left
      · obtain ⟨⟨hx0, hx1, hx2, hx3, hx4, hx5⟩, _⟩ := hx; go_simp; try with_reducible rfl
      refine wpAnyH_done (by kernel_rfl) ?_ _
      go_simp
      have BB : Hid (Below w.heap.size w w2.drew) := hS.2
      clear hS
      go_wp2
      go_ret
      exact ⟨by rw [E.out]; rfl, BB.out⟩
    have D1 : Hid (decide (-1 ≤ x6 ∧ x6 ≤ (nt : Int) - 1) = true) := decide_eq_true c0
    by_cases c1 : 1 ≤ x7 ∧ x7 ≤ nx - 1
    case neg =>
      have D2 : Hid (decide (1 ≤ x7 ∧ x7 ≤ nx - 1) = false) := decide_eq_false c1
      have E : Hid (fsW nw nx bd nr F n S nt T nq R = 3) := by
        have h1 : runF nx nt R k = 3 := runF_no HO.out (fun q => c1 ((HFT.out.1 q).2.1))
        exact EW.out.trans ((scan_stop HS.out (by rw [h1]; decide) hlt).trans h1)
      clear c0 c1 HF HS EW HO HFT HX
      go_wp2_with fail
      refine wp_region_held_drew (S := S15 w b wr.heap.size nx (.slice a2 nt c2) x6 x7 x8 x9) (by kernel_rfl) h0 (fun hS => ?_)
      clear h0 B2 K2
      refine tkH 0 ?_ hS (fun wx hx => ?_) ?_; rotate_left
      · obtain ⟨⟨hx0, hx1, hx2, hx3, hx4, hx5⟩, _⟩ := hx; go_simp; try with_reducible rfl
      refine tkH 1 ?_ hS (fun wx hx => ?_) ?_; rotate_left
      · obtain ⟨⟨hx0, hx1, hx2, hx3, hx4, hx5⟩, _⟩ := hx; go_simp; try with_reducible rfl
      refine tkH 2 ?_ hS (fun wx hx => ?_) ?_; rotate_left
      · obtain ⟨⟨hx0, hx1, hx2, hx3, hx4, hx5⟩, _⟩ := hx; go_simp; try with_reducible rfl
      refine tkH 3 ?_ hS (fun wx hx => ?_) ?_; rotate_left
      · obtain ⟨⟨hx0, hx1, hx2, hx3, hx4, hx5⟩, _⟩ := hx; go_simp; try with_reducible rfl
      refine tkH 4 ?_ hS (fun wx hx => ?_) ?_; rotate_left
      · obtain ⟨⟨hx0, hx1, hx2, hx3, hx4, hx5⟩, _⟩ := hx; go_simp; try with_reducible rfl
      refine tkH 5 ?_ hS (fun wx hx => ?_) ?_; rotate_left
      · obtain ⟨⟨hx0, hx1, hx2, hx3, hx4, hx5⟩, _⟩ := hx; go_simp; try with_reducible rfl
      refine tkH 6 ?_ hS (fun wx hx => ?_) ?_; rotate_left
      · obtain ⟨⟨hx0, hx1, hx2, hx3, hx4, hx5⟩, _⟩ := hx; go_simp; try with_reducible rfl
      refine tkH 7 ?_ hS (fun wx hx => ?_) ?_; rotate_left
      · obtain ⟨⟨hx0, hx1, hx2, hx3, hx4, hx5⟩, _⟩ := hx; go_simp; try with_reducible rfl
      refine tkH 8 ?_ hS (fun wx hx => ?_) ?_; rotate_left
      · obtain ⟨⟨hx0, hx1, hx2, hx3, hx4, hx5⟩, _⟩ := hx; go_simp; try with_reducible rfl
      refine rdH 9 (fun K hK => ?_)
      go_simp
      go_wp2_with fail
      try rw [HW1.out]
      try rw [HW2.out]
      refine (inT_is _ _ _ _ D1.out _).mono ?_
      rintro e w9 ⟨rfl, hw9⟩
      obtain rfl := hw9.symm
      go_wp2_with fail
      refine hK.out _ _ hS (fun hS => ?_)
      clear hK K
      refine tkH 10 ?_ hS (fun wx hx => ?_) ?_; rotate_left
      · obtain ⟨⟨hx0, hx1, hx2, hx3, hx4, hx5⟩, _⟩ := hx; go_simp; try with_reducible rfl
      refine tkH 11 ?_ hS (fun wx hx => ?_) ?_; rotate_left
      · obtain ⟨⟨hx0, hx1, hx2, hx3, hx4, hx5⟩, _⟩ := hx; go_simp; try with_reducible rfl
      try simp only [Act.put, List.getElem_toArray, List.getElem_cons_zero, List.getElem_cons_succ, List.setIfInBounds_toArray, List.set_cons_succ, List.set_cons_zero]
      refine tkH 12 ?_ hS (fun wx hx => ?_) ?_; rotate_left
      · obtain ⟨⟨hx0, hx1, hx2, hx3, hx4, hx5⟩, _⟩ := hx; go_simp; try with_reducible rfl
      refine tkH 13 ?_ hS (fun wx hx => ?_) ?_; rotate_left
      · obtain ⟨⟨hx0, hx1, hx2, hx3, hx4, hx5⟩, _⟩ := hx; go_simp; try with_reducible rfl
      refine tkH 14 ?_ hS (fun wx hx => ?_) ?_; rotate_left
      · obtain ⟨⟨hx0, hx1, hx2, hx3, hx4, hx5⟩, _⟩ := hx; go_simp; try with_reducible rfl
      refine tkH 15 ?_ hS (fun wx hx => ?_) ?_; rotate_left
      · obtain ⟨⟨hx0, hx1, hx2, hx3, hx4, hx5⟩, _⟩ := hx; go_simp; try with_reducible rfl
      refine tkH 16 ?_ hS (fun wx hx => ?_) ?_; rotate_left
      · obtain ⟨⟨hx0, hx1, hx2, hx3, hx4, hx5⟩, _⟩ := hx; go_simp; try with_reducible rfl
      refine tkH 17 ?_ hS (fun wx hx => ?_) ?_; rotate_left
      · obtain ⟨⟨hx0, hx1, hx2, hx3, hx4, hx5⟩, _⟩ := hx; go_simp; try with_reducible rfl
      refine tkH 18 ?_ hS (fun wx hx => ?_) ?_; rotate_left
      · obtain ⟨⟨hx0, hx1, hx2, hx3, hx4, hx5⟩, _⟩ := hx; go_simp; try with_reducible rfl
      refine tkH 19 ?_ hS (fun wx hx => ?_) ?_; rotate_left
      · obtain ⟨⟨hx0, hx1, hx2, hx3, hx4, hx5⟩, _⟩ := hx; go_simp; try with_reducible rfl
      refine tkH 20 ?_ hS (fun wx hx => ?_) ?_; rotate_left
      · obtain ⟨⟨hx0, hx1, hx2, hx3, hx4, hx5⟩, _⟩ := hx; go_simp; try with_reducible rfl
      refine rdH 21 (fun K hK => ?_)
      go_simp
      go_wp2_with fail
      try rw [HW1.out]
      try rw [HW2.out]
      refine (inT_is _ _ _ _ D2.out _).mono ?_
      rintro e w9 ⟨rfl, hw9⟩
      obtain rfl := hw9.symm
      go_wp2_with fail
      refine hK.out _ _ hS (fun hS => ?_)
      clear hK K
      refine tkH 22 ?_ hS (fun wx hx => ?_) ?_; rotate_left
      · obtain ⟨⟨hx0, hx1, hx2, hx3, hx4, hx5⟩, _⟩ := hx; go_simp; try with_reducible rfl
      try simp only [Act.put, List.getElem_toArray, List.getElem_cons_zero, List.getElem_cons_succ, List.setIfInBounds_toArray, List.set_cons_succ, List.set_cons_zero]
      refine tkH 23 ?_ hS (fun wx hx => ?_) ?_; rotate_left
      · obtain ⟨⟨hx0, hx1, hx2, hx3, hx4, hx5⟩, _⟩ := hx; go_simp; try with_reducible rfl
      refine tkH 24 ?_ hS (fun wx hx => ?_) ?_; rotate_left
      · obtain ⟨⟨hx0, hx1, hx2, hx3, hx4, hx5⟩, _⟩ := hx; go_simp; try with_reducible rfl
      refine noH 25 hS ?_
      refine noH 26 hS ?_
      refine noH 27 hS ?_
      refine noH 28 hS ?_
      refine tkH 29 ?_ hS (fun wx hx => ?_) ?_; rotate_left
      · obtain ⟨⟨hx0, hx1, hx2, hx3, hx4, hx5⟩, _⟩ := hx; go_simp; try with_reducible rfl
      refine tkH 30 ?_ hS (fun wx hx => ?_) ?_; rotate_left
      · obtain ⟨⟨hx0, hx1, hx2, hx3, hx4, hx5⟩, _⟩ := hx; go_simp; try with_reducible rfl
      refine noH 31 hS ?_
      refine noH 32 hS ?_
      refine noH 33 hS ?_
      refine noH 34 hS ?_
      refine tkH 35 ?_ hS (fun wx hx => ?_) ?_; rotate_left
      · obtain ⟨⟨hx0, hx1, hx2, hx3, hx4, hx5⟩, _⟩ := hx; go_simp; try with_reducible rfl
      refine wpAnyH_done (by kernel_rfl) ?_ _
      go_simp
      have BB : Hid (Below w.heap.size w w2.drew) := hS.2
      clear hS
      go_wp2
      go_ret
      exact ⟨by rw [E.out]; rfl, BB.out⟩
    have D2 : Hid (decide (1 ≤ x7 ∧ x7 ≤ nx - 1) = true) := decide_eq_true c1
    by_cases c2 : 0 ≤ x8 ∧ x8 ≤ 10
    case neg =>
      have D3 : Hid (decide (0 ≤ x8 ∧ x8 ≤ 10) = false) := decide_eq_false c2
      have E : Hid (fsW nw nx bd nr F n S nt T nq R = 3) := by
        have h1 : runF nx nt R k = 3 := runF_no HO.out (fun q => c2 ((HFT.out.1 q).2.2.1))
        exact EW.out.trans ((scan_stop HS.out (by rw [h1]; decide) hlt).trans h1)
      clear c0 c1 c2 HF HS EW HO HFT HX
      go_wp2_with fail
      refine wp_region_held_drew (S := S15 w b wr.heap.size nx (.slice a2 nt c2) x6 x7 x8 x9) (by kernel_rfl) h0 (fun hS => ?_)
      clear h0 B2 K2
      refine tkH 0 ?_ hS (fun wx hx => ?_) ?_; rotate_left
      · obtain ⟨⟨hx0, hx1, hx2, hx3, hx4, hx5⟩, _⟩ := hx; go_simp; try with_reducible rfl
      refine tkH 1 ?_ hS (fun wx hx => ?_) ?_; rotate_left
      · obtain ⟨⟨hx0, hx1, hx2, hx3, hx4, hx5⟩, _⟩ := hx; go_simp; try with_reducible rfl
      refine tkH 2 ?_ hS (fun wx hx => ?_) ?_; rotate_left
      · obtain ⟨⟨hx0, hx1, hx2, hx3, hx4, hx5⟩, _⟩ := hx; go_simp; try with_reducible rfl
      refine tkH 3 ?_ hS (fun wx hx => ?_) ?_; rotate_left
      · obtain ⟨⟨hx0, hx1, hx2, hx3, hx4, hx5⟩, _⟩ := hx; go_simp; try with_reducible rfl
      refine tkH 4 ?_ hS (fun wx hx => ?_) ?_; rotate_left
      · obtain ⟨⟨hx0, hx1, hx2, hx3, hx4, hx5⟩, _⟩ := hx; go_simp; try with_reducible rfl
      refine tkH 5 ?_ hS (fun wx hx => ?_) ?_; rotate_left
      · obtain ⟨⟨hx0, hx1, hx2, hx3, hx4, hx5⟩, _⟩ := hx; go_simp; try with_reducible rfl
      refine tkH 6 ?_ hS (fun wx hx => ?_) ?_; rotate_left
      · obtain ⟨⟨hx0, hx1, hx2, hx3, hx4, hx5⟩, _⟩ := hx; go_simp; try with_reducible rfl
      refine tkH 7 ?_ hS (fun wx hx => ?_) ?_; rotate_left
      · obtain ⟨⟨hx0, hx1, hx2, hx3, hx4, hx5⟩, _⟩ := hx; go_simp; try with_reducible rfl
      refine tkH 8 ?_ hS (fun wx hx => ?_) ?_; rotate_left
      · obtain ⟨⟨hx0, hx1, hx2, hx3, hx4, hx5⟩, _⟩ := hx; go_simp; try with_reducible rfl
      refine rdH 9 (fun K hK => ?_)
      go_simp
      go_wp2_with fail
      try rw [HW1.out]
      try rw [HW2.out]
      refine (inT_is _ _ _ _ D1.out _).mono ?_
      rintro e w9 ⟨rfl, hw9⟩
      obtain rfl := hw9.symm
      go_wp2_with fail
      refine hK.out _ _ hS (fun hS => ?_)
      clear hK K
      refine tkH 10 ?_ hS (fun wx hx => ?_) ?_; rotate_left
      · obtain ⟨⟨hx0, hx1, hx2, hx3, hx4, hx5⟩, _⟩ := hx; go_simp; try with_reducible rfl
      refine tkH 11 ?_ hS (fun wx hx => ?_) ?_; rotate_left
      · obtain ⟨⟨hx0, hx1, hx2, hx3, hx4, hx5⟩, _⟩ := hx; go_simp; try with_reducible rfl
      try simp only [Act.put, List.getElem_toArray, List.getElem_cons_zero, List.getElem_cons_succ, List.setIfInBounds_toArray, List.set_cons_succ, List.set_cons_zero]
      refine tkH 12 ?_ hS (fun wx hx => ?_) ?_; rotate_left
      · obtain ⟨⟨hx0, hx1, hx2, hx3, hx4, hx5⟩, _⟩ := hx; go_simp; try with_reducible rfl
      refine tkH 13 ?_ hS (fun wx hx => ?_) ?_; rotate_left
      · obtain ⟨⟨hx0, hx1, hx2, hx3, hx4, hx5⟩, _⟩ := hx; go_simp; try with_reducible rfl
      refine tkH 14 ?_ hS (fun wx hx => ?_) ?_; rotate_left
      · obtain ⟨⟨hx0, hx1, hx2, hx3, hx4, hx5⟩, _⟩ := hx; go_simp; try with_reducible rfl
      refine tkH 15 ?_ hS (fun wx hx => ?_) ?_; rotate_left
      · obtain ⟨⟨hx0, hx1, hx2, hx3, hx4, hx5⟩, _⟩ := hx; go_simp; try with_reducible rfl
      refine tkH 16 ?_ hS (fun wx hx => ?_) ?_; rotate_left
      · obtain ⟨⟨hx0, hx1, hx2, hx3, hx4, hx5⟩, _⟩ := hx; go_simp; try with_reducible rfl
      refine tkH 17 ?_ hS (fun wx hx => ?_) ?_; rotate_left
      · obtain ⟨⟨hx0, hx1, hx2, hx3, hx4, hx5⟩, _⟩ := hx; go_simp; try with_reducible rfl
      refine tkH 18 ?_ hS (fun wx hx => ?_) ?_; rotate_left
      · obtain ⟨⟨hx0, hx1, hx2, hx3, hx4, hx5⟩, _⟩ := hx; go_simp; try with_reducible rfl
      refine tkH 19 ?_ hS (fun wx hx => ?_) ?_; rotate_left
      · obtain ⟨⟨hx0, hx1, hx2, hx3, hx4, hx5⟩, _⟩ := hx; go_simp; try with_reducible rfl
      refine tkH 20 ?_ hS (fun wx hx => ?_) ?_; rotate_left
      · obtain ⟨⟨hx0, hx1, hx2, hx3, hx4, hx5⟩, _⟩ := hx; go_simp; try with_reducible rfl
      refine rdH 21 (fun K hK => ?_)
      go_simp
      go_wp2_with fail
      try rw [HW1.out]
      try rw [HW2.out]
      refine (inT_is _ _ _ _ D2.out _).mono ?_
      rintro e w9 ⟨rfl, hw9⟩
      obtain rfl := hw9.symm
      go_wp2_with fail
      refine hK.out _ _ hS (fun hS => ?_)
      clear hK K
      refine tkH 22 ?_ hS (fun wx hx => ?_) ?_; rotate_left
      · obtain ⟨⟨hx0, hx1, hx2, hx3, hx4, hx5⟩, _⟩ := hx; go_simp; try with_reducible rfl
      try simp only [Act.put, List.getElem_toArray, List.getElem_cons_zero, List.getElem_cons_succ, List.setIfInBounds_toArray, List.set_cons_succ, List.set_cons_zero]
      refine tkH 23 ?_ hS (fun wx hx => ?_) ?_; rotate_left
      · obtain ⟨⟨hx0, hx1, hx2, hx3, hx4, hx5⟩, _⟩ := hx; go_simp; try with_reducible rfl
      refine tkH 24 ?_ hS (fun wx hx => ?_) ?_; rotate_left
      · obtain ⟨⟨hx0, hx1, hx2, hx3, hx4, hx5⟩, _⟩ := hx; go_simp; try with_reducible rfl
      refine tkH 25 ?_ hS (fun wx hx => ?_) ?_; rotate_left
      · obtain ⟨⟨hx0, hx1, hx2, hx3, hx4, hx5⟩, _⟩ := hx; go_simp; try with_reducible rfl
      refine tkH 26 ?_ hS (fun wx hx => ?_) ?_; rotate_left
      · obtain ⟨⟨hx0, hx1, hx2, hx3, hx4, hx5⟩, _⟩ := hx; go_simp; try with_reducible rfl
      refine rdH 27 (fun K hK => ?_)
      go_simp
      go_wp2_with fail
      try rw [HW1.out]
      try rw [HW2.out]
      refine (inT_is _ _ _ _ D3.out _).mono ?_
      rintro e w9 ⟨rfl, hw9⟩
      obtain rfl := hw9.symm
      go_wp2_with fail
      refine hK.out _ _ hS (fun hS => ?_)
      clear hK K
      refine tkH 28 ?_ hS (fun wx hx => ?_) ?_; rotate_left
      · obtain ⟨⟨hx0, hx1, hx2, hx3, hx4, hx5⟩, _⟩ := hx; go_simp; try with_reducible rfl
      try simp only [Act.put, List.getElem_toArray, List.getElem_cons_zero, List.getElem_cons_succ, List.setIfInBounds_toArray, List.set_cons_succ, List.set_cons_zero]
      refine tkH 29 ?_ hS (fun wx hx => ?_) ?_; rotate_left
      · obtain ⟨⟨hx0, hx1, hx2, hx3, hx4, hx5⟩, _⟩ := hx; go_simp; try with_reducible rfl
      refine tkH 30 ?_ hS (fun wx hx => ?_) ?_; rotate_left
      · obtain ⟨⟨hx0, hx1, hx2, hx3, hx4, hx5⟩, _⟩ := hx; go_simp; try with_reducible rfl
      refine noH 31 hS ?_
      refine noH 32 hS ?_
      refine noH 33 hS ?_
      refine noH 34 hS ?_
      refine tkH 35 ?_ hS (fun wx hx => ?_) ?_; rotate_left
      · obtain ⟨⟨hx0, hx1, hx2, hx3, hx4, hx5⟩, _⟩ := hx; go_simp; try with_reducible rfl
      refine wpAnyH_done (by kernel_rfl) ?_ _
      go_simp
      have BB : Hid (Below w.heap.size w w2.drew) := hS.2
      clear hS
      go_wp2
      go_ret
      exact ⟨by rw [E.out]; rfl, BB.out⟩
    have D3 : Hid (decide (0 ≤ x8 ∧ x8 ≤ 10) = true) := decide_eq_true c2
    by_cases c3 : 0 ≤ x9 ∧ x9 ≤ 9999
    case neg =>
      have D4 : Hid (decide (0 ≤ x9 ∧ x9 ≤ 9999) = false) := decide_eq_false c3
      have E : Hid (fsW nw nx bd nr F n S nt T nq R = 3) := by
        have h1 : runF nx nt R k = 3 := runF_no HO.out (fun q => c3 ((HFT.out.1 q).2.2.2))
        exact EW.out.trans ((scan_stop HS.out (by rw [h1]; decide) hlt).trans h1)
      clear c0 c1 c2 c3 HF HS EW HO HFT HX
      go_wp2_with fail
      refine wp_region_held_drew (S := S15 w b wr.heap.size nx (.slice a2 nt c2) x6 x7 x8 x9) (by kernel_rfl) h0 (fun hS => ?_)
      clear h0 B2 K2
      refine tkH 0 ?_ hS (fun wx hx => ?_) ?_; rotate_left
      · obtain ⟨⟨hx0, hx1, hx2, hx3, hx4, hx5⟩, _⟩ := hx; go_simp; try with_reducible rfl
      refine tkH 1 ?_ hS (fun wx hx => ?_) ?_; rotate_left
      · obtain ⟨⟨hx0, hx1, hx2, hx3, hx4, hx5⟩, _⟩ := hx; go_simp; try with_reducible rfl
      refine tkH 2 ?_ hS (fun wx hx => ?_) ?_; rotate_left
      · obtain ⟨⟨hx0, hx1, hx2, hx3, hx4, hx5⟩, _⟩ := hx; go_simp; try with_reducible rfl
      refine tkH 3 ?_ hS (fun wx hx => ?_) ?_; rotate_left
      · obtain ⟨⟨hx0, hx1, hx2, hx3, hx4, hx5⟩, _⟩ := hx; go_simp; try with_reducible rfl
      refine tkH 4 ?_ hS (fun wx hx => ?_) ?_; rotate_left
      · obtain ⟨⟨hx0, hx1, hx2, hx3, hx4, hx5⟩, _⟩ := hx; go_simp; try with_reducible rfl
      refine tkH 5 ?_ hS (fun wx hx => ?_) ?_; rotate_left
      · obtain ⟨⟨hx0, hx1, hx2, hx3, hx4, hx5⟩, _⟩ := hx; go_simp; try with_reducible rfl
      refine tkH 6 ?_ hS (fun wx hx => ?_) ?_; rotate_left
      · obtain ⟨⟨hx0, hx1, hx2, hx3, hx4, hx5⟩, _⟩ := hx; go_simp; try with_reducible rfl
      refine tkH 7 ?_ hS (fun wx hx => ?_) ?_; rotate_left
      · obtain ⟨⟨hx0, hx1, hx2, hx3, hx4, hx5⟩, _⟩ := hx; go_simp; try with_reducible rfl
      refine tkH 8 ?_ hS (fun wx hx => ?_) ?_; rotate_left
      · obtain ⟨⟨hx0, hx1, hx2, hx3, hx4, hx5⟩, _⟩ := hx; go_simp; try with_reducible rfl
      refine rdH 9 (fun K hK => ?_)
      go_simp
      go_wp2_with fail
      try rw [HW1.out]
      try rw [HW2.out]
      refine (inT_is _ _ _ _ D1.out _).mono ?_
      rintro e w9 ⟨rfl, hw9⟩
      obtain rfl := hw9.symm
      go_wp2_with fail
      refine hK.out _ _ hS (fun hS => ?_)
      clear hK K
      refine tkH 10 ?_ hS (fun wx hx => ?_) ?_; rotate_left
      · obtain ⟨⟨hx0, hx1, hx2, hx3, hx4, hx5⟩, _⟩ := hx; go_simp; try with_reducible rfl
      refine tkH 11 ?_ hS (fun wx hx => ?_) ?_; rotate_left
      · obtain ⟨⟨hx0, hx1, hx2, hx3, hx4, hx5⟩, _⟩ := hx; go_simp; try with_reducible rfl
      try simp only [Act.put, List.getElem_toArray, List.getElem_cons_zero, List.getElem_cons_succ, List.setIfInBounds_toArray, List.set_cons_succ, List.set_cons_zero]
      refine tkH 12 ?_ hS (fun wx hx => ?_) ?_; rotate_left
      · obtain ⟨⟨hx0, hx1, hx2, hx3, hx4, hx5⟩, _⟩ := hx; go_simp; try with_reducible rfl
      refine tkH 13 ?_ hS (fun wx hx => ?_) ?_; rotate_left
      · obtain ⟨⟨hx0, hx1, hx2, hx3, hx4, hx5⟩, _⟩ := hx; go_simp; try with_reducible rfl
      refine tkH 14 ?_ hS (fun wx hx => ?_) ?_; rotate_left
      · obtain ⟨⟨hx0, hx1, hx2, hx3, hx4, hx5⟩, _⟩ := hx; go_simp; try with_reducible rfl
      refine tkH 15 ?_ hS (fun wx hx => ?_) ?_; rotate_left
      · obtain ⟨⟨hx0, hx1, hx2, hx3, hx4, hx5⟩, _⟩ := hx; go_simp; try with_reducible rfl
      refine tkH 16 ?_ hS (fun wx hx => ?_) ?_; rotate_left
      · obtain ⟨⟨hx0, hx1, hx2, hx3, hx4, hx5⟩, _⟩ := hx; go_simp; try with_reducible rfl
      refine tkH 17 ?_ hS (fun wx hx => ?_) ?_; rotate_left
      · obtain ⟨⟨hx0, hx1, hx2, hx3, hx4, hx5⟩, _⟩ := hx; go_simp; try with_reducible rfl
      refine tkH 18 ?_ hS (fun wx hx => ?_) ?_; rotate_left
      · obtain ⟨⟨hx0, hx1, hx2, hx3, hx4, hx5⟩, _⟩ := hx; go_simp; try with_reducible rfl
      refine tkH 19 ?_ hS (fun wx hx => ?_) ?_; rotate_left
      · obtain ⟨⟨hx0, hx1, hx2, hx3, hx4, hx5⟩, _⟩ := hx; go_simp; try with_reducible rfl
      refine tkH 20 ?_ hS (fun wx hx => ?_) ?_; rotate_left
      · obtain ⟨⟨hx0, hx1, hx2, hx3, hx4, hx5⟩, _⟩ := hx; go_simp; try with_reducible rfl
      refine rdH 21 (fun K hK => ?_)
      go_simp
      go_wp2_with fail
      try rw [HW1.out]
      try rw [HW2.out]
      refine (inT_is _ _ _ _ D2.out _).mono ?_
      rintro e w9 ⟨rfl, hw9⟩
      obtain rfl := hw9.symm
      go_wp2_with fail
      refine hK.out _ _ hS (fun hS => ?_)
      clear hK K
      refine tkH 22 ?_ hS (fun wx hx => ?_) ?_; rotate_left
      · obtain ⟨⟨hx0, hx1, hx2, hx3, hx4, hx5⟩, _⟩ := hx; go_simp; try with_reducible rfl
      try simp only [Act.put, List.getElem_toArray, List.getElem_cons_zero, List.getElem_cons_succ, List.setIfInBounds_toArray, List.set_cons_succ, List.set_cons_zero]
      refine tkH 23 ?_ hS (fun wx hx => ?_) ?_; rotate_left
      · obtain ⟨⟨hx0, hx1, hx2, hx3, hx4, hx5⟩, _⟩ := hx; go_simp; try with_reducible rfl
      refine tkH 24 ?_ hS (fun wx hx => ?_) ?_; rotate_left
      · obtain ⟨⟨hx0, hx1, hx2, hx3, hx4, hx5⟩, _⟩ := hx; go_simp; try with_reducible rfl
      refine tkH 25 ?_ hS (fun wx hx => ?_) ?_; rotate_left
      · obtain ⟨⟨hx0, hx1, hx2, hx3, hx4, hx5⟩, _⟩ := hx; go_simp; try with_reducible rfl
      refine tkH 26 ?_ hS (fun wx hx => ?_) ?_; rotate_left
      · obtain ⟨⟨hx0, hx1, hx2, hx3, hx4, hx5⟩, _⟩ := hx; go_simp; try with_reducible rfl
      refine rdH 27 (fun K hK => ?_)
      go_simp
      go_wp2_with fail
      try rw [HW1.out]
      try rw [HW2.out]
      refine (inT_is _ _ _ _ D3.out _).mono ?_
      rintro e w9 ⟨rfl, hw9⟩
      obtain rfl := hw9.symm
      go_wp2_with fail
      refine hK.out _ _ hS (fun hS => ?_)
      clear hK K
      refine tkH 28 ?_ hS (fun wx hx => ?_) ?_; rotate_left
      · obtain ⟨⟨hx0, hx1, hx2, hx3, hx4, hx5⟩, _⟩ := hx; go_simp; try with_reducible rfl
      try simp only [Act.put, List.getElem_toArray, List.getElem_cons_zero, List.getElem_cons_succ, List.setIfInBounds_toArray, List.set_cons_succ, List.set_cons_zero]
      refine tkH 29 ?_ hS (fun wx hx => ?_) ?_; rotate_left
      · obtain ⟨⟨hx0, hx1, hx2, hx3, hx4, hx5⟩, _⟩ := hx; go_simp; try with_reducible rfl
      refine tkH 30 ?_ hS (fun wx hx => ?_) ?_; rotate_left
      · obtain ⟨⟨hx0, hx1, hx2, hx3, hx4, hx5⟩, _⟩ := hx; go_simp; try with_reducible rfl
      refine tkH 31 ?_ hS (fun wx hx => ?_) ?_; rotate_left
      · obtain ⟨⟨hx0, hx1, hx2, hx3, hx4, hx5⟩, _⟩ := hx; go_simp; try with_reducible rfl
      refine tkH 32 ?_ hS (fun wx hx => ?_) ?_; rotate_left
      · obtain ⟨⟨hx0, hx1, hx2, hx3, hx4, hx5⟩, _⟩ := hx; go_simp; try with_reducible rfl
      refine rdH 33 (fun K hK => ?_)
      go_simp
      go_wp2_with fail
      try rw [HW1.out]
      try rw [HW2.out]
      refine (inT_is _ _ _ _ D4.out _).mono ?_
      rintro e w9 ⟨rfl, hw9⟩
      obtain rfl := hw9.symm
      go_wp2_with fail
      refine hK.out _ _ hS (fun hS => ?_)
      clear hK K
      refine tkH 34 ?_ hS (fun wx hx => ?_) ?_; rotate_left
      · obtain ⟨⟨hx0, hx1, hx2, hx3, hx4, hx5⟩, _⟩ := hx; go_simp; try with_reducible rfl
      try simp only [Act.put, List.getElem_toArray, List.getElem_cons_zero, List.getElem_cons_succ, List.setIfInBounds_toArray, List.set_cons_succ, List.set_cons_zero]
      refine tkH 35 ?_ hS (fun wx hx => ?_) ?_; rotate_left
      · obtain ⟨⟨hx0, hx1, hx2, hx3, hx4, hx5⟩, _⟩ := hx; go_simp; try with_reducible rfl
      refine wpAnyH_done (by kernel_rfl) ?_ _
      go_simp
      have BB : Hid (Below w.heap.size w w2.drew) := hS.2
      clear hS
      go_wp2
      go_ret
      exact ⟨by rw [E.out]; rfl, BB.out⟩
    have D4 : Hid (decide (0 ≤ x9 ∧ x9 ≤ 9999) = true) := decide_eq_true c3
    have HS1 : Hid (scan (runF nx nt R) (k + 1) = 0) := scan_go HS.out (runF_ok HO.out (HFT.out.2 ⟨c0, c1, c2, c3⟩))
    clear c0 c1 c2 c3 HF HS EW HO HFT HX
    go_wp2_with fail
    refine wp_region_held_drew (S := S15 w b wr.heap.size nx (.slice a2 nt c2) x6 x7 x8 x9) (by kernel_rfl) h0 (fun hS => ?_)
    clear h0 B2 K2
    refine tkH 0 ?_ hS (fun wx hx => ?_) ?_; rotate_left
    · obtain ⟨⟨hx0, hx1, hx2, hx3, hx4, hx5⟩, _⟩ := hx; go_simp; try with_reducible rfl
    refine tkH 1 ?_ hS (fun wx hx => ?_) ?_; rotate_left
    · obtain ⟨⟨hx0, hx1, hx2, hx3, hx4, hx5⟩, _⟩ := hx; go_simp; try with_reducible rfl
    refine tkH 2 ?_ hS (fun wx hx => ?_) ?_; rotate_left
    · obtain ⟨⟨hx0, hx1, hx2, hx3, hx4, hx5⟩, _⟩ := hx; go_simp; try with_reducible rfl
    refine tkH 3 ?_ hS (fun wx hx => ?_) ?_; rotate_left
    · obtain ⟨⟨hx0, hx1, hx2, hx3, hx4, hx5⟩, _⟩ := hx; go_simp; try with_reducible rfl
    refine tkH 4 ?_ hS (fun wx hx => ?_) ?_; rotate_left
    · obtain ⟨⟨hx0, hx1, hx2, hx3, hx4, hx5⟩, _⟩ := hx; go_simp; try with_reducible rfl
    refine tkH 5 ?_ hS (fun wx hx => ?_) ?_; rotate_left
    · obtain ⟨⟨hx0, hx1, hx2, hx3, hx4, hx5⟩, _⟩ := hx; go_simp; try with_reducible rfl
    refine tkH 6 ?_ hS (fun wx hx => ?_) ?_; rotate_left
    · obtain ⟨⟨hx0, hx1, hx2, hx3, hx4, hx5⟩, _⟩ := hx; go_simp; try with_reducible rfl
    refine tkH 7 ?_ hS (fun wx hx => ?_) ?_; rotate_left
    · obtain ⟨⟨hx0, hx1, hx2, hx3, hx4, hx5⟩, _⟩ := hx; go_simp; try with_reducible rfl
    refine tkH 8 ?_ hS (fun wx hx => ?_) ?_; rotate_left
    · obtain ⟨⟨hx0, hx1, hx2, hx3, hx4, hx5⟩, _⟩ := hx; go_simp; try with_reducible rfl
    refine rdH 9 (fun K hK => ?_)
    go_simp
    go_wp2_with fail
    try rw [HW1.out]
    try rw [HW2.out]
    refine (inT_is _ _ _ _ D1.out _).mono ?_
    rintro e w9 ⟨rfl, hw9⟩
    obtain rfl := hw9.symm
    go_wp2_with fail
    refine hK.out _ _ hS (fun hS => ?_)
    clear hK K
    refine tkH 10 ?_ hS (fun wx hx => ?_) ?_; rotate_left
    · obtain ⟨⟨hx0, hx1, hx2, hx3, hx4, hx5⟩, _⟩ := hx; go_simp; try with_reducible rfl
    refine tkH 11 ?_ hS (fun wx hx => ?_) ?_; rotate_left
    · obtain ⟨⟨hx0, hx1, hx2, hx3, hx4, hx5⟩, _⟩ := hx; go_simp; try with_reducible rfl
    try simp only [Act.put, List.getElem_toArray, List.getElem_cons_zero, List.getElem_cons_succ, List.setIfInBounds_toArray, List.set_cons_succ, List.set_cons_zero]
    refine tkH 12 ?_ hS (fun wx hx => ?_) ?_; rotate_left
    · obtain ⟨⟨hx0, hx1, hx2, hx3, hx4, hx5⟩, _⟩ := hx; go_simp; try with_reducible rfl
    refine tkH 13 ?_ hS (fun wx hx => ?_) ?_; rotate_left
    · obtain ⟨⟨hx0, hx1, hx2, hx3, hx4, hx5⟩, _⟩ := hx; go_simp; try with_reducible rfl
    refine tkH 14 ?_ hS (fun wx hx => ?_) ?_; rotate_left
    · obtain ⟨⟨hx0, hx1, hx2, hx3, hx4, hx5⟩, _⟩ := hx; go_simp; try with_reducible rfl
    refine tkH 15 ?_ hS (fun wx hx => ?_) ?_; rotate_left
    · obtain ⟨⟨hx0, hx1, hx2, hx3, hx4, hx5⟩, _⟩ := hx; go_simp; try with_reducible rfl
    refine tkH 16 ?_ hS (fun wx hx => ?_) ?_; rotate_left
    · obtain ⟨⟨hx0, hx1, hx2, hx3, hx4, hx5⟩, _⟩ := hx; go_simp; try with_reducible rfl
    refine tkH 17 ?_ hS (fun wx hx => ?_) ?_; rotate_left
    · obtain ⟨⟨hx0, hx1, hx2, hx3, hx4, hx5⟩, _⟩ := hx; go_simp; try with_reducible rfl
    refine tkH 18 ?_ hS (fun wx hx => ?_) ?_; rotate_left
    · obtain ⟨⟨hx0, hx1, hx2, hx3, hx4, hx5⟩, _⟩ := hx; go_simp; try with_reducible rfl
    refine tkH 19 ?_ hS (fun wx hx => ?_) ?_; rotate_left
    · obtain ⟨⟨hx0, hx1, hx2, hx3, hx4, hx5⟩, _⟩ := hx; go_simp; try with_reducible rfl
    refine tkH 20 ?_ hS (fun wx hx => ?_) ?_; rotate_left
    · obtain ⟨⟨hx0, hx1, hx2, hx3, hx4, hx5⟩, _⟩ := hx; go_simp; try with_reducible rfl
    refine rdH 21 (fun K hK => ?_)
    go_simp
    go_wp2_with fail
    try rw [HW1.out]
    try rw [HW2.out]
    refine (inT_is _ _ _ _ D2.out _).mono ?_
    rintro e w9 ⟨rfl, hw9⟩
    obtain rfl := hw9.symm
    go_wp2_with fail
    refine hK.out _ _ hS (fun hS => ?_)
    clear hK K
    refine tkH 22 ?_ hS (fun wx hx => ?_) ?_; rotate_left
    · obtain ⟨⟨hx0, hx1, hx2, hx3, hx4, hx5⟩, _⟩ := hx; go_simp; try with_reducible rfl
    try simp only [Act.put, List.getElem_toArray, List.getElem_cons_zero, List.getElem_cons_succ, List.setIfInBounds_toArray, List.set_cons_succ, List.set_cons_zero]
    refine tkH 23 ?_ hS (fun wx hx => ?_) ?_; rotate_left
    · obtain ⟨⟨hx0, hx1, hx2, hx3, hx4, hx5⟩, _⟩ := hx; go_simp; try with_reducible rfl
    refine tkH 24 ?_ hS (fun wx hx => ?_) ?_; rotate_left
    · obtain ⟨⟨hx0, hx1, hx2, hx3, hx4, hx5⟩, _⟩ := hx; go_simp; try with_reducible rfl
    refine tkH 25 ?_ hS (fun wx hx => ?_) ?_; rotate_left
    · obtain ⟨⟨hx0, hx1, hx2, hx3, hx4, hx5⟩, _⟩ := hx; go_simp; try with_reducible rfl
    refine tkH 26 ?_ hS (fun wx hx => ?_) ?_; rotate_left
    · obtain ⟨⟨hx0, hx1, hx2, hx3, hx4, hx5⟩, _⟩ := hx; go_simp; try with_reducible rfl
    refine rdH 27 (fun K hK => ?_)
    go_simp
    go_wp2_with fail
    try rw [HW1.out]
    try rw [HW2.out]
    refine (inT_is _ _ _ _ D3.out _).mono ?_
    rintro e w9 ⟨rfl, hw9⟩
    obtain rfl := hw9.symm
    go_wp2_with fail
    refine hK.out _ _ hS (fun hS => ?_)
    clear hK K
    refine tkH 28 ?_ hS (fun wx hx => ?_) ?_; rotate_left
    · obtain ⟨⟨hx0, hx1, hx2, hx3, hx4, hx5⟩, _⟩ := hx; go_simp; try with_reducible rfl
    try simp only [Act.put, List.getElem_toArray, List.getElem_cons_zero, List.getElem_cons_succ, List.setIfInBounds_toArray, List.set_cons_succ, List.set_cons_zero]
    refine tkH 29 ?_ hS (fun wx hx => ?_) ?_; rotate_left
    · obtain ⟨⟨hx0, hx1, hx2, hx3, hx4, hx5⟩, _⟩ := hx; go_simp; try with_reducible rfl
    refine tkH 30 ?_ hS (fun wx hx => ?_) ?_; rotate_left
    · obtain ⟨⟨hx0, hx1, hx2, hx3, hx4, hx5⟩, _⟩ := hx; go_simp; try with_reducible rfl
    refine tkH 31 ?_ hS (fun wx hx => ?_) ?_; rotate_left
    · obtain ⟨⟨hx0, hx1, hx2, hx3, hx4, hx5⟩, _⟩ := hx; go_simp; try with_reducible rfl
    refine tkH 32 ?_ hS (fun wx hx => ?_) ?_; rotate_left
    · obtain ⟨⟨hx0, hx1, hx2, hx3, hx4, hx5⟩, _⟩ := hx; go_simp; try with_reducible rfl
    refine rdH 33 (fun K hK => ?_)
    go_simp
    go_wp2_with fail
    try rw [HW1.out]
    try rw [HW2.out]
    refine (inT_is _ _ _ _ D4.out _).mono ?_
    rintro e w9 ⟨rfl, hw9⟩
    obtain rfl := hw9.symm
    go_wp2_with fail
    refine hK.out _ _ hS (fun hS => ?_)
    clear hK K
    refine tkH 34 ?_ hS (fun wx hx => ?_) ?_; rotate_left
    · obtain ⟨⟨hx0, hx1, hx2, hx3, hx4, hx5⟩, _⟩ := hx; go_simp; try with_reducible rfl
    try simp only [Act.put, List.getElem_toArray, List.getElem_cons_zero, List.getElem_cons_succ, List.setIfInBounds_toArray, List.set_cons_succ, List.set_cons_zero]
    refine tkH 35 ?_ hS (fun wx hx => ?_) ?_; rotate_left
    · obtain ⟨⟨hx0, hx1, hx2, hx3, hx4, hx5⟩, _⟩ := hx; go_simp; try with_reducible rfl
    refine wpAnyH_done (by kernel_rfl) ?_ _
    go_simp
    have BB : Hid (Below w.heap.size w w2.drew) := hS.2
    clear hS
    go_wp2
    go_roundw
    case rel => exact ⟨k + 1, by omega, by go_num, HS1, BB⟩
    case measure => simp [intOf]; omega
set_option maxHeartbeats 1000000 in
theorem specFsWorldFault_any (nw nx bd : Int) (nr : Nat) (F : Nat → Int) (n : Nat) (S : Nat → Sto) (V : Nat → Nat → Value) (vr vs : Value) (nt : Nat) (T : Nat → Tx) (X : Nat → Value) (vt : Value) (nq : Nat) (R : Nat → Int) (vq : Value) (B : Nat) (w : World) (h : Grs w B nr F n S V vr vs) (hx : Txs w B nt T X vt) (hq : Row w B 10 nq R vq) (hr : nr ≤ 9223372036854775807) (hn : n ≤ 9223372036854775807) (hnt : nt ≤ 9223372036854775807) (hnq : nq ≤ 9223372036854775807) (hm : ∀ i, i < nt → (T i).m ≤ 9223372036854775807) :
    Calls Tryz.prog 8 #[.agg #[.int .i64 nw, .int .i64 nx, .int .i64 bd, vr, vs, vt, vq]] w fun e w' => e = .returned (.int .i64 (fsW nw nx bd nr F n S nt T nq R)) ∧ Below w.heap.size w w' := by
  obtain ⟨a0, c0, a1, c1, rfl, rfl⟩ := h.form
  obtain ⟨a2, c2, rfl⟩ := hx.form
  obtain ⟨a3, c3, rfl⟩ := hq.form
  have H : Hid (LiesF (w.alloc (.cells #[.int .i64 nw, .int .i64 nx, .int .i64 bd, .slice a0 nr c0, .slice a1 n c1, .slice a2 nt c2, .slice a3 nq c3] 46)) w.heap.size nw nx bd nr F n S V (.slice a0 nr c0) (.slice a1 n c1) nt T X (.slice a2 nt c2) nq R (.slice a3 nq c3)) := ⟨Blk7F.new w _ _ _ _ _ _ _ _, (h.mono (Nat.zero_le _)).alloc _, (hx.mono (Nat.zero_le _)).alloc _, (hq.mono (Nat.zero_le _)).later (below_alloc _ _)⟩
  have HM : Hid (∀ i, i < nt → (T i).m ≤ 9223372036854775807) := hm
  clear h hx hm hq
  obtain ⟨f, E⟩ : ∃ f, Hid (fsW nw nx bd nr F n S nt T nq R = f) := ⟨_, rfl⟩
  go_enter Tryz.func8, Tryz.ntmps8
  go_wp2_with fail
  refine (l15Fault_any _ nw nx bd nr F n S V _ _ nt T X _ nq R _ _ H.out hr hn hnt hnq HM.out).mono ?_
  rw [E.out]
  rintro e w1 ⟨rfl, q1⟩
  have HB : Hid (Below w.heap.size w w1) := (below_alloc _ _).trans (q1.mono (by simp))
  clear q1
  go_wp2
  go_ret
  exact ⟨by rw [E.out]; rfl, HB.out⟩
end Go.Proofs.YtpodcnmiaacndaaGreat

namespace Go.Proofs.YtpodcnmiaacndaaGreat
open Go.RowKit

set_option maxRecDepth 100000 in
set_option maxHeartbeats 2000000 in
theorem runFits_is (x0 x1 x2 x3 x4 x5 x6 x7 x8 x9 nw nx bd : Int) (u v : Value) (a2 : Option Addr) (nt c2 : Nat) (r : Bool) (hr : decide (Fits nx nt x6 x7 x8 x9) = r) (h1 : 1 ≤ nx) (h2 : nx ≤ 100000) (w : World) :
    Calls Tryz.prog 32 #[.agg #[.int .i64 x0, .int .i64 x1, .int .i64 x2, .int .i64 x3, .int .i64 x4, .int .i64 x5, .int .i64 x6, .int .i64 x7, .int .i64 x8, .int .i64 x9], .agg #[.int .i64 nw, .int .i64 nx, .int .i64 bd, u, v, .slice a2 nt c2]] w fun e w' => e = .returned (.bool r) ∧ Below w.heap.size w w' := by
  unfold Fits at hr
  have HB : Hid (Below w.heap.size w ((w.alloc (.cells #[.int .i64 x0, .int .i64 x1, .int .i64 x2, .int .i64 x3, .int .i64 x4, .int .i64 x5, .int .i64 x6, .int .i64 x7, .int .i64 x8, .int .i64 x9] 74)).alloc (.cells #[.int .i64 nw, .int .i64 nx, .int .i64 bd, u, v, .slice a2 nt c2] 43))) := (below_alloc _ _).alloc (by simp) _
  by_cases q1 : -1 ≤ x6
  case neg =>
    have a1 : decide (-1 ≤ x6) = false := decide_eq_false q1
    by_cases q3 : 1 ≤ x7 ∧ x7 ≤ 100000
    case neg =>
      have TT : Hid (decide (1 ≤ x7 ∧ x7 ≤ 100000) = false) := decide_eq_false q3
      by_cases q5 : 0 ≤ x8
      case neg =>
        have a5 : decide (0 ≤ x8) = false := decide_eq_false q5
        obtain rfl : r = false := by rw [← hr]; exact decide_eq_false (by omega)
        clear hr
        go_enter Tryz.func32, Tryz.ntmps32
        go_wp2_with fail
        refine (isTimeT_is _ _ TT.out _).mono ?_
        rintro e w9 ⟨rfl, hw9⟩
        obtain rfl := hw9.symm
        go_wp2
        go_ret
        exact ⟨rfl, HB.out⟩
      have a5 : decide (0 ≤ x8) = true := decide_eq_true q5
      by_cases q6 : x8 ≤ 10
      case neg =>
        have a6 : decide (x8 ≤ 10) = false := decide_eq_false q6
        obtain rfl : r = false := by rw [← hr]; exact decide_eq_false (by omega)
        clear hr
        go_enter Tryz.func32, Tryz.ntmps32
        go_wp2_with fail
        refine (isTimeT_is _ _ TT.out _).mono ?_
        rintro e w9 ⟨rfl, hw9⟩
        obtain rfl := hw9.symm
        go_wp2
        go_ret
        exact ⟨rfl, HB.out⟩
      have a6 : decide (x8 ≤ 10) = true := decide_eq_true q6
      obtain rfl : r = false := by rw [← hr]; exact decide_eq_false (by omega)
      clear hr
      go_enter Tryz.func32, Tryz.ntmps32
      go_wp2_with fail
      refine (isTimeT_is _ _ TT.out _).mono ?_
      rintro e w9 ⟨rfl, hw9⟩
      obtain rfl := hw9.symm
      go_wp2
      go_ret
      exact ⟨rfl, HB.out⟩
    have TT : Hid (decide (1 ≤ x7 ∧ x7 ≤ 100000) = true) := decide_eq_true q3
    by_cases q4 : x7 < nx
    case neg =>
      have a4 : decide (x7 < nx) = false := decide_eq_false q4
      by_cases q5 : 0 ≤ x8
      case neg =>
        have a5 : decide (0 ≤ x8) = false := decide_eq_false q5
        obtain rfl : r = false := by rw [← hr]; exact decide_eq_false (by omega)
        clear hr
        go_enter Tryz.func32, Tryz.ntmps32
        go_wp2_with fail
        refine (isTimeT_is _ _ TT.out _).mono ?_
        rintro e w9 ⟨rfl, hw9⟩
        obtain rfl := hw9.symm
        go_wp2
        go_ret
        exact ⟨rfl, HB.out⟩
      have a5 : decide (0 ≤ x8) = true := decide_eq_true q5
      by_cases q6 : x8 ≤ 10
      case neg =>
        have a6 : decide (x8 ≤ 10) = false := decide_eq_false q6
        obtain rfl : r = false := by rw [← hr]; exact decide_eq_false (by omega)
        clear hr
        go_enter Tryz.func32, Tryz.ntmps32
        go_wp2_with fail
        refine (isTimeT_is _ _ TT.out _).mono ?_
        rintro e w9 ⟨rfl, hw9⟩
        obtain rfl := hw9.symm
        go_wp2
        go_ret
        exact ⟨rfl, HB.out⟩
      have a6 : decide (x8 ≤ 10) = true := decide_eq_true q6
      obtain rfl : r = false := by rw [← hr]; exact decide_eq_false (by omega)
      clear hr
      go_enter Tryz.func32, Tryz.ntmps32
      go_wp2_with fail
      refine (isTimeT_is _ _ TT.out _).mono ?_
      rintro e w9 ⟨rfl, hw9⟩
      obtain rfl := hw9.symm
      go_wp2
      go_ret
      exact ⟨rfl, HB.out⟩
    have a4 : decide (x7 < nx) = true := decide_eq_true q4
    by_cases q5 : 0 ≤ x8
    case neg =>
      have a5 : decide (0 ≤ x8) = false := decide_eq_false q5
      obtain rfl : r = false := by rw [← hr]; exact decide_eq_false (by omega)
      clear hr
      go_enter Tryz.func32, Tryz.ntmps32
      go_wp2_with fail
      refine (isTimeT_is _ _ TT.out _).mono ?_
      rintro e w9 ⟨rfl, hw9⟩
      obtain rfl := hw9.symm
      go_wp2
      go_ret
      exact ⟨rfl, HB.out⟩
    have a5 : decide (0 ≤ x8) = true := decide_eq_true q5
    by_cases q6 : x8 ≤ 10
    case neg =>
      have a6 : decide (x8 ≤ 10) = false := decide_eq_false q6
      obtain rfl : r = false := by rw [← hr]; exact decide_eq_false (by omega)
      clear hr
      go_enter Tryz.func32, Tryz.ntmps32
      go_wp2_with fail
      refine (isTimeT_is _ _ TT.out _).mono ?_
      rintro e w9 ⟨rfl, hw9⟩
      obtain rfl := hw9.symm
      go_wp2
      go_ret
      exact ⟨rfl, HB.out⟩
    have a6 : decide (x8 ≤ 10) = true := decide_eq_true q6
    obtain rfl : r = false := by rw [← hr]; exact decide_eq_false (by omega)
    clear hr
    go_enter Tryz.func32, Tryz.ntmps32
    go_wp2_with fail
    refine (isTimeT_is _ _ TT.out _).mono ?_
    rintro e w9 ⟨rfl, hw9⟩
    obtain rfl := hw9.symm
    go_wp2
    go_ret
    exact ⟨rfl, HB.out⟩
  have a1 : decide (-1 ≤ x6) = true := decide_eq_true q1
  by_cases q2 : x6 < (nt : Int)
  case neg =>
    have a2 : decide (x6 < (nt : Int)) = false := decide_eq_false q2
    by_cases q3 : 1 ≤ x7 ∧ x7 ≤ 100000
    case neg =>
      have TT : Hid (decide (1 ≤ x7 ∧ x7 ≤ 100000) = false) := decide_eq_false q3
      by_cases q5 : 0 ≤ x8
      case neg =>
        have a5 : decide (0 ≤ x8) = false := decide_eq_false q5
        obtain rfl : r = false := by rw [← hr]; exact decide_eq_false (by omega)
        clear hr
        go_enter Tryz.func32, Tryz.ntmps32
        go_wp2_with fail
        refine (isTimeT_is _ _ TT.out _).mono ?_
        rintro e w9 ⟨rfl, hw9⟩
        obtain rfl := hw9.symm
        go_wp2
        go_ret
        exact ⟨rfl, HB.out⟩
      have a5 : decide (0 ≤ x8) = true := decide_eq_true q5
      by_cases q6 : x8 ≤ 10
      case neg =>
        have a6 : decide (x8 ≤ 10) = false := decide_eq_false q6
        obtain rfl : r = false := by rw [← hr]; exact decide_eq_false (by omega)
        clear hr
        go_enter Tryz.func32, Tryz.ntmps32
        go_wp2_with fail
        refine (isTimeT_is _ _ TT.out _).mono ?_
        rintro e w9 ⟨rfl, hw9⟩
        obtain rfl := hw9.symm
        go_wp2
        go_ret
        exact ⟨rfl, HB.out⟩
      have a6 : decide (x8 ≤ 10) = true := decide_eq_true q6
      obtain rfl : r = false := by rw [← hr]; exact decide_eq_false (by omega)
      clear hr
      go_enter Tryz.func32, Tryz.ntmps32
      go_wp2_with fail
      refine (isTimeT_is _ _ TT.out _).mono ?_
      rintro e w9 ⟨rfl, hw9⟩
      obtain rfl := hw9.symm
      go_wp2
      go_ret
      exact ⟨rfl, HB.out⟩
    have TT : Hid (decide (1 ≤ x7 ∧ x7 ≤ 100000) = true) := decide_eq_true q3
    by_cases q4 : x7 < nx
    case neg =>
      have a4 : decide (x7 < nx) = false := decide_eq_false q4
      by_cases q5 : 0 ≤ x8
      case neg =>
        have a5 : decide (0 ≤ x8) = false := decide_eq_false q5
        obtain rfl : r = false := by rw [← hr]; exact decide_eq_false (by omega)
        clear hr
        go_enter Tryz.func32, Tryz.ntmps32
        go_wp2_with fail
        refine (isTimeT_is _ _ TT.out _).mono ?_
        rintro e w9 ⟨rfl, hw9⟩
        obtain rfl := hw9.symm
        go_wp2
        go_ret
        exact ⟨rfl, HB.out⟩
      have a5 : decide (0 ≤ x8) = true := decide_eq_true q5
      by_cases q6 : x8 ≤ 10
      case neg =>
        have a6 : decide (x8 ≤ 10) = false := decide_eq_false q6
        obtain rfl : r = false := by rw [← hr]; exact decide_eq_false (by omega)
        clear hr
        go_enter Tryz.func32, Tryz.ntmps32
        go_wp2_with fail
        refine (isTimeT_is _ _ TT.out _).mono ?_
        rintro e w9 ⟨rfl, hw9⟩
        obtain rfl := hw9.symm
        go_wp2
        go_ret
        exact ⟨rfl, HB.out⟩
      have a6 : decide (x8 ≤ 10) = true := decide_eq_true q6
      obtain rfl : r = false := by rw [← hr]; exact decide_eq_false (by omega)
      clear hr
      go_enter Tryz.func32, Tryz.ntmps32
      go_wp2_with fail
      refine (isTimeT_is _ _ TT.out _).mono ?_
      rintro e w9 ⟨rfl, hw9⟩
      obtain rfl := hw9.symm
      go_wp2
      go_ret
      exact ⟨rfl, HB.out⟩
    have a4 : decide (x7 < nx) = true := decide_eq_true q4
    by_cases q5 : 0 ≤ x8
    case neg =>
      have a5 : decide (0 ≤ x8) = false := decide_eq_false q5
      obtain rfl : r = false := by rw [← hr]; exact decide_eq_false (by omega)
      clear hr
      go_enter Tryz.func32, Tryz.ntmps32
      go_wp2_with fail
      refine (isTimeT_is _ _ TT.out _).mono ?_
      rintro e w9 ⟨rfl, hw9⟩
      obtain rfl := hw9.symm
      go_wp2
      go_ret
      exact ⟨rfl, HB.out⟩
    have a5 : decide (0 ≤ x8) = true := decide_eq_true q5
    by_cases q6 : x8 ≤ 10
    case neg =>
      have a6 : decide (x8 ≤ 10) = false := decide_eq_false q6
      obtain rfl : r = false := by rw [← hr]; exact decide_eq_false (by omega)
      clear hr
      go_enter Tryz.func32, Tryz.ntmps32
      go_wp2_with fail
      refine (isTimeT_is _ _ TT.out _).mono ?_
      rintro e w9 ⟨rfl, hw9⟩
      obtain rfl := hw9.symm
      go_wp2
      go_ret
      exact ⟨rfl, HB.out⟩
    have a6 : decide (x8 ≤ 10) = true := decide_eq_true q6
    obtain rfl : r = false := by rw [← hr]; exact decide_eq_false (by omega)
    clear hr
    go_enter Tryz.func32, Tryz.ntmps32
    go_wp2_with fail
    refine (isTimeT_is _ _ TT.out _).mono ?_
    rintro e w9 ⟨rfl, hw9⟩
    obtain rfl := hw9.symm
    go_wp2
    go_ret
    exact ⟨rfl, HB.out⟩
  have a2 : decide (x6 < (nt : Int)) = true := decide_eq_true q2
  by_cases q3 : 1 ≤ x7 ∧ x7 ≤ 100000
  case neg =>
    have TT : Hid (decide (1 ≤ x7 ∧ x7 ≤ 100000) = false) := decide_eq_false q3
    by_cases q5 : 0 ≤ x8
    case neg =>
      have a5 : decide (0 ≤ x8) = false := decide_eq_false q5
      obtain rfl : r = false := by rw [← hr]; exact decide_eq_false (by omega)
      clear hr
      go_enter Tryz.func32, Tryz.ntmps32
      go_wp2_with fail
      refine (isTimeT_is _ _ TT.out _).mono ?_
      rintro e w9 ⟨rfl, hw9⟩
      obtain rfl := hw9.symm
      go_wp2
      go_ret
      exact ⟨rfl, HB.out⟩
    have a5 : decide (0 ≤ x8) = true := decide_eq_true q5
    by_cases q6 : x8 ≤ 10
    case neg =>
      have a6 : decide (x8 ≤ 10) = false := decide_eq_false q6
      obtain rfl : r = false := by rw [← hr]; exact decide_eq_false (by omega)
      clear hr
      go_enter Tryz.func32, Tryz.ntmps32
      go_wp2_with fail
      refine (isTimeT_is _ _ TT.out _).mono ?_
      rintro e w9 ⟨rfl, hw9⟩
      obtain rfl := hw9.symm
      go_wp2
      go_ret
      exact ⟨rfl, HB.out⟩
    have a6 : decide (x8 ≤ 10) = true := decide_eq_true q6
    obtain rfl : r = false := by rw [← hr]; exact decide_eq_false (by omega)
    clear hr
    go_enter Tryz.func32, Tryz.ntmps32
    go_wp2_with fail
    refine (isTimeT_is _ _ TT.out _).mono ?_
    rintro e w9 ⟨rfl, hw9⟩
    obtain rfl := hw9.symm
    go_wp2
    go_ret
    exact ⟨rfl, HB.out⟩
  have TT : Hid (decide (1 ≤ x7 ∧ x7 ≤ 100000) = true) := decide_eq_true q3
  by_cases q4 : x7 < nx
  case neg =>
    have a4 : decide (x7 < nx) = false := decide_eq_false q4
    by_cases q5 : 0 ≤ x8
    case neg =>
      have a5 : decide (0 ≤ x8) = false := decide_eq_false q5
      obtain rfl : r = false := by rw [← hr]; exact decide_eq_false (by omega)
      clear hr
      go_enter Tryz.func32, Tryz.ntmps32
      go_wp2_with fail
      refine (isTimeT_is _ _ TT.out _).mono ?_
      rintro e w9 ⟨rfl, hw9⟩
      obtain rfl := hw9.symm
      go_wp2
      go_ret
      exact ⟨rfl, HB.out⟩
    have a5 : decide (0 ≤ x8) = true := decide_eq_true q5
    by_cases q6 : x8 ≤ 10
    case neg =>
      have a6 : decide (x8 ≤ 10) = false := decide_eq_false q6
      obtain rfl : r = false := by rw [← hr]; exact decide_eq_false (by omega)
      clear hr
      go_enter Tryz.func32, Tryz.ntmps32
      go_wp2_with fail
      refine (isTimeT_is _ _ TT.out _).mono ?_
      rintro e w9 ⟨rfl, hw9⟩
      obtain rfl := hw9.symm
      go_wp2
      go_ret
      exact ⟨rfl, HB.out⟩
    have a6 : decide (x8 ≤ 10) = true := decide_eq_true q6
    obtain rfl : r = false := by rw [← hr]; exact decide_eq_false (by omega)
    clear hr
    go_enter Tryz.func32, Tryz.ntmps32
    go_wp2_with fail
    refine (isTimeT_is _ _ TT.out _).mono ?_
    rintro e w9 ⟨rfl, hw9⟩
    obtain rfl := hw9.symm
    go_wp2
    go_ret
    exact ⟨rfl, HB.out⟩
  have a4 : decide (x7 < nx) = true := decide_eq_true q4
  by_cases q5 : 0 ≤ x8
  case neg =>
    have a5 : decide (0 ≤ x8) = false := decide_eq_false q5
    obtain rfl : r = false := by rw [← hr]; exact decide_eq_false (by omega)
    clear hr
    go_enter Tryz.func32, Tryz.ntmps32
    go_wp2_with fail
    refine (isTimeT_is _ _ TT.out _).mono ?_
    rintro e w9 ⟨rfl, hw9⟩
    obtain rfl := hw9.symm
    go_wp2
    go_ret
    exact ⟨rfl, HB.out⟩
  have a5 : decide (0 ≤ x8) = true := decide_eq_true q5
  by_cases q6 : x8 ≤ 10
  case neg =>
    have a6 : decide (x8 ≤ 10) = false := decide_eq_false q6
    obtain rfl : r = false := by rw [← hr]; exact decide_eq_false (by omega)
    clear hr
    go_enter Tryz.func32, Tryz.ntmps32
    go_wp2_with fail
    refine (isTimeT_is _ _ TT.out _).mono ?_
    rintro e w9 ⟨rfl, hw9⟩
    obtain rfl := hw9.symm
    go_wp2
    go_ret
    exact ⟨rfl, HB.out⟩
  have a6 : decide (x8 ≤ 10) = true := decide_eq_true q6
  by_cases q7 : 0 ≤ x9 ∧ x9 ≤ 9999
  case neg =>
    have VV : Hid (decide (0 ≤ x9 ∧ x9 ≤ 9999) = false) := decide_eq_false q7
    obtain rfl : r = false := by rw [← hr]; exact decide_eq_false (by omega)
    clear hr
    go_enter Tryz.func32, Tryz.ntmps32
    go_wp2_with fail
    refine (isTimeT_is _ _ TT.out _).mono ?_
    rintro e w9 ⟨rfl, hw9⟩
    obtain rfl := hw9.symm
    go_wp2_with fail
    refine (isValueT_is _ _ VV.out _).mono ?_
    rintro e w9 ⟨rfl, hw9⟩
    obtain rfl := hw9.symm
    go_wp2
    go_ret
    exact ⟨rfl, HB.out⟩
  have VV : Hid (decide (0 ≤ x9 ∧ x9 ≤ 9999) = true) := decide_eq_true q7
  obtain rfl : r = true := by rw [← hr]; exact decide_eq_true (by omega)
  clear hr
  go_enter Tryz.func32, Tryz.ntmps32
  go_wp2_with fail
  refine (isTimeT_is _ _ TT.out _).mono ?_
  rintro e w9 ⟨rfl, hw9⟩
  obtain rfl := hw9.symm
  go_wp2_with fail
  refine (isValueT_is _ _ VV.out _).mono ?_
  rintro e w9 ⟨rfl, hw9⟩
  obtain rfl := hw9.symm
  go_wp2
  go_ret
  exact ⟨rfl, HB.out⟩
end Go.Proofs.YtpodcnmiaacndaaGreat

namespace Go.Proofs.YtpodcnmiaacndaaGreat
open Go.RowKit

set_option maxRecDepth 100000 in
set_option maxHeartbeats 2000000 in
theorem implFsWorldFault_any (nw nx bd : Int) (nr : Nat) (F : Nat → Int) (n : Nat) (S : Nat → Sto) (V : Nat → Nat → Value) (vr vs : Value) (nt : Nat) (T : Nat → Tx) (X : Nat → Value) (vt : Value) (nq : Nat) (R : Nat → Int) (vq : Value) (B : Nat) (w : World) (h : Grs w B nr F n S V vr vs) (hx : Txs w B nt T X vt) (hq : Row w B 10 nq R vq) (hr : nr ≤ 9223372036854775807) (hn : n ≤ 9223372036854775807) (hnt : nt ≤ 9223372036854775807) (hnq : nq ≤ 9223372036854775807) :
    Calls Tryz.prog 10 #[.agg #[.int .i64 nw, .int .i64 nx, .int .i64 bd, vr, vs, vt, vq]] w fun e w' => e = .returned (.int .i64 (fsW nw nx bd nr F n S nt T nq R)) ∧ Below w.heap.size w w' := by
  obtain ⟨a0, c0, a1, c1, rfl, rfl⟩ := h.form
  obtain ⟨a2, c2, rfl⟩ := hx.form
  obtain ⟨a3, c3, rfl⟩ := hq.form
  have H : Hid (LiesF (w.alloc (.cells #[.int .i64 nw, .int .i64 nx, .int .i64 bd, .slice a0 nr c0, .slice a1 n c1, .slice a2 nt c2, .slice a3 nq c3] 46)) w.heap.size nw nx bd nr F n S V (.slice a0 nr c0) (.slice a1 n c1) nt T X (.slice a2 nt c2) nq R (.slice a3 nq c3) ∧ Below w.heap.size w (w.alloc (.cells #[.int .i64 nw, .int .i64 nx, .int .i64 bd, .slice a0 nr c0, .slice a1 n c1, .slice a2 nt c2, .slice a3 nq c3] 46))) := ⟨⟨Blk7F.new w _ _ _ _ _ _ _ _, (h.mono (Nat.zero_le _)).alloc _, (hx.mono (Nat.zero_le _)).alloc _, (hq.mono (Nat.zero_le _)).later (below_alloc _ _)⟩, below_alloc _ _⟩
  clear h hx hq
  obtain ⟨f, hf⟩ : ∃ f, worldF nw nx bd nr F n S nt T = f := ⟨_, rfl⟩
  have HF : Hid (worldF nw nx bd nr F n S nt T = f) := hf
  clear hf
  go_enter Tryz.func10, Tryz.ntmps10
  go_wp2_with fail
  generalize w.alloc (.cells #[.int .i64 nw, .int .i64 nx, .int .i64 bd, .slice a0 nr c0, .slice a1 n c1, .slice a2 nt c2, .slice a3 nq c3] 46) = w0 at H ⊢
  refine (implWorldFault_any nw nx bd nr F n S V _ _ nt T X _ 0 _ H.out.1.2.1 H.out.1.2.2.1 hr hn hnt).mono ?_
  rw [HF.out]
  rintro e w1 ⟨rfl, q1⟩
  have H1 : Hid (LiesF w1 w.heap.size nw nx bd nr F n S V (.slice a0 nr c0) (.slice a1 n c1) nt T X (.slice a2 nt c2) nq R (.slice a3 nq c3) ∧ Below w.heap.size w w1) := ⟨H.out.1.later q1, H.out.2.trans (q1.mono H.out.2.size)⟩
  clear q1 H
  by_cases hz : f = 0
  case neg =>
    have d' : (f != 0) = true := bne_iff_ne.2 hz
    have E : Hid (fsW nw nx bd nr F n S nt T nq R = f) := fsW_world HF.out hz
    clear hz HF
    go_wp2
    go_ret
    exact ⟨by rw [E.out]; rfl, H1.out.2⟩
  subst hz
  obtain ⟨⟨p0, p1, p2, p3, p4, p5, p6⟩, _⟩ := H1.out.1.1
  by_cases h30 : 30 < nq
  · have d : decide ((30 : Int) < (nq : Int)) = true := decide_eq_true (by omega)
    have E : Hid (fsW nw nx bd nr F n S nt T nq R = 2) := fsW_many HF.out h30
    clear h30 HF
    go_wp2
    go_ret
    exact ⟨by rw [E.out]; rfl, H1.out.2⟩
  have d : decide ((30 : Int) < (nq : Int)) = false := decide_eq_false (by omega)
  have EW : Hid (fsW nw nx bd nr F n S nt T nq R = scan (runF nx nt R) nq) := fsW_runs HF.out h30
  have HZ : Hid (nt ≤ 16 ∧ 1 ≤ nx ∧ nx ≤ 100000) := by
    have z := worldF_zero HF.out
    have y := oFault_zero z.2.1
    exact ⟨z.2.2.2.1, by omega⟩
  have hn30 : nq ≤ 30 := by omega
  clear h30 HF
  go_wp2_with fail
  clear p0 p1 p2 p3 p4 p5 p6 d
  go_loopw [20] (fun i wr => ∃ k : Nat, k ≤ nq ∧ i = .int .i64 k ∧ Hid (scan (runF nx nt R) k = 0) ∧ Hid (LiesF wr w.heap.size nw nx bd nr F n S V (.slice a0 nr c0) (.slice a1 n c1) nt T X (.slice a2 nt c2) nq R (.slice a3 nq c3) ∧ Below w.heap.size w wr)) (fun i _ => nq - (intOf i).toNat)
  case atStart => exact ⟨0, Nat.zero_le _, rfl, rfl, H1⟩
  case round =>
    clear H1
    obtain ⟨k, hk, rfl, HS, HB⟩ := hrel
    by_cases hlt : k < nq
    case neg =>
      obtain rfl : k = nq := by omega
      have E : Hid (fsW nw nx bd nr F n S nt T k R = 0) := EW.out.trans HS.out
      go_wp2
      go_ret
      exact ⟨by rw [E.out]; rfl, HB.out.2⟩
    obtain ⟨g, o, rfl, _, hg, y0, y1, y2, y3, y4, y5, y6, y7, y8, y9⟩ := HB.out.1.2.2.2.at10 hlt
    obtain ⟨x0, hx0⟩ : ∃ x, R (k * 10) = x := ⟨_, rfl⟩
    rw [hx0] at y0
    obtain ⟨x1, hx1⟩ : ∃ x, R (k * 10 + 1) = x := ⟨_, rfl⟩
    rw [hx1] at y1
    obtain ⟨x2, hx2⟩ : ∃ x, R (k * 10 + 2) = x := ⟨_, rfl⟩
    rw [hx2] at y2
    obtain ⟨x3, hx3⟩ : ∃ x, R (k * 10 + 3) = x := ⟨_, rfl⟩
    rw [hx3] at y3
    obtain ⟨x4, hx4⟩ : ∃ x, R (k * 10 + 4) = x := ⟨_, rfl⟩
    rw [hx4] at y4
    obtain ⟨x5, hx5⟩ : ∃ x, R (k * 10 + 5) = x := ⟨_, rfl⟩
    rw [hx5] at y5
    obtain ⟨x6, hx6⟩ : ∃ x, R (k * 10 + 6) = x := ⟨_, rfl⟩
    rw [hx6] at y6
    obtain ⟨x7, hx7⟩ : ∃ x, R (k * 10 + 7) = x := ⟨_, rfl⟩
    rw [hx7] at y7
    obtain ⟨x8, hx8⟩ : ∃ x, R (k * 10 + 8) = x := ⟨_, rfl⟩
    rw [hx8] at y8
    obtain ⟨x9, hx9⟩ : ∃ x, R (k * 10 + 9) = x := ⟨_, rfl⟩
    rw [hx9] at y9
    have HX : Hid (R (k * 10) = x0 ∧ R (k * 10 + 1) = x1 ∧ R (k * 10 + 2) = x2 ∧ R (k * 10 + 3) = x3 ∧ R (k * 10 + 4) = x4 ∧ R (k * 10 + 5) = x5 ∧ R (k * 10 + 6) = x6 ∧ R (k * 10 + 7) = x7 ∧ R (k * 10 + 8) = x8 ∧ R (k * 10 + 9) = x9) := ⟨hx0, hx1, hx2, hx3, hx4, hx5, hx6, hx7, hx8, hx9⟩
    clear hx0 hx1 hx2 hx3 hx4 hx5 hx6 hx7 hx8 hx9
    obtain ⟨f, hf⟩ : ∃ f, opF x0 x1 x2 x3 x4 x5 = f := ⟨_, rfl⟩
    have HF : Hid (opF x0 x1 x2 x3 x4 x5 = f) := hf
    clear hf
    have HO : Hid (opF (R (k * 10)) (R (k * 10 + 1)) (R (k * 10 + 2)) (R (k * 10 + 3)) (R (k * 10 + 4)) (R (k * 10 + 5)) = f) := by
      obtain ⟨e0, e1, e2, e3, e4, e5, e6, e7, e8, e9⟩ := HX.out
      show opF (R (k * 10)) (R (k * 10 + 1)) (R (k * 10 + 2)) (R (k * 10 + 3)) (R (k * 10 + 4)) (R (k * 10 + 5)) = f
      rw [e0, e1, e2, e3, e4, e5]
      exact HF.out
    have HFT : Hid (Fits nx nt (R (k * 10 + 6)) (R (k * 10 + 7)) (R (k * 10 + 8)) (R (k * 10 + 9)) ↔ Fits nx nt x6 x7 x8 x9) := by
      obtain ⟨e0, e1, e2, e3, e4, e5, e6, e7, e8, e9⟩ := HX.out
      show Fits nx nt (R (k * 10 + 6)) (R (k * 10 + 7)) (R (k * 10 + 8)) (R (k * 10 + 9)) ↔ _
      rw [e6, e7, e8, e9]
    have K0 : Hid (Blk10 (wr.alloc (.cells #[.int .i64 x0, .int .i64 x1, .int .i64 x2, .int .i64 x3, .int .i64 x4, .int .i64 x5, .int .i64 x6, .int .i64 x7, .int .i64 x8, .int .i64 x9] 74)) wr.heap.size (.int .i64 x0) (.int .i64 x1) (.int .i64 x2) (.int .i64 x3) (.int .i64 x4) (.int .i64 x5) (.int .i64 x6) (.int .i64 x7) (.int .i64 x8) (.int .i64 x9) ∧ (LiesF (wr.alloc (.cells #[.int .i64 x0, .int .i64 x1, .int .i64 x2, .int .i64 x3, .int .i64 x4, .int .i64 x5, .int .i64 x6, .int .i64 x7, .int .i64 x8, .int .i64 x9] 74)) w.heap.size nw nx bd nr F n S V (.slice a0 nr c0) (.slice a1 n c1) nt T X (.slice a2 nt c2) nq R (.slice (some ⟨g, o, none⟩) nq c3) ∧ Below w.heap.size w (wr.alloc (.cells #[.int .i64 x0, .int .i64 x1, .int .i64 x2, .int .i64 x3, .int .i64 x4, .int .i64 x5, .int .i64 x6, .int .i64 x7, .int .i64 x8, .int .i64 x9] 74)))) := ⟨Blk10.new wr _ _ _ _ _ _ _ _ _ _ _, HB.out.1.later (below_alloc _ _), HB.out.2.alloc HB.out.2.size _⟩
    go_wp2_with fail
    generalize wr.alloc (.cells #[.int .i64 x0, .int .i64 x1, .int .i64 x2, .int .i64 x3, .int .i64 x4, .int .i64 x5, .int .i64 x6, .int .i64 x7, .int .i64 x8, .int .i64 x9] 74) = wb at K0 ⊢
    refine (implFsOp_any x0 x1 x2 x3 x4 x5 _).mono ?_
    rw [HF.out]
    rintro e w2 ⟨rfl, q2⟩
    have K2 : Hid (Blk10 w2 wr.heap.size (.int .i64 x0) (.int .i64 x1) (.int .i64 x2) (.int .i64 x3) (.int .i64 x4) (.int .i64 x5) (.int .i64 x6) (.int .i64 x7) (.int .i64 x8) (.int .i64 x9) ∧ (LiesF w2 w.heap.size nw nx bd nr F n S V (.slice a0 nr c0) (.slice a1 n c1) nt T X (.slice a2 nt c2) nq R (.slice (some ⟨g, o, none⟩) nq c3) ∧ Below w.heap.size w w2)) := ⟨K0.out.1.later q2, K0.out.2.1.later q2, K0.out.2.2.trans (q2.mono K0.out.2.2.size)⟩
    clear q2 HB K0 y0 y1 y2 y3 y4 y5 y6 y7 y8 y9
    by_cases hz : f = 0
    case neg =>
      have d' : (f != 0) = true := bne_iff_ne.2 hz
      have E : Hid (fsW nw nx bd nr F n S nt T nq R = f) := by
        have h1 : runF nx nt R k = f := runF_op HO.out hz
        exact EW.out.trans ((scan_stop HS.out (by rw [h1]; exact hz) hlt).trans h1)
      clear hz HF HS EW
      go_wp2
      go_ret
      exact ⟨by rw [E.out]; rfl, K2.out.2.2⟩
    subst hz
    obtain ⟨⟨p0, p1, p2, p3, p4, p5, p6⟩, _⟩ := K2.out.2.1.1
    obtain ⟨⟨y0, y1, y2, y3, y4, y5, y6, y7, y8, y9⟩, _⟩ := K2.out.1
    by_cases hfit : Fits nx nt x6 x7 x8 x9
    case neg =>
      have E : Hid (fsW nw nx bd nr F n S nt T nq R = 3) := by
        have h1 : runF nx nt R k = 3 := runF_no HO.out (fun q => hfit (HFT.out.1 q))
        exact EW.out.trans ((scan_stop HS.out (by rw [h1]; decide) hlt).trans h1)
      have HD : Hid (decide (Fits nx nt x6 x7 x8 x9) = false) := decide_eq_false hfit
      clear hfit HF HS EW HO HFT HX
      go_wp2_with fail
      refine (runFits_is x0 x1 x2 x3 x4 x5 x6 x7 x8 x9 nw nx bd _ _ _ nt _ false HD.out HZ.out.2.1 HZ.out.2.2 _).mono ?_
      rintro e w3 ⟨rfl, q3⟩
      have BB : Hid (Below w.heap.size w w3) := K2.out.2.2.trans (q3.mono K2.out.2.2.size)
      clear q3 p0 p1 p2 p3 p4 p5 p6 y0 y1 y2 y3 y4 y5 y6 y7 y8 y9 K2
      go_wp2
      go_ret
      exact ⟨by rw [E.out]; rfl, BB.out⟩
    have HS1 : Hid (scan (runF nx nt R) (k + 1) = 0) := scan_go HS.out (runF_ok HO.out (HFT.out.2 hfit))
    have HD : Hid (decide (Fits nx nt x6 x7 x8 x9) = true) := decide_eq_true hfit
    clear hfit HF HS EW HO HFT HX
    go_wp2_with fail
    refine (runFits_is x0 x1 x2 x3 x4 x5 x6 x7 x8 x9 nw nx bd _ _ _ nt _ true HD.out HZ.out.2.1 HZ.out.2.2 _).mono ?_
    rintro e w3 ⟨rfl, q3⟩
    have K3 : Hid (LiesF w3 w.heap.size nw nx bd nr F n S V (.slice a0 nr c0) (.slice a1 n c1) nt T X (.slice a2 nt c2) nq R (.slice (some ⟨g, o, none⟩) nq c3) ∧ Below w.heap.size w w3) := ⟨K2.out.2.1.later q3, K2.out.2.2.trans (q3.mono K2.out.2.2.size)⟩
    clear q3 p0 p1 p2 p3 p4 p5 p6 y0 y1 y2 y3 y4 y5 y6 y7 y8 y9 K2
    go_wp2
    go_roundw
    case rel => exact ⟨k + 1, by omega, by go_num, HS1, K3⟩
    case measure => simp [intOf]; omega
end Go.Proofs.YtpodcnmiaacndaaGreat

namespace Go.Proofs.YtpodcnmiaacndaaGreat
open Go.RowKit

/-- What the law's last region stands on: its argument, and the copy that the program was given. -/
def TwoF (w : World) (nw nx bd : Int) (vr vs vt vq : Value) (q : Nat) (ur us ut uq : Value) (x : World) : Prop := Below w.heap.size w x ∧ Blk7F x w.heap.size (.int .i64 nw) (.int .i64 nx) (.int .i64 bd) vr vs vt vq ∧ Blk7F x q (.int .i64 nw) (.int .i64 nx) (.int .i64 bd) ur us ut uq
theorem TwoF.later {w x x' : World} {nw nx bd : Int} {vr vs vt vq ur us ut uq : Value} {q : Nat} (h : TwoF w nw nx bd vr vs vt vq q ur us ut uq x) (hb : Below x.heap.size x x') : TwoF w nw nx bd vr vs vt vq q ur us ut uq x' := ⟨h.1.trans (hb.mono h.1.size), h.2.1.later hb, h.2.2.later hb⟩
set_option maxRecDepth 100000 in
set_option maxHeartbeats 4000000 in
theorem fsWorldFault_walk (nw nx bd : Int) (nr : Nat) (F : Nat → Int) (n : Nat) (S : Nat → Sto) (V : Nat → Nat → Value) (vr vs : Value) (nt : Nat) (T : Nat → Tx) (X : Nat → Value) (vt : Value) (nq : Nat) (R : Nat → Int) (vq : Value) (w : World) (h : Grs w 0 nr F n S V vr vs) (hx : Txs w 0 nt T X vt) (hq : Row w 0 10 nq R vq) (hr : nr ≤ 9223372036854775807) (hn : n ≤ 9223372036854775807) (hs : ∀ i, i < n → BigS (S i)) (hnt : nt ≤ 9223372036854775807) (hm : ∀ i, i < nt → (T i).m ≤ 9223372036854775807) (hnq : nq ≤ 9223372036854775807) :
    Calls Tryz.prog 3 #[.agg #[.int .i64 nw, .int .i64 nx, .int .i64 bd, vr, vs, vt, vq]] w fun e w' => e = .returned (.bool true) ∧ Below w.heap.size w w' := by
  obtain ⟨a0, c0, a1, c1, rfl, rfl⟩ := h.form
  obtain ⟨a2, c2, rfl⟩ := hx.form
  obtain ⟨a3, c3, rfl⟩ := hq.form
  have HG : Hid (Grs w 0 nr F n S V (.slice a0 nr c0) (.slice a1 n c1) ∧ Txs w 0 nt T X (.slice a2 nt c2)) := ⟨h, hx⟩
  have HQ : Hid (Row w 0 10 nq R (.slice a3 nq c3)) := hq
  have HN : Hid ((∀ i, i < n → BigS (S i)) ∧ ∀ i, i < nt → (T i).m ≤ 9223372036854775807) := ⟨hs, hm⟩
  have H : Hid (Blk7F (w.alloc (.cells #[.int .i64 nw, .int .i64 nx, .int .i64 bd, .slice a0 nr c0, .slice a1 n c1, .slice a2 nt c2, .slice a3 nq c3] 33)) w.heap.size (.int .i64 nw) (.int .i64 nx) (.int .i64 bd) (.slice a0 nr c0) (.slice a1 n c1) (.slice a2 nt c2) (.slice a3 nq c3) ∧ Below w.heap.size w (w.alloc (.cells #[.int .i64 nw, .int .i64 nx, .int .i64 bd, .slice a0 nr c0, .slice a1 n c1, .slice a2 nt c2, .slice a3 nq c3] 33))) := ⟨Blk7F.new w _ _ _ _ _ _ _ _, below_alloc _ _⟩
  clear h hx hs hm hq
  obtain ⟨f, HF⟩ : ∃ f, Hid (fsW nw nx bd nr F n S nt T nq R = f) := ⟨_, rfl⟩
  go_enter Tryz.func3, Tryz.ntmps3
  go_wp2_with fail
  refine (szFsWorld_any nw nx bd nr F n S V _ _ nt T X _ nq R _ 0 _ (HG.out.1.alloc _) (HG.out.2.alloc _) (HQ.out.later (below_alloc _ _)) hr hn HN.out.1 hnt HN.out.2 hnq).mono ?_
  rintro e w1 ⟨r, rfl, hA, q1⟩
  have H1 : Hid (Blk7F w1 w.heap.size (.int .i64 nw) (.int .i64 nx) (.int .i64 bd) (.slice a0 nr c0) (.slice a1 n c1) (.slice a2 nt c2) (.slice a3 nq c3) ∧ Below w.heap.size w w1) := ⟨H.out.1.later q1, H.out.2.trans (q1.mono H.out.2.size)⟩
  clear q1 H
  rcases hA with rfl | ⟨h1, ⟨h2, h3, _, h4⟩, ⟨h5, _, h6⟩, h7⟩
  · go_wp2
    go_ret
    exact ⟨rfl, H1.out.2⟩
  have HB : Hid ((nr ≤ 1048576 ∧ n ≤ 1048576 ∧ ∀ i, i < n → SmallS (S i)) ∧ nt ≤ 1048576 ∧ ∀ i, i < nt → (T i).m ≤ 1048576) := ⟨⟨h2, h3, h4⟩, h5, h6⟩
  have dr : decide (r < 0) = false := decide_eq_false (by omega)
  clear h1 h2 h3 h4 h5 h6 hr hn HN hnt hnq
  obtain ⟨⟨p0, p1, p2, p3, p4, p5, p6⟩, _⟩ := H1.out.1
  go_wp2_with fail
  refine (toFsWorld_any nw nx bd nr F n S V _ _ nt T X _ nq R _ 0 _ (HG.out.1.later H1.out.2) (HG.out.2.later H1.out.2) (HQ.out.later H1.out.2) HB.out.1 HB.out.2 h7).mono ?_
  intro e w2 hN2
  obtain ⟨ra, rc, g, U, gt, Y, uq, rfl, g2, t2, r2, q2⟩ := hN2.rows
  have H2 : Hid (Blk7F w2 w.heap.size (.int .i64 nw) (.int .i64 nx) (.int .i64 bd) (.slice a0 nr c0) (.slice a1 n c1) (.slice a2 nt c2) (.slice a3 nq c3) ∧ Below w.heap.size w w2) := ⟨H1.out.1.later q2, H1.out.2.trans (q2.mono H1.out.2.size)⟩
  have G2 : Hid (Grs w2 0 nr F n S U (.slice ra nr rc) (.slice (some ⟨g, 0, none⟩) n n) ∧ Txs w2 0 nt T Y (.slice (some ⟨gt, 0, none⟩) nt nt) ∧ Row w2 0 10 nq R (.slice uq nq nq)) := ⟨g2, t2, r2⟩
  clear q2 hN2 g2 t2 r2 H1 p0 p1 p2 p3 p4 p5 p6
  go_wp2_with fail
  refine (specFsWorldFault_any nw nx bd nr F n S U _ _ nt T Y _ nq R _ 0 _ G2.out.1 G2.out.2.1 G2.out.2.2 (by have := HB.out.1.1; omega) (by have := HB.out.1.2.1; omega) (by have := HB.out.2.1; omega) (by omega) (fun i hi => by have := HB.out.2.2 i hi; omega)).mono ?_
  rw [HF.out]
  rintro e w3 ⟨rfl, q3⟩
  have H3 : Hid (Blk7F w3 w.heap.size (.int .i64 nw) (.int .i64 nx) (.int .i64 bd) (.slice a0 nr c0) (.slice a1 n c1) (.slice a2 nt c2) (.slice a3 nq c3) ∧ Below w.heap.size w w3) := ⟨H2.out.1.later q3, H2.out.2.trans (q3.mono H2.out.2.size)⟩
  clear q3 H2 G2
  obtain ⟨⟨p0, p1, p2, p3, p4, p5, p6⟩, _⟩ := H3.out.1
  go_wp2_with fail
  refine (toFsWorld_any nw nx bd nr F n S V _ _ nt T X _ nq R _ 0 _ (HG.out.1.later H3.out.2) (HG.out.2.later H3.out.2) (HQ.out.later H3.out.2) HB.out.1 HB.out.2 h7).mono ?_
  intro e w4 hN4
  obtain ⟨ra', rc', g', U', gt', Y', uq', rfl, g4, t4, r4, q4⟩ := hN4.rows
  have G4 : Hid (Grs (w4.alloc (.cells #[.int .i64 nw, .int .i64 nx, .int .i64 bd, .slice ra' nr rc', .slice (some ⟨g', 0, none⟩) n n, .slice (some ⟨gt', 0, none⟩) nt nt, .slice uq' nq nq] 46)) 0 nr F n S U' (.slice ra' nr rc') (.slice (some ⟨g', 0, none⟩) n n) ∧ Txs (w4.alloc (.cells #[.int .i64 nw, .int .i64 nx, .int .i64 bd, .slice ra' nr rc', .slice (some ⟨g', 0, none⟩) n n, .slice (some ⟨gt', 0, none⟩) nt nt, .slice uq' nq nq] 46)) 0 nt T Y' (.slice (some ⟨gt', 0, none⟩) nt nt) ∧ Row (w4.alloc (.cells #[.int .i64 nw, .int .i64 nx, .int .i64 bd, .slice ra' nr rc', .slice (some ⟨g', 0, none⟩) n n, .slice (some ⟨gt', 0, none⟩) nt nt, .slice uq' nq nq] 46)) 0 10 nq R (.slice uq' nq nq)) := ⟨g4.alloc _, t4.alloc _, r4.later (below_alloc _ _)⟩
  have T4 : Hid (TwoF w nw nx bd (.slice a0 nr c0) (.slice a1 n c1) (.slice a2 nt c2) (.slice a3 nq c3) w4.heap.size (.slice ra' nr rc') (.slice (some ⟨g', 0, none⟩) n n) (.slice (some ⟨gt', 0, none⟩) nt nt) (.slice uq' nq nq) (w4.alloc (.cells #[.int .i64 nw, .int .i64 nx, .int .i64 bd, .slice ra' nr rc', .slice (some ⟨g', 0, none⟩) n n, .slice (some ⟨gt', 0, none⟩) nt nt, .slice uq' nq nq] 46))) := ⟨(H3.out.2.trans (q4.mono H3.out.2.size)).alloc (Nat.le_trans H3.out.2.size q4.size) _, (H3.out.1.later q4).alloc _, Blk7F.new _ _ _ _ _ _ _ _ _⟩
  clear q4 hN4 g4 t4 r4 H3 p0 p1 p2 p3 p4 p5 p6
  go_wp2_with fail
  generalize w4.alloc (.cells #[.int .i64 nw, .int .i64 nx, .int .i64 bd, .slice ra' nr rc', .slice (some ⟨g', 0, none⟩) n n, .slice (some ⟨gt', 0, none⟩) nt nt, .slice uq' nq nq] 46) = w5 at G4 T4 ⊢
  refine (implFsWorldFault_any nw nx bd nr F n S U' _ _ nt T Y' _ nq R _ 0 _ G4.out.1 G4.out.2.1 G4.out.2.2 (by have := HB.out.1.1; omega) (by have := HB.out.1.2.1; omega) (by have := HB.out.2.1; omega) (by omega)).mono ?_
  rw [HF.out]
  rintro e w6 ⟨rfl, q6⟩
  have G6 : Hid (Grs w6 0 nr F n S U' (.slice ra' nr rc') (.slice (some ⟨g', 0, none⟩) n n) ∧ Txs w6 0 nt T Y' (.slice (some ⟨gt', 0, none⟩) nt nt) ∧ Row w6 0 10 nq R (.slice uq' nq nq)) := ⟨G4.out.1.later q6, G4.out.2.1.later q6, G4.out.2.2.later q6⟩
  have T6 : Hid (TwoF w nw nx bd (.slice a0 nr c0) (.slice a1 n c1) (.slice a2 nt c2) (.slice a3 nq c3) w4.heap.size (.slice ra' nr rc') (.slice (some ⟨g', 0, none⟩) n n) (.slice (some ⟨gt', 0, none⟩) nt nt) (.slice uq' nq nq) w6) := T4.out.later q6
  clear q6 G4 T4
  go_wp2_with fail
  refine wp_region_held_drew (S := TwoF w nw nx bd (.slice a0 nr c0) (.slice a1 n c1) (.slice a2 nt c2) (.slice a3 nq c3) w4.heap.size (.slice ra' nr rc') (.slice (some ⟨g', 0, none⟩) n n) (.slice (some ⟨gt', 0, none⟩) nt nt) (.slice uq' nq nq)) (by kernel_rfl) (T6.out.later (Below.drew (Below.refl _ _))) (fun hS => ?_)
  clear T6
  refine tkH 0 ?_ hS (fun wx hx => ?_) ?_; rotate_left
  · obtain ⟨_, ⟨⟨hx0, hx1, hx2, hx3, hx4, hx5, hx6⟩, _⟩, ⟨⟨hy0, hy1, hy2, hy3, hy4, hy5, hy6⟩, _⟩⟩ := hx; go_simp; try with_reducible rfl
  refine tkH 1 ?_ hS (fun wx hx => ?_) ?_; rotate_left
  · obtain ⟨_, ⟨⟨hx0, hx1, hx2, hx3, hx4, hx5, hx6⟩, _⟩, ⟨⟨hy0, hy1, hy2, hy3, hy4, hy5, hy6⟩, _⟩⟩ := hx; go_simp; try with_reducible rfl
  refine rdH 2 (fun K hK => ?_)
  go_simp
  go_wp2_with fail
  refine (toFsWorld_any nw nx bd nr F n S V _ _ nt T X _ nq R _ 0 _ (HG.out.1.later hS.1) (HG.out.2.later hS.1) (HQ.out.later hS.1) HB.out.1 HB.out.2 h7).mono ?_
  intro e w7 hN7
  obtain ⟨rb, rd, g2, U2, gt2, Y2, uq2, rfl, g7, t7, r7, q7⟩ := hN7.rows
  have q7' : Below w6.heap.size w6 w7 := ⟨q7.os, q7.tape, q7.output, q7.size, q7.block⟩
  have G7 : Hid ((Grs w7 0 nr F n S U' (.slice ra' nr rc') (.slice (some ⟨g', 0, none⟩) n n) ∧ Txs w7 0 nt T Y' (.slice (some ⟨gt', 0, none⟩) nt nt) ∧ Row w7 0 10 nq R (.slice uq' nq nq)) ∧ Grs w7 0 nr F n S U2 (.slice rb nr rd) (.slice (some ⟨g2, 0, none⟩) n n) ∧ Txs w7 0 nt T Y2 (.slice (some ⟨gt2, 0, none⟩) nt nt) ∧ Row w7 0 10 nq R (.slice uq2 nq nq)) := ⟨⟨G6.out.1.later q7', G6.out.2.1.later q7', G6.out.2.2.later q7'⟩, g7, t7, r7⟩
  have hS' := hS.later q7
  clear q7 q7' hN7 g7 t7 r7 G6
  go_wp2_with fail
  refine hK.out _ _ hS' (fun hS => ?_)
  clear hK K hS'
  refine rdH 3 (fun K hK => ?_)
  go_simp
  go_wp2_with fail
  refine (eqFsWorld_same nw nx bd nr F n S U' U2 _ _ _ _ _ _ _ _ nt T Y' Y2 _ _ _ _ nq R _ _ _ _ 0 0 _ G7.out.1.1 G7.out.2.1 G7.out.1.2.1 G7.out.2.2.1 G7.out.1.2.2 G7.out.2.2.2 HB.out.1 HB.out.2 h7).mono ?_
  rintro e w8 ⟨rfl, q8⟩
  have hS' := hS.later q8
  clear q8 G7
  go_wp2_with fail
  refine hK.out _ _ hS' (fun hS => ?_)
  clear hK K hS'
  refine tkH 4 ?_ hS (fun wx hx => ?_) ?_; rotate_left
  · obtain ⟨_, ⟨⟨hx0, hx1, hx2, hx3, hx4, hx5, hx6⟩, _⟩, ⟨⟨hy0, hy1, hy2, hy3, hy4, hy5, hy6⟩, _⟩⟩ := hx; go_simp; try with_reducible rfl
  refine wpAnyH_done (by kernel_rfl) ?_ _
  have BB : Hid (Below w.heap.size w w8) := hS.1
  clear hS
  go_simp
  go_wp2
  go_ret
  exact ⟨rfl, BB.out⟩
end Go.Proofs.YtpodcnmiaacndaaGreat

