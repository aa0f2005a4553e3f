/-
  Own text, merged of FsM, FsN, FsO, FsP, FsQ, FsR, KeysD, TreA, EntA, PaiJ, TreB.
-/
import Derived.Test.YtbpppaolcgibnaaGreatDoorPk2
namespace Go.Proofs.YtbpppaolcgibnaaGreatDoor
open Go.RowKit

theorem dir_iff {L : Prs} {a : Int} {r : Bool} {z : Int} (hs : lookF L (kI a) = (r, z)) : dirB L a = (z == 1000) := by unfold dirB; rw [hs]
theorem look_zero {L : Prs} {k : Int} {z : Int} (hs : lookF L k = (false, z)) : z = 0 := by
  unfold lookF at hs
  split at hs
  · simp at hs
  · simp at hs; exact hs.symm
set_option maxRecDepth 100000 in
set_option maxHeartbeats 4000000 in
theorem l13Target_is (L : Prs) (y : Value) (bo oo : Nat) (kd d n td tn vv : Int) (w0 w : World) (v : Int) (xs : List Int) (m : Nat) (W : List Int) (hc : Ctx w0 L y bo oo kd d n td tn vv) (hs : StP w0 w v xs m W) (hx : xs.length ≤ 900) (r : Int) (ys : List Int) (hp : targetP L td tn xs = (r, ys)) :
    Calls Tryz.prog 127 #[.pointer (some ⟨w0.heap.size, 0, none⟩), y, .pointer (some ⟨bo, oo, none⟩)] w fun e w' => e = .returned (.int .i64 r) ∧ StP w0 w' v ys m W := by
  have HC : Hid (Ctx w0 L y bo oo kd d n td tn vv) := hc
  have HS : Hid (StP w0 w v xs m W) := hs
  have hl := hc.1.2
  obtain ⟨⟨o0, o1, o2, o3, o4, o5⟩, _⟩ := hc.op hs
  obtain ⟨s, hsq⟩ : ∃ s, lookF L (kI td) = s := ⟨_, rfl⟩
  obtain ⟨sh, sz⟩ := s
  have HL : Hid (lookF L (kI td) = (sh, sz)) := hsq
  have hlen := addR_len xs (kI td)
  unfold targetP at hp
  rw [dir_iff hsq] at hp
  clear hc hs hsq
  by_cases h1 : (sz == 1000) = true
  case neg =>
    rw [if_neg h1] at hp
    simp only [Prod.mk.injEq] at hp
    obtain ⟨rfl, rfl⟩ := hp
    have e1 : (sz != 1000) = true := by simpa [bne] using h1
    clear h1
    go_enter Tryz.func127, Tryz.ntmps127
    go_wp2_with fail
    refine (ofI_is td HC.out.2.2.2.2.2.1 _).mono ?_
    rintro e w9 ⟨rfl, hw9⟩
    obtain rfl := hw9.symm
    go_wp2_with fail
    refine (l13Read_is (kI td) L y w0 _ v xs m W HC.out.1.1 (by omega) HS.out (by omega)).mono ?_
    rintro e w1 ⟨rfl, s1⟩
    have S1 : Hid (StP w0 w1 v (addR xs (kI td)) m W) := s1
    rw [HL.out]
    clear s1 o0 o1 o2 o3 o4 o5
    cases sh with
    | true =>
      go_wp2
      go_ret
      exact ⟨rfl, S1.out⟩
    | false =>
      go_wp2
      go_ret
      exact ⟨rfl, S1.out⟩
  rw [if_pos h1] at hp
  simp only [Prod.mk.injEq] at hp
  obtain ⟨hr, rfl⟩ := hp
  obtain rfl : sz = 1000 := by simpa using h1
  obtain rfl : sh = true := by
    cases sh with
    | true => rfl
    | false => have := look_zero HL.out; omega
  clear h1
  obtain ⟨t, htq⟩ : ∃ t, lookF L (kE td tn) = t := ⟨_, rfl⟩
  obtain ⟨th, tz⟩ := t
  have HT : Hid (lookF L (kE td tn) = (th, tz)) := htq
  rw [htq] at hr
  have HR : Hid ((if th = true then (6 : Int) else 0) = r) := hr
  clear htq hr
  go_enter Tryz.func127, Tryz.ntmps127
  go_wp2_with fail
  refine (ofI_is td HC.out.2.2.2.2.2.1 _).mono ?_
  rintro e w9 ⟨rfl, hw9⟩
  obtain rfl := hw9.symm
  go_wp2_with fail
  refine (l13Read_is (kI td) L y w0 _ v xs m W HC.out.1.1 (by omega) HS.out (by omega)).mono ?_
  rintro e w1 ⟨rfl, s1⟩
  have S1 : Hid (StP w0 w1 v (addR xs (kI td)) m W) := s1
  rw [HL.out]
  clear s1 o0 o1 o2 o3 o4 o5
  go_upto_region 4 with fail
  refine wp_region_held_drew (S := fun X => opBO X bo oo kd d n td tn vv) (by kernel_rfl) (HC.out.op S1.out.drew) (fun hS => ?_)
  refine tkH 0 ?_ hS (fun wx hx => ?_) ?_; rotate_left
  · obtain ⟨⟨hx0, hx1, hx2, hx3, hx4, hx5⟩, _⟩ := hx; go_simp; try with_reducible rfl
  refine tkH 1 ?_ hS (fun wx hx => ?_) ?_; rotate_left
  · obtain ⟨⟨hx0, hx1, hx2, hx3, hx4, hx5⟩, _⟩ := hx; go_simp; try with_reducible rfl
  refine tkH 2 ?_ hS (fun wx hx => ?_) ?_; rotate_left
  · obtain ⟨⟨hx0, hx1, hx2, hx3, hx4, hx5⟩, _⟩ := hx; go_simp; try with_reducible rfl
  refine tkH 3 ?_ hS (fun wx hx => ?_) ?_; rotate_left
  · obtain ⟨⟨hx0, hx1, hx2, hx3, hx4, hx5⟩, _⟩ := hx; go_simp; try with_reducible rfl
  refine tkH 4 ?_ hS (fun wx hx => ?_) ?_; rotate_left
  · obtain ⟨⟨hx0, hx1, hx2, hx3, hx4, hx5⟩, _⟩ := hx; go_simp; try with_reducible rfl
  refine tkH 5 ?_ hS (fun wx hx => ?_) ?_; rotate_left
  · obtain ⟨⟨hx0, hx1, hx2, hx3, hx4, hx5⟩, _⟩ := hx; go_simp; try with_reducible rfl
  refine tkH 6 ?_ hS (fun wx hx => ?_) ?_; rotate_left
  · obtain ⟨⟨hx0, hx1, hx2, hx3, hx4, hx5⟩, _⟩ := hx; go_simp; try with_reducible rfl
  refine tkH 7 ?_ hS (fun wx hx => ?_) ?_; rotate_left
  · obtain ⟨⟨hx0, hx1, hx2, hx3, hx4, hx5⟩, _⟩ := hx; go_simp; try with_reducible rfl
  refine tkH 8 ?_ hS (fun wx hx => ?_) ?_; rotate_left
  · obtain ⟨⟨hx0, hx1, hx2, hx3, hx4, hx5⟩, _⟩ := hx; go_simp; try with_reducible rfl
  refine tkH 9 ?_ hS (fun wx hx => ?_) ?_; rotate_left
  · obtain ⟨⟨hx0, hx1, hx2, hx3, hx4, hx5⟩, _⟩ := hx; go_simp; try with_reducible rfl
  refine rdH 10 (fun K hK => ?_)
  go_simp
  go_wp2_with fail
  refine (ofE_is td tn HC.out.2.2.2.2.2.1 HC.out.2.2.2.2.2.2 _).mono ?_
  rintro e w9 ⟨rfl, hw9⟩
  obtain rfl := hw9.symm
  go_wp2_with fail
  refine hK.out _ _ hS (fun hS => ?_)
  clear hK K
  refine rdH 11 (fun K hK => ?_)
  go_simp
  go_wp2_with fail
  refine (l13Read_is (kE td tn) L y w0 _ v (addR xs (kI td)) m W HC.out.1.1 (by omega) S1.out.drew (by omega)).mono ?_
  rintro e w2 ⟨rfl, s2⟩
  have S2 : Hid (StP w0 w2 v (addR (addR xs (kI td)) (kE td tn)) m W) := s2
  have hS2 := HC.out.op s2
  rw [HT.out]
  clear s2
  go_wp2_with fail
  refine hK.out _ _ hS2 (fun hS => ?_)
  clear hK K
  refine tkH 12 ?_ hS (fun wx hx => ?_) ?_; rotate_left
  · obtain ⟨⟨hx0, hx1, hx2, hx3, hx4, hx5⟩, _⟩ := hx; go_simp; try with_reducible rfl
  refine tkH 13 ?_ hS (fun wx hx => ?_) ?_; rotate_left
  · obtain ⟨⟨hx0, hx1, hx2, hx3, hx4, hx5⟩, _⟩ := hx; go_simp; try with_reducible rfl
  refine tkH 14 ?_ hS (fun wx hx => ?_) ?_; rotate_left
  · obtain ⟨⟨hx0, hx1, hx2, hx3, hx4, hx5⟩, _⟩ := hx; go_simp; try with_reducible rfl
  refine tkH 15 ?_ hS (fun wx hx => ?_) ?_; rotate_left
  · obtain ⟨⟨hx0, hx1, hx2, hx3, hx4, hx5⟩, _⟩ := hx; go_simp; try with_reducible rfl
  refine tkH 16 ?_ hS (fun wx hx => ?_) ?_; rotate_left
  · obtain ⟨⟨hx0, hx1, hx2, hx3, hx4, hx5⟩, _⟩ := hx; go_simp; try with_reducible rfl
  refine wpAnyH_done (by kernel_rfl) ?_ _
  go_simp
  cases th with
  | true =>
    obtain rfl : (6 : Int) = r := HR.out
    go_wp2
    go_ret
    exact ⟨rfl, S2.out⟩
  | false =>
    obtain rfl : (0 : Int) = r := HR.out
    go_wp2
    go_ret
    exact ⟨rfl, S2.out⟩
set_option maxRecDepth 100000 in
set_option maxHeartbeats 4000000 in
theorem l13Remove_is (L : Prs) (y : Value) (bo oo : Nat) (kd d n td tn vv : Int) (w0 w : World) (c cv : Int) (xs : List Int) (hc : Ctx w0 L y bo oo kd d n td tn vv) (hs : StP w0 w 0 xs 0 []) (hx : xs.length ≤ 800) (hcc : 0 ≤ c ∧ c ≤ 9) (hcv : 0 ≤ cv ∧ cv ≤ 9999) (r v : Int) (ys : List Int) (m : Nat) (W : List Int) (hp : removeP L d n c cv xs = (r, v, ys, m, W)) :
    Calls Tryz.prog 117 #[.pointer (some ⟨w0.heap.size, 0, none⟩), y, .pointer (some ⟨bo, oo, none⟩), .int .i64 c, .int .i64 cv] w fun e w' => e = .returned (.int .i64 r) ∧ StP w0 w' v ys m W := by
  have HC : Hid (Ctx w0 L y bo oo kd d n td tn vv) := hc
  have HS : Hid (StP w0 w 0 xs 0 []) := hs
  have HCC : Hid (0 ≤ c ∧ c ≤ 9) := hcc
  have hl := hc.1.2
  obtain ⟨hv0, hv9⟩ := hcv
  clear hc hs hcc
  unfold removeP at hp
  by_cases h1 : cv = 1000
  case neg =>
    have e1 : (cv == 1000) = false := beq_eq_false_iff_ne.2 h1
    rw [if_neg h1] at hp
    by_cases h2 : 2001 < cv
    · have e2 : decide (2001 < cv) = true := decide_eq_true h2
      rw [if_pos h2] at hp
      simp only [Prod.mk.injEq] at hp
      obtain ⟨rfl, rfl, rfl, rfl, rfl⟩ := hp
      clear h1 h2
      go_enter Tryz.func117, Tryz.ntmps117
      go_upto_region 1 with fail
      refine wp_region_held_drew (S := fun X => opBO X bo oo kd d n td tn vv) (by kernel_rfl) (HC.out.op HS.out.drew) (fun hS => ?_)
      refine tkH 0 ?_ hS (fun wx hx => ?_) ?_; rotate_left
      · obtain ⟨⟨hx0, hx1, hx2, hx3, hx4, hx5⟩, _⟩ := hx; go_simp; try with_reducible rfl
      refine tkH 1 ?_ hS (fun wx hx => ?_) ?_; rotate_left
      · obtain ⟨⟨hx0, hx1, hx2, hx3, hx4, hx5⟩, _⟩ := hx; go_simp; try with_reducible rfl
      refine tkH 2 ?_ hS (fun wx hx => ?_) ?_; rotate_left
      · obtain ⟨⟨hx0, hx1, hx2, hx3, hx4, hx5⟩, _⟩ := hx; go_simp; try with_reducible rfl
      refine tkH 3 ?_ hS (fun wx hx => ?_) ?_; rotate_left
      · obtain ⟨⟨hx0, hx1, hx2, hx3, hx4, hx5⟩, _⟩ := hx; go_simp; try with_reducible rfl
      refine tkH 4 ?_ hS (fun wx hx => ?_) ?_; rotate_left
      · obtain ⟨⟨hx0, hx1, hx2, hx3, hx4, hx5⟩, _⟩ := hx; go_simp; try with_reducible rfl
      refine tkH 5 ?_ hS (fun wx hx => ?_) ?_; rotate_left
      · obtain ⟨⟨hx0, hx1, hx2, hx3, hx4, hx5⟩, _⟩ := hx; go_simp; try with_reducible rfl
      refine tkH 6 ?_ hS (fun wx hx => ?_) ?_; rotate_left
      · obtain ⟨⟨hx0, hx1, hx2, hx3, hx4, hx5⟩, _⟩ := hx; go_simp; try with_reducible rfl
      refine tkH 7 ?_ hS (fun wx hx => ?_) ?_; rotate_left
      · obtain ⟨⟨hx0, hx1, hx2, hx3, hx4, hx5⟩, _⟩ := hx; go_simp; try with_reducible rfl
      refine rdH 8 (fun K hK => ?_)
      go_simp
      go_wp2_with fail
      refine (ofE_is d n HC.out.2.2.2.1 HC.out.2.2.2.2.1 _).mono ?_
      rintro e w9 ⟨rfl, hw9⟩
      obtain rfl := hw9.symm
      go_wp2_with fail
      refine hK.out _ _ hS (fun hS => ?_)
      clear hK K
      refine tkH 9 ?_ hS (fun wx hx => ?_) ?_; rotate_left
      · obtain ⟨⟨hx0, hx1, hx2, hx3, hx4, hx5⟩, _⟩ := hx; go_simp; try with_reducible rfl
      refine wpAnyH_done (by kernel_rfl) ?_ _
      go_simp
      have S1 : Hid (StP w0 w.drew 0 xs 0 []) := HS.out.drew
      generalize w.drew = w1 at S1 ⊢
      clear hS
      go_wp2_with fail
      refine (ofI_is c HCC.out _).mono ?_
      rintro e w9 ⟨rfl, hw9⟩
      obtain rfl := hw9.symm
      go_wp2_with fail
      refine (l13Delete_is (kE d n) w0 _ 0 _ 0 _ S1.out (by omega)).mono ?_
      rintro e w2 ⟨rfl, st⟩
      have S2 : Hid (StP w0 w2 0 _ (0 + 1) _) := st
      clear st
      go_wp2_with fail
      refine (l13Put_is (kI c) (cv - 1) w0 _ 0 _ 1 _ S2.out (by omega)).mono ?_
      rintro e w3 ⟨rfl, st⟩
      have S3 : Hid (StP w0 w3 0 _ (1 + 1) _) := st
      clear st
      go_wp2
      go_ret
      exact ⟨rfl, S3.out⟩
    · have e2 : decide (2001 < cv) = false := decide_eq_false h2
      rw [if_neg h2] at hp
      simp only [Prod.mk.injEq] at hp
      obtain ⟨rfl, rfl, rfl, rfl, rfl⟩ := hp
      clear h1 h2
      go_enter Tryz.func117, Tryz.ntmps117
      go_upto_region 1 with fail
      refine wp_region_held_drew (S := fun X => opBO X bo oo kd d n td tn vv) (by kernel_rfl) (HC.out.op HS.out.drew) (fun hS => ?_)
      refine tkH 0 ?_ hS (fun wx hx => ?_) ?_; rotate_left
      · obtain ⟨⟨hx0, hx1, hx2, hx3, hx4, hx5⟩, _⟩ := hx; go_simp; try with_reducible rfl
      refine tkH 1 ?_ hS (fun wx hx => ?_) ?_; rotate_left
      · obtain ⟨⟨hx0, hx1, hx2, hx3, hx4, hx5⟩, _⟩ := hx; go_simp; try with_reducible rfl
      refine tkH 2 ?_ hS (fun wx hx => ?_) ?_; rotate_left
      · obtain ⟨⟨hx0, hx1, hx2, hx3, hx4, hx5⟩, _⟩ := hx; go_simp; try with_reducible rfl
      refine tkH 3 ?_ hS (fun wx hx => ?_) ?_; rotate_left
      · obtain ⟨⟨hx0, hx1, hx2, hx3, hx4, hx5⟩, _⟩ := hx; go_simp; try with_reducible rfl
      refine tkH 4 ?_ hS (fun wx hx => ?_) ?_; rotate_left
      · obtain ⟨⟨hx0, hx1, hx2, hx3, hx4, hx5⟩, _⟩ := hx; go_simp; try with_reducible rfl
      refine tkH 5 ?_ hS (fun wx hx => ?_) ?_; rotate_left
      · obtain ⟨⟨hx0, hx1, hx2, hx3, hx4, hx5⟩, _⟩ := hx; go_simp; try with_reducible rfl
      refine tkH 6 ?_ hS (fun wx hx => ?_) ?_; rotate_left
      · obtain ⟨⟨hx0, hx1, hx2, hx3, hx4, hx5⟩, _⟩ := hx; go_simp; try with_reducible rfl
      refine tkH 7 ?_ hS (fun wx hx => ?_) ?_; rotate_left
      · obtain ⟨⟨hx0, hx1, hx2, hx3, hx4, hx5⟩, _⟩ := hx; go_simp; try with_reducible rfl
      refine rdH 8 (fun K hK => ?_)
      go_simp
      go_wp2_with fail
      refine (ofE_is d n HC.out.2.2.2.1 HC.out.2.2.2.2.1 _).mono ?_
      rintro e w9 ⟨rfl, hw9⟩
      obtain rfl := hw9.symm
      go_wp2_with fail
      refine hK.out _ _ hS (fun hS => ?_)
      clear hK K
      refine tkH 9 ?_ hS (fun wx hx => ?_) ?_; rotate_left
      · obtain ⟨⟨hx0, hx1, hx2, hx3, hx4, hx5⟩, _⟩ := hx; go_simp; try with_reducible rfl
      refine wpAnyH_done (by kernel_rfl) ?_ _
      go_simp
      have S1 : Hid (StP w0 w.drew 0 xs 0 []) := HS.out.drew
      generalize w.drew = w1 at S1 ⊢
      clear hS
      go_wp2_with fail
      refine (ofI_is c HCC.out _).mono ?_
      rintro e w9 ⟨rfl, hw9⟩
      obtain rfl := hw9.symm
      go_wp2_with fail
      refine (l13Delete_is (kE d n) w0 _ 0 _ 0 _ S1.out (by omega)).mono ?_
      rintro e w2 ⟨rfl, st⟩
      have S2 : Hid (StP w0 w2 0 _ (0 + 1) _) := st
      clear st
      go_wp2_with fail
      refine (l13Delete_is (kI c) w0 _ 0 _ 1 _ S2.out (by omega)).mono ?_
      rintro e w3 ⟨rfl, st⟩
      have S3 : Hid (StP w0 w3 0 _ (1 + 1) _) := st
      clear st
      go_wp2_with fail
      refine (ofB_is c HCC.out _).mono ?_
      rintro e w9 ⟨rfl, hw9⟩
      obtain rfl := hw9.symm
      go_wp2_with fail
      refine (l13Delete_is (kB c) w0 _ 0 _ 2 _ S3.out (by omega)).mono ?_
      rintro e w4 ⟨rfl, st⟩
      have S4 : Hid (StP w0 w4 0 _ (2 + 1) _) := st
      clear st
      go_wp2
      go_ret
      exact ⟨rfl, S4.out⟩
  subst h1
  rw [if_pos rfl] at hp
  have HP : Hid ((if (emptyP L c 6 0 xs).1 = true then ((0 : Int), (0 : Int), (emptyP L c 6 0 xs).2, 2, [kE d n, 2, 0, kI c, 2, 0]) else (1, 0, (emptyP L c 6 0 xs).2, 0, [])) = (r, v, ys, m, W)) := hp
  clear hp hv0 hv9
  go_enter Tryz.func117, Tryz.ntmps117
  go_upto_region 1 with fail
  refine wp_region_held_drew (S := fun X => opBO X bo oo kd d n td tn vv) (by kernel_rfl) (HC.out.op HS.out.drew) (fun hS => ?_)
  refine tkH 0 ?_ hS (fun wx hx => ?_) ?_; rotate_left
  · obtain ⟨⟨hx0, hx1, hx2, hx3, hx4, hx5⟩, _⟩ := hx; go_simp; try with_reducible rfl
  refine tkH 1 ?_ hS (fun wx hx => ?_) ?_; rotate_left
  · obtain ⟨⟨hx0, hx1, hx2, hx3, hx4, hx5⟩, _⟩ := hx; go_simp; try with_reducible rfl
  refine tkH 2 ?_ hS (fun wx hx => ?_) ?_; rotate_left
  · obtain ⟨⟨hx0, hx1, hx2, hx3, hx4, hx5⟩, _⟩ := hx; go_simp; try with_reducible rfl
  refine tkH 3 ?_ hS (fun wx hx => ?_) ?_; rotate_left
  · obtain ⟨⟨hx0, hx1, hx2, hx3, hx4, hx5⟩, _⟩ := hx; go_simp; try with_reducible rfl
  refine tkH 4 ?_ hS (fun wx hx => ?_) ?_; rotate_left
  · obtain ⟨⟨hx0, hx1, hx2, hx3, hx4, hx5⟩, _⟩ := hx; go_simp; try with_reducible rfl
  refine tkH 5 ?_ hS (fun wx hx => ?_) ?_; rotate_left
  · obtain ⟨⟨hx0, hx1, hx2, hx3, hx4, hx5⟩, _⟩ := hx; go_simp; try with_reducible rfl
  refine tkH 6 ?_ hS (fun wx hx => ?_) ?_; rotate_left
  · obtain ⟨⟨hx0, hx1, hx2, hx3, hx4, hx5⟩, _⟩ := hx; go_simp; try with_reducible rfl
  refine tkH 7 ?_ hS (fun wx hx => ?_) ?_; rotate_left
  · obtain ⟨⟨hx0, hx1, hx2, hx3, hx4, hx5⟩, _⟩ := hx; go_simp; try with_reducible rfl
  refine rdH 8 (fun K hK => ?_)
  go_simp
  go_wp2_with fail
  refine (ofE_is d n HC.out.2.2.2.1 HC.out.2.2.2.2.1 _).mono ?_
  rintro e w9 ⟨rfl, hw9⟩
  obtain rfl := hw9.symm
  go_wp2_with fail
  refine hK.out _ _ hS (fun hS => ?_)
  clear hK K
  refine tkH 9 ?_ hS (fun wx hx => ?_) ?_; rotate_left
  · obtain ⟨⟨hx0, hx1, hx2, hx3, hx4, hx5⟩, _⟩ := hx; go_simp; try with_reducible rfl
  refine wpAnyH_done (by kernel_rfl) ?_ _
  go_simp
  have S1 : Hid (StP w0 w.drew 0 xs 0 []) := HS.out.drew
  generalize w.drew = w1 at S1 ⊢
  clear hS
  go_wp2_with fail
  refine (ofI_is c HCC.out _).mono ?_
  rintro e w9 ⟨rfl, hw9⟩
  obtain rfl := hw9.symm
  go_wp2
  go_loopw [13] (fun i wr => ∃ k : Nat, k ≤ 6 ∧ i = .int .i64 k ∧ ∃ zs, Hid (StP w0 wr 0 zs 0 [] ∧ emptyP L c 6 0 xs = emptyP L c (6 - k) k zs ∧ zs.length ≤ xs.length + k)) (fun i _ => 6 - (intOf i).toNat)
  case atStart => exact ⟨0, by omega, rfl, xs, S1.out, rfl, by omega⟩
  case round =>
    obtain ⟨k, hk, rfl, zs, HZ⟩ := hrel
    by_cases hlt : k < 6
    · have hzl := HZ.out.2.2
      obtain ⟨t, htq⟩ : ∃ t, lookF L (kE c k) = t := ⟨_, rfl⟩
      obtain ⟨th, tz⟩ := t
      have HT : Hid (lookF L (kE c k) = (th, tz)) := htq
      have HE : Hid (emptyP L c (6 - k) k zs = if th = true then (false, addR zs (kE c k)) else emptyP L c (6 - (k + 1)) ((k + 1 : Nat) : Int) (addR zs (kE c k))) := by
        unfold Hid
        rw [show 6 - k = (6 - (k + 1)) + 1 by omega, emptyP, htq]
        simp
      have hza := addR_len zs (kE c k)
      clear htq
      go_wp2_with fail
      refine (ofE_is c k HCC.out (by omega) _).mono ?_
      rintro e w9 ⟨rfl, hw9⟩
      obtain rfl := hw9.symm
      go_wp2_with fail
      refine (l13Read_is (kE c k) L y w0 _ 0 zs 0 [] HC.out.1.1 (by omega) HZ.out.1 (by omega)).mono ?_
      rintro e w2 ⟨rfl, s2⟩
      have S2 : Hid (StP w0 w2 0 (addR zs (kE c k)) 0 []) := s2
      rw [HT.out]
      clear s2
      cases th with
      | true =>
        have HEE : Hid (emptyP L c 6 0 xs = (false, addR zs (kE c k))) := HZ.out.2.1.trans HE.out
        clear HE HT
        go_wp2
        go_ret
        have hp := HP.out
        rw [HEE.out] at hp
        simp only [Bool.false_eq_true, if_false, Prod.mk.injEq] at hp
        obtain ⟨rfl, rfl, rfl, rfl, rfl⟩ := hp
        exact ⟨rfl, S2.out⟩
      | false =>
        have HEE : Hid (emptyP L c 6 0 xs = emptyP L c (6 - (k + 1)) ((k + 1 : Nat) : Int) (addR zs (kE c k))) := HZ.out.2.1.trans HE.out
        clear HE HT
        go_wp2
        go_roundw
        case rel => exact ⟨k + 1, by omega, by go_num, _, S2.out, HEE.out, by omega⟩
        case measure => simp [intOf]; omega
    · obtain rfl : k = 6 := by omega
      have HEE : Hid (emptyP L c 6 0 xs = (true, zs)) := HZ.out.2.1
      have S2 : Hid (StP w0 wr 0 zs 0 []) := HZ.out.1
      clear HZ S1
      go_wp2_with fail
      refine (l13Delete_is (kE d n) w0 _ 0 _ 0 _ S2.out (by omega)).mono ?_
      rintro e w3 ⟨rfl, st⟩
      have S3 : Hid (StP w0 w3 0 _ (0 + 1) _) := st
      clear st
      go_wp2_with fail
      refine (l13Delete_is (kI c) w0 _ 0 _ 1 _ S3.out (by omega)).mono ?_
      rintro e w4 ⟨rfl, st⟩
      have S4 : Hid (StP w0 w4 0 _ (1 + 1) _) := st
      clear st
      go_wp2
      go_ret
      have hp := HP.out
      rw [HEE.out] at hp
      simp only [if_true, Prod.mk.injEq] at hp
      obtain ⟨rfl, rfl, rfl, rfl, rfl⟩ := hp
      exact ⟨rfl, S4.out⟩
end Go.Proofs.YtbpppaolcgibnaaGreatDoor

namespace Go.Proofs.YtbpppaolcgibnaaGreatDoor
open Go.RowKit

theorem target_len (L : Prs) (td tn : Int) (xs : List Int) : (targetP L td tn xs).2.length ≤ xs.length + 2 := by
  have h1 := addR_len xs (kI td)
  have h2 := addR_len (addR xs (kI td)) (kE td tn)
  unfold targetP
  split <;> simp only <;> omega
set_option maxRecDepth 100000 in
set_option maxHeartbeats 4000000 in
theorem l13Move_is (L : Prs) (y : Value) (bo oo : Nat) (kd d n td tn vv : Int) (w0 w : World) (c cv : Int) (xs : List Int) (hc : Ctx w0 L y bo oo kd d n td tn vv) (hs : StP w0 w 0 xs 0 []) (hx : xs.length ≤ 800) (hcc : 0 ≤ c ∧ c ≤ 9) (hcv : 0 ≤ cv ∧ cv ≤ 9999) (r v : Int) (ys : List Int) (m : Nat) (W : List Int) (hp : moveP L d n td tn c cv xs = (r, v, ys, m, W)) :
    Calls Tryz.prog 118 #[.pointer (some ⟨w0.heap.size, 0, none⟩), y, .pointer (some ⟨bo, oo, none⟩), .int .i64 c, .int .i64 cv] w fun e w' => e = .returned (.int .i64 r) ∧ StP w0 w' v ys m W := by
  have HC : Hid (Ctx w0 L y bo oo kd d n td tn vv) := hc
  have HS : Hid (StP w0 w 0 xs 0 []) := hs
  have HCC : Hid (0 ≤ c ∧ c ≤ 9) := hcc
  have hl := hc.1.2
  obtain ⟨hv0, hv9⟩ := hcv
  clear hc hs hcc
  unfold moveP at hp
  by_cases h1 : cv = 1000
  · subst h1
    clear hv0 hv9
    by_cases h2 : td = d
    case neg =>
      have e3 : (td != d) = true := bne_iff_ne.2 h2
      rw [if_pos ⟨rfl, h2⟩] at hp
      simp only [Prod.mk.injEq] at hp
      obtain ⟨rfl, rfl, rfl, rfl, rfl⟩ := hp
      clear h2
      go_enter Tryz.func118, Tryz.ntmps118
      go_upto_region 1 with fail
      refine wp_region_held_drew (S := fun X => opBO X bo oo kd d n td tn vv) (by kernel_rfl) (HC.out.op HS.out.drew) (fun hS => ?_)
      refine tkH 0 ?_ hS (fun wx hx => ?_) ?_; rotate_left
      · obtain ⟨⟨hx0, hx1, hx2, hx3, hx4, hx5⟩, _⟩ := hx; go_simp; try with_reducible rfl
      refine tkH 1 ?_ hS (fun wx hx => ?_) ?_; rotate_left
      · obtain ⟨⟨hx0, hx1, hx2, hx3, hx4, hx5⟩, _⟩ := hx; go_simp; try with_reducible rfl
      refine tkH 2 ?_ hS (fun wx hx => ?_) ?_; rotate_left
      · obtain ⟨⟨hx0, hx1, hx2, hx3, hx4, hx5⟩, _⟩ := hx; go_simp; try with_reducible rfl
      refine tkH 3 ?_ hS (fun wx hx => ?_) ?_; rotate_left
      · obtain ⟨⟨hx0, hx1, hx2, hx3, hx4, hx5⟩, _⟩ := hx; go_simp; try with_reducible rfl
      refine tkH 4 ?_ hS (fun wx hx => ?_) ?_; rotate_left
      · obtain ⟨⟨hx0, hx1, hx2, hx3, hx4, hx5⟩, _⟩ := hx; go_simp; try with_reducible rfl
      refine tkH 5 ?_ hS (fun wx hx => ?_) ?_; rotate_left
      · obtain ⟨⟨hx0, hx1, hx2, hx3, hx4, hx5⟩, _⟩ := hx; go_simp; try with_reducible rfl
      refine tkH 6 ?_ hS (fun wx hx => ?_) ?_; rotate_left
      · obtain ⟨⟨hx0, hx1, hx2, hx3, hx4, hx5⟩, _⟩ := hx; go_simp; try with_reducible rfl
      refine tkH 7 ?_ hS (fun wx hx => ?_) ?_; rotate_left
      · obtain ⟨⟨hx0, hx1, hx2, hx3, hx4, hx5⟩, _⟩ := hx; go_simp; try with_reducible rfl
      refine tkH 8 ?_ hS (fun wx hx => ?_) ?_; rotate_left
      · obtain ⟨⟨hx0, hx1, hx2, hx3, hx4, hx5⟩, _⟩ := hx; go_simp; try with_reducible rfl
      refine tkH 9 ?_ hS (fun wx hx => ?_) ?_; rotate_left
      · obtain ⟨⟨hx0, hx1, hx2, hx3, hx4, hx5⟩, _⟩ := hx; go_simp; try with_reducible rfl
      refine tkH 10 ?_ hS (fun wx hx => ?_) ?_; rotate_left
      · obtain ⟨⟨hx0, hx1, hx2, hx3, hx4, hx5⟩, _⟩ := hx; go_simp; try with_reducible rfl
      refine tkH 11 ?_ hS (fun wx hx => ?_) ?_; rotate_left
      · obtain ⟨⟨hx0, hx1, hx2, hx3, hx4, hx5⟩, _⟩ := hx; go_simp; try with_reducible rfl
      refine tkH 12 ?_ hS (fun wx hx => ?_) ?_; rotate_left
      · obtain ⟨⟨hx0, hx1, hx2, hx3, hx4, hx5⟩, _⟩ := hx; go_simp; try with_reducible rfl
      refine wpAnyH_done (by kernel_rfl) ?_ _
      go_simp
      clear hS
      go_wp2
      go_ret
      exact ⟨rfl, HS.out.drew⟩
    have e3 : (td != d) = false := by simp [h2]
    rw [if_neg (fun q => q.2 h2)] at hp
    clear h2
    go_enter Tryz.func118, Tryz.ntmps118
    go_upto_region 1 with fail
    refine wp_region_held_drew (S := fun X => opBO X bo oo kd d n td tn vv) (by kernel_rfl) (HC.out.op HS.out.drew) (fun hS => ?_)
    refine tkH 0 ?_ hS (fun wx hx => ?_) ?_; rotate_left
    · obtain ⟨⟨hx0, hx1, hx2, hx3, hx4, hx5⟩, _⟩ := hx; go_simp; try with_reducible rfl
    refine tkH 1 ?_ hS (fun wx hx => ?_) ?_; rotate_left
    · obtain ⟨⟨hx0, hx1, hx2, hx3, hx4, hx5⟩, _⟩ := hx; go_simp; try with_reducible rfl
    refine tkH 2 ?_ hS (fun wx hx => ?_) ?_; rotate_left
    · obtain ⟨⟨hx0, hx1, hx2, hx3, hx4, hx5⟩, _⟩ := hx; go_simp; try with_reducible rfl
    refine tkH 3 ?_ hS (fun wx hx => ?_) ?_; rotate_left
    · obtain ⟨⟨hx0, hx1, hx2, hx3, hx4, hx5⟩, _⟩ := hx; go_simp; try with_reducible rfl
    refine tkH 4 ?_ hS (fun wx hx => ?_) ?_; rotate_left
    · obtain ⟨⟨hx0, hx1, hx2, hx3, hx4, hx5⟩, _⟩ := hx; go_simp; try with_reducible rfl
    refine tkH 5 ?_ hS (fun wx hx => ?_) ?_; rotate_left
    · obtain ⟨⟨hx0, hx1, hx2, hx3, hx4, hx5⟩, _⟩ := hx; go_simp; try with_reducible rfl
    refine tkH 6 ?_ hS (fun wx hx => ?_) ?_; rotate_left
    · obtain ⟨⟨hx0, hx1, hx2, hx3, hx4, hx5⟩, _⟩ := hx; go_simp; try with_reducible rfl
    refine tkH 7 ?_ hS (fun wx hx => ?_) ?_; rotate_left
    · obtain ⟨⟨hx0, hx1, hx2, hx3, hx4, hx5⟩, _⟩ := hx; go_simp; try with_reducible rfl
    refine tkH 8 ?_ hS (fun wx hx => ?_) ?_; rotate_left
    · obtain ⟨⟨hx0, hx1, hx2, hx3, hx4, hx5⟩, _⟩ := hx; go_simp; try with_reducible rfl
    refine tkH 9 ?_ hS (fun wx hx => ?_) ?_; rotate_left
    · obtain ⟨⟨hx0, hx1, hx2, hx3, hx4, hx5⟩, _⟩ := hx; go_simp; try with_reducible rfl
    refine tkH 10 ?_ hS (fun wx hx => ?_) ?_; rotate_left
    · obtain ⟨⟨hx0, hx1, hx2, hx3, hx4, hx5⟩, _⟩ := hx; go_simp; try with_reducible rfl
    refine tkH 11 ?_ hS (fun wx hx => ?_) ?_; rotate_left
    · obtain ⟨⟨hx0, hx1, hx2, hx3, hx4, hx5⟩, _⟩ := hx; go_simp; try with_reducible rfl
    refine tkH 12 ?_ hS (fun wx hx => ?_) ?_; rotate_left
    · obtain ⟨⟨hx0, hx1, hx2, hx3, hx4, hx5⟩, _⟩ := hx; go_simp; try with_reducible rfl
    refine wpAnyH_done (by kernel_rfl) ?_ _
    go_simp
    clear hS
    obtain ⟨tt, htq⟩ : ∃ tt, targetP L td tn xs = tt := ⟨_, rfl⟩
    have hzl := target_len L td tn xs
    rw [htq] at hp hzl
    obtain ⟨t, zs⟩ := tt
    have HT : Hid (targetP L td tn xs = (t, zs)) := htq
    clear htq
    by_cases h0 : t = 0
    case neg =>
      have e0 : (t != 0) = true := bne_iff_ne.2 h0
      rw [if_neg h0] at hp
      simp only [Prod.mk.injEq] at hp
      obtain ⟨rfl, rfl, rfl, rfl, rfl⟩ := hp
      clear h0
      go_wp2_with fail
      refine (l13Target_is L y bo oo kd d n td tn vv w0 _ 0 xs 0 [] HC.out HS.out.drew (by omega) _ zs HT.out).mono ?_
      rintro e w2 ⟨rfl, s2⟩
      have S2 : Hid (StP w0 w2 0 zs 0 []) := s2
      clear s2
      go_wp2
      go_ret
      exact ⟨rfl, S2.out⟩
    subst h0
    rw [if_pos rfl] at hp
    simp only [Prod.mk.injEq] at hp
    obtain ⟨rfl, rfl, rfl, rfl, rfl⟩ := hp
    go_wp2_with fail
    refine (l13Target_is L y bo oo kd d n td tn vv w0 _ 0 xs 0 [] HC.out HS.out.drew (by omega) _ zs HT.out).mono ?_
    rintro e w2 ⟨rfl, s2⟩
    have S2 : Hid (StP w0 w2 0 zs 0 []) := s2
    clear s2
    go_upto_region 6 with fail
    refine wp_region_held_drew (S := fun X => opBO X bo oo kd d n td tn vv) (by kernel_rfl) (HC.out.op S2.out.drew) (fun hS => ?_)
    refine tkH 0 ?_ hS (fun wx hx => ?_) ?_; rotate_left
    · obtain ⟨⟨hx0, hx1, hx2, hx3, hx4, hx5⟩, _⟩ := hx; go_simp; try with_reducible rfl
    refine tkH 1 ?_ hS (fun wx hx => ?_) ?_; rotate_left
    · obtain ⟨⟨hx0, hx1, hx2, hx3, hx4, hx5⟩, _⟩ := hx; go_simp; try with_reducible rfl
    refine tkH 2 ?_ hS (fun wx hx => ?_) ?_; rotate_left
    · obtain ⟨⟨hx0, hx1, hx2, hx3, hx4, hx5⟩, _⟩ := hx; go_simp; try with_reducible rfl
    refine tkH 3 ?_ hS (fun wx hx => ?_) ?_; rotate_left
    · obtain ⟨⟨hx0, hx1, hx2, hx3, hx4, hx5⟩, _⟩ := hx; go_simp; try with_reducible rfl
    refine tkH 4 ?_ hS (fun wx hx => ?_) ?_; rotate_left
    · obtain ⟨⟨hx0, hx1, hx2, hx3, hx4, hx5⟩, _⟩ := hx; go_simp; try with_reducible rfl
    refine tkH 5 ?_ hS (fun wx hx => ?_) ?_; rotate_left
    · obtain ⟨⟨hx0, hx1, hx2, hx3, hx4, hx5⟩, _⟩ := hx; go_simp; try with_reducible rfl
    refine tkH 6 ?_ hS (fun wx hx => ?_) ?_; rotate_left
    · obtain ⟨⟨hx0, hx1, hx2, hx3, hx4, hx5⟩, _⟩ := hx; go_simp; try with_reducible rfl
    refine tkH 7 ?_ hS (fun wx hx => ?_) ?_; rotate_left
    · obtain ⟨⟨hx0, hx1, hx2, hx3, hx4, hx5⟩, _⟩ := hx; go_simp; try with_reducible rfl
    refine tkH 8 ?_ hS (fun wx hx => ?_) ?_; rotate_left
    · obtain ⟨⟨hx0, hx1, hx2, hx3, hx4, hx5⟩, _⟩ := hx; go_simp; try with_reducible rfl
    refine rdH 9 (fun K hK => ?_)
    go_simp
    go_wp2_with fail
    refine (ofE_is d n HC.out.2.2.2.1 HC.out.2.2.2.2.1 _).mono ?_
    rintro e w9 ⟨rfl, hw9⟩
    obtain rfl := hw9.symm
    go_wp2_with fail
    refine hK.out _ _ hS (fun hS => ?_)
    clear hK K
    refine rdH 10 (fun K hK => ?_)
    go_simp
    go_wp2_with fail
    refine (l13Delete_is (kE d n) w0 _ 0 _ 0 _ S2.out.drew (by omega)).mono ?_
    rintro e w3 ⟨rfl, st⟩
    have S3 : Hid (StP w0 w3 0 _ (0 + 1) _) := st
    have hSx := HC.out.op st
    clear st
    go_wp2_with fail
    refine hK.out _ _ hSx (fun hS => ?_)
    clear hK K
    refine wpAnyH_done (by kernel_rfl) ?_ _
    go_simp
    go_upto_region 7 with fail
    refine wp_region_held_drew (S := fun X => opBO X bo oo kd d n td tn vv) (by kernel_rfl) (HC.out.op S3.out.drew) (fun hS => ?_)
    refine tkH 0 ?_ hS (fun wx hx => ?_) ?_; rotate_left
    · obtain ⟨⟨hx0, hx1, hx2, hx3, hx4, hx5⟩, _⟩ := hx; go_simp; try with_reducible rfl
    refine tkH 1 ?_ hS (fun wx hx => ?_) ?_; rotate_left
    · obtain ⟨⟨hx0, hx1, hx2, hx3, hx4, hx5⟩, _⟩ := hx; go_simp; try with_reducible rfl
    refine tkH 2 ?_ hS (fun wx hx => ?_) ?_; rotate_left
    · obtain ⟨⟨hx0, hx1, hx2, hx3, hx4, hx5⟩, _⟩ := hx; go_simp; try with_reducible rfl
    refine tkH 3 ?_ hS (fun wx hx => ?_) ?_; rotate_left
    · obtain ⟨⟨hx0, hx1, hx2, hx3, hx4, hx5⟩, _⟩ := hx; go_simp; try with_reducible rfl
    refine tkH 4 ?_ hS (fun wx hx => ?_) ?_; rotate_left
    · obtain ⟨⟨hx0, hx1, hx2, hx3, hx4, hx5⟩, _⟩ := hx; go_simp; try with_reducible rfl
    refine tkH 5 ?_ hS (fun wx hx => ?_) ?_; rotate_left
    · obtain ⟨⟨hx0, hx1, hx2, hx3, hx4, hx5⟩, _⟩ := hx; go_simp; try with_reducible rfl
    refine tkH 6 ?_ hS (fun wx hx => ?_) ?_; rotate_left
    · obtain ⟨⟨hx0, hx1, hx2, hx3, hx4, hx5⟩, _⟩ := hx; go_simp; try with_reducible rfl
    refine tkH 7 ?_ hS (fun wx hx => ?_) ?_; rotate_left
    · obtain ⟨⟨hx0, hx1, hx2, hx3, hx4, hx5⟩, _⟩ := hx; go_simp; try with_reducible rfl
    refine tkH 8 ?_ hS (fun wx hx => ?_) ?_; rotate_left
    · obtain ⟨⟨hx0, hx1, hx2, hx3, hx4, hx5⟩, _⟩ := hx; go_simp; try with_reducible rfl
    refine tkH 10 ?_ hS (fun wx hx => ?_) ?_; rotate_left
    · obtain ⟨⟨hx0, hx1, hx2, hx3, hx4, hx5⟩, _⟩ := hx; go_simp; try with_reducible rfl
    refine rdH 9 (fun K hK => ?_)
    go_simp
    go_wp2_with fail
    refine (ofE_is td tn HC.out.2.2.2.2.2.1 HC.out.2.2.2.2.2.2 _).mono ?_
    rintro e w9 ⟨rfl, hw9⟩
    obtain rfl := hw9.symm
    go_wp2_with fail
    refine hK.out _ _ hS (fun hS => ?_)
    clear hK K
    refine rdH 11 (fun K hK => ?_)
    go_simp
    go_wp2_with fail
    refine (l13Put_is (kE td tn) (c) w0 _ 0 _ 1 _ S3.out.drew (by omega)).mono ?_
    rintro e w4 ⟨rfl, st⟩
    have S4 : Hid (StP w0 w4 0 _ (1 + 1) _) := st
    have hSx := HC.out.op st
    clear st
    go_wp2_with fail
    refine hK.out _ _ hSx (fun hS => ?_)
    clear hK K
    refine wpAnyH_done (by kernel_rfl) ?_ _
    go_simp
    go_wp2
    go_ret
    exact ⟨rfl, S4.out⟩
  have e1 : (cv == 1000) = false := beq_eq_false_iff_ne.2 h1
  rw [if_neg (fun q => h1 q.1)] at hp
  clear h1
  go_enter Tryz.func118, Tryz.ntmps118
  go_upto_region 1 with fail
  refine wp_region_held_drew (S := fun X => opBO X bo oo kd d n td tn vv) (by kernel_rfl) (HC.out.op HS.out.drew) (fun hS => ?_)
  refine tkH 0 ?_ hS (fun wx hx => ?_) ?_; rotate_left
  · obtain ⟨⟨hx0, hx1, hx2, hx3, hx4, hx5⟩, _⟩ := hx; go_simp; try with_reducible rfl
  refine tkH 1 ?_ hS (fun wx hx => ?_) ?_; rotate_left
  · obtain ⟨⟨hx0, hx1, hx2, hx3, hx4, hx5⟩, _⟩ := hx; go_simp; try with_reducible rfl
  refine tkH 2 ?_ hS (fun wx hx => ?_) ?_; rotate_left
  · obtain ⟨⟨hx0, hx1, hx2, hx3, hx4, hx5⟩, _⟩ := hx; go_simp; try with_reducible rfl
  refine noH 3 hS ?_
  refine noH 4 hS ?_
  refine noH 5 hS ?_
  refine noH 6 hS ?_
  refine noH 7 hS ?_
  refine noH 8 hS ?_
  refine noH 9 hS ?_
  refine noH 10 hS ?_
  refine noH 11 hS ?_
  refine tkH 12 ?_ hS (fun wx hx => ?_) ?_; rotate_left
  · obtain ⟨⟨hx0, hx1, hx2, hx3, hx4, hx5⟩, _⟩ := hx; go_simp; try with_reducible rfl
  refine wpAnyH_done (by kernel_rfl) ?_ _
  go_simp
  clear hS
  obtain ⟨tt, htq⟩ : ∃ tt, targetP L td tn xs = tt := ⟨_, rfl⟩
  have hzl := target_len L td tn xs
  rw [htq] at hp hzl
  obtain ⟨t, zs⟩ := tt
  have HT : Hid (targetP L td tn xs = (t, zs)) := htq
  clear htq
  by_cases h0 : t = 0
  case neg =>
    have e0 : (t != 0) = true := bne_iff_ne.2 h0
    rw [if_neg h0] at hp
    simp only [Prod.mk.injEq] at hp
    obtain ⟨rfl, rfl, rfl, rfl, rfl⟩ := hp
    clear h0
    go_wp2_with fail
    refine (l13Target_is L y bo oo kd d n td tn vv w0 _ 0 xs 0 [] HC.out HS.out.drew (by omega) _ zs HT.out).mono ?_
    rintro e w2 ⟨rfl, s2⟩
    have S2 : Hid (StP w0 w2 0 zs 0 []) := s2
    clear s2
    go_wp2
    go_ret
    exact ⟨rfl, S2.out⟩
  subst h0
  rw [if_pos rfl] at hp
  simp only [Prod.mk.injEq] at hp
  obtain ⟨rfl, rfl, rfl, rfl, rfl⟩ := hp
  go_wp2_with fail
  refine (l13Target_is L y bo oo kd d n td tn vv w0 _ 0 xs 0 [] HC.out HS.out.drew (by omega) _ zs HT.out).mono ?_
  rintro e w2 ⟨rfl, s2⟩
  have S2 : Hid (StP w0 w2 0 zs 0 []) := s2
  clear s2
  go_upto_region 6 with fail
  refine wp_region_held_drew (S := fun X => opBO X bo oo kd d n td tn vv) (by kernel_rfl) (HC.out.op S2.out.drew) (fun hS => ?_)
  refine tkH 0 ?_ hS (fun wx hx => ?_) ?_; rotate_left
  · obtain ⟨⟨hx0, hx1, hx2, hx3, hx4, hx5⟩, _⟩ := hx; go_simp; try with_reducible rfl
  refine tkH 1 ?_ hS (fun wx hx => ?_) ?_; rotate_left
  · obtain ⟨⟨hx0, hx1, hx2, hx3, hx4, hx5⟩, _⟩ := hx; go_simp; try with_reducible rfl
  refine tkH 2 ?_ hS (fun wx hx => ?_) ?_; rotate_left
  · obtain ⟨⟨hx0, hx1, hx2, hx3, hx4, hx5⟩, _⟩ := hx; go_simp; try with_reducible rfl
  refine tkH 3 ?_ hS (fun wx hx => ?_) ?_; rotate_left
  · obtain ⟨⟨hx0, hx1, hx2, hx3, hx4, hx5⟩, _⟩ := hx; go_simp; try with_reducible rfl
  refine tkH 4 ?_ hS (fun wx hx => ?_) ?_; rotate_left
  · obtain ⟨⟨hx0, hx1, hx2, hx3, hx4, hx5⟩, _⟩ := hx; go_simp; try with_reducible rfl
  refine tkH 5 ?_ hS (fun wx hx => ?_) ?_; rotate_left
  · obtain ⟨⟨hx0, hx1, hx2, hx3, hx4, hx5⟩, _⟩ := hx; go_simp; try with_reducible rfl
  refine tkH 6 ?_ hS (fun wx hx => ?_) ?_; rotate_left
  · obtain ⟨⟨hx0, hx1, hx2, hx3, hx4, hx5⟩, _⟩ := hx; go_simp; try with_reducible rfl
  refine tkH 7 ?_ hS (fun wx hx => ?_) ?_; rotate_left
  · obtain ⟨⟨hx0, hx1, hx2, hx3, hx4, hx5⟩, _⟩ := hx; go_simp; try with_reducible rfl
  refine tkH 8 ?_ hS (fun wx hx => ?_) ?_; rotate_left
  · obtain ⟨⟨hx0, hx1, hx2, hx3, hx4, hx5⟩, _⟩ := hx; go_simp; try with_reducible rfl
  refine rdH 9 (fun K hK => ?_)
  go_simp
  go_wp2_with fail
  refine (ofE_is d n HC.out.2.2.2.1 HC.out.2.2.2.2.1 _).mono ?_
  rintro e w9 ⟨rfl, hw9⟩
  obtain rfl := hw9.symm
  go_wp2_with fail
  refine hK.out _ _ hS (fun hS => ?_)
  clear hK K
  refine rdH 10 (fun K hK => ?_)
  go_simp
  go_wp2_with fail
  refine (l13Delete_is (kE d n) w0 _ 0 _ 0 _ S2.out.drew (by omega)).mono ?_
  rintro e w3 ⟨rfl, st⟩
  have S3 : Hid (StP w0 w3 0 _ (0 + 1) _) := st
  have hSx := HC.out.op st
  clear st
  go_wp2_with fail
  refine hK.out _ _ hSx (fun hS => ?_)
  clear hK K
  refine wpAnyH_done (by kernel_rfl) ?_ _
  go_simp
  go_upto_region 7 with fail
  refine wp_region_held_drew (S := fun X => opBO X bo oo kd d n td tn vv) (by kernel_rfl) (HC.out.op S3.out.drew) (fun hS => ?_)
  refine tkH 0 ?_ hS (fun wx hx => ?_) ?_; rotate_left
  · obtain ⟨⟨hx0, hx1, hx2, hx3, hx4, hx5⟩, _⟩ := hx; go_simp; try with_reducible rfl
  refine tkH 1 ?_ hS (fun wx hx => ?_) ?_; rotate_left
  · obtain ⟨⟨hx0, hx1, hx2, hx3, hx4, hx5⟩, _⟩ := hx; go_simp; try with_reducible rfl
  refine tkH 2 ?_ hS (fun wx hx => ?_) ?_; rotate_left
  · obtain ⟨⟨hx0, hx1, hx2, hx3, hx4, hx5⟩, _⟩ := hx; go_simp; try with_reducible rfl
  refine tkH 3 ?_ hS (fun wx hx => ?_) ?_; rotate_left
  · obtain ⟨⟨hx0, hx1, hx2, hx3, hx4, hx5⟩, _⟩ := hx; go_simp; try with_reducible rfl
  refine tkH 4 ?_ hS (fun wx hx => ?_) ?_; rotate_left
  · obtain ⟨⟨hx0, hx1, hx2, hx3, hx4, hx5⟩, _⟩ := hx; go_simp; try with_reducible rfl
  refine tkH 5 ?_ hS (fun wx hx => ?_) ?_; rotate_left
  · obtain ⟨⟨hx0, hx1, hx2, hx3, hx4, hx5⟩, _⟩ := hx; go_simp; try with_reducible rfl
  refine tkH 6 ?_ hS (fun wx hx => ?_) ?_; rotate_left
  · obtain ⟨⟨hx0, hx1, hx2, hx3, hx4, hx5⟩, _⟩ := hx; go_simp; try with_reducible rfl
  refine tkH 7 ?_ hS (fun wx hx => ?_) ?_; rotate_left
  · obtain ⟨⟨hx0, hx1, hx2, hx3, hx4, hx5⟩, _⟩ := hx; go_simp; try with_reducible rfl
  refine tkH 8 ?_ hS (fun wx hx => ?_) ?_; rotate_left
  · obtain ⟨⟨hx0, hx1, hx2, hx3, hx4, hx5⟩, _⟩ := hx; go_simp; try with_reducible rfl
  refine tkH 10 ?_ hS (fun wx hx => ?_) ?_; rotate_left
  · obtain ⟨⟨hx0, hx1, hx2, hx3, hx4, hx5⟩, _⟩ := hx; go_simp; try with_reducible rfl
  refine rdH 9 (fun K hK => ?_)
  go_simp
  go_wp2_with fail
  refine (ofE_is td tn HC.out.2.2.2.2.2.1 HC.out.2.2.2.2.2.2 _).mono ?_
  rintro e w9 ⟨rfl, hw9⟩
  obtain rfl := hw9.symm
  go_wp2_with fail
  refine hK.out _ _ hS (fun hS => ?_)
  clear hK K
  refine rdH 11 (fun K hK => ?_)
  go_simp
  go_wp2_with fail
  refine (l13Put_is (kE td tn) (c) w0 _ 0 _ 1 _ S3.out.drew (by omega)).mono ?_
  rintro e w4 ⟨rfl, st⟩
  have S4 : Hid (StP w0 w4 0 _ (1 + 1) _) := st
  have hSx := HC.out.op st
  clear st
  go_wp2_with fail
  refine hK.out _ _ hSx (fun hS => ?_)
  clear hK K
  refine wpAnyH_done (by kernel_rfl) ?_ _
  go_simp
  go_wp2
  go_ret
  exact ⟨rfl, S4.out⟩
set_option maxRecDepth 100000 in
set_option maxHeartbeats 4000000 in
theorem l13Link_is (L : Prs) (y : Value) (bo oo : Nat) (kd d n td tn vv : Int) (w0 w : World) (c cv : Int) (xs : List Int) (hc : Ctx w0 L y bo oo kd d n td tn vv) (hs : StP w0 w 0 xs 0 []) (hx : xs.length ≤ 800) (hcc : 0 ≤ c ∧ c ≤ 9) (hcv : 0 ≤ cv ∧ cv ≤ 9999) (r v : Int) (ys : List Int) (m : Nat) (W : List Int) (hp : linkP L td tn c cv xs = (r, v, ys, m, W)) :
    Calls Tryz.prog 119 #[.pointer (some ⟨w0.heap.size, 0, none⟩), y, .pointer (some ⟨bo, oo, none⟩), .int .i64 c, .int .i64 cv] w fun e w' => e = .returned (.int .i64 r) ∧ StP w0 w' v ys m W := by
  have HC : Hid (Ctx w0 L y bo oo kd d n td tn vv) := hc
  have HS : Hid (StP w0 w 0 xs 0 []) := hs
  have HCC : Hid (0 ≤ c ∧ c ≤ 9) := hcc
  have hl := hc.1.2
  obtain ⟨hv0, hv9⟩ := hcv
  clear hc hs hcc
  unfold linkP at hp
  by_cases h1 : cv = 1000
  · subst h1
    rw [if_pos rfl] at hp
    simp only [Prod.mk.injEq] at hp
    obtain ⟨rfl, rfl, rfl, rfl, rfl⟩ := hp
    go_enter Tryz.func119, Tryz.ntmps119
    go_wp2
    go_ret
    exact ⟨rfl, HS.out⟩
  have e1 : (cv == 1000) = false := beq_eq_false_iff_ne.2 h1
  rw [if_neg h1] at hp
  clear h1
  obtain ⟨tt, htq⟩ : ∃ tt, targetP L td tn xs = tt := ⟨_, rfl⟩
  have hzl := target_len L td tn xs
  rw [htq] at hp hzl
  obtain ⟨t, zs⟩ := tt
  have HT : Hid (targetP L td tn xs = (t, zs)) := htq
  clear htq
  by_cases h0 : t = 0
  case neg =>
    have e0 : (t != 0) = true := bne_iff_ne.2 h0
    rw [if_neg h0] at hp
    simp only [Prod.mk.injEq] at hp
    obtain ⟨rfl, rfl, rfl, rfl, rfl⟩ := hp
    clear h0
    go_enter Tryz.func119, Tryz.ntmps119
    go_wp2_with fail
    refine (l13Target_is L y bo oo kd d n td tn vv w0 _ 0 xs 0 [] HC.out HS.out (by omega) _ zs HT.out).mono ?_
    rintro e w2 ⟨rfl, s2⟩
    have S2 : Hid (StP w0 w2 0 zs 0 []) := s2
    clear s2
    go_wp2
    go_ret
    exact ⟨rfl, S2.out⟩
  subst h0
  rw [if_pos rfl] at hp
  by_cases h2 : 2099 ≤ cv
  · have e2 : decide (2099 ≤ cv) = true := decide_eq_true h2
    rw [if_pos h2] at hp
    simp only [Prod.mk.injEq] at hp
    obtain ⟨rfl, rfl, rfl, rfl, rfl⟩ := hp
    clear h2
    go_enter Tryz.func119, Tryz.ntmps119
    go_wp2_with fail
    refine (l13Target_is L y bo oo kd d n td tn vv w0 _ 0 xs 0 [] HC.out HS.out (by omega) _ zs HT.out).mono ?_
    rintro e w2 ⟨rfl, s2⟩
    have S2 : Hid (StP w0 w2 0 zs 0 []) := s2
    clear s2
    go_wp2
    go_ret
    exact ⟨rfl, S2.out⟩
  have e2 : decide (2099 ≤ cv) = false := decide_eq_false h2
  rw [if_neg h2] at hp
  simp only [Prod.mk.injEq] at hp
  obtain ⟨rfl, rfl, rfl, rfl, rfl⟩ := hp
  clear h2
  go_enter Tryz.func119, Tryz.ntmps119
  go_wp2_with fail
  refine (l13Target_is L y bo oo kd d n td tn vv w0 _ 0 xs 0 [] HC.out HS.out (by omega) _ zs HT.out).mono ?_
  rintro e w2 ⟨rfl, s2⟩
  have S2 : Hid (StP w0 w2 0 zs 0 []) := s2
  clear s2
  go_wp2_with fail
  refine (ofI_is c HCC.out _).mono ?_
  rintro e w9 ⟨rfl, hw9⟩
  obtain rfl := hw9.symm
  go_wp2_with fail
  refine (l13Put_is (kI c) (cv + 1) w0 _ 0 _ 0 _ S2.out (by omega)).mono ?_
  rintro e w3 ⟨rfl, st⟩
  have S3 : Hid (StP w0 w3 0 _ (0 + 1) _) := st
  clear st
  go_upto_region 9 with fail
  refine wp_region_held_drew (S := fun X => opBO X bo oo kd d n td tn vv) (by kernel_rfl) (HC.out.op S3.out.drew) (fun hS => ?_)
  refine tkH 0 ?_ hS (fun wx hx => ?_) ?_; rotate_left
  · obtain ⟨⟨hx0, hx1, hx2, hx3, hx4, hx5⟩, _⟩ := hx; go_simp; try with_reducible rfl
  refine tkH 1 ?_ hS (fun wx hx => ?_) ?_; rotate_left
  · obtain ⟨⟨hx0, hx1, hx2, hx3, hx4, hx5⟩, _⟩ := hx; go_simp; try with_reducible rfl
  refine tkH 2 ?_ hS (fun wx hx => ?_) ?_; rotate_left
  · obtain ⟨⟨hx0, hx1, hx2, hx3, hx4, hx5⟩, _⟩ := hx; go_simp; try with_reducible rfl
  refine tkH 3 ?_ hS (fun wx hx => ?_) ?_; rotate_left
  · obtain ⟨⟨hx0, hx1, hx2, hx3, hx4, hx5⟩, _⟩ := hx; go_simp; try with_reducible rfl
  refine tkH 4 ?_ hS (fun wx hx => ?_) ?_; rotate_left
  · obtain ⟨⟨hx0, hx1, hx2, hx3, hx4, hx5⟩, _⟩ := hx; go_simp; try with_reducible rfl
  refine tkH 5 ?_ hS (fun wx hx => ?_) ?_; rotate_left
  · obtain ⟨⟨hx0, hx1, hx2, hx3, hx4, hx5⟩, _⟩ := hx; go_simp; try with_reducible rfl
  refine tkH 6 ?_ hS (fun wx hx => ?_) ?_; rotate_left
  · obtain ⟨⟨hx0, hx1, hx2, hx3, hx4, hx5⟩, _⟩ := hx; go_simp; try with_reducible rfl
  refine tkH 7 ?_ hS (fun wx hx => ?_) ?_; rotate_left
  · obtain ⟨⟨hx0, hx1, hx2, hx3, hx4, hx5⟩, _⟩ := hx; go_simp; try with_reducible rfl
  refine tkH 8 ?_ hS (fun wx hx => ?_) ?_; rotate_left
  · obtain ⟨⟨hx0, hx1, hx2, hx3, hx4, hx5⟩, _⟩ := hx; go_simp; try with_reducible rfl
  refine tkH 10 ?_ hS (fun wx hx => ?_) ?_; rotate_left
  · obtain ⟨⟨hx0, hx1, hx2, hx3, hx4, hx5⟩, _⟩ := hx; go_simp; try with_reducible rfl
  refine rdH 9 (fun K hK => ?_)
  go_simp
  go_wp2_with fail
  refine (ofE_is td tn HC.out.2.2.2.2.2.1 HC.out.2.2.2.2.2.2 _).mono ?_
  rintro e w9 ⟨rfl, hw9⟩
  obtain rfl := hw9.symm
  go_wp2_with fail
  refine hK.out _ _ hS (fun hS => ?_)
  clear hK K
  refine rdH 11 (fun K hK => ?_)
  go_simp
  go_wp2_with fail
  refine (l13Put_is (kE td tn) (c) w0 _ 0 _ 1 _ S3.out.drew (by omega)).mono ?_
  rintro e w4 ⟨rfl, st⟩
  have S4 : Hid (StP w0 w4 0 _ (1 + 1) _) := st
  have hSx := HC.out.op st
  clear st
  go_wp2_with fail
  refine hK.out _ _ hSx (fun hS => ?_)
  clear hK K
  refine wpAnyH_done (by kernel_rfl) ?_ _
  go_simp
  go_wp2
  go_ret
  exact ⟨rfl, S4.out⟩
end Go.Proofs.YtbpppaolcgibnaaGreatDoor

namespace Go.Proofs.YtbpppaolcgibnaaGreatDoor
open Go.RowKit

theorem l1Min_is (a : Int) (w : World) : Calls Tryz.prog 116 #[.int .i64 a, .int .i64 9] w fun e w' => e = .returned (.int .i64 (minC a)) ∧ w' = w := by
  unfold minC
  by_cases h : a < 9
  · rw [if_pos h]
    go_enter Tryz.func116, Tryz.ntmps116
    go_wp2
    go_ret
    exact ⟨rfl, rfl⟩
  · rw [if_neg h]
    have e : decide (a < 9) = false := decide_eq_false h
    go_enter Tryz.func116, Tryz.ntmps116
    go_wp2
    go_ret
    exact ⟨rfl, rfl⟩
theorem minC_in {a : Int} (h : 0 ≤ a) : 0 ≤ minC a ∧ minC a ≤ 9 := by unfold minC; split <;> omega
set_option maxRecDepth 100000 in
set_option maxHeartbeats 4000000 in
theorem l13Child_is (L : Prs) (y : Value) (bo oo : Nat) (kd d n td tn vv : Int) (w0 w : World) (ch : Int) (xs : List Int) (hc : Ctx w0 L y bo oo kd d n td tn vv) (hs : StP w0 w 0 xs 0 []) (hx : xs.length ≤ 700) (hch : 0 ≤ ch) (hkd : 3 ≤ kd ∧ kd ≤ 8) (r v : Int) (ys : List Int) (m : Nat) (W : List Int) (hp : childP L kd d n td tn vv ch xs = (r, v, ys, m, W)) :
    Calls Tryz.prog 105 #[.pointer (some ⟨w0.heap.size, 0, none⟩), y, .pointer (some ⟨bo, oo, none⟩), .int .i64 ch] w fun e w' => e = .returned (.int .i64 r) ∧ StP w0 w' v ys m W := by
  have HC : Hid (Ctx w0 L y bo oo kd d n td tn vv) := hc
  have HS : Hid (StP w0 w 0 xs 0 []) := hs
  have hl := hc.1.2
  obtain ⟨c, hcq⟩ : ∃ c, minC ch = c := ⟨_, rfl⟩
  have HM : Hid (minC ch = c ∧ (0 ≤ c ∧ c ≤ 9)) := ⟨hcq, hcq ▸ minC_in hch⟩
  have hlen := addR_len xs (kI c)
  obtain ⟨s, hsq⟩ : ∃ s, lookF L (kI c) = s := ⟨_, rfl⟩
  obtain ⟨sh, sz⟩ := s
  have HL : Hid (lookF L (kI c) = (sh, sz)) := hsq
  have HV : Hid (0 ≤ sz ∧ sz ≤ 9999) := by have := hc.2.2.1 (kI c); rw [hsq] at this; exact this
  unfold childP at hp
  rw [hcq, hsq] at hp
  have HP : Hid ((if kd = 3 then removeP L d n c (sh, sz).2 (addR xs (kI c))
    else if kd = 4 then moveP L d n td tn c (sh, sz).2 (addR xs (kI c))
    else if kd = 5 then linkP L td tn c (sh, sz).2 (addR xs (kI c))
    else if kd = 8 then (0, (sh, sz).2, addR xs (kI c), 0, [])
    else if (sh, sz).2 = 1000 then (9, 0, addR xs (kI c), 0, [])
    else if kd = 6 then (0, 0, addR xs (kI c), 1, [kB c, 1, vv])
    else (0, (lookF L (kB c)).2, addR (addR xs (kI c)) (kB c), 0, [])) = (r, v, ys, m, W)) := hp
  clear hc hs hsq hcq hch hp
  by_cases h3 : kd = 3
  · subst h3
    have hp := HP.out
    rw [if_pos rfl] at hp
    have HQ : Hid (removeP L d n c sz (addR xs (kI c)) = (r, v, ys, m, W)) := hp
    clear hp HP hkd
    go_enter Tryz.func105, Tryz.ntmps105
    go_wp2_with fail
    refine (l1Min_is ch _).mono ?_
    rintro e w9 ⟨rfl, hw9⟩
    obtain rfl := hw9.symm
    rw [HM.out.1]
    go_wp2_with fail
    refine (ofI_is c HM.out.2 _).mono ?_
    rintro e w9 ⟨rfl, hw9⟩
    obtain rfl := hw9.symm
    go_wp2_with fail
    refine (l13Read_is (kI c) L y w0 _ 0 xs 0 [] HC.out.1.1 (by omega) HS.out (by omega)).mono ?_
    rintro e w1 ⟨rfl, s1⟩
    have S1 : Hid (StP w0 w1 0 (addR xs (kI c)) 0 []) := s1
    rw [HL.out]
    obtain ⟨⟨o0, o1, o2, o3, o4, o5⟩, _⟩ := HC.out.op s1
    clear s1
    go_wp2_with fail
    refine (ofB_is c HM.out.2 _).mono ?_
    rintro e w9 ⟨rfl, hw9⟩
    obtain rfl := hw9.symm
    go_wp2_with fail
    refine (l13Remove_is L y bo oo _ d n td tn vv w0 _ c sz _ HC.out S1.out (by omega) HM.out.2 HV.out r v ys m W HQ.out).mono ?_
    rintro e w2 ⟨rfl, s2⟩
    have S2 : Hid (StP w0 w2 v ys m W) := s2
    clear s2
    go_wp2
    go_ret
    exact ⟨rfl, S2.out⟩
  by_cases h4 : kd = 4
  · subst h4
    have hp := HP.out
    rw [if_neg h3, if_pos rfl] at hp
    have HQ : Hid (moveP L d n td tn c sz (addR xs (kI c)) = (r, v, ys, m, W)) := hp
    clear hp HP hkd h3
    go_enter Tryz.func105, Tryz.ntmps105
    go_wp2_with fail
    refine (l1Min_is ch _).mono ?_
    rintro e w9 ⟨rfl, hw9⟩
    obtain rfl := hw9.symm
    rw [HM.out.1]
    go_wp2_with fail
    refine (ofI_is c HM.out.2 _).mono ?_
    rintro e w9 ⟨rfl, hw9⟩
    obtain rfl := hw9.symm
    go_wp2_with fail
    refine (l13Read_is (kI c) L y w0 _ 0 xs 0 [] HC.out.1.1 (by omega) HS.out (by omega)).mono ?_
    rintro e w1 ⟨rfl, s1⟩
    have S1 : Hid (StP w0 w1 0 (addR xs (kI c)) 0 []) := s1
    rw [HL.out]
    obtain ⟨⟨o0, o1, o2, o3, o4, o5⟩, _⟩ := HC.out.op s1
    clear s1
    go_wp2_with fail
    refine (ofB_is c HM.out.2 _).mono ?_
    rintro e w9 ⟨rfl, hw9⟩
    obtain rfl := hw9.symm
    go_wp2_with fail
    refine (l13Move_is L y bo oo _ d n td tn vv w0 _ c sz _ HC.out S1.out (by omega) HM.out.2 HV.out r v ys m W HQ.out).mono ?_
    rintro e w2 ⟨rfl, s2⟩
    have S2 : Hid (StP w0 w2 v ys m W) := s2
    clear s2
    go_wp2
    go_ret
    exact ⟨rfl, S2.out⟩
  by_cases h5 : kd = 5
  · subst h5
    have hp := HP.out
    rw [if_neg h3, if_neg h4, if_pos rfl] at hp
    have HQ : Hid (linkP L td tn c sz (addR xs (kI c)) = (r, v, ys, m, W)) := hp
    clear hp HP hkd h3 h4
    go_enter Tryz.func105, Tryz.ntmps105
    go_wp2_with fail
    refine (l1Min_is ch _).mono ?_
    rintro e w9 ⟨rfl, hw9⟩
    obtain rfl := hw9.symm
    rw [HM.out.1]
    go_wp2_with fail
    refine (ofI_is c HM.out.2 _).mono ?_
    rintro e w9 ⟨rfl, hw9⟩
    obtain rfl := hw9.symm
    go_wp2_with fail
    refine (l13Read_is (kI c) L y w0 _ 0 xs 0 [] HC.out.1.1 (by omega) HS.out (by omega)).mono ?_
    rintro e w1 ⟨rfl, s1⟩
    have S1 : Hid (StP w0 w1 0 (addR xs (kI c)) 0 []) := s1
    rw [HL.out]
    obtain ⟨⟨o0, o1, o2, o3, o4, o5⟩, _⟩ := HC.out.op s1
    clear s1
    go_wp2_with fail
    refine (ofB_is c HM.out.2 _).mono ?_
    rintro e w9 ⟨rfl, hw9⟩
    obtain rfl := hw9.symm
    go_wp2_with fail
    refine (l13Link_is L y bo oo _ d n td tn vv w0 _ c sz _ HC.out S1.out (by omega) HM.out.2 HV.out r v ys m W HQ.out).mono ?_
    rintro e w2 ⟨rfl, s2⟩
    have S2 : Hid (StP w0 w2 v ys m W) := s2
    clear s2
    go_wp2
    go_ret
    exact ⟨rfl, S2.out⟩
  by_cases h8 : kd = 8
  · subst h8
    have hp := HP.out
    rw [if_neg h3, if_neg h4, if_neg h5, if_pos rfl] at hp
    simp only [Prod.mk.injEq] at hp
    obtain ⟨rfl, rfl, rfl, rfl, rfl⟩ := hp
    clear HP hkd h3 h4 h5
    go_enter Tryz.func105, Tryz.ntmps105
    go_wp2_with fail
    refine (l1Min_is ch _).mono ?_
    rintro e w9 ⟨rfl, hw9⟩
    obtain rfl := hw9.symm
    rw [HM.out.1]
    go_wp2_with fail
    refine (ofI_is c HM.out.2 _).mono ?_
    rintro e w9 ⟨rfl, hw9⟩
    obtain rfl := hw9.symm
    go_wp2_with fail
    refine (l13Read_is (kI c) L y w0 _ 0 xs 0 [] HC.out.1.1 (by omega) HS.out (by omega)).mono ?_
    rintro e w1 ⟨rfl, s1⟩
    have S1 : Hid (StP w0 w1 0 (addR xs (kI c)) 0 []) := s1
    rw [HL.out]
    obtain ⟨⟨o0, o1, o2, o3, o4, o5⟩, _⟩ := HC.out.op s1
    clear s1
    go_wp2_with fail
    refine (ofB_is c HM.out.2 _).mono ?_
    rintro e w9 ⟨rfl, hw9⟩
    obtain rfl := hw9.symm
    obtain ⟨q0, vr, vw, ⟨⟨c0, c1, c2, c3, c4⟩, f0, f1, f2, f3, f4⟩, _⟩ := S1.out
    go_wp2
    go_ret
    exact ⟨rfl, S1.out.value _⟩
  have hp := HP.out
  rw [if_neg h3, if_neg h4, if_neg h5, if_neg h8] at hp
  clear HP
  obtain rfl | rfl : kd = 6 ∨ kd = 7 := by omega
  · rw [if_pos rfl] at hp
    by_cases hz : sz = 1000
    · subst hz
      rw [if_pos rfl] at hp
      simp only [Prod.mk.injEq] at hp
      obtain ⟨rfl, rfl, rfl, rfl, rfl⟩ := hp
      clear h3 h4 h5 h8 hkd
      go_enter Tryz.func105, Tryz.ntmps105
      go_wp2_with fail
      refine (l1Min_is ch _).mono ?_
      rintro e w9 ⟨rfl, hw9⟩
      obtain rfl := hw9.symm
      rw [HM.out.1]
      go_wp2_with fail
      refine (ofI_is c HM.out.2 _).mono ?_
      rintro e w9 ⟨rfl, hw9⟩
      obtain rfl := hw9.symm
      go_wp2_with fail
      refine (l13Read_is (kI c) L y w0 _ 0 xs 0 [] HC.out.1.1 (by omega) HS.out (by omega)).mono ?_
      rintro e w1 ⟨rfl, s1⟩
      have S1 : Hid (StP w0 w1 0 (addR xs (kI c)) 0 []) := s1
      rw [HL.out]
      obtain ⟨⟨o0, o1, o2, o3, o4, o5⟩, _⟩ := HC.out.op s1
      clear s1
      go_wp2_with fail
      refine (ofB_is c HM.out.2 _).mono ?_
      rintro e w9 ⟨rfl, hw9⟩
      obtain rfl := hw9.symm
      go_wp2
      go_ret
      exact ⟨rfl, S1.out⟩
    · have ez : (sz == 1000) = false := beq_eq_false_iff_ne.2 hz
      rw [if_neg hz] at hp
      simp only [Prod.mk.injEq] at hp
      obtain ⟨rfl, rfl, rfl, rfl, rfl⟩ := hp
      clear h3 h4 h5 h8 hkd hz
      go_enter Tryz.func105, Tryz.ntmps105
      go_wp2_with fail
      refine (l1Min_is ch _).mono ?_
      rintro e w9 ⟨rfl, hw9⟩
      obtain rfl := hw9.symm
      rw [HM.out.1]
      go_wp2_with fail
      refine (ofI_is c HM.out.2 _).mono ?_
      rintro e w9 ⟨rfl, hw9⟩
      obtain rfl := hw9.symm
      go_wp2_with fail
      refine (l13Read_is (kI c) L y w0 _ 0 xs 0 [] HC.out.1.1 (by omega) HS.out (by omega)).mono ?_
      rintro e w1 ⟨rfl, s1⟩
      have S1 : Hid (StP w0 w1 0 (addR xs (kI c)) 0 []) := s1
      rw [HL.out]
      obtain ⟨⟨o0, o1, o2, o3, o4, o5⟩, _⟩ := HC.out.op s1
      clear s1
      go_wp2_with fail
      refine (ofB_is c HM.out.2 _).mono ?_
      rintro e w9 ⟨rfl, hw9⟩
      obtain rfl := hw9.symm
      go_wp2_with fail
      refine (l13Put_is (kB c) (vv) w0 _ 0 _ 0 _ S1.out (by omega)).mono ?_
      rintro e w2 ⟨rfl, st⟩
      have S2 : Hid (StP w0 w2 0 _ (0 + 1) _) := st
      clear st
      go_wp2
      go_ret
      exact ⟨rfl, S2.out⟩
  · rw [if_neg (show ¬ ((7 : Int) = 6) by omega)] at hp
    by_cases hz : sz = 1000
    · subst hz
      rw [if_pos rfl] at hp
      simp only [Prod.mk.injEq] at hp
      obtain ⟨rfl, rfl, rfl, rfl, rfl⟩ := hp
      clear h3 h4 h5 h8 hkd
      go_enter Tryz.func105, Tryz.ntmps105
      go_wp2_with fail
      refine (l1Min_is ch _).mono ?_
      rintro e w9 ⟨rfl, hw9⟩
      obtain rfl := hw9.symm
      rw [HM.out.1]
      go_wp2_with fail
      refine (ofI_is c HM.out.2 _).mono ?_
      rintro e w9 ⟨rfl, hw9⟩
      obtain rfl := hw9.symm
      go_wp2_with fail
      refine (l13Read_is (kI c) L y w0 _ 0 xs 0 [] HC.out.1.1 (by omega) HS.out (by omega)).mono ?_
      rintro e w1 ⟨rfl, s1⟩
      have S1 : Hid (StP w0 w1 0 (addR xs (kI c)) 0 []) := s1
      rw [HL.out]
      obtain ⟨⟨o0, o1, o2, o3, o4, o5⟩, _⟩ := HC.out.op s1
      clear s1
      go_wp2_with fail
      refine (ofB_is c HM.out.2 _).mono ?_
      rintro e w9 ⟨rfl, hw9⟩
      obtain rfl := hw9.symm
      go_wp2
      go_ret
      exact ⟨rfl, S1.out⟩
    · have ez : (sz == 1000) = false := beq_eq_false_iff_ne.2 hz
      rw [if_neg hz] at hp
      simp only [Prod.mk.injEq] at hp
      obtain ⟨rfl, rfl, rfl, rfl, rfl⟩ := hp
      clear h3 h4 h5 h8 hkd hz
      go_enter Tryz.func105, Tryz.ntmps105
      go_wp2_with fail
      refine (l1Min_is ch _).mono ?_
      rintro e w9 ⟨rfl, hw9⟩
      obtain rfl := hw9.symm
      rw [HM.out.1]
      go_wp2_with fail
      refine (ofI_is c HM.out.2 _).mono ?_
      rintro e w9 ⟨rfl, hw9⟩
      obtain rfl := hw9.symm
      go_wp2_with fail
      refine (l13Read_is (kI c) L y w0 _ 0 xs 0 [] HC.out.1.1 (by omega) HS.out (by omega)).mono ?_
      rintro e w1 ⟨rfl, s1⟩
      have S1 : Hid (StP w0 w1 0 (addR xs (kI c)) 0 []) := s1
      rw [HL.out]
      obtain ⟨⟨o0, o1, o2, o3, o4, o5⟩, _⟩ := HC.out.op s1
      clear s1
      go_wp2_with fail
      refine (ofB_is c HM.out.2 _).mono ?_
      rintro e w9 ⟨rfl, hw9⟩
      obtain rfl := hw9.symm
      go_wp2_with fail
      refine (l13Read_is (kB c) L y w0 _ 0 _ 0 [] HC.out.1.1 (by omega) S1.out (by omega)).mono ?_
      rintro e w2 ⟨rfl, s2⟩
      have S2 : Hid (StP w0 w2 0 (addR (addR xs (kI c)) (kB c)) 0 []) := s2
      obtain ⟨q0, vr, vw, ⟨⟨c0, c1, c2, c3, c4⟩, f0, f1, f2, f3, f4⟩, _⟩ := s2
      clear o0 o1 o2 o3 o4 o5 q0
      go_wp2
      go_ret
      exact ⟨rfl, S2.out.value _⟩
set_option maxRecDepth 100000 in
set_option maxHeartbeats 4000000 in
theorem l13Reply_is (L : Prs) (y : Value) (bo oo : Nat) (kd d n td tn vv : Int) (w0 w : World) (hc : Ctx w0 L y bo oo kd d n td tn vv) (hs : StP w0 w 0 [] 0 []) (hkd : 1 ≤ kd ∧ kd ≤ 8) (r v : Int) (ys : List Int) (m : Nat) (W : List Int) (hp : replyP L kd d n td tn vv = (r, v, ys, m, W)) :
    Calls Tryz.prog 90 #[.pointer (some ⟨w0.heap.size, 0, none⟩), y, .pointer (some ⟨bo, oo, none⟩)] w fun e w' => e = .returned (.int .i64 r) ∧ StP w0 w' v ys m W := by
  have HC : Hid (Ctx w0 L y bo oo kd d n td tn vv) := hc
  have HS : Hid (StP w0 w 0 [] 0 []) := hs
  have hl := hc.1.2
  obtain ⟨⟨o0, o1, o2, o3, o4, o5⟩, _⟩ := hc.op hs
  have hlen := addR_len [] (kI d)
  have hlen2 := addR_len (addR [] (kI d)) (kE d n)
  simp only [List.length_nil] at hlen
  obtain ⟨s, hsq⟩ : ∃ s, lookF L (kI d) = s := ⟨_, rfl⟩
  obtain ⟨sh, sz⟩ := s
  have HL : Hid (lookF L (kI d) = (sh, sz)) := hsq
  unfold replyP at hp
  rw [dir_iff hsq] at hp
  clear hc hs hsq
  by_cases h1 : (sz == 1000) = true
  case neg =>
    rw [if_neg h1] at hp
    simp only [Prod.mk.injEq] at hp
    obtain ⟨rfl, rfl, rfl, rfl, rfl⟩ := hp
    have e1 : (sz != 1000) = true := by simpa [bne] using h1
    clear h1
    go_enter Tryz.func90, Tryz.ntmps90
    go_wp2_with fail
    refine (ofI_is d HC.out.2.2.2.1 _).mono ?_
    rintro e w9 ⟨rfl, hw9⟩
    obtain rfl := hw9.symm
    go_wp2_with fail
    refine (l13Read_is (kI d) L y w0 _ 0 [] 0 [] HC.out.1.1 (by omega) HS.out (by simp)).mono ?_
    rintro e w1 ⟨rfl, s1⟩
    have S1 : Hid (StP w0 w1 0 (addR [] (kI d)) 0 []) := s1
    rw [HL.out]
    clear s1 o0 o1 o2 o3 o4 o5
    cases sh with
    | true =>
      go_wp2
      go_ret
      exact ⟨rfl, S1.out⟩
    | false =>
      go_wp2
      go_ret
      exact ⟨rfl, S1.out⟩
  rw [if_pos h1] at hp
  obtain rfl : sz = 1000 := by simpa using h1
  obtain rfl : sh = true := by
    cases sh with
    | true => rfl
    | false => have := look_zero HL.out; omega
  clear h1
  obtain ⟨t, htq⟩ : ∃ t, lookF L (kE d n) = t := ⟨_, rfl⟩
  obtain ⟨th, tz⟩ := t
  have HT : Hid (lookF L (kE d n) = (th, tz)) := htq
  have HTZ : Hid (0 ≤ tz) := by have := (HC.out.2.2.1 (kE d n)).1; rw [htq] at this; exact this
  rw [htq] at hp
  clear htq
  by_cases hk : kd = 1 ∨ kd = 2
  · rw [if_pos hk] at hp
    cases th with
    | true =>
      simp only [if_true, Prod.mk.injEq] at hp
      obtain ⟨rfl, rfl, rfl, rfl, rfl⟩ := hp
      go_enter Tryz.func90, Tryz.ntmps90
      go_wp2_with fail
      refine (ofI_is d HC.out.2.2.2.1 _).mono ?_
      rintro e w9 ⟨rfl, hw9⟩
      obtain rfl := hw9.symm
      go_wp2_with fail
      refine (l13Read_is (kI d) L y w0 _ 0 [] 0 [] HC.out.1.1 (by omega) HS.out (by simp)).mono ?_
      rintro e w1 ⟨rfl, s1⟩
      have S1 : Hid (StP w0 w1 0 (addR [] (kI d)) 0 []) := s1
      rw [HL.out]
      clear s1 o0 o1 o2 o3 o4 o5
      go_upto_region 4 with fail
      refine wp_region_held_drew (S := fun X => opBO X bo oo kd d n td tn vv) (by kernel_rfl) (HC.out.op S1.out.drew) (fun hS => ?_)
      refine tkH 0 ?_ hS (fun wx hx => ?_) ?_; rotate_left
      · obtain ⟨⟨hx0, hx1, hx2, hx3, hx4, hx5⟩, _⟩ := hx; go_simp; try with_reducible rfl
      refine tkH 1 ?_ hS (fun wx hx => ?_) ?_; rotate_left
      · obtain ⟨⟨hx0, hx1, hx2, hx3, hx4, hx5⟩, _⟩ := hx; go_simp; try with_reducible rfl
      refine tkH 2 ?_ hS (fun wx hx => ?_) ?_; rotate_left
      · obtain ⟨⟨hx0, hx1, hx2, hx3, hx4, hx5⟩, _⟩ := hx; go_simp; try with_reducible rfl
      refine tkH 3 ?_ hS (fun wx hx => ?_) ?_; rotate_left
      · obtain ⟨⟨hx0, hx1, hx2, hx3, hx4, hx5⟩, _⟩ := hx; go_simp; try with_reducible rfl
      refine tkH 4 ?_ hS (fun wx hx => ?_) ?_; rotate_left
      · obtain ⟨⟨hx0, hx1, hx2, hx3, hx4, hx5⟩, _⟩ := hx; go_simp; try with_reducible rfl
      refine tkH 5 ?_ hS (fun wx hx => ?_) ?_; rotate_left
      · obtain ⟨⟨hx0, hx1, hx2, hx3, hx4, hx5⟩, _⟩ := hx; go_simp; try with_reducible rfl
      refine tkH 6 ?_ hS (fun wx hx => ?_) ?_; rotate_left
      · obtain ⟨⟨hx0, hx1, hx2, hx3, hx4, hx5⟩, _⟩ := hx; go_simp; try with_reducible rfl
      refine tkH 7 ?_ hS (fun wx hx => ?_) ?_; rotate_left
      · obtain ⟨⟨hx0, hx1, hx2, hx3, hx4, hx5⟩, _⟩ := hx; go_simp; try with_reducible rfl
      refine tkH 8 ?_ hS (fun wx hx => ?_) ?_; rotate_left
      · obtain ⟨⟨hx0, hx1, hx2, hx3, hx4, hx5⟩, _⟩ := hx; go_simp; try with_reducible rfl
      refine tkH 9 ?_ hS (fun wx hx => ?_) ?_; rotate_left
      · obtain ⟨⟨hx0, hx1, hx2, hx3, hx4, hx5⟩, _⟩ := hx; go_simp; try with_reducible rfl
      refine rdH 10 (fun K hK => ?_)
      go_simp
      go_wp2_with fail
      refine (ofE_is d n HC.out.2.2.2.1 HC.out.2.2.2.2.1 _).mono ?_
      rintro e w9 ⟨rfl, hw9⟩
      obtain rfl := hw9.symm
      go_wp2_with fail
      refine hK.out _ _ hS (fun hS => ?_)
      clear hK K
      refine rdH 11 (fun K hK => ?_)
      go_simp
      go_wp2_with fail
      refine (l13Read_is (kE d n) L y w0 _ 0 (addR [] (kI d)) 0 [] HC.out.1.1 (by omega) S1.out.drew (by omega)).mono ?_
      rintro e w2 ⟨rfl, s2⟩
      have S2 : Hid (StP w0 w2 0 (addR (addR [] (kI d)) (kE d n)) 0 []) := s2
      have hS2 := HC.out.op s2
      rw [HT.out]
      clear s2
      go_wp2_with fail
      refine hK.out _ _ hS2 (fun hS => ?_)
      clear hK K
      refine tkH 12 ?_ hS (fun wx hx => ?_) ?_; rotate_left
      · obtain ⟨⟨hx0, hx1, hx2, hx3, hx4, hx5⟩, _⟩ := hx; go_simp; try with_reducible rfl
      refine tkH 13 ?_ hS (fun wx hx => ?_) ?_; rotate_left
      · obtain ⟨⟨hx0, hx1, hx2, hx3, hx4, hx5⟩, _⟩ := hx; go_simp; try with_reducible rfl
      refine tkH 14 ?_ hS (fun wx hx => ?_) ?_; rotate_left
      · obtain ⟨⟨hx0, hx1, hx2, hx3, hx4, hx5⟩, _⟩ := hx; go_simp; try with_reducible rfl
      refine tkH 15 ?_ hS (fun wx hx => ?_) ?_; rotate_left
      · obtain ⟨⟨hx0, hx1, hx2, hx3, hx4, hx5⟩, _⟩ := hx; go_simp; try with_reducible rfl
      refine tkH 16 ?_ hS (fun wx hx => ?_) ?_; rotate_left
      · obtain ⟨⟨hx0, hx1, hx2, hx3, hx4, hx5⟩, _⟩ := hx; go_simp; try with_reducible rfl
      refine wpAnyH_done (by kernel_rfl) ?_ _
      go_simp
      obtain ⟨⟨o0, o1, o2, o3, o4, o5⟩, _⟩ := hS
      rcases hk with rfl | rfl
      · go_wp2
        go_ret
        exact ⟨rfl, S2.out⟩
      · go_wp2
        go_ret
        exact ⟨rfl, S2.out⟩
    | false =>
      simp only [Bool.false_eq_true, if_false] at hp
      have HP : Hid (makeP L kd d n (addR (addR [] (kI d)) (kE d n)) = (r, v, ys, m, W)) := hp
      clear hp
      go_enter Tryz.func90, Tryz.ntmps90
      go_wp2_with fail
      refine (ofI_is d HC.out.2.2.2.1 _).mono ?_
      rintro e w9 ⟨rfl, hw9⟩
      obtain rfl := hw9.symm
      go_wp2_with fail
      refine (l13Read_is (kI d) L y w0 _ 0 [] 0 [] HC.out.1.1 (by omega) HS.out (by simp)).mono ?_
      rintro e w1 ⟨rfl, s1⟩
      have S1 : Hid (StP w0 w1 0 (addR [] (kI d)) 0 []) := s1
      rw [HL.out]
      clear s1 o0 o1 o2 o3 o4 o5
      go_upto_region 4 with fail
      refine wp_region_held_drew (S := fun X => opBO X bo oo kd d n td tn vv) (by kernel_rfl) (HC.out.op S1.out.drew) (fun hS => ?_)
      refine tkH 0 ?_ hS (fun wx hx => ?_) ?_; rotate_left
      · obtain ⟨⟨hx0, hx1, hx2, hx3, hx4, hx5⟩, _⟩ := hx; go_simp; try with_reducible rfl
      refine tkH 1 ?_ hS (fun wx hx => ?_) ?_; rotate_left
      · obtain ⟨⟨hx0, hx1, hx2, hx3, hx4, hx5⟩, _⟩ := hx; go_simp; try with_reducible rfl
      refine tkH 2 ?_ hS (fun wx hx => ?_) ?_; rotate_left
      · obtain ⟨⟨hx0, hx1, hx2, hx3, hx4, hx5⟩, _⟩ := hx; go_simp; try with_reducible rfl
      refine tkH 3 ?_ hS (fun wx hx => ?_) ?_; rotate_left
      · obtain ⟨⟨hx0, hx1, hx2, hx3, hx4, hx5⟩, _⟩ := hx; go_simp; try with_reducible rfl
      refine tkH 4 ?_ hS (fun wx hx => ?_) ?_; rotate_left
      · obtain ⟨⟨hx0, hx1, hx2, hx3, hx4, hx5⟩, _⟩ := hx; go_simp; try with_reducible rfl
      refine tkH 5 ?_ hS (fun wx hx => ?_) ?_; rotate_left
      · obtain ⟨⟨hx0, hx1, hx2, hx3, hx4, hx5⟩, _⟩ := hx; go_simp; try with_reducible rfl
      refine tkH 6 ?_ hS (fun wx hx => ?_) ?_; rotate_left
      · obtain ⟨⟨hx0, hx1, hx2, hx3, hx4, hx5⟩, _⟩ := hx; go_simp; try with_reducible rfl
      refine tkH 7 ?_ hS (fun wx hx => ?_) ?_; rotate_left
      · obtain ⟨⟨hx0, hx1, hx2, hx3, hx4, hx5⟩, _⟩ := hx; go_simp; try with_reducible rfl
      refine tkH 8 ?_ hS (fun wx hx => ?_) ?_; rotate_left
      · obtain ⟨⟨hx0, hx1, hx2, hx3, hx4, hx5⟩, _⟩ := hx; go_simp; try with_reducible rfl
      refine tkH 9 ?_ hS (fun wx hx => ?_) ?_; rotate_left
      · obtain ⟨⟨hx0, hx1, hx2, hx3, hx4, hx5⟩, _⟩ := hx; go_simp; try with_reducible rfl
      refine rdH 10 (fun K hK => ?_)
      go_simp
      go_wp2_with fail
      refine (ofE_is d n HC.out.2.2.2.1 HC.out.2.2.2.2.1 _).mono ?_
      rintro e w9 ⟨rfl, hw9⟩
      obtain rfl := hw9.symm
      go_wp2_with fail
      refine hK.out _ _ hS (fun hS => ?_)
      clear hK K
      refine rdH 11 (fun K hK => ?_)
      go_simp
      go_wp2_with fail
      refine (l13Read_is (kE d n) L y w0 _ 0 (addR [] (kI d)) 0 [] HC.out.1.1 (by omega) S1.out.drew (by omega)).mono ?_
      rintro e w2 ⟨rfl, s2⟩
      have S2 : Hid (StP w0 w2 0 (addR (addR [] (kI d)) (kE d n)) 0 []) := s2
      have hS2 := HC.out.op s2
      rw [HT.out]
      clear s2
      go_wp2_with fail
      refine hK.out _ _ hS2 (fun hS => ?_)
      clear hK K
      refine tkH 12 ?_ hS (fun wx hx => ?_) ?_; rotate_left
      · obtain ⟨⟨hx0, hx1, hx2, hx3, hx4, hx5⟩, _⟩ := hx; go_simp; try with_reducible rfl
      refine tkH 13 ?_ hS (fun wx hx => ?_) ?_; rotate_left
      · obtain ⟨⟨hx0, hx1, hx2, hx3, hx4, hx5⟩, _⟩ := hx; go_simp; try with_reducible rfl
      refine tkH 14 ?_ hS (fun wx hx => ?_) ?_; rotate_left
      · obtain ⟨⟨hx0, hx1, hx2, hx3, hx4, hx5⟩, _⟩ := hx; go_simp; try with_reducible rfl
      refine tkH 15 ?_ hS (fun wx hx => ?_) ?_; rotate_left
      · obtain ⟨⟨hx0, hx1, hx2, hx3, hx4, hx5⟩, _⟩ := hx; go_simp; try with_reducible rfl
      refine tkH 16 ?_ hS (fun wx hx => ?_) ?_; rotate_left
      · obtain ⟨⟨hx0, hx1, hx2, hx3, hx4, hx5⟩, _⟩ := hx; go_simp; try with_reducible rfl
      refine wpAnyH_done (by kernel_rfl) ?_ _
      go_simp
      obtain ⟨⟨o0, o1, o2, o3, o4, o5⟩, _⟩ := hS
      rcases hk with rfl | rfl
      · go_wp2_with fail
        refine (l13Make_is L y bo oo _ d n td tn vv w0 _ _ HC.out S2.out (by omega) r v ys m W HP.out).mono ?_
        rintro e w3 ⟨rfl, s3⟩
        have S3 : Hid (StP w0 w3 v ys m W) := s3
        clear s3
        go_wp2
        go_ret
        exact ⟨rfl, S3.out⟩
      · go_wp2_with fail
        refine (l13Make_is L y bo oo _ d n td tn vv w0 _ _ HC.out S2.out (by omega) r v ys m W HP.out).mono ?_
        rintro e w3 ⟨rfl, s3⟩
        have S3 : Hid (StP w0 w3 v ys m W) := s3
        clear s3
        go_wp2
        go_ret
        exact ⟨rfl, S3.out⟩
  have e1 : (kd == 1) = false := beq_eq_false_iff_ne.2 (by omega)
  have e2 : (kd == 2) = false := beq_eq_false_iff_ne.2 (by omega)
  have hk3 : 3 ≤ kd ∧ kd ≤ 8 := by omega
  have HK : Hid (3 ≤ kd ∧ kd ≤ 8) := hk3
  rw [if_neg hk] at hp
  clear hk hk3
  cases th with
  | true =>
    simp only [if_true] at hp
    have HP : Hid (childP L kd d n td tn vv tz (addR (addR [] (kI d)) (kE d n)) = (r, v, ys, m, W)) := hp
    clear hp hkd
    go_enter Tryz.func90, Tryz.ntmps90
    go_wp2_with fail
    refine (ofI_is d HC.out.2.2.2.1 _).mono ?_
    rintro e w9 ⟨rfl, hw9⟩
    obtain rfl := hw9.symm
    go_wp2_with fail
    refine (l13Read_is (kI d) L y w0 _ 0 [] 0 [] HC.out.1.1 (by omega) HS.out (by simp)).mono ?_
    rintro e w1 ⟨rfl, s1⟩
    have S1 : Hid (StP w0 w1 0 (addR [] (kI d)) 0 []) := s1
    rw [HL.out]
    clear s1 o0 o1 o2 o3 o4 o5
    go_upto_region 4 with fail
    refine wp_region_held_drew (S := fun X => opBO X bo oo kd d n td tn vv) (by kernel_rfl) (HC.out.op S1.out.drew) (fun hS => ?_)
    refine tkH 0 ?_ hS (fun wx hx => ?_) ?_; rotate_left
    · obtain ⟨⟨hx0, hx1, hx2, hx3, hx4, hx5⟩, _⟩ := hx; go_simp; try with_reducible rfl
    refine tkH 1 ?_ hS (fun wx hx => ?_) ?_; rotate_left
    · obtain ⟨⟨hx0, hx1, hx2, hx3, hx4, hx5⟩, _⟩ := hx; go_simp; try with_reducible rfl
    refine tkH 2 ?_ hS (fun wx hx => ?_) ?_; rotate_left
    · obtain ⟨⟨hx0, hx1, hx2, hx3, hx4, hx5⟩, _⟩ := hx; go_simp; try with_reducible rfl
    refine tkH 3 ?_ hS (fun wx hx => ?_) ?_; rotate_left
    · obtain ⟨⟨hx0, hx1, hx2, hx3, hx4, hx5⟩, _⟩ := hx; go_simp; try with_reducible rfl
    refine tkH 4 ?_ hS (fun wx hx => ?_) ?_; rotate_left
    · obtain ⟨⟨hx0, hx1, hx2, hx3, hx4, hx5⟩, _⟩ := hx; go_simp; try with_reducible rfl
    refine tkH 5 ?_ hS (fun wx hx => ?_) ?_; rotate_left
    · obtain ⟨⟨hx0, hx1, hx2, hx3, hx4, hx5⟩, _⟩ := hx; go_simp; try with_reducible rfl
    refine tkH 6 ?_ hS (fun wx hx => ?_) ?_; rotate_left
    · obtain ⟨⟨hx0, hx1, hx2, hx3, hx4, hx5⟩, _⟩ := hx; go_simp; try with_reducible rfl
    refine tkH 7 ?_ hS (fun wx hx => ?_) ?_; rotate_left
    · obtain ⟨⟨hx0, hx1, hx2, hx3, hx4, hx5⟩, _⟩ := hx; go_simp; try with_reducible rfl
    refine tkH 8 ?_ hS (fun wx hx => ?_) ?_; rotate_left
    · obtain ⟨⟨hx0, hx1, hx2, hx3, hx4, hx5⟩, _⟩ := hx; go_simp; try with_reducible rfl
    refine tkH 9 ?_ hS (fun wx hx => ?_) ?_; rotate_left
    · obtain ⟨⟨hx0, hx1, hx2, hx3, hx4, hx5⟩, _⟩ := hx; go_simp; try with_reducible rfl
    refine rdH 10 (fun K hK => ?_)
    go_simp
    go_wp2_with fail
    refine (ofE_is d n HC.out.2.2.2.1 HC.out.2.2.2.2.1 _).mono ?_
    rintro e w9 ⟨rfl, hw9⟩
    obtain rfl := hw9.symm
    go_wp2_with fail
    refine hK.out _ _ hS (fun hS => ?_)
    clear hK K
    refine rdH 11 (fun K hK => ?_)
    go_simp
    go_wp2_with fail
    refine (l13Read_is (kE d n) L y w0 _ 0 (addR [] (kI d)) 0 [] HC.out.1.1 (by omega) S1.out.drew (by omega)).mono ?_
    rintro e w2 ⟨rfl, s2⟩
    have S2 : Hid (StP w0 w2 0 (addR (addR [] (kI d)) (kE d n)) 0 []) := s2
    have hS2 := HC.out.op s2
    rw [HT.out]
    clear s2
    go_wp2_with fail
    refine hK.out _ _ hS2 (fun hS => ?_)
    clear hK K
    refine tkH 12 ?_ hS (fun wx hx => ?_) ?_; rotate_left
    · obtain ⟨⟨hx0, hx1, hx2, hx3, hx4, hx5⟩, _⟩ := hx; go_simp; try with_reducible rfl
    refine tkH 13 ?_ hS (fun wx hx => ?_) ?_; rotate_left
    · obtain ⟨⟨hx0, hx1, hx2, hx3, hx4, hx5⟩, _⟩ := hx; go_simp; try with_reducible rfl
    refine tkH 14 ?_ hS (fun wx hx => ?_) ?_; rotate_left
    · obtain ⟨⟨hx0, hx1, hx2, hx3, hx4, hx5⟩, _⟩ := hx; go_simp; try with_reducible rfl
    refine tkH 15 ?_ hS (fun wx hx => ?_) ?_; rotate_left
    · obtain ⟨⟨hx0, hx1, hx2, hx3, hx4, hx5⟩, _⟩ := hx; go_simp; try with_reducible rfl
    refine tkH 16 ?_ hS (fun wx hx => ?_) ?_; rotate_left
    · obtain ⟨⟨hx0, hx1, hx2, hx3, hx4, hx5⟩, _⟩ := hx; go_simp; try with_reducible rfl
    refine wpAnyH_done (by kernel_rfl) ?_ _
    go_simp
    obtain ⟨⟨o0, o1, o2, o3, o4, o5⟩, _⟩ := hS
    go_wp2_with fail
    refine (l13Child_is L y bo oo kd d n td tn vv w0 _ tz _ HC.out S2.out (by omega) HTZ.out HK.out r v ys m W HP.out).mono ?_
    rintro e w3 ⟨rfl, s3⟩
    have S3 : Hid (StP w0 w3 v ys m W) := s3
    clear s3
    go_wp2
    go_ret
    exact ⟨rfl, S3.out⟩
  | false =>
    simp only [Bool.false_eq_true, if_false, Prod.mk.injEq] at hp
    obtain ⟨rfl, rfl, rfl, rfl, rfl⟩ := hp
    clear hkd
    go_enter Tryz.func90, Tryz.ntmps90
    go_wp2_with fail
    refine (ofI_is d HC.out.2.2.2.1 _).mono ?_
    rintro e w9 ⟨rfl, hw9⟩
    obtain rfl := hw9.symm
    go_wp2_with fail
    refine (l13Read_is (kI d) L y w0 _ 0 [] 0 [] HC.out.1.1 (by omega) HS.out (by simp)).mono ?_
    rintro e w1 ⟨rfl, s1⟩
    have S1 : Hid (StP w0 w1 0 (addR [] (kI d)) 0 []) := s1
    rw [HL.out]
    clear s1 o0 o1 o2 o3 o4 o5
    go_upto_region 4 with fail
    refine wp_region_held_drew (S := fun X => opBO X bo oo kd d n td tn vv) (by kernel_rfl) (HC.out.op S1.out.drew) (fun hS => ?_)
    refine tkH 0 ?_ hS (fun wx hx => ?_) ?_; rotate_left
    · obtain ⟨⟨hx0, hx1, hx2, hx3, hx4, hx5⟩, _⟩ := hx; go_simp; try with_reducible rfl
    refine tkH 1 ?_ hS (fun wx hx => ?_) ?_; rotate_left
    · obtain ⟨⟨hx0, hx1, hx2, hx3, hx4, hx5⟩, _⟩ := hx; go_simp; try with_reducible rfl
    refine tkH 2 ?_ hS (fun wx hx => ?_) ?_; rotate_left
    · obtain ⟨⟨hx0, hx1, hx2, hx3, hx4, hx5⟩, _⟩ := hx; go_simp; try with_reducible rfl
    refine tkH 3 ?_ hS (fun wx hx => ?_) ?_; rotate_left
    · obtain ⟨⟨hx0, hx1, hx2, hx3, hx4, hx5⟩, _⟩ := hx; go_simp; try with_reducible rfl
    refine tkH 4 ?_ hS (fun wx hx => ?_) ?_; rotate_left
    · obtain ⟨⟨hx0, hx1, hx2, hx3, hx4, hx5⟩, _⟩ := hx; go_simp; try with_reducible rfl
    refine tkH 5 ?_ hS (fun wx hx => ?_) ?_; rotate_left
    · obtain ⟨⟨hx0, hx1, hx2, hx3, hx4, hx5⟩, _⟩ := hx; go_simp; try with_reducible rfl
    refine tkH 6 ?_ hS (fun wx hx => ?_) ?_; rotate_left
    · obtain ⟨⟨hx0, hx1, hx2, hx3, hx4, hx5⟩, _⟩ := hx; go_simp; try with_reducible rfl
    refine tkH 7 ?_ hS (fun wx hx => ?_) ?_; rotate_left
    · obtain ⟨⟨hx0, hx1, hx2, hx3, hx4, hx5⟩, _⟩ := hx; go_simp; try with_reducible rfl
    refine tkH 8 ?_ hS (fun wx hx => ?_) ?_; rotate_left
    · obtain ⟨⟨hx0, hx1, hx2, hx3, hx4, hx5⟩, _⟩ := hx; go_simp; try with_reducible rfl
    refine tkH 9 ?_ hS (fun wx hx => ?_) ?_; rotate_left
    · obtain ⟨⟨hx0, hx1, hx2, hx3, hx4, hx5⟩, _⟩ := hx; go_simp; try with_reducible rfl
    refine rdH 10 (fun K hK => ?_)
    go_simp
    go_wp2_with fail
    refine (ofE_is d n HC.out.2.2.2.1 HC.out.2.2.2.2.1 _).mono ?_
    rintro e w9 ⟨rfl, hw9⟩
    obtain rfl := hw9.symm
    go_wp2_with fail
    refine hK.out _ _ hS (fun hS => ?_)
    clear hK K
    refine rdH 11 (fun K hK => ?_)
    go_simp
    go_wp2_with fail
    refine (l13Read_is (kE d n) L y w0 _ 0 (addR [] (kI d)) 0 [] HC.out.1.1 (by omega) S1.out.drew (by omega)).mono ?_
    rintro e w2 ⟨rfl, s2⟩
    have S2 : Hid (StP w0 w2 0 (addR (addR [] (kI d)) (kE d n)) 0 []) := s2
    have hS2 := HC.out.op s2
    rw [HT.out]
    clear s2
    go_wp2_with fail
    refine hK.out _ _ hS2 (fun hS => ?_)
    clear hK K
    refine tkH 12 ?_ hS (fun wx hx => ?_) ?_; rotate_left
    · obtain ⟨⟨hx0, hx1, hx2, hx3, hx4, hx5⟩, _⟩ := hx; go_simp; try with_reducible rfl
    refine tkH 13 ?_ hS (fun wx hx => ?_) ?_; rotate_left
    · obtain ⟨⟨hx0, hx1, hx2, hx3, hx4, hx5⟩, _⟩ := hx; go_simp; try with_reducible rfl
    refine tkH 14 ?_ hS (fun wx hx => ?_) ?_; rotate_left
    · obtain ⟨⟨hx0, hx1, hx2, hx3, hx4, hx5⟩, _⟩ := hx; go_simp; try with_reducible rfl
    refine tkH 15 ?_ hS (fun wx hx => ?_) ?_; rotate_left
    · obtain ⟨⟨hx0, hx1, hx2, hx3, hx4, hx5⟩, _⟩ := hx; go_simp; try with_reducible rfl
    refine tkH 16 ?_ hS (fun wx hx => ?_) ?_; rotate_left
    · obtain ⟨⟨hx0, hx1, hx2, hx3, hx4, hx5⟩, _⟩ := hx; go_simp; try with_reducible rfl
    refine wpAnyH_done (by kernel_rfl) ?_ _
    go_simp
    obtain ⟨⟨o0, o1, o2, o3, o4, o5⟩, _⟩ := hS
    go_wp2
    go_ret
    exact ⟨rfl, S2.out⟩
end Go.Proofs.YtbpppaolcgibnaaGreatDoor

namespace Go.Proofs.YtbpppaolcgibnaaGreatDoor
open Go.RowKit

theorem PlanAt.keptP {w w' : World} {B : Nat} {xs : List Int} {m : Nat} {L : List Int} {vr vw : Value} (h : PlanAt w B xs m L vr vw) (hb : ∀ k, B ≤ k → k < w.heap.size → w'.heap[k]? = w.heap[k]?) : PlanAt w' B xs m L vr vw := by
  have hi : OwnM w B 2 1 vr xs.length xs := h.1
  exact ⟨OwnM.keptB hi (fun k hk => hb k (OwnM.block hi k hk).1 (OwnM.block hi k hk).2), OwnM.keptB h.2.1 (fun k hk => hb k (OwnM.block h.2.1 k hk).1 (OwnM.block h.2.1 k hk).2), h.2.2⟩
abbrev zeroPl : Obj := .cells #[.int .i64 0, .int .i64 0, .int .i64 0, .slice none 0 0, .slice none 0 0] 122
set_option maxRecDepth 100000 in
set_option maxHeartbeats 4000000 in
theorem l13Compile_is (L : Prs) (y : Value) (bo oo : Nat) (kd d n td tn vv : Int) (w : World) (hc : Ctx w L y bo oo kd d n td tn vv) (hkd : 1 ≤ kd ∧ kd ≤ 8) (r v : Int) (ys : List Int) (m : Nat) (W : List Int) (hp : replyP L kd d n td tn vv = (r, v, ys, m, W)) :
    Calls Tryz.prog 73 #[y, .pointer (some ⟨bo, oo, none⟩)] w (ResPlan w 0 r v ys m W) := by
  have hc0 : Ctx (w.alloc zeroPl) L y bo oo kd d n td tn vv := ⟨⟨hc.1.1.alloc _, hc.1.2⟩, hc.2.1.alloc _, hc.2.2⟩
  have hs : StP (w.alloc zeroPl) ((w.alloc zeroPl).alloc zeroPl) 0 [] 0 [] := ⟨below_alloc _ _, .slice none 0 0, .slice none 0 0, BlkP.new _ _ _ _ _ _ _, Ints.nil _ _, OwnM.nil _ _ _ _, fun k hk => by cases hk⟩
  have hcall := l13Reply_is L y bo oo kd d n td tn vv (w.alloc zeroPl) _ hc0 hs hkd r v ys m W hp
  rw [World.size_alloc] at hcall
  have HR : Hid (Calls Tryz.prog 90 #[.pointer (some ⟨w.heap.size + 1, 0, none⟩), y, .pointer (some ⟨bo, oo, none⟩)] ((w.alloc zeroPl).alloc zeroPl) fun e w' => e = .returned (.int .i64 r) ∧ StP (w.alloc zeroPl) w' v ys m W) := hcall
  clear hcall hs hc0 hc hp hkd
  go_enter Tryz.func73, Tryz.ntmps73
  go_wp2_with fail
  refine HR.out.mono ?_
  rintro e w2 ⟨rfl, s2⟩
  obtain ⟨q2, vr, vw, hB, hA⟩ := s2
  rw [World.size_alloc] at hB hA q2
  obtain ⟨⟨a1, a2, rfl⟩, ⟨a3, a4, rfl⟩⟩ := hA.form
  have hPB : PBk w2 w.heap.size := (PBk.new w _ _ _ _ _).kept (q2.block _ (Nat.lt_succ_self _))
  have hlt : w.heap.size + 1 < w2.heap.size := hB.lt
  have H2 : Hid (Below w.heap.size w w2 ∧ PlanAt w2 (w.heap.size + 1 + 1) ys m W (.slice a1 ys.length a2) (.slice a3 m a4)) := ⟨(below_alloc w _).trans (q2.mono (Nat.le_succ _)), hA⟩
  have HP : Hid (PBk (w2.setCell ⟨w.heap.size + 1, 1, none⟩ (.int .i64 r)) w.heap.size) := hPB.kept (Below.heap_setCell w2 ⟨w.heap.size + 1, 1, none⟩ _ _ (by simp))
  obtain ⟨⟨c0, c1, c2, c3, c4⟩, f0, f1, f2, f3, f4⟩ := hB
  clear HR q2 hA hPB
  go_wp2_with (refine wpList_storeP rfl _ _ rfl w.heap.size _ _ _ _ _ rfl rfl HP.out (by kernel_rfl) ?_)
  refine bodyPost_ret (v := .agg #[.int .i64 0, .int .i64 r, .int .i64 v, .slice a1 ys.length a2, .slice a3 m a4]) (results_pl Tryz.results73 _ _ _ _ _ _ _ _ rfl HP.out) rfl ⟨_, _, rfl, ?_, ?_⟩
  · exact PlanAt.up (PlanAt.keptP H2.out.2 (fun k hk _ => (heap_setRow _ _ _ _ (by omega)).trans (Below.heap_setCell w2 ⟨w.heap.size + 1, 1, none⟩ _ k (by simp; omega)))) (by omega)
  · exact below_row (H2.out.1.setCell (by simp) _) (Nat.le_refl _) _
theorem op_bounds {kd d n td tn vv : Int} (h : opF kd d n td tn vv = 0) : (1 ≤ kd ∧ kd ≤ 8) ∧ (0 ≤ d ∧ d ≤ 9) ∧ (0 ≤ n ∧ n ≤ 5) ∧ (0 ≤ td ∧ td ≤ 9) ∧ (0 ≤ tn ∧ tn ≤ 5) := by
  unfold opF at h
  cases h1 : suitsB kd td tn vv with
  | false => rw [h1] at h; simp at h
  | true =>
    cases h2 : boundsB d n td tn vv with
    | false => rw [h1, h2] at h; simp at h
    | true =>
      have a := of_decide_eq_true h1
      have b := of_decide_eq_true h2
      exact ⟨a.1, b.1, b.2.2.1, b.2.1, b.2.2.2.1⟩
end Go.Proofs.YtbpppaolcgibnaaGreatDoor

namespace Go.Proofs.YtbpppaolcgibnaaGreatDoor
open Go.RowKit

theorem run_min9 (a : Int) (w : World) : (Builtin.min_ #[2, 2] 2 #[.int .i64 a, .int .i64 9]).run Tryz.prog w = .ok (.int .i64 (minC a)) w := by
  have e : (if (9 : Int) < a then (9 : Int) else a) = minC a := by unfold minC; split <;> split <;> omega
  rw [← e]
  rfl
end Go.Proofs.YtbpppaolcgibnaaGreatDoor

namespace Go.Proofs.YtbpppaolcgibnaaGreatDoor
open Go.RowKit

abbrev chO (c cv : Int) : Obj := .cells #[.int .i64 c, .int .i64 cv] 100
theorem Looks.off2 {w : World} {b rb mb : Nat} {L : Prs} {xs : List Int} {vr : Value} (h : Looks w b rb mb L xs vr) {k : Nat} {X : World} (hk : w.heap.size ≤ k) (hX : k < X.heap.size) : Off X b mb vr k := by
  have h1 := h.1.lt
  have h2 := h.2.2.1.lt
  exact ⟨hX, by omega, by omega, fun e => by have := (h.2.2.2.1.lt _ e).2; omega⟩
/-- Only a block of the caller's own has turned. -/
theorem Looks.offs {w w' : World} {b rb mb : Nat} {L : Prs} {xs : List Int} {vr : Value} {g : Nat} (h : Looks w b rb mb L xs vr) (ho : Off w b mb vr g) (hk : ∀ k, k ≠ g → w'.heap[k]? = w.heap[k]?) (hv : ¬ g < mb := by omega) : Looks w' b rb mb L xs vr := by
  have hi : OwnM w (b + 1) 2 1 vr xs.length xs := h.2.2.2.1
  exact ⟨h.1.kept (hk b (fun e => ho.2.1 e.symm)), h.2.1.kept (fun k _ hm => hk k (fun e => hv (by omega))) h.2.2.2.2.1, h.2.2.1.kept (hk mb (fun e => ho.2.2.1 e.symm)), OwnM.keptB hi (fun k hq => hk k (fun e => ho.2.2.2 (by rw [← e]; exact hq))), h.2.2.2.2⟩
theorem Keeps.offs {w w' w'' : World} {b mb : Nat} {vr vr' : Value} {g : Nat} (h : Keeps w w' b mb vr vr') (hs : w'.heap.size = w''.heap.size) (hk : ∀ k, k ≠ g → w''.heap[k]? = w'.heap[k]?) (ho : w''.os = w'.os ∧ w''.tape = w'.tape ∧ w''.output = w'.output) (hg : w.heap.size ≤ g) : Keeps w w'' b mb vr vr' :=
  ⟨⟨ho.1.trans h.1.1, ho.2.1.trans h.1.2.1, ho.2.2.trans h.1.2.2⟩, by rw [← hs]; exact h.2.1, fun k hk1 h1 h2 h3 => (hk k (by omega)).trans (h.2.2.1 k hk1 h1 h2 h3), h.2.2.2⟩
abbrev sightO (s : Bool) (z : Int) : Obj := .cells #[.bool s, .int .i64 z] 103
set_option maxRecDepth 100000 in
set_option maxHeartbeats 4000000 in
theorem lookChild_is (L : Prs) (b rb mb : Nat) (xs : List Int) (vr : Value) (s : Bool) (ch : Int) (w : World) (h : Looks w b rb mb L xs vr) (hrs : Rises L) (hn : L.length ≤ 1000) (hch : 0 ≤ ch) (hx : xs.length ≤ 1000) (c cv : Int) (hc : minC ch = c) (hcv : (lookF L (kI c)).2 = cv) :
    Calls Tryz.prog 50 #[.pointer (some ⟨b, 0, none⟩), .agg #[.bool s, .int .i64 ch]] w fun e w' => e = .returned (.agg #[.int .i64 c, .int .i64 cv]) ∧ ∃ vr', Looks w' b rb mb L (addR xs (kI c)) vr' ∧ Keeps w w' b mb vr vr' := by
  have hmb : mb < w.heap.size := h.2.2.1.lt
  have HC : Hid (minC ch = c ∧ (lookF L (kI c)).2 = cv ∧ (0 ≤ c ∧ c ≤ 9) ∧ Rises L) := ⟨hc, hcv, hc ▸ minC_in hch, hrs⟩
  have HB : Hid (Below w.heap.size w ((w.alloc (sightO s ch)).alloc (chO 0 0))) := (below_alloc _ _).alloc (by simp) _
  have HL : Hid (Looks ((w.alloc (sightO s ch)).alloc (chO 0 0)) b rb mb L xs vr ∧ Keeps w ((w.alloc (sightO s ch)).alloc (chO 0 0)) b mb vr vr) := ⟨(h.alloc _).alloc _, Keeps.below _ _ _ HB.out⟩
  have HO : Hid (Off ((w.alloc (sightO s ch)).alloc (chO 0 0)) b mb vr (w.heap.size + 1)) := h.off2 (Nat.le_succ _) (by simp)
  have HR : Hid (Blk2 ((w.alloc (sightO s ch)).alloc (chO 0 0)) (w.heap.size + 1) (.int .i64 0) (.int .i64 0)) := by
    have q := Blk2.new (w.alloc (sightO s ch)) (.int .i64 0) (.int .i64 0) 100
    rwa [World.size_alloc] at q
  have fs := fun h v w => field_sight1 h v w
  have hmin := fun w => run_min9 ch w
  rw [hc] at hmin
  clear h hrs hch hc hcv
  go_enter Tryz.func50, Tryz.ntmps50
  go_wp2_with fail
  refine (inodeKey_is c HC.out.2.2.1 _).mono ?_
  rintro e w1 ⟨rfl, q1⟩
  have H1 : Hid ((Looks w1 b rb mb L xs vr ∧ Keeps w w1 b mb vr vr) ∧ Off w1 b mb vr (w.heap.size + 1) ∧ Blk2 w1 (w.heap.size + 1) (.int .i64 0) (.int .i64 0)) := ⟨⟨HL.out.1.later q1, HL.out.2.trans (Keeps.below _ _ _ q1)⟩, ((Keeps.below b mb vr q1).off HO.out).1, HR.out.later q1⟩
  clear q1 HL HO HR
  go_wp2_with fail
  refine (look_is L b rb mb xs vr (kI c) _ H1.out.1.1 HC.out.2.2.2 hn (by have := HC.out.2.2.1; unfold kI; omega) hx).mono ?_
  rintro e w2 ⟨rfl, vr2, l2, k2⟩
  have H2 : Hid ((Looks w2 b rb mb L (addR xs (kI c)) vr2 ∧ Keeps w w2 b mb vr vr2) ∧ Off w2 b mb vr2 (w.heap.size + 1) ∧ Blk2 w2 (w.heap.size + 1) (.int .i64 0) (.int .i64 0)) := ⟨⟨l2, H1.out.1.2.trans k2⟩, (k2.off H1.out.2.1).1, H1.out.2.2.kept (k2.off H1.out.2.1).2⟩
  clear l2 k2 H1
  rw [HC.out.2.1]
  obtain ⟨⟨x0, x1⟩, y0, y1⟩ := H2.out.2.2
  have HP : Hid (_ ∧ _) := (Blk2.put H2.out.2.2 (.int .i64 c) (.int .i64 cv)).1
  go_wp2
  refine bodyPost_ret (v := .agg #[.int .i64 c, .int .i64 cv]) (by simp [results, Tryz.results50, go_sem, HP.out.1, HP.out.2]) rfl ⟨rfl, vr2, ?_, ?_⟩
  · exact H2.out.1.1.offs (H2.out.2.1) (fun k hk => (Below.heap_setCell _ _ _ _ (by simpa using hk)).trans (Below.heap_setCell _ _ _ _ (by simpa using hk)))
  · exact H2.out.1.2.offs (by simp) (fun k hk => (Below.heap_setCell _ _ _ _ (by simpa using hk)).trans (Below.heap_setCell _ _ _ _ (by simpa using hk))) ⟨rfl, rfl, rfl⟩ (by omega)
end Go.Proofs.YtbpppaolcgibnaaGreatDoor

namespace Go.Proofs.YtbpppaolcgibnaaGreatDoor
open Go.RowKit

def partK (key : Int) : Int := if faultOf key = 0 then kindAt key else 0
def partA (key : Int) : Int := if faultOf key = 0 then (if kindAt key = 2 then (key - 20) / 10 else key - firstAt key) else 0
def partB (key : Int) : Int := if faultOf key = 0 then (if kindAt key = 2 then key % 10 else 0) else 0
theorem parts_bad {key : Int} (h : faultOf key ≠ 0) : partK key = 0 ∧ partA key = 0 ∧ partB key = 0 := by
  unfold partK partA partB; rw [if_neg h, if_neg h, if_neg h]; exact ⟨rfl, rfl, rfl⟩
theorem parts_ok {key : Int} (h : faultOf key = 0) : partK key = kindAt key ∧ partA key = (if kindAt key = 2 then (key - 20) / 10 else key - firstAt key) ∧ partB key = (if kindAt key = 2 then key % 10 else 0) := by
  unfold partK partA partB; rw [if_pos h, if_pos h, if_pos h]; exact ⟨rfl, rfl, rfl⟩
theorem fault_zero {key : Int} (h : faultOf key = 0) : key = 0 ∨ (10 ≤ key ∧ key ≤ 19) ∨ (180 ≤ key ∧ key ≤ 189) ∨ (20 ≤ key ∧ key ≤ 119 ∧ key % 10 ≤ 5) := by
  apply Classical.byContradiction; intro hn
  by_cases h1 : key < 0 ∨ 199 < key
  · rw [faultOf_range h1] at h; omega
  · rw [faultOf_form (by omega) (by omega) hn] at h; omega
/-- The ways of a key: it has a fault, or it is of one of the four kinds. -/
theorem parts_ways (key : Int) :
    (faultOf key ≠ 0 ∧ partK key = 0 ∧ partA key = 0 ∧ partB key = 0)
    ∨ (key = 0 ∧ faultOf key = 0 ∧ partK key = 0 ∧ partA key = 0 ∧ partB key = 0)
    ∨ (10 ≤ key ∧ key ≤ 19 ∧ faultOf key = 0 ∧ partK key = 1 ∧ partA key = key - 10 ∧ partB key = 0)
    ∨ (20 ≤ key ∧ key ≤ 119 ∧ key % 10 ≤ 5 ∧ faultOf key = 0 ∧ partK key = 2 ∧ partA key = (key - 20) / 10 ∧ partB key = key % 10)
    ∨ (180 ≤ key ∧ key ≤ 189 ∧ faultOf key = 0 ∧ partK key = 3 ∧ partA key = key - 180 ∧ partB key = 0) := by
  by_cases h : faultOf key = 0
  · right
    obtain ⟨hk, ha, hb⟩ := parts_ok h
    rcases fault_zero h with rfl | ⟨h1, h2⟩ | ⟨h1, h2⟩ | ⟨h1, h2, h3⟩
    · obtain ⟨e1, e2⟩ := kindAt_0 (key := 0) (by omega)
      rw [e1] at hk; rw [e1, if_neg (by omega), e2] at ha; rw [e1, if_neg (by omega)] at hb
      exact Or.inl ⟨rfl, h, hk, ha, hb⟩
    · obtain ⟨e1, e2⟩ := kindAt_1 h1 (by omega)
      rw [e1] at hk; rw [e1, if_neg (by omega), e2] at ha; rw [e1, if_neg (by omega)] at hb
      exact Or.inr (Or.inl ⟨h1, h2, h, hk, ha, hb⟩)
    · obtain ⟨e1, e2⟩ := kindAt_3 h1
      rw [e1] at hk; rw [e1, if_neg (by omega), e2] at ha; rw [e1, if_neg (by omega)] at hb
      exact Or.inr (Or.inr (Or.inr ⟨h1, h2, h, hk, ha, hb⟩))
    · obtain ⟨e1, e2⟩ := kindAt_2 h1 (by omega)
      rw [e1] at hk; rw [e1, if_pos rfl] at ha; rw [e1, if_pos rfl] at hb
      exact Or.inr (Or.inr (Or.inl ⟨h1, h2, h3, h, hk, ha, hb⟩))
  · exact Or.inl ⟨h, parts_bad h⟩

/-- What both answer. -/
def partsVal (key : Int) : Value := .agg #[.int .i64 (faultOf key), .int .i64 (partK key), .int .i64 (partA key), .int .i64 (partB key)]
def partsObj (key : Int) : Obj := .cells #[.int .i64 (faultOf key), .int .i64 (partK key), .int .i64 (partA key), .int .i64 (partB key)] 32

set_option maxHeartbeats 1000000 in
theorem implPartsOf_any (key : Int) (w : World) :
    Calls Tryz.prog 9 #[.int .i64 key] w fun e w' => e = .returned (partsVal key) ∧ w' = w.alloc (partsObj key) := by
  unfold partsVal partsObj
  rcases parts_ways key with ⟨h, e1, e2, e3⟩ | ⟨rfl, h, e1, e2, e3⟩ | ⟨h1, h2, h, e1, e2, e3⟩ | ⟨h1, h2, h3, h, e1, e2, e3⟩ | ⟨h1, h2, h, e1, e2, e3⟩
  · rw [e1, e2, e3]; clear e1 e2 e3
    have hF := fun w => keyFault_any key w
    generalize faultOf key = c at *
    have HF : Hid (∀ w, Calls Tryz.prog 22 #[.int .i64 key] w fun e w' => e = .returned (.int .i64 c) ∧ w' = w) := hF
    clear hF
    have d : (c != 0) = true := by rw [bne_iff_ne]; exact h
    go_enter Tryz.func9, Tryz.ntmps9
    go_wp2_with fail
    refine (HF.out _).mono ?_
    rintro e w' ⟨rfl, rfl⟩
    go_wp2
    exact bodyPost_ret (v := .agg #[.int .i64 c, .int .i64 0, .int .i64 0, .int .i64 0]) (by simp [results, Tryz.results9, go_sem]) rfl ⟨rfl, rfl⟩
  · have HE := kindAt_0 (key := 0) (by omega)
    rw [e1, e2, e3, h]; clear e1 e2 e3
    have HF : Hid (∀ w, Calls Tryz.prog 22 #[.int .i64 0] w fun e w' => e = .returned (.int .i64 0) ∧ w' = w) := fun w => by have := keyFault_any 0 w; rw [h] at this; exact this
    clear h
    go_enter Tryz.func9, Tryz.ntmps9
    go_wp2_with fail
    refine (HF.out _).mono ?_
    rintro e w' ⟨rfl, rfl⟩
    go_wp2_with fail
    refine (tellKey_any _ _ (by omega) (by omega)).mono ?_
    rintro e w' ⟨rfl, rfl⟩
    rw [HE.1, HE.2]; clear HE
    go_wp2_with fail
    refine (partsTold_other _ _ _ (by omega) (by omega) rfl (by omega) (by omega)).mono ?_
    rintro e w' ⟨rfl, rfl⟩
    go_wp2
    exact bodyPost_ret (v := .agg #[.int .i64 0, .int .i64 0, .int .i64 0, .int .i64 0]) (by simp [results, Tryz.results9, go_sem]) rfl ⟨rfl, rfl⟩
  · have HE := kindAt_1 h1 (by omega)
    rw [e1, e2, e3, h]; clear e1 e2 e3
    have HF : Hid (∀ w, Calls Tryz.prog 22 #[.int .i64 key] w fun e w' => e = .returned (.int .i64 0) ∧ w' = w) := fun w => by have := keyFault_any key w; rw [h] at this; exact this
    clear h
    go_enter Tryz.func9, Tryz.ntmps9
    go_wp2_with fail
    refine (HF.out _).mono ?_
    rintro e w' ⟨rfl, rfl⟩
    go_wp2_with fail
    refine (tellKey_any _ _ (by omega) (by omega)).mono ?_
    rintro e w' ⟨rfl, rfl⟩
    rw [HE.1, HE.2]; clear HE
    go_wp2_with fail
    refine (partsTold_other _ _ _ (by omega) (by omega) rfl (by omega) (by omega)).mono ?_
    rintro e w' ⟨rfl, rfl⟩
    go_wp2
    exact bodyPost_ret (v := .agg #[.int .i64 0, .int .i64 1, .int .i64 (key - 10), .int .i64 0]) (by simp [results, Tryz.results9, go_sem]) rfl ⟨rfl, rfl⟩
  · have HE := kindAt_2 h1 (by omega)
    have em : (key - 20) % 10 = key % 10 := by omega
    have Hem : Hid ((key - 20) % 10 = key % 10) := em
    clear em
    rw [e1, e2, e3, h]; clear e1 e2 e3
    have HF : Hid (∀ w, Calls Tryz.prog 22 #[.int .i64 key] w fun e w' => e = .returned (.int .i64 0) ∧ w' = w) := fun w => by have := keyFault_any key w; rw [h] at this; exact this
    clear h
    go_enter Tryz.func9, Tryz.ntmps9
    go_wp2_with fail
    refine (HF.out _).mono ?_
    rintro e w' ⟨rfl, rfl⟩
    go_wp2_with fail
    refine (tellKey_any _ _ (by omega) (by omega)).mono ?_
    rintro e w' ⟨rfl, rfl⟩
    rw [HE.1, HE.2]; clear HE
    go_wp2_with fail
    refine (partsTold_entry _ _ (by omega) (by omega)).mono ?_
    rintro e w' ⟨rfl, rfl⟩
    rw [Hem.out]; clear Hem
    go_wp2
    exact bodyPost_ret (v := .agg #[.int .i64 0, .int .i64 2, .int .i64 ((key - 20) / 10), .int .i64 (key % 10)]) (by simp [results, Tryz.results9, go_sem]) rfl ⟨rfl, rfl⟩
  · have HE := kindAt_3 h1
    rw [e1, e2, e3, h]; clear e1 e2 e3
    have HF : Hid (∀ w, Calls Tryz.prog 22 #[.int .i64 key] w fun e w' => e = .returned (.int .i64 0) ∧ w' = w) := fun w => by have := keyFault_any key w; rw [h] at this; exact this
    clear h
    go_enter Tryz.func9, Tryz.ntmps9
    go_wp2_with fail
    refine (HF.out _).mono ?_
    rintro e w' ⟨rfl, rfl⟩
    go_wp2_with fail
    refine (tellKey_any _ _ (by omega) (by omega)).mono ?_
    rintro e w' ⟨rfl, rfl⟩
    rw [HE.1, HE.2]; clear HE
    go_wp2_with fail
    refine (partsTold_other _ _ _ (by omega) (by omega) rfl (by omega) (by omega)).mono ?_
    rintro e w' ⟨rfl, rfl⟩
    go_wp2
    exact bodyPost_ret (v := .agg #[.int .i64 0, .int .i64 3, .int .i64 (key - 180), .int .i64 0]) (by simp [results, Tryz.results9, go_sem]) rfl ⟨rfl, rfl⟩
end Go.Proofs.YtbpppaolcgibnaaGreatDoor

namespace Go.Proofs.YtbpppaolcgibnaaGreatDoor
open Go.RowKit

/-- The entries of a view: of which directory each is, and what hangs there. -/
def lnkL : Prs → Prs
  | [] => []
  | e :: t => (if partK e.1 = 2 then [(partA e.1, e.2)] else []) ++ lnkL t
/-- Those of one inode. -/
def toL (K : Prs) (a : Int) : Prs := K.filter fun l => l.2 == a
def linkN (L : Prs) (a : Int) : Nat := (toL (lnkL L) a).length
theorem lnkL_append : ∀ (L M : Prs), lnkL (L ++ M) = lnkL L ++ lnkL M
  | [], _ => rfl
  | e :: t, M => by simp only [List.cons_append, lnkL, lnkL_append t M, List.append_assoc]
theorem lnkL_len : ∀ (L : Prs), (lnkL L).length ≤ L.length
  | [] => Nat.le_refl _
  | e :: t => by
    have := lnkL_len t
    simp only [lnkL, List.length_append, List.length_cons]
    split <;> simp <;> omega
theorem toL_len (K : Prs) (a : Int) : (toL K a).length ≤ K.length := List.length_filter_le _ _
theorem take_snoc {L : Prs} {k : Nat} (hk : k < L.length) : L.take (k + 1) = L.take k ++ [L.getD k (0, 0)] := by
  rw [List.take_add_one, List.getD_eq_getElem?_getD, List.getElem?_eq_getElem hk]
  rfl
theorem lnk_step {L : Prs} {k : Nat} (hk : k < L.length) {n0 n1 : Int} (h0 : (L.getD k (0, 0)).1 = n0) (h1 : (L.getD k (0, 0)).2 = n1) : lnkL (L.take (k + 1)) = lnkL (L.take k) ++ (if partK n0 = 2 then [(partA n0, n1)] else []) := by
  rw [take_snoc hk, lnkL_append, ← h0, ← h1]
  simp only [lnkL, List.append_nil]
theorem linkN_step {L : Prs} {k : Nat} (hk : k < L.length) {n0 n1 : Int} (h0 : (L.getD k (0, 0)).1 = n0) (h1 : (L.getD k (0, 0)).2 = n1) (a : Int) : linkN (L.take (k + 1)) a = linkN (L.take k) a + (if partK n0 = 2 ∧ n1 = a then 1 else 0) := by
  unfold linkN
  rw [lnk_step hk h0 h1]
  unfold toL
  rw [List.filter_append, List.length_append]
  congr 1
  by_cases h : partK n0 = 2
  · by_cases h2 : n1 = a
    · rw [if_pos h, if_pos ⟨h, h2⟩]; simp [h2]
    · rw [if_pos h, if_neg (fun q => h2 q.2)]; simp [h2]
  · rw [if_neg h, if_neg (fun q => h q.1)]; rfl
theorem linkN_take (L : Prs) (a : Int) : linkN (L.take L.length) a = linkN L a := by rw [List.take_length]
/-- All keys of a list are keys. -/
def KeysOk (L : Prs) : Prop := ∀ k, k < L.length → faultOf (L.getD k (0, 0)).1 = 0
theorem pairs_keys {F : Nat → Int} {n : Nat} (h : pairsF F n 0 = 0) : KeysOk (listOf F n) := fun k hk => by
  rw [listOf_length] at hk
  rw [listOf_get hk]
  have := pairsF_all h k hk
  rw [Nat.zero_add] at this
  exact (pairF_zero this).1
set_option maxHeartbeats 1000000 in
theorem l1Parts_is (key : Int) (hf : faultOf key = 0) (w : World) :
    Calls Tryz.prog 39 #[.int .i64 key] w fun e w' => e = .returned (.tuple #[.int .i64 (partK key), .int .i64 (partA key), .int .i64 (partB key)]) ∧ w' = w := by
  rcases parts_ways key with ⟨h, e1, e2, e3⟩ | ⟨rfl, h, e1, e2, e3⟩ | ⟨h1, h2, h, e1, e2, e3⟩ | ⟨h1, h2, h3, h, e1, e2, e3⟩ | ⟨h1, h2, h, e1, e2, e3⟩
  · exact absurd hf h
  · rw [e1, e2, e3]; clear e1 e2 e3 hf h
    go_enter Tryz.func39, Tryz.ntmps39
    go_wp2
    go_ret3
    exact ⟨rfl, rfl⟩
  · rw [e1, e2, e3]; clear e1 e2 e3 hf h
    have d0 : (key == 0) = false := beq_eq_false_iff_ne.2 (by omega)
    have d1 : decide (key < 20) = true := decide_eq_true (by omega)
    go_enter Tryz.func39, Tryz.ntmps39
    go_wp2
    go_ret3
    exact ⟨rfl, rfl⟩
  · rw [e1, e2, e3]; clear e1 e2 e3 hf h h3
    have d0 : (key == 0) = false := beq_eq_false_iff_ne.2 (by omega)
    have d1 : decide (key < 20) = false := decide_eq_false (by omega)
    have d2 : decide (key < 180) = true := decide_eq_true (by omega)
    go_enter Tryz.func39, Tryz.ntmps39
    go_wp2
    go_ret3
    exact ⟨rfl, rfl⟩
  · rw [e1, e2, e3]; clear e1 e2 e3 hf h
    have d0 : (key == 0) = false := beq_eq_false_iff_ne.2 (by omega)
    have d1 : decide (key < 20) = false := decide_eq_false (by omega)
    have d2 : decide (key < 180) = false := decide_eq_false (by omega)
    go_enter Tryz.func39, Tryz.ntmps39
    go_wp2
    go_ret3
    exact ⟨rfl, rfl⟩
set_option maxRecDepth 100000 in
set_option maxHeartbeats 2000000 in
theorem l14Links_is (L : Prs) (v : Value) (B : Nat) (a : Int) (w : World) (h : Row w B 2 L.length (rowL L) v) (hn : L.length ≤ 1000) (hf : KeysOk L) :
    Calls Tryz.prog 69 #[v, .int .i64 a] w fun e w' => e = .returned (.int .i64 (linkN L a)) ∧ w' = w := by
  obtain ⟨ao, cp, rfl⟩ := h.form
  have H : Hid (Row w B 2 L.length (rowL L) (.slice ao L.length cp) ∧ KeysOk L) := ⟨h, hf⟩
  clear h hf
  go_enter Tryz.func69, Tryz.ntmps69
  go_wp2
  go_loopw [5, 6] (fun n i wr => ∃ k c : Nat, k ≤ L.length ∧ i = .int .i64 k ∧ n = .int .i64 c ∧ c ≤ k ∧ Hid (linkN (L.take k) a = c) ∧ wr = w) (fun _ i _ => L.length - (intOf i).toNat)
  case atStart => exact ⟨0, 0, Nat.zero_le _, rfl, rfl, Nat.le_refl _, rfl, rfl⟩
  case round =>
    obtain ⟨k, c, hk, rfl, rfl, hc, HC, rfl⟩ := hrel
    by_cases hlt : k < L.length
    case neg =>
      obtain rfl : k = L.length := by omega
      have HE : Hid (linkN L a = c) := (linkN_take L a).symm.trans HC.out
      clear HC
      go_wp2
      go_ret
      rw [HE.out]
      exact ⟨rfl, rfl⟩
    obtain ⟨g, o, hao, _, hg, y0, y1⟩ := H.out.1.at2 hlt
    subst hao
    rw [rowL_key] at y0
    rw [rowL_val] at y1
    obtain ⟨n0, N0⟩ : ∃ x, (L.getD k (0, 0)).1 = x := ⟨_, rfl⟩
    rw [N0] at y0
    obtain ⟨n1, N1⟩ : ∃ x, (L.getD k (0, 0)).2 = x := ⟨_, rfl⟩
    rw [N1] at y1
    have HF : Hid (faultOf n0 = 0) := by have := H.out.2 k hlt; rwa [N0] at this
    obtain ⟨s, hs⟩ : ∃ s, linkN (L.take (k + 1)) a = s := ⟨_, rfl⟩
    have HS : Hid (linkN (L.take (k + 1)) a = s) := hs
    have hst := linkN_step hlt N0 N1 a
    rw [hs, HC.out] at hst
    obtain ⟨kk, hkk⟩ : ∃ x, partK n0 = x := ⟨_, rfl⟩
    obtain ⟨ka, hka⟩ : ∃ x, partA n0 = x := ⟨_, rfl⟩
    obtain ⟨kb, hkb⟩ : ∃ x, partB n0 = x := ⟨_, rfl⟩
    have HK : Hid (partK n0 = kk ∧ partA n0 = ka ∧ partB n0 = kb) := ⟨hkk, hka, hkb⟩
    rw [hkk] at hst
    clear hs N0 N1 hkk hka hkb HC
    have hsk : s ≤ k + 1 := by rw [hst]; split <;> omega
    by_cases h2 : kk = 2
    · by_cases h3 : n1 = a
      · obtain rfl : s = c + 1 := by rw [hst, if_pos ⟨h2, h3⟩]
        clear hst
        subst h2
        have d2 : (n1 == a) = true := beq_iff_eq.2 h3
        clear h3
        go_wp2_with fail
        refine (l1Parts_is n0 HF.out _).mono ?_
        rintro e w9 ⟨rfl, hw9⟩
        obtain rfl := hw9.symm
        rw [HK.out.1, HK.out.2.1, HK.out.2.2]
        go_wp2
        go_roundw
        case rel => exact ⟨k + 1, c + 1, by omega, by go_num, by go_num, by omega, HS, trivial⟩
        case measure => simp [intOf]; omega
      · obtain rfl : s = c := by rw [hst, if_neg (fun q => h3 q.2)]; rfl
        clear hst
        subst h2
        have d2 : (n1 == a) = false := beq_eq_false_iff_ne.2 h3
        clear h3
        go_wp2_with fail
        refine (l1Parts_is n0 HF.out _).mono ?_
        rintro e w9 ⟨rfl, hw9⟩
        obtain rfl := hw9.symm
        rw [HK.out.1, HK.out.2.1, HK.out.2.2]
        go_wp2
        go_roundw
        case rel => exact ⟨k + 1, s, by omega, by go_num, rfl, by omega, HS, trivial⟩
        case measure => simp [intOf]; omega
    · obtain rfl : s = c := by rw [hst, if_neg (fun q => h2 q.1)]; rfl
      clear hst
      have d2 : (kk == 2) = false := beq_eq_false_iff_ne.2 h2
      clear h2
      go_wp2_with fail
      refine (l1Parts_is n0 HF.out _).mono ?_
      rintro e w9 ⟨rfl, hw9⟩
      obtain rfl := hw9.symm
      rw [HK.out.1, HK.out.2.1, HK.out.2.2]
      go_wp2
      go_roundw
      case rel => exact ⟨k + 1, s, by omega, by go_num, rfl, by omega, HS, trivial⟩
      case measure => simp [intOf]; omega
/-- What LinksTo answers. -/
def LnkAns (n : Nat) (F : Nat → Int) (a c z : Int) : Prop :=
  (pairsF F n 0 ≠ 0 ∧ c = pairsF F n 0 ∧ z = 0) ∨ (pairsF F n 0 = 0 ∧ ¬ (0 ≤ a ∧ a ≤ 9) ∧ c = 3 ∧ z = 0) ∨ (pairsF F n 0 = 0 ∧ (0 ≤ a ∧ a ≤ 9) ∧ c = 0 ∧ z = linkN (listOf F n) a)
end Go.Proofs.YtbpppaolcgibnaaGreatDoor

namespace Go.Proofs.YtbpppaolcgibnaaGreatDoor
open Go.RowKit

/-- The names that have an entry, from i on, j of them to be asked. -/
def entP (L : Prs) (d : Int) : Nat → Int → List Int → List Int
  | 0, _, xs => xs
  | j + 1, i, xs => entP L d j (i + 1) (if (lookF L (kE d i)).1 = true then xs ++ [i] else xs)
theorem ent_len (L : Prs) (d : Int) : ∀ (j : Nat) (i : Int) (xs : List Int), (entP L d j i xs).length ≤ xs.length + j
  | 0, _, xs => Nat.le_refl _
  | j + 1, i, xs => by
    rw [entP]
    split
    · have := ent_len L d j (i + 1) (xs ++ [i]); simp at this; omega
    · have := ent_len L d j (i + 1) xs; omega
theorem ent_step {L : Prs} {d : Int} {k : Nat} (hk : k < 6) {acc : List Int} {th : Bool} {tz : Int} (ht : lookF L (kE d k) = (th, tz)) : entP L d (6 - k) k acc = entP L d (6 - (k + 1)) ((k + 1 : Nat) : Int) (if th = true then acc ++ [(k : Int)] else acc) := by
  rw [show 6 - k = (6 - (k + 1)) + 1 by omega, entP, ht]
  simp
/-- Only a list of the caller's own has turned. -/
theorem Looks.grew {X X' : World} {b rb mb B : Nat} {L : Prs} {zs : List Int} {vz u : Value} (h : Looks X b rb mb L zs vz) (hl : ∀ k, u.ownBlock = some k → B ≤ k) (hb : b < B) (hd : ∀ k, vz.ownBlock = some k → u.ownBlock ≠ some k) (hk : ∀ k, k < X.heap.size → u.ownBlock ≠ some k → X'.heap[k]? = X.heap[k]?) : Looks X' b rb mb L zs vz := by
  have low : ∀ k, k < X.heap.size → k < B → X'.heap[k]? = X.heap[k]? := fun k h1 h2 => hk k h1 (fun e => by have := hl k e; omega)
  have hi : OwnM X (b + 1) 2 1 vz zs.length zs := h.2.2.2.1
  have ho := h.2.2.2.2
  exact ⟨h.1.kept (low b h.1.lt hb), h.2.1.kept (fun k h1 h2 => low k h1 (by omega)) ho.1, h.2.2.1.kept (low mb h.2.2.1.lt (by omega)), OwnM.keptB hi (fun k hq => hk k (OwnM.block hi k hq).2 (hd k hq)), ho⟩
/-- What names has under way: what was looked at, and its own list. -/
def Nms (w : World) (b rb mb : Nat) (L : Prs) (vr : Value) (zs : List Int) (vz : Value) (acc : List Int) (l : Value) (X : World) : Prop :=
  (Looks X b rb mb L zs vz ∧ Keeps w X b mb vr vz) ∧ Ints X w.heap.size l acc ∧ ∀ k, vz.ownBlock = some k → l.ownBlock ≠ some k
theorem Nms.later {w X X' : World} {b rb mb : Nat} {L : Prs} {vr vz l : Value} {zs acc : List Int} (h : Nms w b rb mb L vr zs vz acc l X) (hb : Below X.heap.size X X') : Nms w b rb mb L vr zs vz acc l X' := ⟨⟨h.1.1.later hb, h.1.2.trans (Keeps.below _ _ _ hb)⟩, h.2.1.later hb, h.2.2⟩
theorem Nms.keeps {w X X' : World} {b rb mb : Nat} {L : Prs} {vr vz vy l : Value} {zs ys acc : List Int} (h : Nms w b rb mb L vr zs vz acc l X) (hbw : b < w.heap.size) (hmb : mb < w.heap.size) (hl : Looks X' b rb mb L ys vy) (hk : Keeps X X' b mb vz vy) : Nms w b rb mb L vr ys vy acc l X' := by
  have off : ∀ k, l.ownBlock = some k → Off X b mb vz k := fun k hq => ⟨(h.2.1.lt k hq).2, by have := (h.2.1.lt k hq).1; omega, by have := (h.2.1.lt k hq).1; omega, fun e => h.2.2 k e hq⟩
  have hi : OwnM X w.heap.size 2 1 l acc.length acc := h.2.1
  exact ⟨⟨hl, h.1.2.trans hk⟩, OwnM.keptB hi (fun k hq => (hk.off (off k hq)).2), fun k hq e => (hk.off (off k e)).1.2.2.2 hq⟩
theorem Nms.app {w X X6 : World} {b rb mb : Nat} {L : Prs} {vr vz : Value} {zs acc : List Int} {key : Int} {ao ao1 : Option Addr} {cp cp1 : Nat} (h : Nms w b rb mb L vr zs vz acc (.slice ao acc.length cp) X) (hbw : b < w.heap.size)
    (O6 : OwnM X6 w.heap.size 2 1 (.slice ao1 (acc.length + 1) cp1) (acc.length + 1) (acc ++ nums (fun p => [key].getD p 0) (1 * 1))) (G6 : (X.alloc (.cells #[.int .i64 key] 2)).grownBy X6 (Value.slice ao acc.length cp).ownBlock)
    (N6 : (Value.slice ao1 (acc.length + 1) cp1).ownBlock = (Value.slice ao acc.length cp).ownBlock ∨ (Value.slice ao1 (acc.length + 1) cp1).ownBlock = some (X.alloc (.cells #[.int .i64 key] 2)).heap.size) :
    Nms w b rb mb L vr zs vz (acc ++ [key]) (.slice ao1 (acc.length + 1) cp1) X6 := by
  have kp : ∀ k, k < X.heap.size → (Value.slice ao acc.length cp).ownBlock ≠ some k → X6.heap[k]? = X.heap[k]? := fun k h1 h2 => (G6.block k (by simp; omega) (fun e => h2 e.symm)).trans (Below.heap_alloc X _ k h1)
  have hsz : X.heap.size ≤ X6.heap.size := Nat.le_trans (by simp) G6.size
  refine ⟨⟨h.1.1.grew (fun k hk => (h.2.1.lt k hk).1) hbw h.2.2 kp, ⟨⟨G6.os.trans h.1.2.1.1, G6.tape.trans h.1.2.1.2.1, G6.output.trans h.1.2.1.2.2⟩, Nat.le_trans h.1.2.2.1 hsz, fun k h1 h2 h3 h4 => (kp k (Nat.lt_of_lt_of_le h1 h.1.2.2.1) (fun e => by have := (h.2.1.lt k e).1; omega)).trans (h.1.2.2.2.1 k h1 h2 h3 h4), h.1.2.2.2.2⟩⟩, ?_, fun k hk e => ?_⟩
  · have e : nums (fun p => [key].getD p 0) (1 * 1) = [key] := rfl
    rw [e] at O6
    unfold Ints
    rw [List.length_append]
    exact O6
  · rcases N6 with p | p
    · exact h.2.2 k hk (by rw [← p]; exact e)
    · rw [p] at e
      have h1 := (h.1.1.2.2.2.1.lt k hk).2
      have := Option.some.inj e
      simp at this
      omega
theorem Blk2.set1E {x : World} {b : Nat} {a0 a1 : Value} (h : Blk2 x b a0 a1) (u : Value) : Blk2 (x.setCell ⟨b, 1, none⟩ u) b a0 u := by
  obtain ⟨⟨h0, h1⟩, f0, f1⟩ := h
  exact ⟨⟨(World.cell?_setCell_other _ _ _ _ (by simp)).trans h0, World.cell?_setCell_same _ _ _ h1⟩, by simpa using f0, by simpa using f1⟩
end Go.Proofs.YtbpppaolcgibnaaGreatDoor

namespace Go.Proofs.YtbpppaolcgibnaaGreatDoor
open Go.RowKit

/-- The numbers of a list of pairs, as a list. -/
def flatL : Prs → List Int
  | [] => []
  | e :: t => e.1 :: e.2 :: flatL t
theorem flatL_length : ∀ L, (flatL L).length = L.length * 2
  | [] => rfl
  | e :: t => by simp only [flatL, List.length_cons, flatL_length t]; omega
theorem flatL_append : ∀ (L M : Prs), flatL (L ++ M) = flatL L ++ flatL M
  | [], _ => rfl
  | e :: t, M => by simp only [List.cons_append, flatL, flatL_append t M]
theorem flatL_get : ∀ (L : Prs) (p : Nat), (flatL L).getD p 0 = rowL L p
  | [], p => by simp [flatL, rowL]
  | e :: t, 0 => rfl
  | e :: t, 1 => rfl
  | e :: t, p + 2 => by
    simp only [flatL, List.getD_cons_succ]
    rw [flatL_get t p, rowL, rowL, show (p + 2) % 2 = p % 2 by omega, show (p + 2) / 2 = p / 2 + 1 by omega, List.getD_cons_succ]
theorem ownM_own {w : World} {B : Nat} {v : Value} {L : Prs} (h : OwnM w B 35 2 v L.length (flatL L)) : Own w B 35 2 L.length (rowL L) v := own_eqP (h.own (flatL_length L)) fun p _ => flatL_get L p
theorem own_ownP {w : World} {B : Nat} {v : Value} {L : Prs} (h : Own w B 35 2 L.length (rowL L) v) : OwnM w B 35 2 v L.length (flatL L) := by
  unfold OwnM
  unfold Own at h
  have e : (flatL L).map (Value.int .i64) = vals (rowL L) (L.length * 2) := by
    refine List.ext_getElem? fun p => ?_
    unfold vals
    rw [List.getElem?_map, List.getElem?_map]
    by_cases hp : p < L.length * 2
    · rw [List.getElem?_range hp]
      have h1 := flatL_get L p
      rw [List.getD_eq_getElem?_getD] at h1
      have hp' : p < (flatL L).length := by rw [flatL_length]; exact hp
      rw [List.getElem?_eq_getElem hp'] at h1 ⊢
      simp only [Option.getD_some] at h1
      simp [h1]
    · rw [List.getElem?_eq_none (by rw [flatL_length]; omega), List.getElem?_eq_none (by simp; omega)]
      rfl
  rwa [e]
theorem row_lit2 (w : World) (x0 x1 : Int) (t : TypeId) : Row (w.alloc (.cells #[.int .i64 x0, .int .i64 x1] t)) 0 2 1 (fun p => [x0, x1].getD p 0) (.slice (some ⟨w.heap.size, 0, none⟩) 1 1) := by
  refine ⟨_, _, rfl, fun _ => ⟨w.heap.size, 0, rfl, Nat.zero_le _, by simp, fun p hp => ?_⟩⟩
  rw [Nat.zero_add, World.cell?_alloc_mark]
  match p, hp with
  | 0, _ => rfl
  | 1, _ => rfl
/-- One round of the model's set. -/
def stepS (k x : Int) (q : Prs × Bool) (e : Int × Int) : Prs × Bool :=
  ((if q.2 = false ∧ k ≤ e.1 then q.1 ++ [(k, x)] else q.1) ++ (if e.1 = k then [] else [e]), if k ≤ e.1 then true else q.2)
def accS (L : Prs) (k x : Int) (has : Bool) : Nat → Prs × Bool
  | 0 => ([], !has)
  | i + 1 => stepS k x (accS L k x has i) (L.getD i (0, 0))
/-- What the model's set comes to. -/
def setS (L : Prs) (k x : Int) (has : Bool) : Prs := if (accS L k x has L.length).2 then (accS L k x has L.length).1 else (accS L k x has L.length).1 ++ [(k, x)]
theorem accS_foldl (L : Prs) (k x : Int) (has : Bool) : ∀ i, i ≤ L.length → accS L k x has i = (L.take i).foldl (stepS k x) ([], !has)
  | 0, _ => by simp [accS]
  | i + 1, h => by
    have hg : L.getD i (0, 0) = L[i] := by simp [List.getD, show i < L.length by omega]
    rw [accS, accS_foldl L k x has i (by omega), List.take_succ_eq_append_getElem (by omega), List.foldl_append, hg]
    rfl
theorem fold_done (k x : Int) : ∀ (L o : Prs), L.foldl (stepS k x) (o, true) = (o ++ gonePr L k, true)
  | [], o => by simp [gonePr]
  | e :: t, o => by
    rw [List.foldl_cons]
    have h1 : stepS k x (o, true) e = (o ++ (if e.1 = k then [] else [e]), true) := by simp [stepS]
    rw [h1, fold_done k x t, List.append_assoc]
    congr 2
    unfold gonePr
    by_cases he : e.1 = k
    · rw [if_pos he, List.filter_cons_of_neg (by simp [he])]; rfl
    · rw [if_neg he, List.filter_cons_of_pos (by simp [he])]; rfl
theorem fold_put (k x : Int) : ∀ (L o : Prs), (if (L.foldl (stepS k x) (o, false)).2 then (L.foldl (stepS k x) (o, false)).1 else (L.foldl (stepS k x) (o, false)).1 ++ [(k, x)]) = o ++ putPr L k x
  | [], o => by simp [putPr]
  | e :: t, o => by
    rw [List.foldl_cons]
    by_cases he : k ≤ e.1
    · have h1 : stepS k x (o, false) e = ((o ++ [(k, x)]) ++ (if e.1 = k then [] else [e]), true) := by simp [stepS, he]
      rw [h1, fold_done]
      simp only [if_true]
      rw [putPr, if_pos he]
      have h2 : gonePr (e :: t) k = (if e.1 = k then [] else [e]) ++ gonePr t k := by
        unfold gonePr
        by_cases hk : e.1 = k
        · rw [if_pos hk, List.filter_cons_of_neg (by simp [hk])]; rfl
        · rw [if_neg hk, List.filter_cons_of_pos (by simp [hk])]; rfl
      rw [h2]
      simp
    · have h1 : stepS k x (o, false) e = (o ++ [e], false) := by simp [stepS, he, show ¬ e.1 = k by omega]
      rw [h1, fold_put k x t (o ++ [e]), putPr, if_neg he]
      simp
theorem setS_put (L : Prs) (k x : Int) : setS L k x true = putPr L k x := by
  unfold setS
  rw [accS_foldl L k x true _ (Nat.le_refl _), List.take_length]
  exact fold_put k x L []
theorem setS_gone (L : Prs) (k x : Int) : setS L k x false = gonePr L k := by
  unfold setS
  rw [accS_foldl L k x false _ (Nat.le_refl _), List.take_length]
  show (if (L.foldl (stepS k x) ([], true)).2 = true then (L.foldl (stepS k x) ([], true)).1 else _) = _
  rw [fold_done]
  rfl
theorem accS_len (L : Prs) (k x : Int) (has : Bool) : ∀ i, (accS L k x has i).1.length ≤ i * 2
  | 0 => by simp [accS]
  | i + 1 => by
    have h := accS_len L k x has i
    rw [accS, stepS]
    simp only [List.length_append]
    have h1 : (if (accS L k x has i).2 = false ∧ k ≤ (L.getD i (0, 0)).1 then (accS L k x has i).1 ++ [(k, x)] else (accS L k x has i).1).length ≤ (accS L k x has i).1.length + 1 := by split <;> simp
    have h2 : (if (L.getD i (0, 0)).1 = k then [] else [L.getD i (0, 0)]).length ≤ 1 := by split <;> simp
    omega
/-- What stands while the model sets. -/
def SetE (w : World) (k x : Int) (v : Value) (o : Prs) (X : World) : Prop := OwnM X (w.heap.size + 1) 35 2 v o.length (flatL o) ∧ Blk2 X w.heap.size (.int .i64 k) (.int .i64 x) ∧ Below w.heap.size w X
theorem SetE.push {w X w2 : World} {k x a b : Int} {ao ao1 : Option Addr} {cp cp1 : Nat} {o : Prs} (h : SetE w k x (.slice ao o.length cp) o X) (O2 : OwnM w2 (w.heap.size + 1) 35 2 (.slice ao1 (o.length + 1) cp1) (o.length + 1) (flatL o ++ nums (fun p => [a, b].getD p 0) (1 * 2))) (G2 : (X.alloc (.cells #[.int .i64 a, .int .i64 b] 35)).grownBy w2 (Value.slice ao o.length cp).ownBlock) : SetE w k x (.slice ao1 (o ++ [(a, b)]).length cp1) (o ++ [(a, b)]) w2 := by
  refine ⟨?_, (h.2.1.alloc _).kept (G2.block _ (by have := h.2.1.lt; simp; omega) (fun e => by have := (h.1.block _ e.symm).1; omega)), (h.2.2.alloc h.2.2.size _).grown G2 (by have := h.2.2.size; simp; omega) (fun r e => by have := (h.1.block r e).1; omega)⟩
  rw [List.length_append, flatL_append]
  exact O2
set_option maxRecDepth 100000 in
set_option maxHeartbeats 4000000 in
theorem l11Set_any (L : Prs) (v : Value) (B : Nat) (k x : Int) (has : Bool) (w : World) (h : Row w B 2 L.length (rowL L) v) (hn : L.length ≤ 1000) :
    Calls Tryz.prog 44 #[v, .agg #[.int .i64 k, .int .i64 x], .bool has] w fun e w' => ∃ ao cp, e = .returned (.slice ao (setS L k x has).length cp) ∧ Own w' w.heap.size 35 2 (setS L k x has).length (rowL (setS L k x has)) (.slice ao (setS L k x has).length cp) ∧ Below w.heap.size w w' := by
  obtain ⟨ao0, cp0, rfl⟩ := h.form
  have H : Hid (Row w B 2 L.length (rowL L) (.slice ao0 L.length cp0)) := h
  clear h
  obtain ⟨i0, hi, iz0, iz1, iz2⟩ := info_parts infoz_Pair
  obtain ⟨R, hR⟩ : ∃ R, setS L k x has = R := ⟨_, rfl⟩
  have HR : Hid (setS L k x has = R) := hR
  rw [hR]
  clear hR
  go_enter Tryz.func44, Tryz.ntmps44
  go_wp2
  go_loopw [7, 8, 9] (fun out d i wr => ∃ (j : Nat) (ao : Option Addr) (cp : Nat) (o : Prs) (dn : Bool), j ≤ L.length ∧ i = .int .i64 j ∧ d = .bool dn ∧ out = .slice ao o.length cp ∧ Hid (accS L k x has j = (o, dn)) ∧ Hid (SetE w k x (.slice ao o.length cp) o wr)) (fun _ _ i _ => L.length - (intOf i).toNat)
  case atStart =>
    refine ⟨0, _, _, [], !has, Nat.zero_le _, rfl, rfl, rfl, rfl, OwnM.lit0 _ _ _ _ (by simp), (Blk2.new w _ _ _).alloc _, (below_alloc _ _).alloc (by simp) _⟩
  case round =>
    obtain ⟨j, ao, cp, o, dn, hj, rfl, rfl, rfl, HA, HS⟩ := hrel
    have hol : o.length ≤ 2000 := by
      have := accS_len L k x has j
      rw [HA.out] at this
      simp only at this
      omega
    have hz : w.heap.size < wr.heap.size := HS.out.2.1.lt
    obtain ⟨⟨c0, c1⟩, _, _⟩ := HS.out.2.1
    by_cases hlt : j < L.length
    case neg =>
      obtain rfl : j = L.length := by omega
      cases dn with
      | true =>
        have HE : Hid (R = o) := by
          have := HR.out
          unfold setS at this
          rw [HA.out] at this
          exact (by simpa using this.symm : R = o)
        clear HA HR
        go_wp2
        refine bodyPost_ret (v := .slice ao o.length cp) (by simp [results, Tryz.results44, go_sem]) rfl ?_
        rw [HE.out]
        exact ⟨ao, cp, rfl, (ownM_own HS.out.1).mono (by omega), HS.out.2.2⟩
      | false =>
        have HE : Hid (R = o ++ [(k, x)]) := by
          have := HR.out
          unfold setS at this
          rw [HA.out] at this
          exact (by simpa using this.symm : R = o ++ [(k, x)])
        clear HA HR
        go_wp2_with (at_builtin; refine wpList_app 35 i0 (.agg #[.int .i64 0, .int .i64 0]) 2 16 rfl _ _ 24 rfl Tryz.underlying24 hi iz0 iz1 iz2 rfl (by omega) (by omega) _ (w.heap.size + 1) o.length (flatL o) (.slice ao o.length cp) rfl (HS.out.1.later (below_alloc _ _)) 0 1 (fun p => [k, x].getD p 0) (.slice (some ⟨wr.heap.size, 0, none⟩) 1 1) rfl (row_lit2 wr k x 35) (by omega) (by simp; omega) ?_; intro ao1 cp1 w1 O2 G2)
        have HS1 : Hid (SetE w k x (.slice ao1 (o ++ [(k, x)]).length cp1) (o ++ [(k, x)]) w1) := HS.out.push O2 G2
        have hz1 : w.heap.size < w1.heap.size := HS1.out.2.1.lt
        clear O2 G2
        go_wp2
        refine bodyPost_ret (v := .slice ao1 (o ++ [(k, x)]).length cp1) (by simp [results, Tryz.results44, go_sem]) rfl ?_
        rw [HE.out]
        exact ⟨ao1, cp1, rfl, (ownM_own HS1.out.1).mono (by omega), HS1.out.2.2⟩
    obtain ⟨g, oo, hao, _, hg, yw0, yw1⟩ := H.out.at2 hlt
    subst hao
    obtain ⟨n0, N0⟩ : ∃ x, rowL L (j * 2) = x := ⟨_, rfl⟩
    rw [N0] at yw0
    obtain ⟨n1, N1⟩ : ∃ x, rowL L (j * 2 + 1) = x := ⟨_, rfl⟩
    rw [N1] at yw1
    have HN : Hid (accS L k x has (j + 1) = stepS k x (o, dn) (n0, n1)) := by
      unfold Hid
      rw [accS, HA.out, ← N0, ← N1, rowL_key, rowL_val]
    clear N0 N1 HA HR c0 c1
    have yr0 := (HS.out.2.2.cell (p := ⟨g, oo + j * 2, none⟩) hg).trans yw0
    have yr1 := (HS.out.2.2.cell (p := ⟨g, oo + j * 2 + 1, none⟩) hg).trans yw1
    obtain ⟨⟨cr0, cr1⟩, _, _⟩ := HS.out.2.1
    cases dn with
    | true =>
      by_cases he : n0 = k
      · have HE : Hid (accS L k x has (j + 1) = (o, true)) := by unfold Hid; rw [HN.out]; simp [stepS, he]
        subst he
        clear HN
        go_wp2_with fail
        go_quiet (fail)
        have HSa : Hid (SetE w n0 x (.slice ao (o).length cp) (o) (wr.drewN nq)) := ⟨HS.out.1, HS.out.2.1, below_dn HS.out.2.2 _⟩
        generalize wr.drewN nq = Xa at HSa ⊢
        have hza : w.heap.size < Xa.heap.size := HSa.out.2.1.lt
        have ya0 := (HSa.out.2.2.cell (p := ⟨g, oo + j * 2, none⟩) hg).trans yw0
        have ya1 := (HSa.out.2.2.cell (p := ⟨g, oo + j * 2 + 1, none⟩) hg).trans yw1
        obtain ⟨⟨ca0, ca1⟩, _, _⟩ := HSa.out.2.1
        clear yr0 yr1 cr0 cr1
        go_wp2_with fail
        go_quiet (fail)
        have HSb : Hid (SetE w n0 x (.slice ao (o).length cp) (o) (Xa.drewN nq)) := ⟨HSa.out.1, HSa.out.2.1, below_dn HSa.out.2.2 _⟩
        generalize Xa.drewN nq = Xb at HSb ⊢
        have hzb : w.heap.size < Xb.heap.size := HSb.out.2.1.lt
        have yb0 := (HSb.out.2.2.cell (p := ⟨g, oo + j * 2, none⟩) hg).trans yw0
        have yb1 := (HSb.out.2.2.cell (p := ⟨g, oo + j * 2 + 1, none⟩) hg).trans yw1
        obtain ⟨⟨cb0, cb1⟩, _, _⟩ := HSb.out.2.1
        go_wp2
        go_roundw
        case rel => exact ⟨j + 1, ao, cp, o, true, by omega, by go_num, rfl, by first | rfl | simp, HE, HSb⟩
        case measure => simp [intOf]; omega
      · have HE : Hid (accS L k x has (j + 1) = (o ++ [(n0, n1)], true)) := by unfold Hid; rw [HN.out]; simp [stepS, he]
        have d : (n0 != k) = true := bne_iff_ne.2 he
        clear HN he
        go_wp2_with fail
        go_quiet (fail)
        have HSa : Hid (SetE w k x (.slice ao (o).length cp) (o) (wr.drewN nq)) := ⟨HS.out.1, HS.out.2.1, below_dn HS.out.2.2 _⟩
        generalize wr.drewN nq = Xa at HSa ⊢
        have hza : w.heap.size < Xa.heap.size := HSa.out.2.1.lt
        have ya0 := (HSa.out.2.2.cell (p := ⟨g, oo + j * 2, none⟩) hg).trans yw0
        have ya1 := (HSa.out.2.2.cell (p := ⟨g, oo + j * 2 + 1, none⟩) hg).trans yw1
        obtain ⟨⟨ca0, ca1⟩, _, _⟩ := HSa.out.2.1
        clear yr0 yr1 cr0 cr1
        go_wp2_with fail
        go_quiet (fail)
        have HSb : Hid (SetE w k x (.slice ao (o).length cp) (o) (Xa.drewN nq)) := ⟨HSa.out.1, HSa.out.2.1, below_dn HSa.out.2.2 _⟩
        generalize Xa.drewN nq = Xb at HSb ⊢
        have hzb : w.heap.size < Xb.heap.size := HSb.out.2.1.lt
        have yb0 := (HSb.out.2.2.cell (p := ⟨g, oo + j * 2, none⟩) hg).trans yw0
        have yb1 := (HSb.out.2.2.cell (p := ⟨g, oo + j * 2 + 1, none⟩) hg).trans yw1
        obtain ⟨⟨cb0, cb1⟩, _, _⟩ := HSb.out.2.1
        clear ya0 ya1 ca0 ca1
        go_wp2_with (at_builtin; refine wpList_app 35 i0 (.agg #[.int .i64 0, .int .i64 0]) 2 16 rfl _ _ 24 rfl Tryz.underlying24 hi iz0 iz1 iz2 rfl (by omega) (by omega) _ (w.heap.size + 1) (o).length (flatL (o)) (.slice ao (o).length cp) rfl (HSb.out.1.later (below_alloc _ _)) 0 1 (fun p => [n0, n1].getD p 0) (.slice (some ⟨Xb.heap.size, 0, none⟩) 1 1) rfl (row_lit2 Xb n0 n1 35) (by simp <;> omega) (by simp; omega) ?_; intro ao1 cp1 w1 O2 G2)
        have HS1 : Hid (SetE w k x (.slice ao1 ((o) ++ [(n0, n1)]).length cp1) ((o) ++ [(n0, n1)]) w1) := HSb.out.push O2 G2
        have hz1 : w.heap.size < w1.heap.size := HS1.out.2.1.lt
        clear O2 G2
        go_wp2
        go_roundw
        case rel => exact ⟨j + 1, ao1, cp1, o ++ [(n0, n1)], true, by omega, by go_num, rfl, by first | rfl | simp, HE, HS1⟩
        case measure => simp [intOf]; omega
    | false =>
      by_cases hle : k ≤ n0
      · have dg : decide (n0 ≥ k) = true := decide_eq_true hle
        by_cases he : n0 = k
        · have HE : Hid (accS L k x has (j + 1) = (o ++ [(k, x)], true)) := by unfold Hid; rw [HN.out]; simp [stepS, he]
          subst he
          clear HN hle
          go_wp2_with fail
          go_quiet (fail)
          have HSa : Hid (SetE w n0 x (.slice ao (o).length cp) (o) (wr.drewN nq)) := ⟨HS.out.1, HS.out.2.1, below_dn HS.out.2.2 _⟩
          generalize wr.drewN nq = Xa at HSa ⊢
          have hza : w.heap.size < Xa.heap.size := HSa.out.2.1.lt
          have ya0 := (HSa.out.2.2.cell (p := ⟨g, oo + j * 2, none⟩) hg).trans yw0
          have ya1 := (HSa.out.2.2.cell (p := ⟨g, oo + j * 2 + 1, none⟩) hg).trans yw1
          obtain ⟨⟨ca0, ca1⟩, _, _⟩ := HSa.out.2.1
          clear yr0 yr1 cr0 cr1
          go_wp2_with (at_builtin; refine wpList_app 35 i0 (.agg #[.int .i64 0, .int .i64 0]) 2 16 rfl _ _ 24 rfl Tryz.underlying24 hi iz0 iz1 iz2 rfl (by omega) (by omega) _ (w.heap.size + 1) (o).length (flatL (o)) (.slice ao (o).length cp) rfl (HSa.out.1.later (below_alloc _ _)) 0 1 (fun p => [n0, x].getD p 0) (.slice (some ⟨Xa.heap.size, 0, none⟩) 1 1) rfl (row_lit2 Xa n0 x 35) (by simp <;> omega) (by simp; omega) ?_; intro ao1 cp1 w1 O2 G2)
          have HS1 : Hid (SetE w n0 x (.slice ao1 ((o) ++ [(n0, x)]).length cp1) ((o) ++ [(n0, x)]) w1) := HSa.out.push O2 G2
          have hz1 : w.heap.size < w1.heap.size := HS1.out.2.1.lt
          clear O2 G2
          clear ya0 ya1 ca0 ca1
          have ys0 := (HS1.out.2.2.cell (p := ⟨g, oo + j * 2, none⟩) hg).trans yw0
          have ys1 := (HS1.out.2.2.cell (p := ⟨g, oo + j * 2 + 1, none⟩) hg).trans yw1
          obtain ⟨⟨cs0, cs1⟩, _, _⟩ := HS1.out.2.1
          go_wp2_with fail
          go_quiet (fail)
          have HSb : Hid (SetE w n0 x (.slice ao1 (o ++ [(n0, x)]).length cp1) (o ++ [(n0, x)]) (w1.drewN nq)) := ⟨HS1.out.1, HS1.out.2.1, below_dn HS1.out.2.2 _⟩
          generalize w1.drewN nq = Xb at HSb ⊢
          have hzb : w.heap.size < Xb.heap.size := HSb.out.2.1.lt
          have yb0 := (HSb.out.2.2.cell (p := ⟨g, oo + j * 2, none⟩) hg).trans yw0
          have yb1 := (HSb.out.2.2.cell (p := ⟨g, oo + j * 2 + 1, none⟩) hg).trans yw1
          obtain ⟨⟨cb0, cb1⟩, _, _⟩ := HSb.out.2.1
          go_wp2
          go_roundw
          case rel => exact ⟨j + 1, ao1, cp1, o ++ [(n0, x)], true, by omega, by go_num, rfl, by first | rfl | simp, HE, HSb⟩
          case measure => simp [intOf]; omega
        · have HE : Hid (accS L k x has (j + 1) = ((o ++ [(k, x)]) ++ [(n0, n1)], true)) := by unfold Hid; rw [HN.out]; simp [stepS, he, hle]
          have d : (n0 != k) = true := bne_iff_ne.2 he
          clear HN hle he
          go_wp2_with fail
          go_quiet (fail)
          have HSa : Hid (SetE w k x (.slice ao (o).length cp) (o) (wr.drewN nq)) := ⟨HS.out.1, HS.out.2.1, below_dn HS.out.2.2 _⟩
          generalize wr.drewN nq = Xa at HSa ⊢
          have hza : w.heap.size < Xa.heap.size := HSa.out.2.1.lt
          have ya0 := (HSa.out.2.2.cell (p := ⟨g, oo + j * 2, none⟩) hg).trans yw0
          have ya1 := (HSa.out.2.2.cell (p := ⟨g, oo + j * 2 + 1, none⟩) hg).trans yw1
          obtain ⟨⟨ca0, ca1⟩, _, _⟩ := HSa.out.2.1
          clear yr0 yr1 cr0 cr1
          go_wp2_with (at_builtin; refine wpList_app 35 i0 (.agg #[.int .i64 0, .int .i64 0]) 2 16 rfl _ _ 24 rfl Tryz.underlying24 hi iz0 iz1 iz2 rfl (by omega) (by omega) _ (w.heap.size + 1) (o).length (flatL (o)) (.slice ao (o).length cp) rfl (HSa.out.1.later (below_alloc _ _)) 0 1 (fun p => [k, x].getD p 0) (.slice (some ⟨Xa.heap.size, 0, none⟩) 1 1) rfl (row_lit2 Xa k x 35) (by simp <;> omega) (by simp; omega) ?_; intro ao1 cp1 w1 O2 G2)
          have HS1 : Hid (SetE w k x (.slice ao1 ((o) ++ [(k, x)]).length cp1) ((o) ++ [(k, x)]) w1) := HSa.out.push O2 G2
          have hz1 : w.heap.size < w1.heap.size := HS1.out.2.1.lt
          clear O2 G2
          clear ya0 ya1 ca0 ca1
          have ys0 := (HS1.out.2.2.cell (p := ⟨g, oo + j * 2, none⟩) hg).trans yw0
          have ys1 := (HS1.out.2.2.cell (p := ⟨g, oo + j * 2 + 1, none⟩) hg).trans yw1
          obtain ⟨⟨cs0, cs1⟩, _, _⟩ := HS1.out.2.1
          go_wp2_with fail
          go_quiet (fail)
          have HSb : Hid (SetE w k x (.slice ao1 (o ++ [(k, x)]).length cp1) (o ++ [(k, x)]) (w1.drewN nq)) := ⟨HS1.out.1, HS1.out.2.1, below_dn HS1.out.2.2 _⟩
          generalize w1.drewN nq = Xb at HSb ⊢
          have hzb : w.heap.size < Xb.heap.size := HSb.out.2.1.lt
          have yb0 := (HSb.out.2.2.cell (p := ⟨g, oo + j * 2, none⟩) hg).trans yw0
          have yb1 := (HSb.out.2.2.cell (p := ⟨g, oo + j * 2 + 1, none⟩) hg).trans yw1
          obtain ⟨⟨cb0, cb1⟩, _, _⟩ := HSb.out.2.1
          clear ys0 ys1 cs0 cs1
          have e1 : (o ++ [(k, x)]).length = o.length + 1 := by simp
          go_wp2_with (at_builtin; refine wpList_app 35 i0 (.agg #[.int .i64 0, .int .i64 0]) 2 16 rfl _ _ 24 rfl Tryz.underlying24 hi iz0 iz1 iz2 rfl (by omega) (by omega) _ (w.heap.size + 1) (o.length + 1) (flatL (o ++ [(k, x)])) (.slice ao1 (o.length + 1) cp1) rfl (by have q := HSb.out.1.later (below_alloc _ (.cells #[.int .i64 n0, .int .i64 n1] 35)); rw [e1] at q; exact q) 0 1 (fun p => [n0, n1].getD p 0) (.slice (some ⟨Xb.heap.size, 0, none⟩) 1 1) rfl (row_lit2 Xb n0 n1 35) (by simp <;> omega) (by simp; omega) ?_; intro ao2 cp2 w2 O2 G2)
          have HS2 : Hid (SetE w k x (.slice ao2 ((o ++ [(k, x)]) ++ [(n0, n1)]).length cp2) ((o ++ [(k, x)]) ++ [(n0, n1)]) w2) := HSb.out.push (by rw [e1]; exact O2) (by rw [e1]; exact G2)
          have hz3 : w.heap.size < w2.heap.size := HS2.out.2.1.lt
          clear O2 G2
          go_wp2
          go_roundw
          case rel => exact ⟨j + 1, ao2, cp2, (o ++ [(k, x)]) ++ [(n0, n1)], true, by omega, by go_num, rfl, by first | rfl | simp, HE, HS2⟩
          case measure => simp [intOf]; omega
      · have dg : decide (n0 ≥ k) = false := decide_eq_false hle
        have he : n0 ≠ k := by omega
        have HE : Hid (accS L k x has (j + 1) = (o ++ [(n0, n1)], false)) := by unfold Hid; rw [HN.out]; simp [stepS, he, hle]
        have d : (n0 != k) = true := bne_iff_ne.2 he
        clear HN hle he
        go_wp2_with fail
        go_quiet (fail)
        have HSa : Hid (SetE w k x (.slice ao (o).length cp) (o) (wr.drewN nq)) := ⟨HS.out.1, HS.out.2.1, below_dn HS.out.2.2 _⟩
        generalize wr.drewN nq = Xa at HSa ⊢
        have hza : w.heap.size < Xa.heap.size := HSa.out.2.1.lt
        have ya0 := (HSa.out.2.2.cell (p := ⟨g, oo + j * 2, none⟩) hg).trans yw0
        have ya1 := (HSa.out.2.2.cell (p := ⟨g, oo + j * 2 + 1, none⟩) hg).trans yw1
        obtain ⟨⟨ca0, ca1⟩, _, _⟩ := HSa.out.2.1
        clear yr0 yr1 cr0 cr1
        go_wp2_with fail
        go_quiet (fail)
        have HSb : Hid (SetE w k x (.slice ao (o).length cp) (o) (Xa.drewN nq)) := ⟨HSa.out.1, HSa.out.2.1, below_dn HSa.out.2.2 _⟩
        generalize Xa.drewN nq = Xb at HSb ⊢
        have hzb : w.heap.size < Xb.heap.size := HSb.out.2.1.lt
        have yb0 := (HSb.out.2.2.cell (p := ⟨g, oo + j * 2, none⟩) hg).trans yw0
        have yb1 := (HSb.out.2.2.cell (p := ⟨g, oo + j * 2 + 1, none⟩) hg).trans yw1
        obtain ⟨⟨cb0, cb1⟩, _, _⟩ := HSb.out.2.1
        clear ya0 ya1 ca0 ca1
        go_wp2_with (at_builtin; refine wpList_app 35 i0 (.agg #[.int .i64 0, .int .i64 0]) 2 16 rfl _ _ 24 rfl Tryz.underlying24 hi iz0 iz1 iz2 rfl (by omega) (by omega) _ (w.heap.size + 1) (o).length (flatL (o)) (.slice ao (o).length cp) rfl (HSb.out.1.later (below_alloc _ _)) 0 1 (fun p => [n0, n1].getD p 0) (.slice (some ⟨Xb.heap.size, 0, none⟩) 1 1) rfl (row_lit2 Xb n0 n1 35) (by simp <;> omega) (by simp; omega) ?_; intro ao1 cp1 w1 O2 G2)
        have HS1 : Hid (SetE w k x (.slice ao1 ((o) ++ [(n0, n1)]).length cp1) ((o) ++ [(n0, n1)]) w1) := HSb.out.push O2 G2
        have hz1 : w.heap.size < w1.heap.size := HS1.out.2.1.lt
        clear O2 G2
        go_wp2
        go_roundw
        case rel => exact ⟨j + 1, ao1, cp1, o ++ [(n0, n1)], false, by omega, by go_num, rfl, by first | rfl | simp, HE, HS1⟩
        case measure => simp [intOf]; omega
end Go.Proofs.YtbpppaolcgibnaaGreatDoor

namespace Go.Proofs.YtbpppaolcgibnaaGreatDoor
open Go.RowKit

theorem infoz_link : (Tryz.prog.info? 109).map (fun i => (i.zero, i.size, i.bytes)) = some (some (.agg #[.int .i64 0, .int .i64 0]), 2, 16) := by kernel_rfl
theorem Own.keptT {w w' : World} {B : Nat} {e : TypeId} {m n : Nat} {F : Nat → Int} {v : Value} (h : Own w B e m n F v) (hb : ∀ k, v.ownBlock = some k → w'.heap[k]? = w.heap[k]?) : Own w' B e m n F v := by
  refine ⟨h.1, ?_⟩
  rcases h.2 with q | ⟨g, cap, cur, rfl, hg, hw, r⟩
  · exact Or.inl q
  · exact Or.inr ⟨g, cap, cur, rfl, hg, (hb g rfl).trans hw, r⟩
/-- A view under way: how it is looked at, and its entries so far. -/
def HgE (w1 : World) (b rb mb : Nat) (L K : Prs) (lv : Value) (X : World) : Prop :=
  (Looks X b rb mb L [] (.slice none 0 0) ∧ b < w1.heap.size) ∧ Blk2 X w1.heap.size (.pointer (some ⟨b, 0, none⟩)) lv ∧ OwnM X (w1.heap.size + 1) 109 2 lv K.length (flatL K) ∧ Below w1.heap.size w1 X
theorem HgE.later {w1 X X' : World} {b rb mb : Nat} {L K : Prs} {lv : Value} (h : HgE w1 b rb mb L K lv X) (hb : Below X.heap.size X X') : HgE w1 b rb mb L K lv X' :=
  ⟨⟨h.1.1.later hb, h.1.2⟩, h.2.1.later hb, h.2.2.1.later hb, h.2.2.2.trans (hb.mono h.2.2.2.size)⟩
theorem HgE.app {w1 X w6 : World} {b rb mb : Nat} {L K : Prs} {ao ao1 : Option Addr} {cp cp1 : Nat} {a0 a1 : Int} (h : HgE w1 b rb mb L K (.slice ao K.length cp) X)
    (O6 : OwnM w6 (w1.heap.size + 1) 109 2 (.slice ao1 (K.length + 1) cp1) (K.length + 1) (flatL K ++ nums (fun p => [a0, a1].getD p 0) (1 * 2))) (G6 : X.grownBy w6 (Value.slice ao K.length cp).ownBlock) :
    Blk2 w6 w1.heap.size (.pointer (some ⟨b, 0, none⟩)) (.slice ao K.length cp) ∧ HgE w1 b rb mb L (K ++ [(a0, a1)]) (.slice ao1 (K.length + 1) cp1) (w6.setCell ⟨w1.heap.size, 1, none⟩ (.slice ao1 (K.length + 1) cp1)) := by
  obtain ⟨⟨h1, hb⟩, h2, h3, h4⟩ := h
  have hbb := h2.lt
  have kp : ∀ k, k < X.heap.size → (Value.slice ao K.length cp).ownBlock ≠ some k → w6.heap[k]? = X.heap[k]? := fun k hk hne => G6.block k hk (fun e => hne e.symm)
  have hB6 := h2.kept (kp _ hbb (fun e => by have := (h3.block _ e).1; omega))
  have ks : ∀ k, k ≠ w1.heap.size → (w6.setCell ⟨w1.heap.size, 1, none⟩ (.slice ao1 (K.length + 1) cp1)).heap[k]? = w6.heap[k]? := fun k hk => Below.heap_setCell w6 ⟨w1.heap.size, 1, none⟩ _ k hk
  have l6 : Looks w6 b rb mb L [] (.slice none 0 0) := h1.grew (B := w1.heap.size + 1) (fun k hk => (h3.block k hk).1) (by omega) (fun k hk => by cases hk) kp
  have l7 : Looks (w6.setCell ⟨w1.heap.size, 1, none⟩ (.slice ao1 (K.length + 1) cp1)) b rb mb L [] (.slice none 0 0) :=
    l6.grew (u := .slice (some ⟨w1.heap.size, 0, none⟩) 0 0) (B := w1.heap.size) (fun k hk => Nat.le_of_eq (Option.some.inj hk)) hb (fun k hk => by cases hk) (fun k _ hk => ks k (fun e => hk (by rw [e]; rfl)))
  refine ⟨hB6, ⟨l7, hb⟩, hB6.set1E _, ?_, h4.trans ⟨G6.os, G6.tape, G6.output, by simpa using G6.size, fun k hk => (ks k (by omega)).trans (kp k (by omega) (fun e => by have := (h3.block k e).1; omega))⟩⟩
  have e : nums (fun p => [a0, a1].getD p 0) (1 * 2) = [a0, a1] := rfl
  rw [e] at O6
  rw [List.length_append, flatL_append]
  exact OwnM.keptB O6 (fun k hk => ks k (by have := (OwnM.block O6 k hk).1; omega))
/-- What hangingIn answers. -/
def HangRes (w : World) (L : Prs) (e : Ending) (w' : World) : Prop :=
  ∃ b rb mb lv, e = .returned (.agg #[.pointer (some ⟨b, 0, none⟩), lv]) ∧ Looks w' b rb mb L [] (.slice none 0 0) ∧ OwnM w' (b + 1) 109 2 lv (lnkL L).length (flatL (lnkL L)) ∧ w.heap.size ≤ rb ∧ Below w.heap.size w w'
set_option maxRecDepth 100000 in
set_option maxHeartbeats 4000000 in
theorem hangingIn_is (L : Prs) (v : Value) (B : Nat) (w : World) (h : Row w B 2 L.length (rowL L) v) (hr : Rises L) (hn : L.length ≤ 800) (hf : KeysOk L) :
    Calls Tryz.prog 20 #[v] w (HangRes w L) := by
  obtain ⟨ao0, cp0, rfl⟩ := h.form
  have H : Hid (Row w B 2 L.length (rowL L) (.slice ao0 L.length cp0) ∧ Rises L ∧ KeysOk L) := ⟨h, hr, hf⟩
  obtain ⟨i0, hi, iz0, iz1, iz2⟩ := info_parts infoz_link
  clear h hr hf
  go_enter Tryz.func20, Tryz.ntmps20
  go_wp2_with fail
  refine (lookAt_is L _ B _ (H.out.1.alloc _) H.out.2.1 hn).mono ?_
  rintro e w1 ⟨b, rb, mb, rfl, hl, hrb, q1⟩
  have hbl : b < w1.heap.size := hl.1.lt
  have hrb' : w.heap.size < rb := by rw [World.size_alloc] at hrb; omega
  have HR1 : Hid (Blk2 w1 w.heap.size (.pointer none) (.slice none 0 0) ∧ Below w.heap.size w w1 ∧ w.heap.size < rb ∧ rb < mb ∧ mb < b) := ⟨(Blk2.new w _ _ _).later q1, (below_alloc _ _).trans (q1.mono (by simp)), hrb', hl.2.2.2.2.1, hl.2.2.2.2.2⟩
  have HE0 : Hid (HgE w1 b rb mb L [] (.slice none 0 0) (w1.alloc (.cells #[.pointer (some ⟨b, 0, none⟩), .slice none 0 0] 53))) := ⟨⟨hl.alloc _, hbl⟩, Blk2.new _ _ _ _, OwnM.nil _ _ _ _, below_alloc _ _⟩
  have HB : Hid (b < w1.heap.size) := hbl
  clear hl hrb hrb' q1 hbl
  go_wp2
  go_loopw [12] (fun i wr => ∃ (k : Nat) (ao : Option Addr) (cp : Nat) (K : Prs), k ≤ L.length ∧ i = .int .i64 k ∧ List.length K ≤ k ∧ Hid (lnkL (L.take k) = K ∧ HgE w1 b rb mb L K (.slice ao (List.length K) cp) wr)) (fun i _ => L.length - (intOf i).toNat)
  case atStart => exact ⟨0, none, 0, [], Nat.zero_le _, rfl, Nat.le_refl _, rfl, HE0.out⟩
  case round =>
    obtain ⟨k, ao, cp, K, hk, rfl, hK, HS⟩ := hrel
    have hz : Hid (w.heap.size < wr.heap.size ∧ w1.heap.size < wr.heap.size) := ⟨Nat.lt_of_lt_of_le HR1.out.1.lt HS.out.2.2.2.2.size, HS.out.2.2.1.lt⟩
    by_cases hlt : k < L.length
    case neg =>
      obtain rfl : k = L.length := by omega
      have HX : Hid (HgE w1 b rb mb L (lnkL L) (.slice ao K.length cp) wr) := by
        have e := HS.out.1
        rw [List.take_length] at e
        unfold Hid
        rw [e]
        exact HS.out.2
      have HQ : Hid (Blk2 wr w.heap.size (.pointer none) (.slice none 0 0) ∧ Below w.heap.size w wr) := ⟨HR1.out.1.kept (HS.out.2.2.2.2.block _ HR1.out.1.lt), HR1.out.2.1.trans (HS.out.2.2.2.2.mono HR1.out.2.1.size)⟩
      obtain ⟨⟨u0, u1⟩, v0, v1⟩ := HX.out.2.1
      obtain ⟨⟨x0, x1⟩, y0, y1⟩ := HQ.out.1
      have HP : Hid (_ ∧ _) := (Blk2.put (x := wr) (b := w.heap.size) ⟨⟨x0, x1⟩, y0, y1⟩ (.pointer (some ⟨b, 0, none⟩)) (.slice ao K.length cp)).1
      go_wp2
      refine bodyPost_ret (v := .agg #[.pointer (some ⟨b, 0, none⟩), .slice ao K.length cp]) (by simp [results, Tryz.results20, go_sem, HP.out.1, HP.out.2]) rfl ⟨b, rb, mb, _, rfl, ?_, ?_, by have := HR1.out.2.2.1; omega, (HQ.out.2.setCell (by simp) _).setCell (by simp) _⟩
      · have hk : ∀ q, q ≠ w.heap.size → ((wr.setCell ⟨w.heap.size, 0, none⟩ (.pointer (some ⟨b, 0, none⟩))).setCell ⟨w.heap.size, 1, none⟩ (.slice ao K.length cp)).heap[q]? = wr.heap[q]? := fun q hq => (Below.heap_setCell _ ⟨w.heap.size, 1, none⟩ _ q hq).trans (Below.heap_setCell _ ⟨w.heap.size, 0, none⟩ _ q hq)
        have hq := HR1.out.2.2
        obtain ⟨l1, l2, l3, l4, l5, l6⟩ := HX.out.1.1
        obtain ⟨vv, r1, r2, r3⟩ := l2
        refine ⟨l1.kept (hk b (by omega)), ⟨vv, r1.kept (hk rb (by omega)), Own.keptT r2 (fun q hqq => hk q (by have := (own_in r2 q hqq).1; omega)), r3⟩, l3.kept (hk mb (by omega)), Ints.nil _ _, l5, l6⟩
      · have e := HS.out.1
        rw [List.take_length] at e
        rw [e]
        have hi := HS.out.2.2.2.1
        have hq := HR1.out.2.2
        have hbb := HB.out
        exact OwnM.monoP (OwnM.keptB hi (fun q hqq => (Below.heap_setCell _ ⟨w.heap.size, 1, none⟩ _ q (by have := (OwnM.block hi q hqq).1; simp; omega)).trans (Below.heap_setCell _ ⟨w.heap.size, 0, none⟩ _ q (by have := (OwnM.block hi q hqq).1; simp; omega)))) (by omega)
    have HBW : Hid (Below w.heap.size w wr) := HR1.out.2.1.trans (HS.out.2.2.2.2.mono HR1.out.2.1.size)
    obtain ⟨g, o, hao, _, hg, y0, y1⟩ := (H.out.1.later HBW.out).at2 hlt
    subst hao
    rw [rowL_key] at y0
    rw [rowL_val] at y1
    obtain ⟨n0, N0⟩ : ∃ x, (L.getD k (0, 0)).1 = x := ⟨_, rfl⟩
    rw [N0] at y0
    obtain ⟨n1, N1⟩ : ∃ x, (L.getD k (0, 0)).2 = x := ⟨_, rfl⟩
    rw [N1] at y1
    have HF : Hid (faultOf n0 = 0) := by have := H.out.2.2 k hlt; rwa [N0] at this
    have hst := lnk_step hlt N0 N1
    rw [HS.out.1] at hst
    obtain ⟨kk, hkk⟩ : ∃ x, partK n0 = x := ⟨_, rfl⟩
    obtain ⟨ka, hka⟩ : ∃ x, partA n0 = x := ⟨_, rfl⟩
    rw [hkk, hka] at hst
    have HST : Hid (lnkL (L.take (k + 1)) = K ++ (if kk = 2 then [(ka, n1)] else [])) := hst
    have HK : Hid (partK n0 = kk ∧ partA n0 = ka) := ⟨hkk, hka⟩
    clear N0 N1 hst hkk hka
    go_wp2_with fail
    refine (implPartsOf_any n0 _).mono ?_
    rintro e w9 ⟨rfl, hw9⟩
    have HP5 : Hid (Blk2 w9 wr.heap.size (.int .i64 n0) (.int .i64 n1) ∧ Below wr.heap.size wr w9 ∧ w9.heap.size = wr.heap.size + 2) := by
      subst hw9
      exact ⟨(Blk2.new wr _ _ _).later (below_alloc _ _), (below_alloc _ _).trans ((below_alloc _ _).mono (by simp)), by simp⟩
    have HE5 : Hid (HgE w1 b rb mb L K (.slice ao K.length cp) w9) := HS.out.2.later HP5.out.2.1
    clear hw9 y0 y1
    unfold partsVal
    rw [HK.out.1, HK.out.2, HF.out]
    obtain ⟨⟨p0, p1⟩, _, _⟩ := HP5.out.1
    obtain ⟨⟨x0, x1⟩, z0, z1⟩ := HE5.out.2.1
    have hz9 : wr.heap.size < w9.heap.size := by have := HP5.out.2.2; omega
    have hz8 : w1.heap.size < w9.heap.size := by have := hz.out.2; omega
    by_cases h2 : kk = 2
    · subst h2
      have HO : Hid (OwnM ((w9.alloc (.cells #[.int .i64 0, .int .i64 2, .int .i64 ka, .int .i64 (partB n0)] 32)).alloc (.cells #[.int .i64 ka, .int .i64 n1] 109)) (w1.heap.size + 1) 109 2 (.slice ao K.length cp) K.length (flatL K)) := HE5.out.2.2.1.later ((below_alloc _ _).alloc (by simp) _)
      have HRW : Hid (Row ((w9.alloc (.cells #[.int .i64 0, .int .i64 2, .int .i64 ka, .int .i64 (partB n0)] 32)).alloc (.cells #[.int .i64 ka, .int .i64 n1] 109)) 0 2 1 (fun p => [ka, n1].getD p 0) (.slice (some ⟨(w9.alloc (.cells #[.int .i64 0, .int .i64 2, .int .i64 ka, .int .i64 (partB n0)] 32)).heap.size, 0, none⟩) 1 1)) := row_lit2 _ ka n1 _
      have HEa : Hid (HgE w1 b rb mb L K (.slice ao K.length cp) ((w9.alloc (.cells #[.int .i64 0, .int .i64 2, .int .i64 ka, .int .i64 (partB n0)] 32)).alloc (.cells #[.int .i64 ka, .int .i64 n1] 109))) := HE5.out.later ((below_alloc _ _).alloc (by simp) _)
      go_wp2_with (at_builtin; refine wpList_app 109 i0 (.agg #[.int .i64 0, .int .i64 0]) 2 16 rfl _ _ 51 rfl Tryz.underlying51 hi iz0 iz1 iz2 rfl (by omega) (by omega) _ (w1.heap.size + 1) K.length (flatL K) (.slice ao K.length cp) rfl HO.out 0 1 (fun p => [ka, n1].getD p 0) (.slice (some ⟨w9.heap.size + 1, 0, none⟩) 1 1) rfl (by simpa using HRW.out) (by omega) (by simp; omega) ?_; intro ao1 cp1 w6 O6 G6; clear x0 x1 z0 z1; obtain ⟨⟨⟨x0, x1⟩, z0, z1⟩, hq6⟩ := HEa.out.app O6 G6; have H6 : Hid (HgE w1 b rb mb L (K ++ [(ka, n1)]) (.slice ao1 (K.length + 1) cp1) (w6.setCell ⟨w1.heap.size, 1, none⟩ (.slice ao1 (K.length + 1) cp1))) := hq6; clear hq6 O6 G6 HO HRW HEa)
      go_roundw
      case rel => exact ⟨k + 1, ao1, cp1, K ++ [(ka, n1)], by omega, by go_num, by simp; omega, by simpa using HST.out, by simpa using H6.out⟩
      case measure => simp [intOf]; omega
    · have d2 : (kk == 2) = false := beq_eq_false_iff_ne.2 h2
      have HE6 : Hid (HgE w1 b rb mb L K (.slice ao K.length cp) (w9.alloc (.cells #[.int .i64 0, .int .i64 kk, .int .i64 ka, .int .i64 (partB n0)] 32))) := HE5.out.later (below_alloc _ _)
      have HST2 : Hid (lnkL (L.take (k + 1)) = K) := by
        have := HST.out
        rw [if_neg h2, List.append_nil] at this
        exact this
      clear h2
      go_wp2
      go_roundw
      case rel => exact ⟨k + 1, ao, cp, K, by omega, by go_num, by omega, HST2.out, HE6.out⟩
      case measure => simp [intOf]; omega
end Go.Proofs.YtbpppaolcgibnaaGreatDoor

