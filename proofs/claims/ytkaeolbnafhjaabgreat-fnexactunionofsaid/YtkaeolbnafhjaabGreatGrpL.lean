/-
  Own text. What both UnionOf answer: the same code and the same store.
-/
import Derived.Test.YtkaeolbnafhjaabGreatGrpK
import Derived.Test.YtkaeolbnafhjaabGreatPartA
namespace Go.Proofs.YtkaeolbnafhjaabGreat
open Go.RowKit

theorem groupsF_zero {nr : Nat} {F : Nat → Int} {n : Nat} {S : Nat → Sto} (h : groupsF nr F n S = 0) : Good nr F ∧ n = nr ∧ (∀ i, i < n → storeF (S i) = 0 ∧ ¬ strayS (S i) (F (i * 3)) (F (i * 3 + 1))) ∧ ¬ fullG n S := by
  unfold groupsF at h
  split at h
  · rename_i q; exact absurd h q
  rename_i q1
  split at h
  · exact absurd h (by decide)
  rename_i q2
  split at h
  · rename_i q; exact absurd h q
  rename_i q3
  split at h
  · exact absurd h (by decide)
  rename_i q4
  refine ⟨good_of (Classical.not_not.1 q1), Classical.not_not.1 q2, fun i hi => ?_, q4⟩
  have h1 := scan_zero (Classical.not_not.1 q3) i hi
  unfold oneF at h1
  split at h1
  · rename_i q; exact absurd h1 q
  rename_i q5
  split at h1
  · exact absurd h1 (by decide)
  rename_i q6
  exact ⟨Classical.not_not.1 q5, q6⟩
/-- The call's blocks: the groups, and the answer that is under way. -/
def CallGS (w : World) (nr : Nat) (F : Nat → Int) (n : Nat) (S : Nat → Sto) (V : Nat → Nat → Value) (B : Nat) (vr vs : Value) (x : World) : Prop := Blk2 x w.heap.size vr vs ∧ Blk4 x (w.heap.size + 1) (.int .i64 0) (.slice none 0 0) (.slice none 0 0) (.slice none 0 0) ∧ Grs x B nr F n S V vr vs ∧ Below w.heap.size w x
theorem CallGS.new {w : World} {nr : Nat} {F : Nat → Int} {n : Nat} {S : Nat → Sto} {V : Nat → Nat → Value} {B : Nat} {vr vs : Value} (h : Grs w B nr F n S V vr vs) (t t' : TypeId) : CallGS w nr F n S V B vr vs ((w.alloc (.cells #[vr, vs] t)).alloc (.cells #[.int .i64 0, .slice none 0 0, .slice none 0 0, .slice none 0 0] t')) := by
  refine ⟨(Blk2.new _ _ _ _).alloc _, ?_, (h.alloc _).alloc _, (below_alloc _ _).alloc (by simp) _⟩
  have := Blk4.new (w.alloc (.cells #[vr, vs] t)) (.int .i64 0) (.slice none 0 0) (.slice none 0 0) (.slice none 0 0) t'
  rwa [World.size_alloc] at this
theorem CallGS.later {w x x' : World} {nr : Nat} {F : Nat → Int} {n : Nat} {S : Nat → Sto} {V : Nat → Nat → Value} {B : Nat} {vr vs : Value} (h : CallGS w nr F n S V B vr vs x) (hb : Below x.heap.size x x') : CallGS w nr F n S V B vr vs x' := ⟨h.1.later hb, h.2.1.later hb, h.2.2.1.later hb, h.2.2.2.trans (hb.mono h.2.2.2.size)⟩
def UniAns (nr : Nat) (F : Nat → Int) (n : Nat) (S : Nat → Sto) (c : Int) (R : Sto) : Prop :=
  (groupsF nr F n S ≠ 0 ∧ c = groupsF nr F n S ∧ R = emptyS) ∨ (groupsF nr F n S = 0 ∧ c = 0 ∧ R = unionS n S)
set_option maxRecDepth 100000 in
set_option maxHeartbeats 4000000 in
theorem specUnionOf_is (nr : Nat) (F : Nat → Int) (n : Nat) (S : Nat → Sto) (V : Nat → Nat → Value) (vr vs : Value) (c : Int) (R : Sto) (B : Nat) (w : World) (h : Grs w B nr F n S V vr vs) (hr : nr ≤ 9223372036854775807) (hn : n ≤ 9223372036854775807) (hA : UniAns nr F n S c R) :
    Calls Tryz.prog 6 #[.agg #[vr, vs]] w (ResSto w c R) := by
  obtain ⟨a0, c0, a1, c1, rfl, rfl⟩ := h.form
  have HE : Hid (CallGS w nr F n S V B (.slice a0 nr c0) (.slice a1 n c1) ((w.alloc (.cells #[.slice a0 nr c0, .slice a1 n c1] 38)).alloc (.cells #[.int .i64 0, .slice none 0 0, .slice none 0 0, .slice none 0 0] 33))) := CallGS.new h _ _
  clear h
  unfold ResSto
  obtain ⟨f, hf⟩ : ∃ f, groupsF nr F n S = f := ⟨_, rfl⟩
  have HF : Hid (groupsF nr F n S = f) := hf
  have hA : (f ≠ 0 ∧ c = f ∧ R = emptyS) ∨ (f = 0 ∧ c = 0 ∧ R = unionS n S) := by unfold UniAns at hA; rw [hf] at hA; exact hA
  obtain ⟨⟨p0, p1⟩, _⟩ := HE.out.1
  rcases hA with ⟨hz, hc, rfl⟩ | ⟨hz, rfl, rfl⟩
  · subst hc
    have d : (c == 0) = false := beq_eq_false_iff_ne.2 hz
    have d' : (c != 0) = true := bne_iff_ne.2 hz
    clear hz HF
    go_enter Tryz.func6, Tryz.ntmps6
    go_wp2_with fail
    refine (l7Fault_any nr F n S V _ _ _ _ ⟨⟨p0, p1⟩, HE.out.2.2.1.mono (Nat.zero_le _)⟩ hr hn).mono ?_
    rw [hf]
    rintro e w1 ⟨rfl, q1⟩
    have HE : Hid (CallGS w nr F n S V B (.slice a0 nr c0) (.slice a1 n c1) w1) := HE.out.later q1
    clear q1 p0 p1 hf
    obtain ⟨⟨p0, p1⟩, _⟩ := HE.out.1
    go_wp2_with fail
    refine (l3Bad_is c _).mono ?_
    rintro e w4 ⟨d0, e0, d1, e1, d2, e2, rfl, ⟨s3, f3', a3⟩, q4⟩
    have z3 : Hid (w.heap.size + 2 ≤ w1.heap.size) := HE.out.2.1.lt
    have S3 : Hid ((St w4 (w.heap.size + 2) emptyS (.slice d0 (emptyS).nc e0) (.slice d1 (emptyS).nl e1) (.slice d2 (emptyS).nw e2) ∧ FreeS w4 emptyS (.slice d0 (emptyS).nc e0) (.slice d1 (emptyS).nl e1) (.slice d2 (emptyS).nw e2)) ∧ ApartD emptyS (.slice d0 (emptyS).nc e0) (.slice d1 (emptyS).nl e1) (.slice d2 (emptyS).nw e2)) := ⟨⟨s3.mono z3.out, f3'⟩, a3⟩
    have HBW : Hid (Below w.heap.size w w4) := HE.out.2.2.2.trans (q4.mono HE.out.2.2.2.size)
    obtain ⟨⟨r0, r1, r2, r3⟩, f0, f1, f2, f3⟩ := HE.out.2.1.later q4
    clear s3 f3' a3 q4
    have hlo : (w.heap.size + 1 : Nat) < w.heap.size + 2 := Nat.lt_succ_self _
    go_wp2
    exact bodyPost_ret (v := .agg #[.int .i64 c, .slice d0 (emptyS).nc e0, .slice d1 (emptyS).nl e1, .slice d2 (emptyS).nw e2]) (by simp [results, Tryz.results6, go_sem, r0, r1, r2, r3]) rfl ⟨d0, e0, d1, e1, d2, e2, rfl, ⟨((((S3.out.1.1.far hlo _).far hlo _).far hlo _).far hlo _).mono (by omega), (((S3.out.1.2.far _ _).far _ _).far _ _).far _ _, S3.out.2⟩, (((HBW.out.setCell (Nat.le_succ _) _).setCell (Nat.le_succ _) _).setCell (Nat.le_succ _) _).setCell (Nat.le_succ _) _⟩
  · subst hz
    have Z := groupsF_zero HF.out
    have HZ : Hid (n ≤ 6 ∧ ∀ i, i < n → (S i).nc ≤ 200 ∧ (S i).nl ≤ 200 ∧ (S i).nw ≤ 200) := ⟨by have := Z.1.n6; have := Z.2.1; omega, fun i hi => (storeF_zero (Z.2.2.1 i hi).1).1⟩
    clear Z HF
    go_enter Tryz.func6, Tryz.ntmps6
    go_wp2_with fail
    refine (l7Fault_any nr F n S V _ _ _ _ ⟨⟨p0, p1⟩, HE.out.2.2.1.mono (Nat.zero_le _)⟩ hr hn).mono ?_
    rw [hf]
    rintro e w1 ⟨rfl, q1⟩
    have HE : Hid (CallGS w nr F n S V B (.slice a0 nr c0) (.slice a1 n c1) w1) := HE.out.later q1
    clear q1 p0 p1 hf
    obtain ⟨⟨p0, p1⟩, _⟩ := HE.out.1
    go_wp2_with fail
    refine (l7Union_any nr F n S V _ _ _ _ ⟨⟨p0, p1⟩, HE.out.2.2.1.mono (Nat.zero_le _)⟩ HZ.out.1 HZ.out.2).mono ?_
    rintro e w4 ⟨d0, e0, d1, e1, d2, e2, rfl, ⟨s3, f3', a3⟩, q4⟩
    have z3 : Hid (w.heap.size + 2 ≤ w1.heap.size) := HE.out.2.1.lt
    have S3 : Hid ((St w4 (w.heap.size + 2) (unionS n S) (.slice d0 ((unionS n S)).nc e0) (.slice d1 ((unionS n S)).nl e1) (.slice d2 ((unionS n S)).nw e2) ∧ FreeS w4 (unionS n S) (.slice d0 ((unionS n S)).nc e0) (.slice d1 ((unionS n S)).nl e1) (.slice d2 ((unionS n S)).nw e2)) ∧ ApartD (unionS n S) (.slice d0 ((unionS n S)).nc e0) (.slice d1 ((unionS n S)).nl e1) (.slice d2 ((unionS n S)).nw e2)) := ⟨⟨s3.mono z3.out, f3'⟩, a3⟩
    have HBW : Hid (Below w.heap.size w w4) := HE.out.2.2.2.trans (q4.mono HE.out.2.2.2.size)
    obtain ⟨⟨r0, r1, r2, r3⟩, f0, f1, f2, f3⟩ := HE.out.2.1.later q4
    clear s3 f3' a3 q4
    have hlo : (w.heap.size + 1 : Nat) < w.heap.size + 2 := Nat.lt_succ_self _
    go_wp2
    exact bodyPost_ret (v := .agg #[.int .i64 0, .slice d0 ((unionS n S)).nc e0, .slice d1 ((unionS n S)).nl e1, .slice d2 ((unionS n S)).nw e2]) (by simp [results, Tryz.results6, go_sem, r0, r1, r2, r3]) rfl ⟨d0, e0, d1, e1, d2, e2, rfl, ⟨((((S3.out.1.1.far hlo _).far hlo _).far hlo _).far hlo _).mono (by omega), (((S3.out.1.2.far _ _).far _ _).far _ _).far _ _, S3.out.2⟩, (((HBW.out.setCell (Nat.le_succ _) _).setCell (Nat.le_succ _) _).setCell (Nat.le_succ _) _).setCell (Nat.le_succ _) _⟩
set_option maxRecDepth 100000 in
set_option maxHeartbeats 4000000 in
theorem implUnionOf_is (nr : Nat) (F : Nat → Int) (n : Nat) (S : Nat → Sto) (V : Nat → Nat → Value) (vr vs : Value) (c : Int) (R : Sto) (B : Nat) (w : World) (h : Grs w B nr F n S V vr vs) (hr : nr ≤ 9223372036854775807) (hn : n ≤ 9223372036854775807) (hA : UniAns nr F n S c R) :
    Calls Tryz.prog 8 #[.agg #[vr, vs]] w (ResSto w c R) := by
  obtain ⟨a0, c0, a1, c1, rfl, rfl⟩ := h.form
  have HE : Hid (CallGS w nr F n S V B (.slice a0 nr c0) (.slice a1 n c1) ((w.alloc (.cells #[.slice a0 nr c0, .slice a1 n c1] 38)).alloc (.cells #[.int .i64 0, .slice none 0 0, .slice none 0 0, .slice none 0 0] 33))) := CallGS.new h _ _
  clear h
  unfold ResSto
  obtain ⟨f, hf⟩ : ∃ f, groupsF nr F n S = f := ⟨_, rfl⟩
  have HF : Hid (groupsF nr F n S = f) := hf
  have hA : (f ≠ 0 ∧ c = f ∧ R = emptyS) ∨ (f = 0 ∧ c = 0 ∧ R = unionS n S) := by unfold UniAns at hA; rw [hf] at hA; exact hA
  obtain ⟨⟨p0, p1⟩, _⟩ := HE.out.1
  rcases hA with ⟨hz, hc, rfl⟩ | ⟨hz, rfl, rfl⟩
  · subst hc
    have d : (c == 0) = false := beq_eq_false_iff_ne.2 hz
    have d' : (c != 0) = true := bne_iff_ne.2 hz
    clear hz HF
    go_enter Tryz.func8, Tryz.ntmps8
    go_wp2_with fail
    refine (implGroupsFault_any nr F n S V _ _ B _ HE.out.2.2.1 hr hn).mono ?_
    rw [hf]
    rintro e w1 ⟨rfl, q1⟩
    have HE : Hid (CallGS w nr F n S V B (.slice a0 nr c0) (.slice a1 n c1) w1) := HE.out.later q1
    clear q1 p0 p1 hf
    obtain ⟨⟨p0, p1⟩, _⟩ := HE.out.1
    obtain ⟨⟨r0, r1, r2, r3⟩, f0, f1, f2, f3⟩ := HE.out.2.1
    go_wp2
    exact bodyPost_ret (v := .agg #[.int .i64 c, .slice none 0 0, .slice none 0 0, .slice none 0 0]) (by simp [results, Tryz.results8, go_sem, r0, r1, r2, r3]) rfl ⟨none, 0, none, 0, none, 0, rfl, empty_sto _ _, (((HE.out.2.2.2.setCell (Nat.le_succ _) _).setCell (Nat.le_succ _) _).setCell (Nat.le_succ _) _).setCell (Nat.le_succ _) _⟩
  · subst hz
    have Z := groupsF_zero HF.out
    have HZ : Hid (n ≤ 6 ∧ ∀ i, i < n → (S i).nc ≤ 200 ∧ (S i).nl ≤ 200 ∧ (S i).nw ≤ 200) := ⟨by have := Z.1.n6; have := Z.2.1; omega, fun i hi => (storeF_zero (Z.2.2.1 i hi).1).1⟩
    clear Z HF
    go_enter Tryz.func8, Tryz.ntmps8
    go_wp2_with fail
    refine (implGroupsFault_any nr F n S V _ _ B _ HE.out.2.2.1 hr hn).mono ?_
    rw [hf]
    rintro e w1 ⟨rfl, q1⟩
    have HE : Hid (CallGS w nr F n S V B (.slice a0 nr c0) (.slice a1 n c1) w1) := HE.out.later q1
    clear q1 p0 p1 hf
    obtain ⟨⟨p0, p1⟩, _⟩ := HE.out.1
    go_wp2_with fail
    refine (together_any n S V _ B _ HE.out.2.2.1.2 HZ.out.1 HZ.out.2).mono ?_
    rintro e w4 ⟨d0, e0, d1, e1, d2, e2, rfl, ⟨s3, f3', a3⟩, q4⟩
    have z3 : Hid (w.heap.size + 2 ≤ w1.heap.size) := HE.out.2.1.lt
    have S3 : Hid ((St w4 (w.heap.size + 2) (unionS n S) (.slice d0 ((unionS n S)).nc e0) (.slice d1 ((unionS n S)).nl e1) (.slice d2 ((unionS n S)).nw e2) ∧ FreeS w4 (unionS n S) (.slice d0 ((unionS n S)).nc e0) (.slice d1 ((unionS n S)).nl e1) (.slice d2 ((unionS n S)).nw e2)) ∧ ApartD (unionS n S) (.slice d0 ((unionS n S)).nc e0) (.slice d1 ((unionS n S)).nl e1) (.slice d2 ((unionS n S)).nw e2)) := ⟨⟨s3.mono z3.out, f3'⟩, a3⟩
    have HBW : Hid (Below w.heap.size w w4) := HE.out.2.2.2.trans (q4.mono HE.out.2.2.2.size)
    obtain ⟨⟨r0, r1, r2, r3⟩, f0, f1, f2, f3⟩ := HE.out.2.1.later q4
    clear s3 f3' a3 q4
    have hlo : (w.heap.size + 1 : Nat) < w.heap.size + 2 := Nat.lt_succ_self _
    go_wp2
    exact bodyPost_ret (v := .agg #[.int .i64 0, .slice d0 ((unionS n S)).nc e0, .slice d1 ((unionS n S)).nl e1, .slice d2 ((unionS n S)).nw e2]) (by simp [results, Tryz.results8, go_sem, r0, r1, r2, r3]) rfl ⟨d0, e0, d1, e1, d2, e2, rfl, ⟨((((S3.out.1.1.far hlo _).far hlo _).far hlo _).far hlo _).mono (by omega), (((S3.out.1.2.far _ _).far _ _).far _ _).far _ _, S3.out.2⟩, (((HBW.out.setCell (Nat.le_succ _) _).setCell (Nat.le_succ _) _).setCell (Nat.le_succ _) _).setCell (Nat.le_succ _) _⟩
theorem UniAns.get (nr : Nat) (F : Nat → Int) (n : Nat) (S : Nat → Sto) : ∃ c R, SmallS R ∧ UniAns nr F n S c R := by
  by_cases hz : groupsF nr F n S = 0
  · refine ⟨0, unionS n S, ?_, Or.inr ⟨hz, rfl, rfl⟩⟩
    have h := (groupsF_zero hz).2.2.2
    unfold fullG at h
    unfold SmallS unionS
    simp only
    omega
  · exact ⟨_, emptyS, by unfold SmallS emptyS; decide, Or.inl ⟨hz, rfl, rfl⟩⟩
end Go.Proofs.YtkaeolbnafhjaabGreat
