/-
  Own text, merged of FsU, FsV, FsW, FsX, KeysD, TreA, EntA, TreB, TreC.
-/
import Derived.Test.YtnchaccgenfhoaaGreatPk4
namespace Go.Proofs.YtnchaccgenfhoaaGreat
open Go.RowKit

theorem Wk.grew {w X X' : World} {b rb mb : Nat} {L : Prs} {vr vz vw : Value} {kd d n td tn vv c cv : Int} {xs : List Int} (h : Wk w b rb mb L vr kd d n td tn vv c cv xs vz X) (hmb : mb < w.heap.size) (hbw : b < w.heap.size) (hvw : ∀ k, vw.ownBlock = some k → w.heap.size + 3 ≤ k) (hd : ∀ k, vz.ownBlock = some k → vw.ownBlock ≠ some k) (hs : X.heap.size ≤ X'.heap.size) (ho : X'.os = X.os ∧ X'.tape = X.tape ∧ X'.output = X.output) (hk : ∀ k, k < X.heap.size → vw.ownBlock ≠ some k → X'.heap[k]? = X.heap[k]?) : Wk w b rb mb L vr kd d n td tn vv c cv xs vz X' := by
  have low : ∀ k, k < w.heap.size + 3 → k < X.heap.size → X'.heap[k]? = X.heap[k]? := fun k h1 h2 => hk k h2 (fun e => by have := hvw k e; omega)
  have hl := h.2.1.lt
  have hi : OwnM X (b + 1) 2 1 vz xs.length xs := h.1.1.2.2.2.1
  refine ⟨⟨⟨h.1.1.1.kept (low b (by omega) h.1.1.1.lt), h.1.1.2.1.kept (fun k h1 h2 => low k (by omega) h1) h.1.1.2.2.2.2.1, h.1.1.2.2.1.kept (low mb (by omega) h.1.1.2.2.1.lt), OwnM.keptB hi (fun k hq => hk k (OwnM.block hi k hq).2 (hd k hq)), h.1.1.2.2.2.2⟩, ?_⟩, h.2.1.kept (low _ (by omega) (by omega)) (low _ (by omega) (by omega)) (low _ (by omega) (by omega)), ⟨Nat.lt_of_lt_of_le h.2.2.1.1 hs, h.2.2.1.2⟩, ⟨Nat.lt_of_lt_of_le h.2.2.2.1.1 hs, h.2.2.2.1.2⟩, ⟨Nat.lt_of_lt_of_le h.2.2.2.2.1 hs, h.2.2.2.2.2⟩⟩
  exact ⟨⟨ho.1.trans h.1.2.1.1, ho.2.1.trans h.1.2.1.2.1, ho.2.2.trans h.1.2.1.2.2⟩, Nat.le_trans h.1.2.2.1 hs, fun k h1 h2 h3 h4 => (low k (by omega) (Nat.lt_of_lt_of_le h1 h.1.2.2.1)).trans (h.1.2.2.2.1 k h1 h2 h3 h4), h.1.2.2.2.2⟩
/-- The writes under way. -/
def Wri (w X : World) (vz vw : Value) (m : Nat) (W : List Int) : Prop := OwnM X (w.heap.size + 3) 132 3 vw m W ∧ ∀ k, vz.ownBlock = some k → vw.ownBlock ≠ some k
theorem Wri.later {w X X' : World} {vz vw : Value} {m : Nat} {W : List Int} (h : Wri w X vz vw m W) (hb : Below X.heap.size X X') : Wri w X' vz vw m W := ⟨OwnM.later h.1 hb, h.2⟩
/-- Behind an append to the writes. -/
theorem Wk.app {w X X6 : World} {b rb mb : Nat} {L : Prs} {vr vz : Value} {kd d n td tn vv c cv : Int} {xs : List Int} {ao ao1 : Option Addr} {m q cp cp1 : Nat} {W V : List Int} {lit : Obj} (h : Wk w b rb mb L vr kd d n td tn vv c cv xs vz X) (hw : Wri w X vz (.slice ao m cp) m W) (hmb : mb < w.heap.size) (hbw : b < w.heap.size)
    (O6 : OwnM X6 (w.heap.size + 3) 132 3 (.slice ao1 (m + q) cp1) (m + q) (W ++ V)) (G6 : (X.alloc lit).grownBy X6 (Value.slice ao m cp).ownBlock)
    (N6 : (Value.slice ao1 (m + q) cp1).ownBlock = (Value.slice ao m cp).ownBlock ∨ (Value.slice ao1 (m + q) cp1).ownBlock = some (X.alloc lit).heap.size) :
    Wk w b rb mb L vr kd d n td tn vv c cv xs vz X6 ∧ Wri w X6 vz (.slice ao1 (m + q) cp1) (m + q) (W ++ V) := by
  refine ⟨h.grew hmb hbw (fun k hk => (OwnM.block hw.1 k hk).1) hw.2 (Nat.le_trans (by simp) G6.size) ⟨G6.os, G6.tape, G6.output⟩ (fun k h1 h2 => (G6.block k (by simp; omega) (fun e => h2 e.symm)).trans (Below.heap_alloc X _ k h1)), O6, fun k hk e => ?_⟩
  rcases N6 with p | p
  · exact hw.2 k hk (by rw [← p]; exact e)
  · rw [p] at e
    have h1 := (h.1.1.2.2.2.1.lt k hk).2
    have := Option.some.inj e
    simp at this
    omega
theorem row_item2 (Y : World) (a0 a1 a2 b0 b1 b2 : Int) : Row (Y.alloc (.cells #[.int .i64 a0, .int .i64 a1, .int .i64 a2, .int .i64 b0, .int .i64 b1, .int .i64 b2] 132)) Y.heap.size 3 2 (fun p => [a0, a1, a2, b0, b1, b2].getD p 0) (.slice (some ⟨Y.heap.size, 0, none⟩) 2 2) :=
  (OwnM.rowL (OwnM.lit Y 132 3 2 [a0, a1, a2, b0, b1, b2] #[.int .i64 a0, .int .i64 a1, .int .i64 a2, .int .i64 b0, .int .i64 b1, .int .i64 b2] (by simp) rfl (by unfold maxLen; omega))).1
set_option maxRecDepth 100000 in
set_option maxHeartbeats 4000000 in
theorem planRemove_is (L : Prs) (b rb mb : Nat) (xs : List Int) (vr : Value) (kd d n td tn vv c cv : Int) (w : World) (h : Looks w b rb mb L xs vr) (hrs : Rises L) (hn : L.length ≤ 1000) (hd : 0 ≤ d ∧ d ≤ 9) (hnm : 0 ≤ n ∧ n ≤ 5) (htd : 0 ≤ td ∧ td ≤ 9) (htn : 0 ≤ tn ∧ tn ≤ 5) (hc : 0 ≤ c ∧ c ≤ 9) (hcv : 0 ≤ cv ∧ cv ≤ 9999) (hx : xs.length ≤ 800) (r v : Int) (ys : List Int) (m : Nat) (W : List Int) (hp : removeP L d n c cv xs = (r, v, ys, m, W)) :
    Calls Tryz.prog 115 #[.pointer (some ⟨b, 0, none⟩), .agg #[.int .i64 kd, .int .i64 d, .int .i64 n, .int .i64 td, .int .i64 tn, .int .i64 vv], .agg #[.int .i64 c, .int .i64 cv]] w (PlanEnd w b rb mb L vr r v ys m W) := by
  have hmb : mb < w.heap.size := h.2.2.1.lt
  have hb0 : b < w.heap.size := h.1.lt
  have HC : Hid (Rises L ∧ (0 ≤ d ∧ d ≤ 9) ∧ (0 ≤ n ∧ n ≤ 5) ∧ (0 ≤ td ∧ td ≤ 9) ∧ (0 ≤ tn ∧ tn ≤ 5) ∧ (0 ≤ c ∧ c ≤ 9)) := ⟨hrs, hd, hnm, htd, htn, hc⟩
  have HK : Hid (Wk w b rb mb L vr kd d n td tn vv c cv xs vr (((w.alloc (opO kd d n td tn vv)).alloc (chO c cv)).alloc zeroPl)) := Wk.new h _ _ _ _ _ _ _ _
  have hit2 := fun a0 a1 a2 b0 b1 b2 w => run_items2 a0 a1 a2 b0 b1 b2 w
  obtain ⟨hv0, hv9⟩ := hcv
  clear h hrs hd hnm htd htn hc
  have hbw : b < w.heap.size := hb0
  have hit := fun a0 a1 a2 w => run_item1 a0 a1 a2 w
  obtain ⟨i0, hi, hz⟩ : ∃ i, Tryz.prog.info? 132 = some i ∧ (i.zero, i.size, i.bytes) = (some (.agg #[.int .i64 0, .int .i64 0, .int .i64 0]), 3, 24) := by
    have := info_itemL
    cases q : Tryz.prog.info? 132 with
    | none => rw [q] at this; cases this
    | some i => rw [q] at this; exact ⟨i, rfl, Option.some.inj this⟩
  simp only [Prod.mk.injEq] at hz
  obtain ⟨hz0, hz1, hz2⟩ := hz
  unfold removeP at hp
  by_cases h1 : cv = 1000
  case neg =>
    have e1 : (cv == 1000) = false := beq_eq_false_iff_ne.2 h1
    rw [if_neg h1] at hp
    by_cases h2 : 2001 < cv
    · have e2 : decide (2001 < cv) = true := decide_eq_true h2
      have hwr : IntKind.i64.wrap (cv - 1) = cv - 1 := wrap_id (by omega) (by omega)
      rw [if_pos h2] at hp
      simp only [Prod.mk.injEq] at hp
      obtain ⟨rfl, rfl, rfl, rfl, rfl⟩ := hp
      clear h1 h2
      go_enter Tryz.func115, Tryz.ntmps115
      obtain ⟨⟨⟨o0, o1, o2, o3, o4, o5⟩, _⟩, ⟨⟨o6, o7⟩, _⟩, _⟩ := HK.out.2.1
      go_wp2_with fail
      refine (entryKey_is d n HC.out.2.1 HC.out.2.2.1 _).mono ?_
      rintro e w1 ⟨rfl, q1⟩
      have H1 : Hid (Wk w b rb mb L vr kd d n td tn vv c cv xs vr w1) := HK.out.later q1
      clear q1 HK o0 o1 o2 o3 o4 o5 o6 o7
      go_wp2_with fail
      refine (deleteOf_is (kE d n) _).mono ?_
      rintro e w2 ⟨rfl, q2⟩
      have H2 : Hid (Wk w b rb mb L vr kd d n td tn vv c cv xs vr (w2.alloc (.cells #[.int .i64 (kE d n), .int .i64 2, .int .i64 0] 132)) ∧ Wri w (w2.alloc (.cells #[.int .i64 (kE d n), .int .i64 2, .int .i64 0] 132)) vr (.slice (some ⟨w2.heap.size, 0, none⟩) 1 1) 1 [kE d n, 2, 0]) := ⟨(H1.out.later q2).alloc _, (H1.out.later q2).lit 1 [kE d n, 2, 0] _ (by simp) rfl (by omega)⟩
      clear q2 H1
      obtain ⟨⟨⟨o0, o1, o2, o3, o4, o5⟩, _⟩, ⟨⟨o6, o7⟩, _⟩, _⟩ := H2.out.1.2.1
      go_wp2_with fail
      refine (childDir_is c cv _).mono ?_
      rintro e w3 ⟨rfl, q3⟩
      have H3 : Hid (Wk w b rb mb L vr kd d n td tn vv c cv xs vr w3 ∧ Wri w w3 vr (.slice (some ⟨w2.heap.size, 0, none⟩) 1 1) 1 [kE d n, 2, 0]) := ⟨H2.out.1.later q3, H2.out.2.later q3⟩
      clear q3 H2 o0 o1 o2 o3 o4 o5 o6 o7
      obtain ⟨⟨⟨o0, o1, o2, o3, o4, o5⟩, _⟩, ⟨⟨o6, o7⟩, _⟩, _⟩ := H3.out.1.2.1
      rw [e1]
      go_upto_region 7 with fail
      refine wp_region_held_drew (S := Wk w b rb mb L vr kd d n td tn vv c cv xs vr) (by kernel_rfl) H3.out.1.drew (fun hS => ?_)
      have G0 : Hid (Wri w w3.drew vr (.slice (some ⟨w2.heap.size, 0, none⟩) 1 1) 1 [kE d n, 2, 0]) := H3.out.2.later ⟨rfl, rfl, rfl, Nat.le_refl _, fun _ _ => rfl⟩
      clear H3 o0 o1 o2 o3 o4 o5 o6 o7
      generalize w3.drew = w3 at G0 hS ⊢
      refine tkH 0 ?_ hS (fun wx hx => ?_) ?_; rotate_left
      · obtain ⟨_, ⟨⟨⟨hx0, hx1, hx2, hx3, hx4, hx5⟩, _⟩, ⟨⟨hx6, hx7⟩, _⟩, _⟩, _⟩ := hx; go_simp; try with_reducible rfl
      refine tkH 1 ?_ hS (fun wx hx => ?_) ?_; rotate_left
      · obtain ⟨_, ⟨⟨⟨hx0, hx1, hx2, hx3, hx4, hx5⟩, _⟩, ⟨⟨hx6, hx7⟩, _⟩, _⟩, _⟩ := hx; go_simp; try with_reducible rfl
      refine tkH 2 ?_ hS (fun wx hx => ?_) ?_; rotate_left
      · obtain ⟨_, ⟨⟨⟨hx0, hx1, hx2, hx3, hx4, hx5⟩, _⟩, ⟨⟨hx6, hx7⟩, _⟩, _⟩, _⟩ := hx; go_simp; try with_reducible rfl
      refine tkH 4 ?_ hS (fun wx hx => ?_) ?_; rotate_left
      · obtain ⟨_, ⟨⟨⟨hx0, hx1, hx2, hx3, hx4, hx5⟩, _⟩, ⟨⟨hx6, hx7⟩, _⟩, _⟩, _⟩ := hx; go_simp; try with_reducible rfl
      refine tkH 5 ?_ hS (fun wx hx => ?_) ?_; rotate_left
      · obtain ⟨_, ⟨⟨⟨hx0, hx1, hx2, hx3, hx4, hx5⟩, _⟩, ⟨⟨hx6, hx7⟩, _⟩, _⟩, _⟩ := hx; go_simp; try with_reducible rfl
      refine tkH 6 ?_ hS (fun wx hx => ?_) ?_; rotate_left
      · obtain ⟨_, ⟨⟨⟨hx0, hx1, hx2, hx3, hx4, hx5⟩, _⟩, ⟨⟨hx6, hx7⟩, _⟩, _⟩, _⟩ := hx; go_simp; try with_reducible rfl
      refine rdH 3 (fun K hK => ?_)
      go_simp
      go_wp2_with fail
      refine (inodeKey_is c HC.out.2.2.2.2.2 _).mono ?_
      rintro e w4 ⟨rfl, q1⟩
      have hS1 := hS.later q1
      have G1 : Hid (Wri w w4 _ _ _ _) := G0.out.later q1
      clear q1 hS G0
      go_wp2_with fail
      refine hK.out _ _ hS1 (fun hS => ?_)
      clear hK K
      clear hS1
      refine rdH 7 (fun K hK => ?_)
      go_simp
      go_wp2_with fail
      refine (putTo_is (kI c) (cv - 1) _).mono ?_
      rintro e w5 ⟨rfl, q1⟩
      have hS1 := hS.later q1
      have G2 : Hid (Wri w w5 _ _ _ _) := G1.out.later q1
      clear q1 hS G1
      go_wp2_with fail
      refine hK.out _ _ hS1 (fun hS => ?_)
      clear hK K
      clear hS1
      refine rdH 8 (fun K hK => ?_)
      go_simp
      have hS4 := hS.alloc (.cells #[.int .i64 (kI c), .int .i64 1, .int .i64 (cv - 1)] 132)
      have G9 : Hid (Wk w b rb mb L vr kd d n td tn vv c cv xs vr w5) := hS
      have G9b : w.heap.size + 2 < w5.heap.size := hS.2.1.lt
      clear hS
      refine hK.out _ _ hS4 (fun hS => ?_)
      clear hK K
      clear hS4
      refine rdH 9 (fun K hK => ?_)
      have H9 : Hid (Wri w w5 vr (.slice (some ⟨w2.heap.size, 0, none⟩) 1 1) 1 [kE d n, 2, 0]) := G2
      have H9b := G9b
      refine step_appL 132 i0 (.agg #[.int .i64 0, .int .i64 0, .int .i64 0]) 3 24 (by rfl) _ _ 79 (by rfl) Tryz.underlying79 hi hz0 hz1 hz2 rfl (by omega) (by omega) _ (w.heap.size + 3) 1 [kE d n, 2, 0] (.slice (some ⟨w2.heap.size, 0, none⟩) 1 1) (by rfl) (OwnM.later H9.out.1 (below_alloc _ _)) w5.heap.size 1 (fun p => [kI c, 1, cv - 1].getD p 0) (.slice (some ⟨w5.heap.size, 0, none⟩) 1 1) (by rfl) (row_item1 w5 _ _ _) (by omega) (by have := H9b; simp; omega) ?_
      intro ao1 cp1 w7 O6 G6 N6
      have HF : Hid (_ ∧ _) := G9.out.app H9.out hmb hbw O6 G6 N6
      have hS7 := HF.out.1
      clear O6 G6 N6 G9 H9 G2 hS
      refine hK.out _ _ hS7 (fun hS => ?_)
      clear hK K
      clear hS7
      refine tkH 10 ?_ hS (fun wx hx => ?_) ?_; rotate_left
      · obtain ⟨_, ⟨⟨⟨hx0, hx1, hx2, hx3, hx4, hx5⟩, _⟩, ⟨⟨hx6, hx7⟩, _⟩, _⟩, _⟩ := hx; go_simp; try with_reducible rfl
      refine wpAnyH_done (by kernel_rfl) ?_ _
      go_simp
      clear hS
      go_wp2_with (refine wpList_storeP rfl _ _ rfl (w.heap.size + 2) _ _ _ _ _ rfl rfl HF.out.1.2.1.2.2 (by kernel_rfl) ?_)
      exact bodyPost_ret (v := .agg #[.int .i64 0, .int .i64 0, .int .i64 0, .slice none 0 0, .slice ao1 (1 + 1) cp1]) (results_pl Tryz.results115 _ _ _ _ _ _ _ _ rfl HF.out.1.2.1.2.2) rfl (HF.out.1.told hmb 0 _ _ _ _ HF.out.2.1 HF.out.2.2 _ rfl)
    · have e2 : decide (2001 < cv) = false := decide_eq_false h2
      rw [if_neg h2] at hp
      simp only [Prod.mk.injEq] at hp
      obtain ⟨rfl, rfl, rfl, rfl, rfl⟩ := hp
      clear h1 h2
      go_enter Tryz.func115, Tryz.ntmps115
      obtain ⟨⟨⟨o0, o1, o2, o3, o4, o5⟩, _⟩, ⟨⟨o6, o7⟩, _⟩, _⟩ := HK.out.2.1
      go_wp2_with fail
      refine (entryKey_is d n HC.out.2.1 HC.out.2.2.1 _).mono ?_
      rintro e w1 ⟨rfl, q1⟩
      have H1 : Hid (Wk w b rb mb L vr kd d n td tn vv c cv xs vr w1) := HK.out.later q1
      clear q1 HK o0 o1 o2 o3 o4 o5 o6 o7
      go_wp2_with fail
      refine (deleteOf_is (kE d n) _).mono ?_
      rintro e w2 ⟨rfl, q2⟩
      have H2 : Hid (Wk w b rb mb L vr kd d n td tn vv c cv xs vr (w2.alloc (.cells #[.int .i64 (kE d n), .int .i64 2, .int .i64 0] 132)) ∧ Wri w (w2.alloc (.cells #[.int .i64 (kE d n), .int .i64 2, .int .i64 0] 132)) vr (.slice (some ⟨w2.heap.size, 0, none⟩) 1 1) 1 [kE d n, 2, 0]) := ⟨(H1.out.later q2).alloc _, (H1.out.later q2).lit 1 [kE d n, 2, 0] _ (by simp) rfl (by omega)⟩
      clear q2 H1
      obtain ⟨⟨⟨o0, o1, o2, o3, o4, o5⟩, _⟩, ⟨⟨o6, o7⟩, _⟩, _⟩ := H2.out.1.2.1
      go_wp2_with fail
      refine (childDir_is c cv _).mono ?_
      rintro e w3 ⟨rfl, q3⟩
      have H3 : Hid (Wk w b rb mb L vr kd d n td tn vv c cv xs vr w3 ∧ Wri w w3 vr (.slice (some ⟨w2.heap.size, 0, none⟩) 1 1) 1 [kE d n, 2, 0]) := ⟨H2.out.1.later q3, H2.out.2.later q3⟩
      clear q3 H2 o0 o1 o2 o3 o4 o5 o6 o7
      obtain ⟨⟨⟨o0, o1, o2, o3, o4, o5⟩, _⟩, ⟨⟨o6, o7⟩, _⟩, _⟩ := H3.out.1.2.1
      rw [e1]
      go_upto_region 2 with fail
      refine wp_region_held_drew (S := Wk w b rb mb L vr kd d n td tn vv c cv xs vr) (by kernel_rfl) H3.out.1.drew (fun hS => ?_)
      have G0 : Hid (Wri w w3.drew vr (.slice (some ⟨w2.heap.size, 0, none⟩) 1 1) 1 [kE d n, 2, 0]) := H3.out.2.later ⟨rfl, rfl, rfl, Nat.le_refl _, fun _ _ => rfl⟩
      clear H3 o0 o1 o2 o3 o4 o5 o6 o7
      generalize w3.drew = w3 at G0 hS ⊢
      refine tkH 0 ?_ hS (fun wx hx => ?_) ?_; rotate_left
      · obtain ⟨_, ⟨⟨⟨hx0, hx1, hx2, hx3, hx4, hx5⟩, _⟩, ⟨⟨hx6, hx7⟩, _⟩, _⟩, _⟩ := hx; go_simp; try with_reducible rfl
      refine tkH 1 ?_ hS (fun wx hx => ?_) ?_; rotate_left
      · obtain ⟨_, ⟨⟨⟨hx0, hx1, hx2, hx3, hx4, hx5⟩, _⟩, ⟨⟨hx6, hx7⟩, _⟩, _⟩, _⟩ := hx; go_simp; try with_reducible rfl
      refine tkH 2 ?_ hS (fun wx hx => ?_) ?_; rotate_left
      · obtain ⟨_, ⟨⟨⟨hx0, hx1, hx2, hx3, hx4, hx5⟩, _⟩, ⟨⟨hx6, hx7⟩, _⟩, _⟩, _⟩ := hx; go_simp; try with_reducible rfl
      refine tkH 5 ?_ hS (fun wx hx => ?_) ?_; rotate_left
      · obtain ⟨_, ⟨⟨⟨hx0, hx1, hx2, hx3, hx4, hx5⟩, _⟩, ⟨⟨hx6, hx7⟩, _⟩, _⟩, _⟩ := hx; go_simp; try with_reducible rfl
      refine tkH 6 ?_ hS (fun wx hx => ?_) ?_; rotate_left
      · obtain ⟨_, ⟨⟨⟨hx0, hx1, hx2, hx3, hx4, hx5⟩, _⟩, ⟨⟨hx6, hx7⟩, _⟩, _⟩, _⟩ := hx; go_simp; try with_reducible rfl
      refine rdH 3 (fun K hK => ?_)
      go_simp
      go_wp2_with fail
      refine (inodeKey_is c HC.out.2.2.2.2.2 _).mono ?_
      rintro e w4 ⟨rfl, q1⟩
      have hS1 := hS.later q1
      have G1 : Hid (Wri w w4 _ _ _ _) := G0.out.later q1
      clear q1 hS G0
      go_wp2_with fail
      refine hK.out _ _ hS1 (fun hS => ?_)
      clear hK K
      clear hS1
      refine rdH 4 (fun K hK => ?_)
      go_simp
      go_wp2_with fail
      refine (deleteOf_is (kI c) _).mono ?_
      rintro e w5 ⟨rfl, q1⟩
      have hS1 := hS.later q1
      have G2 : Hid (Wri w w5 _ _ _ _) := G1.out.later q1
      clear q1 hS G1
      go_wp2_with fail
      refine hK.out _ _ hS1 (fun hS => ?_)
      clear hK K
      clear hS1
      refine rdH 7 (fun K hK => ?_)
      go_simp
      go_wp2_with fail
      refine (bytesKey_is c HC.out.2.2.2.2.2 _).mono ?_
      rintro e w6 ⟨rfl, q1⟩
      have hS1 := hS.later q1
      have G3 : Hid (Wri w w6 _ _ _ _) := G2.out.later q1
      clear q1 hS G2
      go_wp2_with fail
      refine hK.out _ _ hS1 (fun hS => ?_)
      clear hK K
      clear hS1
      refine rdH 8 (fun K hK => ?_)
      go_simp
      go_wp2_with fail
      refine (deleteOf_is (kB c) _).mono ?_
      rintro e w7x ⟨rfl, q1⟩
      have hS1 := hS.later q1
      have G4 : Hid (Wri w w7x _ _ _ _) := G3.out.later q1
      clear q1 hS G3
      go_wp2_with fail
      refine hK.out _ _ hS1 (fun hS => ?_)
      clear hK K
      clear hS1
      refine rdH 9 (fun K hK => ?_)
      go_simp
      have hS4 := hS.alloc (.cells #[.int .i64 (kI c), .int .i64 2, .int .i64 0, .int .i64 (kB c), .int .i64 2, .int .i64 0] 132)
      have G9 : Hid (Wk w b rb mb L vr kd d n td tn vv c cv xs vr w7x) := hS
      have G9b : w.heap.size + 2 < w7x.heap.size := hS.2.1.lt
      clear hS
      refine hK.out _ _ hS4 (fun hS => ?_)
      clear hK K
      clear hS4
      refine rdH 10 (fun K hK => ?_)
      have H9 : Hid (Wri w w7x vr (.slice (some ⟨w2.heap.size, 0, none⟩) 1 1) 1 [kE d n, 2, 0]) := G4
      have H9b := G9b
      refine step_appL 132 i0 (.agg #[.int .i64 0, .int .i64 0, .int .i64 0]) 3 24 (by rfl) _ _ 79 (by rfl) Tryz.underlying79 hi hz0 hz1 hz2 rfl (by omega) (by omega) _ (w.heap.size + 3) 1 [kE d n, 2, 0] (.slice (some ⟨w2.heap.size, 0, none⟩) 1 1) (by rfl) (OwnM.later H9.out.1 (below_alloc _ _)) w7x.heap.size 2 (fun p => [kI c, 2, 0, kB c, 2, 0].getD p 0) (.slice (some ⟨w7x.heap.size, 0, none⟩) 2 2) (by rfl) (row_item2 w7x _ _ _ _ _ _) (by omega) (by have := H9b; simp; omega) ?_
      intro ao1 cp1 w7 O6 G6 N6
      have HF : Hid (_ ∧ _) := G9.out.app H9.out hmb hbw O6 G6 N6
      have hS7 := HF.out.1
      clear O6 G6 N6 G9 H9 G4 hS
      refine hK.out _ _ hS7 (fun hS => ?_)
      clear hK K
      clear hS7
      refine tkH 11 ?_ hS (fun wx hx => ?_) ?_; rotate_left
      · obtain ⟨_, ⟨⟨⟨hx0, hx1, hx2, hx3, hx4, hx5⟩, _⟩, ⟨⟨hx6, hx7⟩, _⟩, _⟩, _⟩ := hx; go_simp; try with_reducible rfl
      refine wpAnyH_done (by kernel_rfl) ?_ _
      go_simp
      clear hS
      go_wp2_with (refine wpList_storeP rfl _ _ rfl (w.heap.size + 2) _ _ _ _ _ rfl rfl HF.out.1.2.1.2.2 (by kernel_rfl) ?_)
      exact bodyPost_ret (v := .agg #[.int .i64 0, .int .i64 0, .int .i64 0, .slice none 0 0, .slice ao1 (1 + 2) cp1]) (results_pl Tryz.results115 _ _ _ _ _ _ _ _ rfl HF.out.1.2.1.2.2) rfl (HF.out.1.told hmb 0 _ _ _ _ HF.out.2.1 HF.out.2.2 _ rfl)
  subst h1
  rw [if_pos rfl] at hp
  obtain ⟨em, hem⟩ : ∃ em, emptyP L c 6 0 xs = em := ⟨_, rfl⟩
  rw [hem] at hp
  obtain ⟨t, zs⟩ := em
  have HE : Hid (emptyP L c 6 0 xs = (t, zs)) := hem
  clear hem
  cases t with
  | false =>
    simp only [Bool.false_eq_true, if_false, Prod.mk.injEq] at hp
    obtain ⟨rfl, rfl, rfl, rfl, rfl⟩ := hp
    go_enter Tryz.func115, Tryz.ntmps115
    obtain ⟨⟨⟨o0, o1, o2, o3, o4, o5⟩, _⟩, ⟨⟨o6, o7⟩, _⟩, _⟩ := HK.out.2.1
    go_wp2_with fail
    refine (entryKey_is d n HC.out.2.1 HC.out.2.2.1 _).mono ?_
    rintro e w1 ⟨rfl, q1⟩
    have H1 : Hid (Wk w b rb mb L vr kd d n td tn vv c 1000 xs vr w1) := HK.out.later q1
    clear q1 HK o0 o1 o2 o3 o4 o5 o6 o7
    go_wp2_with fail
    refine (deleteOf_is (kE d n) _).mono ?_
    rintro e w2 ⟨rfl, q2⟩
    have H2 : Hid (Wk w b rb mb L vr kd d n td tn vv c 1000 xs vr (w2.alloc (.cells #[.int .i64 (kE d n), .int .i64 2, .int .i64 0] 132)) ∧ Wri w (w2.alloc (.cells #[.int .i64 (kE d n), .int .i64 2, .int .i64 0] 132)) vr (.slice (some ⟨w2.heap.size, 0, none⟩) 1 1) 1 [kE d n, 2, 0]) := ⟨(H1.out.later q2).alloc _, (H1.out.later q2).lit 1 [kE d n, 2, 0] _ (by simp) rfl (by omega)⟩
    clear q2 H1
    obtain ⟨⟨⟨o0, o1, o2, o3, o4, o5⟩, _⟩, ⟨⟨o6, o7⟩, _⟩, _⟩ := H2.out.1.2.1
    go_wp2_with fail
    refine (childDir_is c 1000 _).mono ?_
    rintro e w3 ⟨rfl, q3⟩
    have H3 : Hid (Wk w b rb mb L vr kd d n td tn vv c 1000 xs vr w3 ∧ Wri w w3 vr (.slice (some ⟨w2.heap.size, 0, none⟩) 1 1) 1 [kE d n, 2, 0]) := ⟨H2.out.1.later q3, H2.out.2.later q3⟩
    clear q3 H2 o0 o1 o2 o3 o4 o5 o6 o7
    obtain ⟨⟨⟨o0, o1, o2, o3, o4, o5⟩, _⟩, ⟨⟨o6, o7⟩, _⟩, _⟩ := H3.out.1.2.1
    go_wp2_with fail
    refine (needEmpty_is L b rb mb xs vr c _ H3.out.1.1.1 HC.out.1 hn HC.out.2.2.2.2.2 (by omega) false zs 1 HE.out rfl).mono ?_
    rintro e w4 ⟨he, vz, l4, k4⟩
    have H4 : Hid (Wk w b rb mb L vr kd d n td tn vv c 1000 zs vz w4) := H3.out.1.keeps l4 k4
    clear l4 k4
    rcases he with ⟨q, _⟩ | ⟨_, rfl⟩
    · exact absurd q (by decide)
    exact ⟨rfl, vz, H4.out.1, Or.inr ⟨by decide, rfl, rfl, rfl, rfl⟩⟩
  | true =>
    simp only [if_true, Prod.mk.injEq] at hp
    obtain ⟨rfl, rfl, rfl, rfl, rfl⟩ := hp
    go_enter Tryz.func115, Tryz.ntmps115
    obtain ⟨⟨⟨o0, o1, o2, o3, o4, o5⟩, _⟩, ⟨⟨o6, o7⟩, _⟩, _⟩ := HK.out.2.1
    go_wp2_with fail
    refine (entryKey_is d n HC.out.2.1 HC.out.2.2.1 _).mono ?_
    rintro e w1 ⟨rfl, q1⟩
    have H1 : Hid (Wk w b rb mb L vr kd d n td tn vv c 1000 xs vr w1) := HK.out.later q1
    clear q1 HK o0 o1 o2 o3 o4 o5 o6 o7
    go_wp2_with fail
    refine (deleteOf_is (kE d n) _).mono ?_
    rintro e w2 ⟨rfl, q2⟩
    have H2 : Hid (Wk w b rb mb L vr kd d n td tn vv c 1000 xs vr (w2.alloc (.cells #[.int .i64 (kE d n), .int .i64 2, .int .i64 0] 132)) ∧ Wri w (w2.alloc (.cells #[.int .i64 (kE d n), .int .i64 2, .int .i64 0] 132)) vr (.slice (some ⟨w2.heap.size, 0, none⟩) 1 1) 1 [kE d n, 2, 0]) := ⟨(H1.out.later q2).alloc _, (H1.out.later q2).lit 1 [kE d n, 2, 0] _ (by simp) rfl (by omega)⟩
    clear q2 H1
    obtain ⟨⟨⟨o0, o1, o2, o3, o4, o5⟩, _⟩, ⟨⟨o6, o7⟩, _⟩, _⟩ := H2.out.1.2.1
    go_wp2_with fail
    refine (childDir_is c 1000 _).mono ?_
    rintro e w3 ⟨rfl, q3⟩
    have H3 : Hid (Wk w b rb mb L vr kd d n td tn vv c 1000 xs vr w3 ∧ Wri w w3 vr (.slice (some ⟨w2.heap.size, 0, none⟩) 1 1) 1 [kE d n, 2, 0]) := ⟨H2.out.1.later q3, H2.out.2.later q3⟩
    clear q3 H2 o0 o1 o2 o3 o4 o5 o6 o7
    obtain ⟨⟨⟨o0, o1, o2, o3, o4, o5⟩, _⟩, ⟨⟨o6, o7⟩, _⟩, _⟩ := H3.out.1.2.1
    go_wp2_with fail
    refine (needEmpty_is L b rb mb xs vr c _ H3.out.1.1.1 HC.out.1 hn HC.out.2.2.2.2.2 (by omega) true zs 0 HE.out rfl).mono ?_
    rintro e w4 ⟨he, vz, l4, k4⟩
    have hoff : Off w3 b mb vr w2.heap.size := ⟨(OwnM.block H3.out.2.1 w2.heap.size rfl).2, by have := (OwnM.block H3.out.2.1 w2.heap.size rfl).1; omega, by have := (OwnM.block H3.out.2.1 w2.heap.size rfl).1; omega, fun e => H3.out.2.2 _ e rfl⟩
    have H4 : Hid (Wk w b rb mb L vr kd d n td tn vv c 1000 zs vz w4 ∧ Wri w w4 vz (.slice (some ⟨w2.heap.size, 0, none⟩) 1 1) 1 [kE d n, 2, 0]) := ⟨H3.out.1.keeps l4 k4, OwnM.keptB H3.out.2.1 (fun k hk => by cases hk; exact (k4.off hoff).2), fun k hk e => by cases e; exact (k4.off hoff).1.2.2.2 hk⟩
    clear l4 k4 H3 hoff o0 o1 o2 o3 o4 o5 o6 o7
    rcases he with ⟨_, rfl⟩ | ⟨q, _⟩
    case inr => exact absurd rfl q
    obtain ⟨⟨⟨o0, o1, o2, o3, o4, o5⟩, _⟩, ⟨⟨o6, o7⟩, _⟩, _⟩ := H4.out.1.2.1
    go_wp2_with fail
    refine (inodeKey_is c HC.out.2.2.2.2.2 _).mono ?_
    rintro e w5 ⟨rfl, q5⟩
    have H5 : Hid (Wk w b rb mb L vr kd d n td tn vv c 1000 zs vz w5 ∧ Wri w w5 vz (.slice (some ⟨w2.heap.size, 0, none⟩) 1 1) 1 [kE d n, 2, 0]) := ⟨H4.out.1.later q5, H4.out.2.later q5⟩
    clear q5 H4 o0 o1 o2 o3 o4 o5 o6 o7
    go_wp2_with fail
    refine (deleteOf_is (kI c) _).mono ?_
    rintro e w6 ⟨rfl, q6⟩
    have H6 : Hid (Wk w b rb mb L vr kd d n td tn vv c 1000 zs vz w6 ∧ Wri w w6 vz (.slice (some ⟨w2.heap.size, 0, none⟩) 1 1) 1 [kE d n, 2, 0]) := ⟨H5.out.1.later q6, H5.out.2.later q6⟩
    clear q6 H5
    have H9 : Hid (Wri w w6 vz (.slice (some ⟨w2.heap.size, 0, none⟩) 1 1) 1 [kE d n, 2, 0]) := H6.out.2
    have H9b : w.heap.size + 2 < w6.heap.size := H6.out.1.2.1.lt
    go_wp2_with (first | (at_builtin; refine wpList_appL 132 i0 (.agg #[.int .i64 0, .int .i64 0, .int .i64 0]) 3 24 (by rfl) _ _ 79 (by rfl) Tryz.underlying79 hi hz0 hz1 hz2 rfl (by omega) (by omega) _ (w.heap.size + 3) 1 [kE d n, 2, 0] (.slice (some ⟨w2.heap.size, 0, none⟩) 1 1) (by rfl) (OwnM.later H9.out.1 (below_alloc _ _)) w6.heap.size 1 (fun p => [kI c, 2, 0].getD p 0) (.slice (some ⟨w6.heap.size, 0, none⟩) 1 1) (by rfl) (row_item1 w6 _ _ _) (by omega) (by have := H9b; simp; omega) ?_; intro ao1 cp1 w7 O6 G6 N6; have HF : Hid (_ ∧ _) := H6.out.1.app H9.out hmb hbw O6 G6 N6; clear O6 G6 N6) | (refine wpList_storeP rfl _ _ rfl (w.heap.size + 2) _ _ _ _ _ rfl rfl HF.out.1.2.1.2.2 (by kernel_rfl) ?_))
    exact bodyPost_ret (v := .agg #[.int .i64 0, .int .i64 0, .int .i64 0, .slice none 0 0, .slice ao1 (1 + 1) cp1]) (results_pl Tryz.results115 _ _ _ _ _ _ _ _ rfl HF.out.1.2.1.2.2) rfl (HF.out.1.told hmb 0 _ _ _ _ HF.out.2.1 HF.out.2.2 _ rfl)
end Go.Proofs.YtnchaccgenfhoaaGreat

namespace Go.Proofs.YtnchaccgenfhoaaGreat
open Go.RowKit

theorem Wn.pass {w X X' : World} {b rb mb : Nat} {L : Prs} {vr vz : Value} {kd d n td tn vv r v : Int} {xs ys W : List Int} {m : Nat} {e : Ending} (h : Wn w b rb mb L vr kd d n td tn vv xs vz X) (hE : PlanEnd X b rb mb L vz r v ys m W e X') :
    (r = 0 ∧ ∃ vy vw, e = .returned (.agg #[.int .i64 0, .int .i64 0, .int .i64 v, .slice none 0 0, vw]) ∧ Wn w b rb mb L vr kd d n td tn vv ys vy X' ∧ OwnM X' (w.heap.size + 2) 132 3 vw m W ∧ ∀ k, vy.ownBlock = some k → vw.ownBlock ≠ some k) ∨ (e = .panicked (wrongs r) ∧ PlanEnd w b rb mb L vr r v ys m W (.panicked (wrongs r)) X') := by
  obtain ⟨vy, ⟨hl, hk⟩, ⟨hr, vw, he, ho, hd⟩ | ⟨hr, he, h1, h2, h3⟩⟩ := hE
  · exact Or.inl ⟨hr, vy, vw, he, h.keeps hl hk, OwnM.monoP ho (by have := h.2.1.2.lt; omega), hd⟩
  · exact Or.inr ⟨he, vy, ⟨hl, h.1.2.trans hk⟩, Or.inr ⟨hr, rfl, h1, h2, h3⟩⟩
theorem WriteEnd.plan {w w' : World} {b rb mb : Nat} {L : Prs} {xs : List Int} {vr : Value} {c cv vv : Int} {e : Ending} (hl : Looks w b rb mb L xs vr) (h : WriteEnd w c cv vv e w') {r v : Int} {ys W : List Int} {m : Nat} (hp : (if cv = 1000 then ((9 : Int), (0 : Int), xs, 0, ([] : List Int)) else (0, 0, xs, 1, [kB c, 1, vv])) = (r, v, ys, m, W)) : PlanEnd w b rb mb L vr r v ys m W e w' := by
  obtain ⟨hb, ⟨h1, he⟩ | ⟨h1, vw, he, ho⟩⟩ := h
  · rw [if_pos h1] at hp
    simp only [Prod.mk.injEq] at hp
    obtain ⟨rfl, rfl, rfl, rfl, rfl⟩ := hp
    exact ⟨vr, ⟨hl.later hb, Keeps.below _ _ _ hb⟩, Or.inr ⟨by decide, he, rfl, rfl, rfl⟩⟩
  · rw [if_neg h1] at hp
    simp only [Prod.mk.injEq] at hp
    obtain ⟨rfl, rfl, rfl, rfl, rfl⟩ := hp
    exact ⟨vr, ⟨hl.later hb, Keeps.below _ _ _ hb⟩, Or.inl ⟨rfl, vw, he, ho, fun k hk e => by have := (hl.2.2.2.1.lt k hk).2; have := (OwnM.block ho k e).1; omega⟩⟩
set_option maxRecDepth 100000 in
set_option maxHeartbeats 4000000 in
theorem compile_is (L : Prs) (b rb mb : Nat) (vr : Value) (kd d n td tn vv : Int) (w : World) (h : Looks w b rb mb L [] vr) (hrs : Rises L) (hn : L.length ≤ 1000) (hfit : ∀ k, 0 ≤ (lookF L k).2 ∧ (lookF L k).2 ≤ 9999) (hkd : 1 ≤ kd ∧ kd ≤ 8) (hd : 0 ≤ d ∧ d ≤ 9) (hnm : 0 ≤ n ∧ n ≤ 5) (htd : 0 ≤ td ∧ td ≤ 9) (htn : 0 ≤ tn ∧ tn ≤ 5) (r v : Int) (ys : List Int) (m : Nat) (W : List Int) (hp : replyP L kd d n td tn vv = (r, v, ys, m, W)) :
    Calls Tryz.prog 101 #[.pointer (some ⟨b, 0, none⟩), .agg #[.int .i64 kd, .int .i64 d, .int .i64 n, .int .i64 td, .int .i64 tn, .int .i64 vv]] w (PlanEnd w b rb mb L vr r v ys m W) := by
  have hmb : mb < w.heap.size := h.2.2.1.lt
  have HC : Hid (Rises L ∧ (0 ≤ d ∧ d ≤ 9) ∧ (0 ≤ n ∧ n ≤ 5) ∧ (0 ≤ td ∧ td ≤ 9) ∧ (0 ≤ tn ∧ tn ≤ 5)) := ⟨hrs, hd, hnm, htd, htn⟩
  have HK : Hid (Wn w b rb mb L vr kd d n td tn vv [] vr ((w.alloc (opO kd d n td tn vv)).alloc zeroPl)) := Wn.new h _ _ _ _ _ _
  have hlen := addR_len [] (kI d)
  have hlen2 := addR_len (addR [] (kI d)) (kE d n)
  simp only [List.length_nil] at hlen
  unfold replyP at hp
  cases hdq : dirB L d with
  | false =>
    have HD : Hid (dirB L d = false) := hdq
    rw [hdq] at hp
    simp only [Bool.false_eq_true, if_false, Prod.mk.injEq] at hp
    obtain ⟨rfl, rfl, rfl, rfl, rfl⟩ := hp
    clear h hrs hd hnm htd htn hdq
    go_enter Tryz.func101, Tryz.ntmps101
    go_wp2_with fail
    refine (isDir_is L b rb mb [] vr d _ HK.out.1.1 HC.out.1 hn HC.out.2.1 (Nat.zero_le _)).mono ?_
    rintro e w1 ⟨rfl, v1, l1, k1⟩
    have H1 : Hid (Wn w b rb mb L vr kd d n td tn vv (addR [] (kI d)) v1 w1) := HK.out.keeps l1 k1
    clear l1 k1 HK
    rw [HD.out]
    go_wp2_with fail
    refine (wrongIf_so 9 _).mono ?_
    rintro e w9 ⟨rfl, hw9⟩
    obtain rfl := hw9.symm
    exact ⟨rfl, v1, H1.out.1, Or.inr ⟨by decide, rfl, rfl, rfl, rfl⟩⟩
  | true =>
  have HD : Hid (dirB L d = true) := hdq
  rw [hdq] at hp
  simp only [if_true] at hp
  obtain ⟨t, htq⟩ : ∃ t, lookF L (kE d n) = t := ⟨_, rfl⟩
  obtain ⟨th, tz⟩ := t
  have HT : Hid (lookF L (kE d n) = (th, tz)) := htq
  have HTZ : Hid (0 ≤ tz) := by have := (hfit (kE d n)).1; rw [htq] at this; exact this
  have HFit : Hid (∀ k, 0 ≤ (lookF L k).2 ∧ (lookF L k).2 ≤ 9999) := hfit
  rw [htq] at hp
  clear h hrs hd hnm htd htn hdq htq hfit
  by_cases hk : kd = 1 ∨ kd = 2
  · rw [if_pos hk] at hp
    cases th with
    | true =>
      simp only [if_true, Prod.mk.injEq] at hp
      obtain ⟨rfl, rfl, rfl, rfl, rfl⟩ := hp
      rcases hk with rfl | rfl
      · go_enter Tryz.func101, Tryz.ntmps101
        go_wp2_with fail
        refine (isDir_is L b rb mb [] vr d _ HK.out.1.1 HC.out.1 hn HC.out.2.1 (Nat.zero_le _)).mono ?_
        rintro e w1 ⟨rfl, v1, l1, k1⟩
        have H1 : Hid (Wn w b rb mb L vr 1 d n td tn vv (addR [] (kI d)) v1 w1) := HK.out.keeps l1 k1
        clear l1 k1 HK
        rw [HD.out]
        go_wp2_with fail
        refine (wrongIf_no 9 _).mono ?_
        rintro e w9 ⟨rfl, hw9⟩
        obtain rfl := hw9.symm
        obtain ⟨⟨o0, o1, o2, o3, o4, o5⟩, _⟩ := H1.out.2.1.1
        go_wp2_with fail
        refine (entryKey_is d n HC.out.2.1 HC.out.2.2.1 _).mono ?_
        rintro e w2 ⟨rfl, q2⟩
        have H2 : Hid (Wn w b rb mb L vr 1 d n td tn vv (addR [] (kI d)) v1 w2) := H1.out.later q2
        clear q2 H1 o0 o1 o2 o3 o4 o5
        go_wp2_with fail
        refine (look_is L b rb mb _ v1 (kE d n) _ H2.out.1.1 HC.out.1 hn (by have := HC.out.2; unfold kE; omega) (by omega)).mono ?_
        rintro e w3 ⟨rfl, v3, l3, k3⟩
        rw [HT.out]
        have H3 : Hid (Wn w b rb mb L vr 1 d n td tn vv (addR (addR [] (kI d)) (kE d n)) v3 (w3.alloc (sightO true tz))) := (H2.out.keeps l3 k3).alloc _
        have HS3 : Hid (Blk2 (w3.alloc (sightO true tz)) w3.heap.size (.bool true) (.int .i64 tz) ∧ Off (w3.alloc (sightO true tz)) b mb v3 w3.heap.size) := ⟨Blk2.new _ _ _ _, l3.off _⟩
        clear l3 k3 H2
        obtain ⟨⟨o0, o1, o2, o3, o4, o5⟩, _⟩ := H3.out.2.1.1
        have hob : w.heap.size < w3.heap.size := by have := H3.out.2.1.2.lt; simp at this; omega
        obtain ⟨⟨y0, y1⟩, _⟩ := HS3.out.1
        go_wp2_with fail
        refine (wrongIf_so 6 _).mono ?_
        rintro e w9 ⟨rfl, hw9⟩
        obtain rfl := hw9.symm
        exact ⟨rfl, v3, H3.out.1, Or.inr ⟨by decide, rfl, rfl, rfl, rfl⟩⟩
      · go_enter Tryz.func101, Tryz.ntmps101
        go_wp2_with fail
        refine (isDir_is L b rb mb [] vr d _ HK.out.1.1 HC.out.1 hn HC.out.2.1 (Nat.zero_le _)).mono ?_
        rintro e w1 ⟨rfl, v1, l1, k1⟩
        have H1 : Hid (Wn w b rb mb L vr 2 d n td tn vv (addR [] (kI d)) v1 w1) := HK.out.keeps l1 k1
        clear l1 k1 HK
        rw [HD.out]
        go_wp2_with fail
        refine (wrongIf_no 9 _).mono ?_
        rintro e w9 ⟨rfl, hw9⟩
        obtain rfl := hw9.symm
        obtain ⟨⟨o0, o1, o2, o3, o4, o5⟩, _⟩ := H1.out.2.1.1
        go_wp2_with fail
        refine (entryKey_is d n HC.out.2.1 HC.out.2.2.1 _).mono ?_
        rintro e w2 ⟨rfl, q2⟩
        have H2 : Hid (Wn w b rb mb L vr 2 d n td tn vv (addR [] (kI d)) v1 w2) := H1.out.later q2
        clear q2 H1 o0 o1 o2 o3 o4 o5
        go_wp2_with fail
        refine (look_is L b rb mb _ v1 (kE d n) _ H2.out.1.1 HC.out.1 hn (by have := HC.out.2; unfold kE; omega) (by omega)).mono ?_
        rintro e w3 ⟨rfl, v3, l3, k3⟩
        rw [HT.out]
        have H3 : Hid (Wn w b rb mb L vr 2 d n td tn vv (addR (addR [] (kI d)) (kE d n)) v3 (w3.alloc (sightO true tz))) := (H2.out.keeps l3 k3).alloc _
        have HS3 : Hid (Blk2 (w3.alloc (sightO true tz)) w3.heap.size (.bool true) (.int .i64 tz) ∧ Off (w3.alloc (sightO true tz)) b mb v3 w3.heap.size) := ⟨Blk2.new _ _ _ _, l3.off _⟩
        clear l3 k3 H2
        obtain ⟨⟨o0, o1, o2, o3, o4, o5⟩, _⟩ := H3.out.2.1.1
        have hob : w.heap.size < w3.heap.size := by have := H3.out.2.1.2.lt; simp at this; omega
        obtain ⟨⟨y0, y1⟩, _⟩ := HS3.out.1
        go_wp2_with fail
        refine (wrongIf_so 6 _).mono ?_
        rintro e w9 ⟨rfl, hw9⟩
        obtain rfl := hw9.symm
        exact ⟨rfl, v3, H3.out.1, Or.inr ⟨by decide, rfl, rfl, rfl, rfl⟩⟩
    | false =>
      simp only [Bool.false_eq_true, if_false] at hp
      have HQ : Hid (makeP L kd d n (addR (addR [] (kI d)) (kE d n)) = (r, v, ys, m, W)) := hp
      clear hp
      rcases hk with rfl | rfl
      · go_enter Tryz.func101, Tryz.ntmps101
        go_wp2_with fail
        refine (isDir_is L b rb mb [] vr d _ HK.out.1.1 HC.out.1 hn HC.out.2.1 (Nat.zero_le _)).mono ?_
        rintro e w1 ⟨rfl, v1, l1, k1⟩
        have H1 : Hid (Wn w b rb mb L vr 1 d n td tn vv (addR [] (kI d)) v1 w1) := HK.out.keeps l1 k1
        clear l1 k1 HK
        rw [HD.out]
        go_wp2_with fail
        refine (wrongIf_no 9 _).mono ?_
        rintro e w9 ⟨rfl, hw9⟩
        obtain rfl := hw9.symm
        obtain ⟨⟨o0, o1, o2, o3, o4, o5⟩, _⟩ := H1.out.2.1.1
        go_wp2_with fail
        refine (entryKey_is d n HC.out.2.1 HC.out.2.2.1 _).mono ?_
        rintro e w2 ⟨rfl, q2⟩
        have H2 : Hid (Wn w b rb mb L vr 1 d n td tn vv (addR [] (kI d)) v1 w2) := H1.out.later q2
        clear q2 H1 o0 o1 o2 o3 o4 o5
        go_wp2_with fail
        refine (look_is L b rb mb _ v1 (kE d n) _ H2.out.1.1 HC.out.1 hn (by have := HC.out.2; unfold kE; omega) (by omega)).mono ?_
        rintro e w3 ⟨rfl, v3, l3, k3⟩
        rw [HT.out]
        have H3 : Hid (Wn w b rb mb L vr 1 d n td tn vv (addR (addR [] (kI d)) (kE d n)) v3 (w3.alloc (sightO false tz))) := (H2.out.keeps l3 k3).alloc _
        have HS3 : Hid (Blk2 (w3.alloc (sightO false tz)) w3.heap.size (.bool false) (.int .i64 tz) ∧ Off (w3.alloc (sightO false tz)) b mb v3 w3.heap.size) := ⟨Blk2.new _ _ _ _, l3.off _⟩
        clear l3 k3 H2
        obtain ⟨⟨o0, o1, o2, o3, o4, o5⟩, _⟩ := H3.out.2.1.1
        have hob : w.heap.size < w3.heap.size := by have := H3.out.2.1.2.lt; simp at this; omega
        obtain ⟨⟨y0, y1⟩, _⟩ := HS3.out.1
        go_wp2_with fail
        refine (wrongIf_no 6 _).mono ?_
        rintro e w9 ⟨rfl, hw9⟩
        obtain rfl := hw9.symm
        have HN : Hid (Wn w b rb mb L vr 1 d n td tn vv (addR (addR [] (kI d)) (kE d n)) v3 (w3.alloc (sightO false tz))) := H3
        go_wp2_with fail
        refine (planNew_is L b rb mb _ v3 1 d n td tn vv _ HN.out.1.1 HC.out.1 hn HC.out.2.1 HC.out.2.2.1 (Or.inl rfl) (by omega) r v ys m W HQ.out).mono ?_
        intro e w6 hE
        rcases HN.out.pass hE with ⟨rfl, vy, vw, rfl, hN, hO, hD⟩ | ⟨rfl, hE'⟩
        case inr => exact ⟨rfl, hE'⟩
        obtain ⟨a1, a2, rfl⟩ := OwnM.form hO
        have H6 : Hid (Wn w b rb mb L vr 1 d n td tn vv ys vy w6 ∧ OwnM w6 (w.heap.size + 2) 132 3 (.slice a1 m a2) m W ∧ ∀ k, vy.ownBlock = some k → (Value.slice a1 m a2).ownBlock ≠ some k) := ⟨hN, hO, hD⟩
        clear hE hN hO hD
        go_wp2_with (refine wpList_storeP rfl _ _ rfl (w.heap.size + 1) _ _ _ _ _ rfl rfl H6.out.1.2.1.2 (by kernel_rfl) ?_)
        exact bodyPost_ret (v := .agg #[.int .i64 0, .int .i64 0, .int .i64 v, .slice none 0 0, .slice a1 m a2]) (results_pl Tryz.results101 _ _ _ _ _ _ _ _ rfl H6.out.1.2.1.2) rfl (H6.out.1.told hmb v _ m W _ H6.out.2.1 H6.out.2.2 _ rfl)
      · go_enter Tryz.func101, Tryz.ntmps101
        go_wp2_with fail
        refine (isDir_is L b rb mb [] vr d _ HK.out.1.1 HC.out.1 hn HC.out.2.1 (Nat.zero_le _)).mono ?_
        rintro e w1 ⟨rfl, v1, l1, k1⟩
        have H1 : Hid (Wn w b rb mb L vr 2 d n td tn vv (addR [] (kI d)) v1 w1) := HK.out.keeps l1 k1
        clear l1 k1 HK
        rw [HD.out]
        go_wp2_with fail
        refine (wrongIf_no 9 _).mono ?_
        rintro e w9 ⟨rfl, hw9⟩
        obtain rfl := hw9.symm
        obtain ⟨⟨o0, o1, o2, o3, o4, o5⟩, _⟩ := H1.out.2.1.1
        go_wp2_with fail
        refine (entryKey_is d n HC.out.2.1 HC.out.2.2.1 _).mono ?_
        rintro e w2 ⟨rfl, q2⟩
        have H2 : Hid (Wn w b rb mb L vr 2 d n td tn vv (addR [] (kI d)) v1 w2) := H1.out.later q2
        clear q2 H1 o0 o1 o2 o3 o4 o5
        go_wp2_with fail
        refine (look_is L b rb mb _ v1 (kE d n) _ H2.out.1.1 HC.out.1 hn (by have := HC.out.2; unfold kE; omega) (by omega)).mono ?_
        rintro e w3 ⟨rfl, v3, l3, k3⟩
        rw [HT.out]
        have H3 : Hid (Wn w b rb mb L vr 2 d n td tn vv (addR (addR [] (kI d)) (kE d n)) v3 (w3.alloc (sightO false tz))) := (H2.out.keeps l3 k3).alloc _
        have HS3 : Hid (Blk2 (w3.alloc (sightO false tz)) w3.heap.size (.bool false) (.int .i64 tz) ∧ Off (w3.alloc (sightO false tz)) b mb v3 w3.heap.size) := ⟨Blk2.new _ _ _ _, l3.off _⟩
        clear l3 k3 H2
        obtain ⟨⟨o0, o1, o2, o3, o4, o5⟩, _⟩ := H3.out.2.1.1
        have hob : w.heap.size < w3.heap.size := by have := H3.out.2.1.2.lt; simp at this; omega
        obtain ⟨⟨y0, y1⟩, _⟩ := HS3.out.1
        go_wp2_with fail
        refine (wrongIf_no 6 _).mono ?_
        rintro e w9 ⟨rfl, hw9⟩
        obtain rfl := hw9.symm
        have HN : Hid (Wn w b rb mb L vr 2 d n td tn vv (addR (addR [] (kI d)) (kE d n)) v3 (w3.alloc (sightO false tz))) := H3
        go_wp2_with fail
        refine (planNew_is L b rb mb _ v3 2 d n td tn vv _ HN.out.1.1 HC.out.1 hn HC.out.2.1 HC.out.2.2.1 (Or.inr rfl) (by omega) r v ys m W HQ.out).mono ?_
        intro e w6 hE
        rcases HN.out.pass hE with ⟨rfl, vy, vw, rfl, hN, hO, hD⟩ | ⟨rfl, hE'⟩
        case inr => exact ⟨rfl, hE'⟩
        obtain ⟨a1, a2, rfl⟩ := OwnM.form hO
        have H6 : Hid (Wn w b rb mb L vr 2 d n td tn vv ys vy w6 ∧ OwnM w6 (w.heap.size + 2) 132 3 (.slice a1 m a2) m W ∧ ∀ k, vy.ownBlock = some k → (Value.slice a1 m a2).ownBlock ≠ some k) := ⟨hN, hO, hD⟩
        clear hE hN hO hD
        go_wp2_with (refine wpList_storeP rfl _ _ rfl (w.heap.size + 1) _ _ _ _ _ rfl rfl H6.out.1.2.1.2 (by kernel_rfl) ?_)
        exact bodyPost_ret (v := .agg #[.int .i64 0, .int .i64 0, .int .i64 v, .slice none 0 0, .slice a1 m a2]) (results_pl Tryz.results101 _ _ _ _ _ _ _ _ rfl H6.out.1.2.1.2) rfl (H6.out.1.told hmb v _ m W _ H6.out.2.1 H6.out.2.2 _ rfl)
  have e1 : (kd == 1) = false := beq_eq_false_iff_ne.2 (by omega)
  have e2 : (kd == 2) = false := beq_eq_false_iff_ne.2 (by omega)
  have hk3 : 3 ≤ kd := by omega
  rw [if_neg hk] at hp
  clear hk
  cases th with
  | false =>
    simp only [Bool.false_eq_true, if_false, Prod.mk.injEq] at hp
    obtain ⟨rfl, rfl, rfl, rfl, rfl⟩ := hp
    go_enter Tryz.func101, Tryz.ntmps101
    go_wp2_with fail
    refine (isDir_is L b rb mb [] vr d _ HK.out.1.1 HC.out.1 hn HC.out.2.1 (Nat.zero_le _)).mono ?_
    rintro e w1 ⟨rfl, v1, l1, k1⟩
    have H1 : Hid (Wn w b rb mb L vr kd d n td tn vv (addR [] (kI d)) v1 w1) := HK.out.keeps l1 k1
    clear l1 k1 HK
    rw [HD.out]
    go_wp2_with fail
    refine (wrongIf_no 9 _).mono ?_
    rintro e w9 ⟨rfl, hw9⟩
    obtain rfl := hw9.symm
    obtain ⟨⟨o0, o1, o2, o3, o4, o5⟩, _⟩ := H1.out.2.1.1
    go_wp2_with fail
    refine (entryKey_is d n HC.out.2.1 HC.out.2.2.1 _).mono ?_
    rintro e w2 ⟨rfl, q2⟩
    have H2 : Hid (Wn w b rb mb L vr kd d n td tn vv (addR [] (kI d)) v1 w2) := H1.out.later q2
    clear q2 H1 o0 o1 o2 o3 o4 o5
    go_wp2_with fail
    refine (look_is L b rb mb _ v1 (kE d n) _ H2.out.1.1 HC.out.1 hn (by have := HC.out.2; unfold kE; omega) (by omega)).mono ?_
    rintro e w3 ⟨rfl, v3, l3, k3⟩
    rw [HT.out]
    have H3 : Hid (Wn w b rb mb L vr kd d n td tn vv (addR (addR [] (kI d)) (kE d n)) v3 (w3.alloc (sightO false tz))) := (H2.out.keeps l3 k3).alloc _
    have HS3 : Hid (Blk2 (w3.alloc (sightO false tz)) w3.heap.size (.bool false) (.int .i64 tz) ∧ Off (w3.alloc (sightO false tz)) b mb v3 w3.heap.size) := ⟨Blk2.new _ _ _ _, l3.off _⟩
    clear l3 k3 H2
    obtain ⟨⟨o0, o1, o2, o3, o4, o5⟩, _⟩ := H3.out.2.1.1
    have hob : w.heap.size < w3.heap.size := by have := H3.out.2.1.2.lt; simp at this; omega
    obtain ⟨⟨y0, y1⟩, _⟩ := HS3.out.1
    go_wp2_with fail
    refine (wrongIf_so 4 _).mono ?_
    rintro e w9 ⟨rfl, hw9⟩
    obtain rfl := hw9.symm
    exact ⟨rfl, v3, H3.out.1, Or.inr ⟨by decide, rfl, rfl, rfl, rfl⟩⟩
  | true =>
  simp only [if_true] at hp
  obtain ⟨c, hcq⟩ : ∃ c, minC tz = c := ⟨_, rfl⟩
  obtain ⟨cv, hcvq⟩ : ∃ cv, (lookF L (kI c)).2 = cv := ⟨_, rfl⟩
  have HM : Hid (minC tz = c ∧ (lookF L (kI c)).2 = cv ∧ (0 ≤ c ∧ c ≤ 9) ∧ (0 ≤ cv ∧ cv ≤ 9999)) := ⟨hcq, hcvq, hcq ▸ minC_in HTZ.out, hcvq ▸ HFit.out (kI c)⟩
  have hlen3 := addR_len (addR (addR [] (kI d)) (kE d n)) (kI c)
  unfold childP at hp
  rw [hcq, hcvq] at hp
  clear hcq hcvq
  by_cases h3 : kd = 3
  · subst h3
    rw [if_pos rfl] at hp
    have HQ : Hid (removeP L d n c cv (addR (addR (addR [] (kI d)) (kE d n)) (kI c)) = (r, v, ys, m, W)) := hp
    clear hp hkd hk3
    go_enter Tryz.func101, Tryz.ntmps101
    go_wp2_with fail
    refine (isDir_is L b rb mb [] vr d _ HK.out.1.1 HC.out.1 hn HC.out.2.1 (Nat.zero_le _)).mono ?_
    rintro e w1 ⟨rfl, v1, l1, k1⟩
    have H1 : Hid (Wn w b rb mb L vr 3 d n td tn vv (addR [] (kI d)) v1 w1) := HK.out.keeps l1 k1
    clear l1 k1 HK
    rw [HD.out]
    go_wp2_with fail
    refine (wrongIf_no 9 _).mono ?_
    rintro e w9 ⟨rfl, hw9⟩
    obtain rfl := hw9.symm
    obtain ⟨⟨o0, o1, o2, o3, o4, o5⟩, _⟩ := H1.out.2.1.1
    go_wp2_with fail
    refine (entryKey_is d n HC.out.2.1 HC.out.2.2.1 _).mono ?_
    rintro e w2 ⟨rfl, q2⟩
    have H2 : Hid (Wn w b rb mb L vr 3 d n td tn vv (addR [] (kI d)) v1 w2) := H1.out.later q2
    clear q2 H1 o0 o1 o2 o3 o4 o5
    go_wp2_with fail
    refine (look_is L b rb mb _ v1 (kE d n) _ H2.out.1.1 HC.out.1 hn (by have := HC.out.2; unfold kE; omega) (by omega)).mono ?_
    rintro e w3 ⟨rfl, v3, l3, k3⟩
    rw [HT.out]
    have H3 : Hid (Wn w b rb mb L vr 3 d n td tn vv (addR (addR [] (kI d)) (kE d n)) v3 (w3.alloc (sightO true tz))) := (H2.out.keeps l3 k3).alloc _
    have HS3 : Hid (Blk2 (w3.alloc (sightO true tz)) w3.heap.size (.bool true) (.int .i64 tz) ∧ Off (w3.alloc (sightO true tz)) b mb v3 w3.heap.size) := ⟨Blk2.new _ _ _ _, l3.off _⟩
    clear l3 k3 H2
    obtain ⟨⟨o0, o1, o2, o3, o4, o5⟩, _⟩ := H3.out.2.1.1
    have hob : w.heap.size < w3.heap.size := by have := H3.out.2.1.2.lt; simp at this; omega
    obtain ⟨⟨y0, y1⟩, _⟩ := HS3.out.1
    go_wp2_with fail
    refine (wrongIf_no 4 _).mono ?_
    rintro e w9 ⟨rfl, hw9⟩
    obtain rfl := hw9.symm
    go_wp2_with fail
    refine (lookChild_is L b rb mb _ v3 true tz _ H3.out.1.1 HC.out.1 hn HTZ.out (by omega) c cv HM.out.1 HM.out.2.1).mono ?_
    rintro e w4 ⟨rfl, v4, l4, k4⟩
    have HN : Hid (Wn w b rb mb L vr 3 d n td tn vv (addR (addR (addR [] (kI d)) (kE d n)) (kI c)) v4 (w4.alloc (chO c cv))) := (H3.out.keeps l4 k4).alloc _
    have HS4 : Hid (Blk2 (w4.alloc (chO c cv)) w4.heap.size (.int .i64 c) (.int .i64 cv)) := Blk2.new _ _ _ _
    clear l4 k4 H3 HS3 o0 o1 o2 o3 o4 o5 hob
    obtain ⟨⟨o0, o1, o2, o3, o4, o5⟩, _⟩ := HN.out.2.1.1
    obtain ⟨⟨z0, z1⟩, _⟩ := HS4.out
    have hob : w.heap.size < w4.heap.size := by have := HN.out.2.1.2.lt; simp at this; omega
    go_wp2_with fail
    refine (planRemove_is L b rb mb _ v4 3 d n td tn vv c cv _ HN.out.1.1 HC.out.1 hn HC.out.2.1 HC.out.2.2.1 HC.out.2.2.2.1 HC.out.2.2.2.2 HM.out.2.2.1 HM.out.2.2.2 (by omega) r v ys m W HQ.out).mono ?_
    intro e w6 hE
    rcases HN.out.pass hE with ⟨rfl, vy, vw, rfl, hN, hO, hD⟩ | ⟨rfl, hE'⟩
    case inr => exact ⟨rfl, hE'⟩
    obtain ⟨a1, a2, rfl⟩ := OwnM.form hO
    have H6 : Hid (Wn w b rb mb L vr 3 d n td tn vv ys vy w6 ∧ OwnM w6 (w.heap.size + 2) 132 3 (.slice a1 m a2) m W ∧ ∀ k, vy.ownBlock = some k → (Value.slice a1 m a2).ownBlock ≠ some k) := ⟨hN, hO, hD⟩
    clear hE hN hO hD
    go_wp2_with (refine wpList_storeP rfl _ _ rfl (w.heap.size + 1) _ _ _ _ _ rfl rfl H6.out.1.2.1.2 (by kernel_rfl) ?_)
    exact bodyPost_ret (v := .agg #[.int .i64 0, .int .i64 0, .int .i64 v, .slice none 0 0, .slice a1 m a2]) (results_pl Tryz.results101 _ _ _ _ _ _ _ _ rfl H6.out.1.2.1.2) rfl (H6.out.1.told hmb v _ m W _ H6.out.2.1 H6.out.2.2 _ rfl)
  by_cases h4 : kd = 4
  · subst h4
    rw [if_neg h3, if_pos rfl] at hp
    have HQ : Hid (moveP L d n td tn c cv (addR (addR (addR [] (kI d)) (kE d n)) (kI c)) = (r, v, ys, m, W)) := hp
    clear hp h3 hkd hk3
    go_enter Tryz.func101, Tryz.ntmps101
    go_wp2_with fail
    refine (isDir_is L b rb mb [] vr d _ HK.out.1.1 HC.out.1 hn HC.out.2.1 (Nat.zero_le _)).mono ?_
    rintro e w1 ⟨rfl, v1, l1, k1⟩
    have H1 : Hid (Wn w b rb mb L vr 4 d n td tn vv (addR [] (kI d)) v1 w1) := HK.out.keeps l1 k1
    clear l1 k1 HK
    rw [HD.out]
    go_wp2_with fail
    refine (wrongIf_no 9 _).mono ?_
    rintro e w9 ⟨rfl, hw9⟩
    obtain rfl := hw9.symm
    obtain ⟨⟨o0, o1, o2, o3, o4, o5⟩, _⟩ := H1.out.2.1.1
    go_wp2_with fail
    refine (entryKey_is d n HC.out.2.1 HC.out.2.2.1 _).mono ?_
    rintro e w2 ⟨rfl, q2⟩
    have H2 : Hid (Wn w b rb mb L vr 4 d n td tn vv (addR [] (kI d)) v1 w2) := H1.out.later q2
    clear q2 H1 o0 o1 o2 o3 o4 o5
    go_wp2_with fail
    refine (look_is L b rb mb _ v1 (kE d n) _ H2.out.1.1 HC.out.1 hn (by have := HC.out.2; unfold kE; omega) (by omega)).mono ?_
    rintro e w3 ⟨rfl, v3, l3, k3⟩
    rw [HT.out]
    have H3 : Hid (Wn w b rb mb L vr 4 d n td tn vv (addR (addR [] (kI d)) (kE d n)) v3 (w3.alloc (sightO true tz))) := (H2.out.keeps l3 k3).alloc _
    have HS3 : Hid (Blk2 (w3.alloc (sightO true tz)) w3.heap.size (.bool true) (.int .i64 tz) ∧ Off (w3.alloc (sightO true tz)) b mb v3 w3.heap.size) := ⟨Blk2.new _ _ _ _, l3.off _⟩
    clear l3 k3 H2
    obtain ⟨⟨o0, o1, o2, o3, o4, o5⟩, _⟩ := H3.out.2.1.1
    have hob : w.heap.size < w3.heap.size := by have := H3.out.2.1.2.lt; simp at this; omega
    obtain ⟨⟨y0, y1⟩, _⟩ := HS3.out.1
    go_wp2_with fail
    refine (wrongIf_no 4 _).mono ?_
    rintro e w9 ⟨rfl, hw9⟩
    obtain rfl := hw9.symm
    go_wp2_with fail
    refine (lookChild_is L b rb mb _ v3 true tz _ H3.out.1.1 HC.out.1 hn HTZ.out (by omega) c cv HM.out.1 HM.out.2.1).mono ?_
    rintro e w4 ⟨rfl, v4, l4, k4⟩
    have HN : Hid (Wn w b rb mb L vr 4 d n td tn vv (addR (addR (addR [] (kI d)) (kE d n)) (kI c)) v4 (w4.alloc (chO c cv))) := (H3.out.keeps l4 k4).alloc _
    have HS4 : Hid (Blk2 (w4.alloc (chO c cv)) w4.heap.size (.int .i64 c) (.int .i64 cv)) := Blk2.new _ _ _ _
    clear l4 k4 H3 HS3 o0 o1 o2 o3 o4 o5 hob
    obtain ⟨⟨o0, o1, o2, o3, o4, o5⟩, _⟩ := HN.out.2.1.1
    obtain ⟨⟨z0, z1⟩, _⟩ := HS4.out
    have hob : w.heap.size < w4.heap.size := by have := HN.out.2.1.2.lt; simp at this; omega
    go_wp2_with fail
    refine (planMove_is L b rb mb _ v4 4 d n td tn vv c cv _ HN.out.1.1 HC.out.1 hn HC.out.2.1 HC.out.2.2.1 HC.out.2.2.2.1 HC.out.2.2.2.2 HM.out.2.2.1 HM.out.2.2.2 (by omega) r v ys m W HQ.out).mono ?_
    intro e w6 hE
    rcases HN.out.pass hE with ⟨rfl, vy, vw, rfl, hN, hO, hD⟩ | ⟨rfl, hE'⟩
    case inr => exact ⟨rfl, hE'⟩
    obtain ⟨a1, a2, rfl⟩ := OwnM.form hO
    have H6 : Hid (Wn w b rb mb L vr 4 d n td tn vv ys vy w6 ∧ OwnM w6 (w.heap.size + 2) 132 3 (.slice a1 m a2) m W ∧ ∀ k, vy.ownBlock = some k → (Value.slice a1 m a2).ownBlock ≠ some k) := ⟨hN, hO, hD⟩
    clear hE hN hO hD
    go_wp2_with (refine wpList_storeP rfl _ _ rfl (w.heap.size + 1) _ _ _ _ _ rfl rfl H6.out.1.2.1.2 (by kernel_rfl) ?_)
    exact bodyPost_ret (v := .agg #[.int .i64 0, .int .i64 0, .int .i64 v, .slice none 0 0, .slice a1 m a2]) (results_pl Tryz.results101 _ _ _ _ _ _ _ _ rfl H6.out.1.2.1.2) rfl (H6.out.1.told hmb v _ m W _ H6.out.2.1 H6.out.2.2 _ rfl)
  by_cases h5 : kd = 5
  · subst h5
    rw [if_neg h3, if_neg h4, if_pos rfl] at hp
    have HQ : Hid (linkP L td tn c cv (addR (addR (addR [] (kI d)) (kE d n)) (kI c)) = (r, v, ys, m, W)) := hp
    clear hp h3 h4 hkd hk3
    go_enter Tryz.func101, Tryz.ntmps101
    go_wp2_with fail
    refine (isDir_is L b rb mb [] vr d _ HK.out.1.1 HC.out.1 hn HC.out.2.1 (Nat.zero_le _)).mono ?_
    rintro e w1 ⟨rfl, v1, l1, k1⟩
    have H1 : Hid (Wn w b rb mb L vr 5 d n td tn vv (addR [] (kI d)) v1 w1) := HK.out.keeps l1 k1
    clear l1 k1 HK
    rw [HD.out]
    go_wp2_with fail
    refine (wrongIf_no 9 _).mono ?_
    rintro e w9 ⟨rfl, hw9⟩
    obtain rfl := hw9.symm
    obtain ⟨⟨o0, o1, o2, o3, o4, o5⟩, _⟩ := H1.out.2.1.1
    go_wp2_with fail
    refine (entryKey_is d n HC.out.2.1 HC.out.2.2.1 _).mono ?_
    rintro e w2 ⟨rfl, q2⟩
    have H2 : Hid (Wn w b rb mb L vr 5 d n td tn vv (addR [] (kI d)) v1 w2) := H1.out.later q2
    clear q2 H1 o0 o1 o2 o3 o4 o5
    go_wp2_with fail
    refine (look_is L b rb mb _ v1 (kE d n) _ H2.out.1.1 HC.out.1 hn (by have := HC.out.2; unfold kE; omega) (by omega)).mono ?_
    rintro e w3 ⟨rfl, v3, l3, k3⟩
    rw [HT.out]
    have H3 : Hid (Wn w b rb mb L vr 5 d n td tn vv (addR (addR [] (kI d)) (kE d n)) v3 (w3.alloc (sightO true tz))) := (H2.out.keeps l3 k3).alloc _
    have HS3 : Hid (Blk2 (w3.alloc (sightO true tz)) w3.heap.size (.bool true) (.int .i64 tz) ∧ Off (w3.alloc (sightO true tz)) b mb v3 w3.heap.size) := ⟨Blk2.new _ _ _ _, l3.off _⟩
    clear l3 k3 H2
    obtain ⟨⟨o0, o1, o2, o3, o4, o5⟩, _⟩ := H3.out.2.1.1
    have hob : w.heap.size < w3.heap.size := by have := H3.out.2.1.2.lt; simp at this; omega
    obtain ⟨⟨y0, y1⟩, _⟩ := HS3.out.1
    go_wp2_with fail
    refine (wrongIf_no 4 _).mono ?_
    rintro e w9 ⟨rfl, hw9⟩
    obtain rfl := hw9.symm
    go_wp2_with fail
    refine (lookChild_is L b rb mb _ v3 true tz _ H3.out.1.1 HC.out.1 hn HTZ.out (by omega) c cv HM.out.1 HM.out.2.1).mono ?_
    rintro e w4 ⟨rfl, v4, l4, k4⟩
    have HN : Hid (Wn w b rb mb L vr 5 d n td tn vv (addR (addR (addR [] (kI d)) (kE d n)) (kI c)) v4 (w4.alloc (chO c cv))) := (H3.out.keeps l4 k4).alloc _
    have HS4 : Hid (Blk2 (w4.alloc (chO c cv)) w4.heap.size (.int .i64 c) (.int .i64 cv)) := Blk2.new _ _ _ _
    clear l4 k4 H3 HS3 o0 o1 o2 o3 o4 o5 hob
    obtain ⟨⟨o0, o1, o2, o3, o4, o5⟩, _⟩ := HN.out.2.1.1
    obtain ⟨⟨z0, z1⟩, _⟩ := HS4.out
    have hob : w.heap.size < w4.heap.size := by have := HN.out.2.1.2.lt; simp at this; omega
    go_wp2_with fail
    refine (planLink_is L b rb mb _ v4 5 d n td tn vv c cv _ HN.out.1.1 HC.out.1 hn HC.out.2.1 HC.out.2.2.1 HC.out.2.2.2.1 HC.out.2.2.2.2 HM.out.2.2.1 HM.out.2.2.2 (by omega) r v ys m W HQ.out).mono ?_
    intro e w6 hE
    rcases HN.out.pass hE with ⟨rfl, vy, vw, rfl, hN, hO, hD⟩ | ⟨rfl, hE'⟩
    case inr => exact ⟨rfl, hE'⟩
    obtain ⟨a1, a2, rfl⟩ := OwnM.form hO
    have H6 : Hid (Wn w b rb mb L vr 5 d n td tn vv ys vy w6 ∧ OwnM w6 (w.heap.size + 2) 132 3 (.slice a1 m a2) m W ∧ ∀ k, vy.ownBlock = some k → (Value.slice a1 m a2).ownBlock ≠ some k) := ⟨hN, hO, hD⟩
    clear hE hN hO hD
    go_wp2_with (refine wpList_storeP rfl _ _ rfl (w.heap.size + 1) _ _ _ _ _ rfl rfl H6.out.1.2.1.2 (by kernel_rfl) ?_)
    exact bodyPost_ret (v := .agg #[.int .i64 0, .int .i64 0, .int .i64 v, .slice none 0 0, .slice a1 m a2]) (results_pl Tryz.results101 _ _ _ _ _ _ _ _ rfl H6.out.1.2.1.2) rfl (H6.out.1.told hmb v _ m W _ H6.out.2.1 H6.out.2.2 _ rfl)
  by_cases h8 : kd = 8
  · subst h8
    rw [if_neg h3, if_neg h4, if_neg h5, if_pos rfl] at hp
    simp only [Prod.mk.injEq] at hp
    obtain ⟨rfl, rfl, rfl, rfl, rfl⟩ := hp
    clear h3 h4 h5 hkd hk3
    go_enter Tryz.func101, Tryz.ntmps101
    go_wp2_with fail
    refine (isDir_is L b rb mb [] vr d _ HK.out.1.1 HC.out.1 hn HC.out.2.1 (Nat.zero_le _)).mono ?_
    rintro e w1 ⟨rfl, v1, l1, k1⟩
    have H1 : Hid (Wn w b rb mb L vr 8 d n td tn vv (addR [] (kI d)) v1 w1) := HK.out.keeps l1 k1
    clear l1 k1 HK
    rw [HD.out]
    go_wp2_with fail
    refine (wrongIf_no 9 _).mono ?_
    rintro e w9 ⟨rfl, hw9⟩
    obtain rfl := hw9.symm
    obtain ⟨⟨o0, o1, o2, o3, o4, o5⟩, _⟩ := H1.out.2.1.1
    go_wp2_with fail
    refine (entryKey_is d n HC.out.2.1 HC.out.2.2.1 _).mono ?_
    rintro e w2 ⟨rfl, q2⟩
    have H2 : Hid (Wn w b rb mb L vr 8 d n td tn vv (addR [] (kI d)) v1 w2) := H1.out.later q2
    clear q2 H1 o0 o1 o2 o3 o4 o5
    go_wp2_with fail
    refine (look_is L b rb mb _ v1 (kE d n) _ H2.out.1.1 HC.out.1 hn (by have := HC.out.2; unfold kE; omega) (by omega)).mono ?_
    rintro e w3 ⟨rfl, v3, l3, k3⟩
    rw [HT.out]
    have H3 : Hid (Wn w b rb mb L vr 8 d n td tn vv (addR (addR [] (kI d)) (kE d n)) v3 (w3.alloc (sightO true tz))) := (H2.out.keeps l3 k3).alloc _
    have HS3 : Hid (Blk2 (w3.alloc (sightO true tz)) w3.heap.size (.bool true) (.int .i64 tz) ∧ Off (w3.alloc (sightO true tz)) b mb v3 w3.heap.size) := ⟨Blk2.new _ _ _ _, l3.off _⟩
    clear l3 k3 H2
    obtain ⟨⟨o0, o1, o2, o3, o4, o5⟩, _⟩ := H3.out.2.1.1
    have hob : w.heap.size < w3.heap.size := by have := H3.out.2.1.2.lt; simp at this; omega
    obtain ⟨⟨y0, y1⟩, _⟩ := HS3.out.1
    go_wp2_with fail
    refine (wrongIf_no 4 _).mono ?_
    rintro e w9 ⟨rfl, hw9⟩
    obtain rfl := hw9.symm
    go_wp2_with fail
    refine (lookChild_is L b rb mb _ v3 true tz _ H3.out.1.1 HC.out.1 hn HTZ.out (by omega) c cv HM.out.1 HM.out.2.1).mono ?_
    rintro e w4 ⟨rfl, v4, l4, k4⟩
    have HN : Hid (Wn w b rb mb L vr 8 d n td tn vv (addR (addR (addR [] (kI d)) (kE d n)) (kI c)) v4 (w4.alloc (chO c cv))) := (H3.out.keeps l4 k4).alloc _
    have HS4 : Hid (Blk2 (w4.alloc (chO c cv)) w4.heap.size (.int .i64 c) (.int .i64 cv)) := Blk2.new _ _ _ _
    clear l4 k4 H3 HS3 o0 o1 o2 o3 o4 o5 hob
    obtain ⟨⟨o0, o1, o2, o3, o4, o5⟩, _⟩ := HN.out.2.1.1
    obtain ⟨⟨z0, z1⟩, _⟩ := HS4.out
    have hob : w.heap.size < w4.heap.size := by have := HN.out.2.1.2.lt; simp at this; omega
    have HPB : Hid (PBk (w4.alloc (chO c cv)) (w.heap.size + 1)) := HN.out.2.1.2
    go_wp2_with (refine wpList_storeP rfl _ _ rfl (w.heap.size + 1) _ _ _ _ _ rfl rfl HPB.out (by kernel_rfl) ?_)
    exact bodyPost_ret (v := .agg #[.int .i64 0, .int .i64 0, .int .i64 cv, .slice none 0 0, .slice none 0 0]) (results_pl Tryz.results101 _ _ _ _ _ _ _ _ rfl HPB.out) rfl (HN.out.told hmb cv _ 0 [] _ (OwnM.nil _ _ _ _) (fun k _ e => by cases e) _ rfl)
  rw [if_neg h3, if_neg h4, if_neg h5, if_neg h8] at hp
  obtain rfl | rfl : kd = 6 ∨ kd = 7 := by omega
  focus
    rw [if_pos rfl] at hp
    have HQ : Hid ((if cv = 1000 then ((9 : Int), (0 : Int), (addR (addR (addR [] (kI d)) (kE d n)) (kI c)), 0, ([] : List Int)) else (0, 0, (addR (addR (addR [] (kI d)) (kE d n)) (kI c)), 1, [kB c, 1, vv])) = (r, v, ys, m, W)) := hp
    clear hp h3 h4 h5 h8 hkd hk3
    go_enter Tryz.func101, Tryz.ntmps101
    go_wp2_with fail
    refine (isDir_is L b rb mb [] vr d _ HK.out.1.1 HC.out.1 hn HC.out.2.1 (Nat.zero_le _)).mono ?_
    rintro e w1 ⟨rfl, v1, l1, k1⟩
    have H1 : Hid (Wn w b rb mb L vr 6 d n td tn vv (addR [] (kI d)) v1 w1) := HK.out.keeps l1 k1
    clear l1 k1 HK
    rw [HD.out]
    go_wp2_with fail
    refine (wrongIf_no 9 _).mono ?_
    rintro e w9 ⟨rfl, hw9⟩
    obtain rfl := hw9.symm
    obtain ⟨⟨o0, o1, o2, o3, o4, o5⟩, _⟩ := H1.out.2.1.1
    go_wp2_with fail
    refine (entryKey_is d n HC.out.2.1 HC.out.2.2.1 _).mono ?_
    rintro e w2 ⟨rfl, q2⟩
    have H2 : Hid (Wn w b rb mb L vr 6 d n td tn vv (addR [] (kI d)) v1 w2) := H1.out.later q2
    clear q2 H1 o0 o1 o2 o3 o4 o5
    go_wp2_with fail
    refine (look_is L b rb mb _ v1 (kE d n) _ H2.out.1.1 HC.out.1 hn (by have := HC.out.2; unfold kE; omega) (by omega)).mono ?_
    rintro e w3 ⟨rfl, v3, l3, k3⟩
    rw [HT.out]
    have H3 : Hid (Wn w b rb mb L vr 6 d n td tn vv (addR (addR [] (kI d)) (kE d n)) v3 (w3.alloc (sightO true tz))) := (H2.out.keeps l3 k3).alloc _
    have HS3 : Hid (Blk2 (w3.alloc (sightO true tz)) w3.heap.size (.bool true) (.int .i64 tz) ∧ Off (w3.alloc (sightO true tz)) b mb v3 w3.heap.size) := ⟨Blk2.new _ _ _ _, l3.off _⟩
    clear l3 k3 H2
    obtain ⟨⟨o0, o1, o2, o3, o4, o5⟩, _⟩ := H3.out.2.1.1
    have hob : w.heap.size < w3.heap.size := by have := H3.out.2.1.2.lt; simp at this; omega
    obtain ⟨⟨y0, y1⟩, _⟩ := HS3.out.1
    go_wp2_with fail
    refine (wrongIf_no 4 _).mono ?_
    rintro e w9 ⟨rfl, hw9⟩
    obtain rfl := hw9.symm
    go_wp2_with fail
    refine (lookChild_is L b rb mb _ v3 true tz _ H3.out.1.1 HC.out.1 hn HTZ.out (by omega) c cv HM.out.1 HM.out.2.1).mono ?_
    rintro e w4 ⟨rfl, v4, l4, k4⟩
    have HN : Hid (Wn w b rb mb L vr 6 d n td tn vv (addR (addR (addR [] (kI d)) (kE d n)) (kI c)) v4 (w4.alloc (chO c cv))) := (H3.out.keeps l4 k4).alloc _
    have HS4 : Hid (Blk2 (w4.alloc (chO c cv)) w4.heap.size (.int .i64 c) (.int .i64 cv)) := Blk2.new _ _ _ _
    clear l4 k4 H3 HS3 o0 o1 o2 o3 o4 o5 hob
    obtain ⟨⟨o0, o1, o2, o3, o4, o5⟩, _⟩ := HN.out.2.1.1
    obtain ⟨⟨z0, z1⟩, _⟩ := HS4.out
    have hob : w.heap.size < w4.heap.size := by have := HN.out.2.1.2.lt; simp at this; omega
    go_wp2_with fail
    refine (planWrite_is 6 d n td tn vv c cv _ HM.out.2.2.1).mono ?_
    intro e w6 hE
    rcases HN.out.pass (hE.plan HN.out.1.1 HQ.out) with ⟨rfl, vy, vw, rfl, hN, hO, hD⟩ | ⟨rfl, hE'⟩
    case inr => exact ⟨rfl, hE'⟩
    obtain ⟨a1, a2, rfl⟩ := OwnM.form hO
    have H6 : Hid (Wn w b rb mb L vr 6 d n td tn vv ys vy w6 ∧ OwnM w6 (w.heap.size + 2) 132 3 (.slice a1 m a2) m W ∧ ∀ k, vy.ownBlock = some k → (Value.slice a1 m a2).ownBlock ≠ some k) := ⟨hN, hO, hD⟩
  rotate_left
  focus
    rw [if_neg (show ¬ ((7 : Int) = 6) by omega)] at hp
    have HQ : Hid ((if cv = 1000 then ((9 : Int), (0 : Int), (addR (addR (addR [] (kI d)) (kE d n)) (kI c)), 0, ([] : List Int)) else (0, (lookF L (kB c)).2, addR (addR (addR (addR [] (kI d)) (kE d n)) (kI c)) (kB c), 0, [])) = (r, v, ys, m, W)) := hp
    clear hp h3 h4 h5 h8 hkd hk3
    go_enter Tryz.func101, Tryz.ntmps101
    go_wp2_with fail
    refine (isDir_is L b rb mb [] vr d _ HK.out.1.1 HC.out.1 hn HC.out.2.1 (Nat.zero_le _)).mono ?_
    rintro e w1 ⟨rfl, v1, l1, k1⟩
    have H1 : Hid (Wn w b rb mb L vr 7 d n td tn vv (addR [] (kI d)) v1 w1) := HK.out.keeps l1 k1
    clear l1 k1 HK
    rw [HD.out]
    go_wp2_with fail
    refine (wrongIf_no 9 _).mono ?_
    rintro e w9 ⟨rfl, hw9⟩
    obtain rfl := hw9.symm
    obtain ⟨⟨o0, o1, o2, o3, o4, o5⟩, _⟩ := H1.out.2.1.1
    go_wp2_with fail
    refine (entryKey_is d n HC.out.2.1 HC.out.2.2.1 _).mono ?_
    rintro e w2 ⟨rfl, q2⟩
    have H2 : Hid (Wn w b rb mb L vr 7 d n td tn vv (addR [] (kI d)) v1 w2) := H1.out.later q2
    clear q2 H1 o0 o1 o2 o3 o4 o5
    go_wp2_with fail
    refine (look_is L b rb mb _ v1 (kE d n) _ H2.out.1.1 HC.out.1 hn (by have := HC.out.2; unfold kE; omega) (by omega)).mono ?_
    rintro e w3 ⟨rfl, v3, l3, k3⟩
    rw [HT.out]
    have H3 : Hid (Wn w b rb mb L vr 7 d n td tn vv (addR (addR [] (kI d)) (kE d n)) v3 (w3.alloc (sightO true tz))) := (H2.out.keeps l3 k3).alloc _
    have HS3 : Hid (Blk2 (w3.alloc (sightO true tz)) w3.heap.size (.bool true) (.int .i64 tz) ∧ Off (w3.alloc (sightO true tz)) b mb v3 w3.heap.size) := ⟨Blk2.new _ _ _ _, l3.off _⟩
    clear l3 k3 H2
    obtain ⟨⟨o0, o1, o2, o3, o4, o5⟩, _⟩ := H3.out.2.1.1
    have hob : w.heap.size < w3.heap.size := by have := H3.out.2.1.2.lt; simp at this; omega
    obtain ⟨⟨y0, y1⟩, _⟩ := HS3.out.1
    go_wp2_with fail
    refine (wrongIf_no 4 _).mono ?_
    rintro e w9 ⟨rfl, hw9⟩
    obtain rfl := hw9.symm
    go_wp2_with fail
    refine (lookChild_is L b rb mb _ v3 true tz _ H3.out.1.1 HC.out.1 hn HTZ.out (by omega) c cv HM.out.1 HM.out.2.1).mono ?_
    rintro e w4 ⟨rfl, v4, l4, k4⟩
    have HN : Hid (Wn w b rb mb L vr 7 d n td tn vv (addR (addR (addR [] (kI d)) (kE d n)) (kI c)) v4 (w4.alloc (chO c cv))) := (H3.out.keeps l4 k4).alloc _
    have HS4 : Hid (Blk2 (w4.alloc (chO c cv)) w4.heap.size (.int .i64 c) (.int .i64 cv)) := Blk2.new _ _ _ _
    clear l4 k4 H3 HS3 o0 o1 o2 o3 o4 o5 hob
    obtain ⟨⟨o0, o1, o2, o3, o4, o5⟩, _⟩ := HN.out.2.1.1
    obtain ⟨⟨z0, z1⟩, _⟩ := HS4.out
    have hob : w.heap.size < w4.heap.size := by have := HN.out.2.1.2.lt; simp at this; omega
    go_wp2_with fail
    refine (planRead_is L b rb mb _ v4 c cv _ HN.out.1.1 HC.out.1 hn HM.out.2.2.1 (by omega) r v ys m W HQ.out).mono ?_
    intro e w6 hE
    rcases HN.out.pass hE with ⟨rfl, vy, vw, rfl, hN, hO, hD⟩ | ⟨rfl, hE'⟩
    case inr => exact ⟨rfl, hE'⟩
    obtain ⟨a1, a2, rfl⟩ := OwnM.form hO
    have H6 : Hid (Wn w b rb mb L vr 7 d n td tn vv ys vy w6 ∧ OwnM w6 (w.heap.size + 2) 132 3 (.slice a1 m a2) m W ∧ ∀ k, vy.ownBlock = some k → (Value.slice a1 m a2).ownBlock ≠ some k) := ⟨hN, hO, hD⟩
  rotate_left
  all_goals
    clear hE hN hO hD
    go_wp2_with (refine wpList_storeP rfl _ _ rfl (w.heap.size + 1) _ _ _ _ _ rfl rfl H6.out.1.2.1.2 (by kernel_rfl) ?_)
    exact bodyPost_ret (v := .agg #[.int .i64 0, .int .i64 0, .int .i64 v, .slice none 0 0, .slice a1 m a2]) (results_pl Tryz.results101 _ _ _ _ _ _ _ _ rfl H6.out.1.2.1.2) rfl (H6.out.1.told hmb v _ m W _ H6.out.2.1 H6.out.2.2 _ rfl)
end Go.Proofs.YtnchaccgenfhoaaGreat

namespace Go.Proofs.YtnchaccgenfhoaaGreat
open Go.RowKit

theorem as_wrong (r : Int) (w : World) : (Instr.typeAssert (.iface 146 (.int .i64 r)) 20 146 true).run Tryz.prog w = .ok (.tuple #[.int .i64 r, .bool true]) w := by kernel_rfl
theorem as_nil (w : World) : (Instr.typeAssert .nilIface 20 146 true).run Tryz.prog w = .ok (.tuple #[.int .i64 0, .bool false]) w := by kernel_rfl
theorem PBk.blk {x : World} {b : Nat} (h : PBk x b) (a0 a1 a2 a3 a4 : Value) : BlkP (x.setRow b #[a0, a1, a2, a3, a4]) b a0 a1 a2 a3 a4 := by
  obtain ⟨old, hg, _⟩ := h
  have e : (x.setRow b #[a0, a1, a2, a3, a4]).heap[b]? = some (.cells #[a0, a1, a2, a3, a4] 81 (0, 0)) := by simp [World.setRow, Array.getElem?_modify, hg]
  refine ⟨⟨?_, ?_, ?_, ?_, ?_⟩, ?_, ?_, ?_, ?_, ?_⟩ <;> simp [World.cell?, World.frozen?, e]
set_option maxRecDepth 100000 in
set_option maxHeartbeats 2000000 in
theorem catch_panicking (pb lb b : Nat) (u0 u1 : Value) (ao : Option Addr) (nr cp : Nat) (r : Int) (older : List PanicEntry) (w : World) (hP : PBk w pb) (hL : w.cell? ⟨lb, 0, none⟩ = some (.pointer (some ⟨b, 0, none⟩))) (hB : Blk3 w b u0 u1 (.slice ao nr cp)) (hne : b ≠ pb) (hnl : lb ≠ pb) :
    CallsD Tryz.prog 100 #[.pointer (some ⟨pb, 0, none⟩), .pointer (some ⟨lb, 0, none⟩)] (.panicking ({ v := .iface 146 (.int .i64 r), recovered := false } :: older)) w fun e u' w' =>
      e = .returned (.tuple #[]) ∧ u' = .panicking ({ v := .iface 146 (.int .i64 r), recovered := true } :: older) ∧ w' = (w.setRow pb #[.int .i64 0, .int .i64 r, .int .i64 0, .slice none 0 0, .slice none 0 0]).setCell ⟨pb, 3, none⟩ (.slice ao nr cp) := by
  have ha := fun w => as_wrong r w
  refine callsD_of_wpS Tryz.func100 rfl fun c₀ cs hu => ?_
  apply wpS_seq
  apply wpS_seq
  apply wpS_region
  simp [wpOpsS, go_sem, recoverD, hu, Tryz.ntmps100, Exit.thenS, ha]
  simp only [Array.replicate_succ, Array.replicate_zero, List.push_toArray, List.append_toArray, List.nil_append, List.cons_append, List.setIfInBounds_toArray, List.set_cons_zero, List.set_cons_succ]
  have HP : Hid (PBk w pb) := hP
  obtain ⟨⟨b0, b1, b2⟩, _⟩ := hB
  refine wpS_of_wp ?_
  go_wp2_with (refine wpList_storeP rfl _ _ rfl pb _ _ _ _ _ rfl rfl HP.out (by kernel_rfl) ?_)
  dsimp only [Exit.thenS]
  have hc1 : (w.setRow pb #[.int .i64 0, .int .i64 r, .int .i64 0, .slice none 0 0, .slice none 0 0]).cell? ⟨lb, 0, none⟩ = some (.pointer (some ⟨b, 0, none⟩)) := (World.cell?_of_block (w := w) (a := ⟨lb, 0, none⟩) (heap_setRow w pb _ lb hnl)).trans hL
  have hc2 : (w.setRow pb #[.int .i64 0, .int .i64 r, .int .i64 0, .slice none 0 0, .slice none 0 0]).cell? ⟨b, 2, none⟩ = some (.slice ao nr cp) := (World.cell?_of_block (w := w) (a := ⟨b, 2, none⟩) (heap_setRow w pb _ b hne)).trans b2
  obtain ⟨⟨c0, c1, c2, c3, c4⟩, f0, f1, f2, f3, f4⟩ := hP.blk (.int .i64 0) (.int .i64 r) (.int .i64 0) (.slice none 0 0) (.slice none 0 0)
  generalize w.setRow pb #[.int .i64 0, .int .i64 r, .int .i64 0, .slice none 0 0, .slice none 0 0] = w1 at hc1 hc2 c0 c1 c2 c3 c4 f0 f1 f2 f3 f4 ⊢
  clear hL b0 b1 b2 HP hP
  refine wpS_of_wp ?_
  go_wp2
  exact ⟨rfl, _, rfl, .tuple #[], by simp [results, Tryz.results100], rfl, rfl, rfl⟩
set_option maxRecDepth 100000 in
set_option maxHeartbeats 2000000 in
theorem catch_idle (pb lb b : Nat) (u0 u1 p0 p1 p2 p3 p4 : Value) (ao : Option Addr) (nr cp : Nat) (w : World) (hP : BlkP w pb p0 p1 p2 p3 p4) (hL : w.cell? ⟨lb, 0, none⟩ = some (.pointer (some ⟨b, 0, none⟩))) (hB : Blk3 w b u0 u1 (.slice ao nr cp)) :
    CallsD Tryz.prog 100 #[.pointer (some ⟨pb, 0, none⟩), .pointer (some ⟨lb, 0, none⟩)] .returning w fun e u' w' =>
      e = .returned (.tuple #[]) ∧ u' = .returning ∧ w' = w.setCell ⟨pb, 3, none⟩ (.slice ao nr cp) := by
  have ha := fun w => as_nil w
  obtain ⟨⟨b0, b1, b2⟩, _⟩ := hB
  obtain ⟨⟨c0, c1, c2, c3, c4⟩, f0, f1, f2, f3, f4⟩ := hP
  refine callsD_of_wpS Tryz.func100 rfl fun c₀ cs hu => ?_
  apply wpS_seq
  apply wpS_seq
  apply wpS_region
  simp [wpOpsS, go_sem, recoverD, hu, Tryz.ntmps100, Exit.thenS, ha]
  simp only [Array.replicate_succ, Array.replicate_zero, List.push_toArray, List.append_toArray, List.nil_append, List.cons_append, List.setIfInBounds_toArray, List.set_cons_zero, List.set_cons_succ]
  refine wpS_of_wp ?_
  go_wp2
  dsimp only [Exit.thenS]
  refine wpS_of_wp ?_
  go_wp2
  refine ⟨rfl, .returning, ?_, .tuple #[], by simp [results, Tryz.results100], rfl, rfl, rfl⟩
  cases c₀
  simp_all
/-- What plan tells. -/
def ToldP (w : World) (b mb : Nat) (vr : Value) (r v : Int) (ys : List Int) (m : Nat) (W : List Int) (e : Ending) (w' : World) : Prop :=
  ∃ vy vw, e = .returned (.agg #[.int .i64 0, .int .i64 r, .int .i64 v, vy, vw]) ∧ (Ints w' (b + 1) vy ys ∧ OwnM w' w.heap.size 132 3 vw m W ∧ ∀ k, vy.ownBlock = some k → vw.ownBlock ≠ some k) ∧ Keeps w w' b mb vr vy
abbrev ptrO (b : Nat) : Obj := .cells #[.pointer (some ⟨b, 0, none⟩)] 54
theorem pl_results {fn : Func} {p : Tmp} (h : fn.results = #[.cell p 81]) (tmps : Array Value) (w : World) (g : Nat) (a0 a1 a2 a3 a4 : Value) (hp : tmps.getD p undef = .pointer (some ⟨g, 0, none⟩)) (hP : BlkP w g a0 a1 a2 a3 a4) : (results fn tmps).run Tryz.prog w = .ok (.agg #[a0, a1, a2, a3, a4]) w := by
  have hp' : tmps[p]?.getD undef = .pointer (some ⟨g, 0, none⟩) := by simpa using hp
  exact results_plan h hp' hP
theorem told_end {w X : World} {b rb mb : Nat} {L : Prs} {ys W : List Int} {vy vw : Value} {m : Nat} {cs : Array Value} (hl : Looks X b rb mb L ys vy) (ho : Off X b mb vy (w.heap.size + 2)) (hw : OwnM X (w.heap.size + 3) 132 3 vw m W) (hd : ∀ k, vy.ownBlock = some k → vw.ownBlock ≠ some k) (_ : b < w.heap.size) :
    Ints ((X.setRow (w.heap.size + 2) cs).setCell ⟨w.heap.size + 2, 3, none⟩ vy) (b + 1) vy ys ∧ OwnM ((X.setRow (w.heap.size + 2) cs).setCell ⟨w.heap.size + 2, 3, none⟩ vy) w.heap.size 132 3 vw m W ∧ ∀ k, vy.ownBlock = some k → vw.ownBlock ≠ some k := by
  have kp : ∀ k, k ≠ w.heap.size + 2 → ((X.setRow (w.heap.size + 2) cs).setCell ⟨w.heap.size + 2, 3, none⟩ vy).heap[k]? = X.heap[k]? := fun k hk => (Below.heap_setCell _ ⟨w.heap.size + 2, 3, none⟩ _ k hk).trans (heap_setRow _ _ _ _ hk)
  have hi : OwnM X (b + 1) 2 1 vy ys.length ys := hl.2.2.2.1
  exact ⟨OwnM.keptB hi (fun k hk => kp k (fun e => ho.2.2.2 (by rw [← e]; exact hk))), OwnM.monoP (OwnM.kept hw fun g hg _ => kp g (by omega)) (by omega), hd⟩
set_option maxRecDepth 100000 in
set_option maxHeartbeats 4000000 in
theorem plan_is (L : Prs) (b rb mb : Nat) (vr : Value) (kd d n td tn vv : Int) (w : World) (h : Looks w b rb mb L [] vr) (hrs : Rises L) (hn : L.length ≤ 1000) (hfit : ∀ k, 0 ≤ (lookF L k).2 ∧ (lookF L k).2 ≤ 9999) (hkd : 1 ≤ kd ∧ kd ≤ 8) (hd : 0 ≤ d ∧ d ≤ 9) (hnm : 0 ≤ n ∧ n ≤ 5) (htd : 0 ≤ td ∧ td ≤ 9) (htn : 0 ≤ tn ∧ tn ≤ 5) (r v : Int) (ys : List Int) (m : Nat) (W : List Int) (hp : replyP L kd d n td tn vv = (r, v, ys, m, W)) :
    Calls Tryz.prog 79 #[.pointer (some ⟨b, 0, none⟩), .agg #[.int .i64 kd, .int .i64 d, .int .i64 n, .int .i64 td, .int .i64 tn, .int .i64 vv]] w (ToldP w b mb vr r v ys m W) := by
  have hmb : mb < w.heap.size := h.2.2.1.lt
  have hbw : b < w.heap.size := h.1.lt
  have hL3 : Looks (((w.alloc (ptrO b)).alloc (opO kd d n td tn vv)).alloc zeroPl) b rb mb L [] vr := ((h.alloc _).alloc _).alloc _
  have HC : Hid (Calls Tryz.prog 101 #[.pointer (some ⟨b, 0, none⟩), .agg #[.int .i64 kd, .int .i64 d, .int .i64 n, .int .i64 td, .int .i64 tn, .int .i64 vv]] (((w.alloc (ptrO b)).alloc (opO kd d n td tn vv)).alloc zeroPl) (PlanEnd (((w.alloc (ptrO b)).alloc (opO kd d n td tn vv)).alloc zeroPl) b rb mb L vr r v ys m W)) := compile_is L b rb mb vr kd d n td tn vv _ hL3 hrs hn hfit hkd hd hnm htd htn r v ys m W hp
  have HO : Hid ((Off (((w.alloc (ptrO b)).alloc (opO kd d n td tn vv)).alloc zeroPl) b mb vr w.heap.size ∧ Off (((w.alloc (ptrO b)).alloc (opO kd d n td tn vv)).alloc zeroPl) b mb vr (w.heap.size + 2)) ∧ Keeps w (((w.alloc (ptrO b)).alloc (opO kd d n td tn vv)).alloc zeroPl) b mb vr vr) := ⟨⟨h.off2 (Nat.le_refl _) (by simp; omega), h.off2 (by omega) (by simp)⟩, Keeps.below _ _ _ (below3 _ _ _ _)⟩
  have HP : Hid (PBk (((w.alloc (ptrO b)).alloc (opO kd d n td tn vv)).alloc zeroPl) (w.heap.size + 2) ∧ (((w.alloc (ptrO b)).alloc (opO kd d n td tn vv)).alloc zeroPl).cell? ⟨w.heap.size, 0, none⟩ = some (.pointer (some ⟨b, 0, none⟩))) := by
    refine ⟨?_, ?_⟩
    · have q := PBk.new ((w.alloc (ptrO b)).alloc (opO kd d n td tn vv)) (.int .i64 0) (.int .i64 0) (.int .i64 0) (.slice none 0 0) (.slice none 0 0)
      rwa [World.size_alloc, World.size_alloc] at q
    · exact (World.cell?_of_block (w := w.alloc (ptrO b)) (a := ⟨w.heap.size, 0, none⟩) (((below_alloc _ _).alloc (by simp) _).block w.heap.size (by simp))).trans (World.cell?_alloc_mark w _ _ _ 0)
  have hmf : ∀ (fn : Fn) (first cap : Array Value) (w : World), (Instr.makeFunc fn first cap).run Tryz.prog w = .ok (.func fn first cap) w := fun _ _ _ _ => rfl
  clear h hrs hfit hkd hd hnm htd htn hp hL3
  go_enter_defers Tryz.func79, Tryz.ntmps79
  go_wp2_with fail
  refine HC.out.mono ?_
  rintro e X ⟨vy, ⟨hl, hk⟩, ⟨rfl, vw, rfl, ho, hd⟩ | ⟨hr, rfl, rfl, rfl, rfl⟩⟩
  · obtain ⟨a1, a2, rfl⟩ := hl.2.2.2.1.form
    obtain ⟨a3, a4, rfl⟩ := OwnM.form ho
    have HX : Hid ((Looks X b rb mb L ys (.slice a1 ys.length a2) ∧ Keeps w X b mb vr (.slice a1 ys.length a2)) ∧ (PBk X (w.heap.size + 2) ∧ X.cell? ⟨w.heap.size, 0, none⟩ = some (.pointer (some ⟨b, 0, none⟩)) ∧ Off X b mb (.slice a1 ys.length a2) (w.heap.size + 2)) ∧ OwnM X (w.heap.size + 3) 132 3 (.slice a3 m a4) m W ∧ ∀ k, (Value.slice a1 ys.length a2).ownBlock = some k → (Value.slice a3 m a4).ownBlock ≠ some k) :=
      ⟨⟨hl, HO.out.2.trans hk⟩, ⟨HP.out.1.kept (hk.off HO.out.1.2).2, (World.cell?_of_block (a := ⟨w.heap.size, 0, none⟩) (hk.off HO.out.1.1).2).trans HP.out.2, (hk.off HO.out.1.2).1⟩, OwnM.monoP ho (by simp), hd⟩
    clear hl hk ho hd HC HO HP
    go_wp2_with (refine wpList_storeP rfl _ _ rfl (w.heap.size + 2) _ _ _ _ _ rfl rfl HX.out.2.1.1 (by kernel_rfl) ?_)
    have hbk := HX.out.2.1.1.blk (.int .i64 0) (.int .i64 0) (.int .i64 v) (.slice none 0 0) (.slice a3 m a4)
    refine leaves_cons (f := 100) (args := #[.pointer (some ⟨w.heap.size + 2, 0, none⟩), .pointer (some ⟨w.heap.size, 0, none⟩)]) (by simp) (by simp [go_sem]) ?_
    refine (catch_idle (w.heap.size + 2) w.heap.size b _ _ _ _ _ _ _ a1 ys.length a2 _ hbk ((World.cell?_of_block (w := X) (a := ⟨w.heap.size, 0, none⟩) (heap_setRow X _ _ _ (by first | omega | (simp; done) | (simp; omega)))).trans HX.out.2.1.2.1) (HX.out.1.1.1.kept (heap_setRow X _ _ _ (by omega)))).mono ?_
    rintro e u' w'' ⟨rfl, rfl, rfl⟩
    exact ⟨_, pl_results Tryz.results79 _ _ (w.heap.size + 2) _ _ _ _ _ rfl (hbk.set3 _), _, _, rfl, told_end HX.out.1.1 HX.out.2.1.2.2 HX.out.2.2.1 HX.out.2.2.2 (by omega), ((HX.out.1.2.offs (by rw [size_setRow]) (fun k hk => heap_setRow _ _ _ _ hk) ⟨rfl, rfl, rfl⟩ (by omega)).offs (by simp) (fun k hk => Below.heap_setCell _ ⟨w.heap.size + 2, 3, none⟩ _ k hk) ⟨rfl, rfl, rfl⟩ (by first | omega | (simp; done) | (simp; omega)))⟩
  · obtain ⟨a1, a2, rfl⟩ := hl.2.2.2.1.form
    have HX : Hid ((Looks X b rb mb L ys (.slice a1 ys.length a2) ∧ Keeps w X b mb vr (.slice a1 ys.length a2)) ∧ (PBk X (w.heap.size + 2) ∧ X.cell? ⟨w.heap.size, 0, none⟩ = some (.pointer (some ⟨b, 0, none⟩)) ∧ Off X b mb (.slice a1 ys.length a2) (w.heap.size + 2))) :=
      ⟨⟨hl, HO.out.2.trans hk⟩, ⟨HP.out.1.kept (hk.off HO.out.1.2).2, (World.cell?_of_block (a := ⟨w.heap.size, 0, none⟩) (hk.off HO.out.1.1).2).trans HP.out.2, (hk.off HO.out.1.2).1⟩⟩
    clear hl hk HC HO HP
    have hbk := HX.out.2.1.blk (.int .i64 0) (.int .i64 r) (.int .i64 0) (.slice none 0 0) (.slice none 0 0)
    refine leaves_cons (f := 100) (args := #[.pointer (some ⟨w.heap.size + 2, 0, none⟩), .pointer (some ⟨w.heap.size, 0, none⟩)]) (by simp) (by simp [go_sem]) ?_
    refine (catch_panicking (w.heap.size + 2) w.heap.size b _ _ a1 ys.length a2 r [] _ HX.out.2.1 HX.out.2.2.1 HX.out.1.1.1 (by omega) (by omega)).mono ?_
    rintro e u' w'' ⟨rfl, rfl, rfl⟩
    exact ⟨_, pl_results Tryz.results79 _ _ (w.heap.size + 2) _ _ _ _ _ rfl (hbk.set3 _), _, _, rfl, told_end HX.out.1.1 HX.out.2.2.2 (OwnM.nil _ _ _ _) (fun k _ e => by cases e) (by omega), ((HX.out.1.2.offs (by rw [size_setRow]) (fun k hk => heap_setRow _ _ _ _ hk) ⟨rfl, rfl, rfl⟩ (by omega)).offs (by simp) (fun k hk => Below.heap_setCell _ ⟨w.heap.size + 2, 3, none⟩ _ k hk) ⟨rfl, rfl, rfl⟩ (by first | omega | (simp; done) | (simp; omega)))⟩
end Go.Proofs.YtnchaccgenfhoaaGreat

namespace Go.Proofs.YtnchaccgenfhoaaGreat
open Go.RowKit

/-- The box of the operation and that of the plan. -/
def Bxo (w : World) (kd d nm td tn vv : Int) (X : World) : Prop := opB X w.heap.size kd d nm td tn vv ∧ PBk X (w.heap.size + 1)
theorem Bxo.later {w X X' : World} {kd d nm td tn vv : Int} (h : Bxo w kd d nm td tn vv X) (hb : Below X.heap.size X X') : Bxo w kd d nm td tn vv X' := ⟨h.1.later hb, h.2.later hb⟩
theorem Bxo.drew {w X : World} {kd d nm td tn vv : Int} (h : Bxo w kd d nm td tn vv X) : Bxo w kd d nm td tn vv X.drew := h.later ⟨rfl, rfl, rfl, Nat.le_refl _, fun _ _ => rfl⟩
theorem Bxo.new (w : World) (kd d nm td tn vv : Int) : Bxo w kd d nm td tn vv ((w.alloc (opO kd d nm td tn vv)).alloc zeroPl) := by
  refine ⟨(Blk6.new w _ _ _ _ _ _ _).alloc _, ?_⟩
  have q := PBk.new (w.alloc (opO kd d nm td tn vv)) (.int .i64 0) (.int .i64 0) (.int .i64 0) (.slice none 0 0) (.slice none 0 0)
  rwa [World.size_alloc] at q
theorem Bxo.rowed {w X : World} {kd d nm td tn vv : Int} (h : Bxo w kd d nm td tn vv X) (cs : Array Value) (hcs : cs.size = 5) : Bxo w kd d nm td tn vv (X.setRow (w.heap.size + 1) cs) := by
  refine ⟨h.1.kept (heap_setRow _ _ _ _ (by omega)), ?_⟩
  obtain ⟨old, hg, _⟩ := h.2
  exact ⟨cs, by simp [World.setRow, Array.getElem?_modify, hg], hcs⟩
theorem plan_kept {X : World} {B g : Nat} {xs W : List Int} {m : Nat} {vr vw : Value} {cs : Array Value} (h : PlanAt X B xs m W vr vw) (h1 : ∀ k, vr.ownBlock = some k → k ≠ g) (h2 : ∀ k, vw.ownBlock = some k → k ≠ g) : PlanAt (X.setRow g cs) B xs m W vr vw := by
  have hi : OwnM X B 2 1 vr xs.length xs := h.1
  exact ⟨OwnM.keptB hi (fun k hk => heap_setRow _ _ _ _ (h1 k hk)), OwnM.keptB h.2.1 (fun k hk => heap_setRow _ _ _ _ (h2 k hk)), h.2.2⟩
set_option maxRecDepth 100000 in
set_option maxHeartbeats 4000000 in
theorem implCompile_is (y : Value) (B n : Nat) (F : Nat → Int) (kd d nm td tn vv c : Int) (p : PRf) (w : World) (h : Row w B 2 n F y) (hn : n ≤ 1048576) (ha : CompAns n F kd d nm td tn vv c p) :
    Calls Tryz.prog 50 #[y, .agg #[.int .i64 kd, .int .i64 d, .int .i64 nm, .int .i64 td, .int .i64 tn, .int .i64 vv]] w (ResPlan w c p.1 p.2.1 p.2.2.1 p.2.2.2.1 p.2.2.2.2) := by
  have H : Hid (Row w B 2 n F y) := h
  clear h
  rcases ha with ⟨h1, rfl, rfl⟩ | ⟨h1, h2, rfl, rfl⟩ | ⟨h1, h2, rfl, rfl⟩
  · obtain ⟨f, hf⟩ : ∃ f, pairsF F n 0 = f := ⟨_, rfl⟩
    have HF : Hid (pairsF F n 0 = f ∧ True) := ⟨hf, trivial⟩
    have dd : (f != 0) = true := bne_iff_ne.2 (by rw [← hf]; exact h1)
    rw [hf]
    clear h1 hf
    go_enter Tryz.func50, Tryz.ntmps50
    go_wp2_with fail
    refine (implPairs_any _ B n F _ ((H.out.alloc _).alloc _) hn).mono ?_
    rintro e w1 ⟨rfl, q1⟩
    rw [HF.out.1]
    have H1 : Hid (Bxo w kd d nm td tn vv w1 ∧ Below w.heap.size w w1) := ⟨(Bxo.new w kd d nm td tn vv).later q1, ((below_alloc _ _).alloc (by simp) _).trans (q1.mono (by simp; omega))⟩
    clear q1
    go_wp2_with (refine wpList_storeP rfl _ _ rfl (w.heap.size + 1) _ _ _ _ _ rfl rfl H1.out.1.2 (by kernel_rfl) ?_)
    exact bodyPost_ret (v := .agg #[.int .i64 f, .int .i64 0, .int .i64 0, .slice none 0 0, .slice none 0 0]) (results_pl Tryz.results50 _ _ _ _ _ _ _ _ rfl H1.out.1.2) rfl ⟨_, _, rfl, ⟨Ints.nil _ _, OwnM.nil _ _ _ _, fun k hk => by cases hk⟩, below_row H1.out.2 (by omega) _⟩
  · obtain ⟨f, hf⟩ : ∃ f, opF kd d nm td tn vv = f := ⟨_, rfl⟩
    have HF : Hid (pairsF F n 0 = 0 ∧ opF kd d nm td tn vv = f) := ⟨h1, hf⟩
    have dd : (f != 0) = true := bne_iff_ne.2 (by rw [← hf]; exact h2)
    rw [hf]
    clear h1 h2 hf
    go_enter Tryz.func50, Tryz.ntmps50
    go_wp2_with fail
    refine (implPairs_any _ B n F _ ((H.out.alloc _).alloc _) hn).mono ?_
    rintro e w1 ⟨rfl, q1⟩
    rw [HF.out.1]
    have H1 : Hid (Bxo w kd d nm td tn vv w1 ∧ Below w.heap.size w w1) := ⟨(Bxo.new w kd d nm td tn vv).later q1, ((below_alloc _ _).alloc (by simp) _).trans (q1.mono (by simp; omega))⟩
    clear q1
    obtain ⟨⟨o0, o1, o2, o3, o4, o5⟩, _⟩ := H1.out.1.1
    go_wp2_with fail
    refine (implFsOp_any kd d nm td tn vv _).mono ?_
    rintro e w2 ⟨rfl, q2⟩
    have H1' : Hid (Bxo w kd d nm td tn vv w2 ∧ Below w.heap.size w w2) := ⟨H1.out.1.later q2, H1.out.2.trans (q2.mono H1.out.2.size)⟩
    clear q2 H1 o0 o1 o2 o3 o4 o5
    have H1 := H1'
    clear H1'
    rw [HF.out.2]
    go_wp2_with (refine wpList_storeP rfl _ _ rfl (w.heap.size + 1) _ _ _ _ _ rfl rfl H1.out.1.2 (by kernel_rfl) ?_)
    exact bodyPost_ret (v := .agg #[.int .i64 f, .int .i64 0, .int .i64 0, .slice none 0 0, .slice none 0 0]) (results_pl Tryz.results50 _ _ _ _ _ _ _ _ rfl H1.out.1.2) rfl ⟨_, _, rfl, ⟨Ints.nil _ _, OwnM.nil _ _ _ _, fun k hk => by cases hk⟩, below_row H1.out.2 (by omega) _⟩
  · obtain ⟨q, hq⟩ : ∃ q, replyP (listOf F n) kd d nm td tn vv = q := ⟨_, rfl⟩
    obtain ⟨r, v, ys, m, W⟩ := q
    rw [hq]
    have HF : Hid (pairsF F n 0 = 0 ∧ opF kd d nm td tn vv = 0 ∧ replyP (listOf F n) kd d nm td tn vv = (r, v, ys, m, W)) := ⟨h1, h2, hq⟩
    have HOB : Hid _ := op_bounds h2
    clear h1 h2 hq
    go_enter Tryz.func50, Tryz.ntmps50
    go_wp2_with fail
    refine (implPairs_any _ B n F _ ((H.out.alloc _).alloc _) hn).mono ?_
    rintro e w1 ⟨rfl, q1⟩
    rw [HF.out.1]
    have H1 : Hid (Bxo w kd d nm td tn vv w1 ∧ Below w.heap.size w w1) := ⟨(Bxo.new w kd d nm td tn vv).later q1, ((below_alloc _ _).alloc (by simp) _).trans (q1.mono (by simp; omega))⟩
    clear q1
    obtain ⟨⟨o0, o1, o2, o3, o4, o5⟩, _⟩ := H1.out.1.1
    go_wp2_with fail
    refine (implFsOp_any kd d nm td tn vv _).mono ?_
    rintro e w2 ⟨rfl, q2⟩
    have H1' : Hid (Bxo w kd d nm td tn vv w2 ∧ Below w.heap.size w w2) := ⟨H1.out.1.later q2, H1.out.2.trans (q2.mono H1.out.2.size)⟩
    clear q2 H1 o0 o1 o2 o3 o4 o5
    have H1 := H1'
    clear H1'
    rw [HF.out.2.1]
    go_upto_region 7 with fail
    refine wp_region_held_drew (S := Bxo w kd d nm td tn vv) (by kernel_rfl) H1.out.1.drew (fun hS => ?_)
    have HB2 : Hid (Below w.heap.size w w2.drew) := H1.out.2.drew
    clear H1
    generalize w2.drew = w2 at HB2 hS ⊢
    refine tkH 0 ?_ hS (fun wx hx => ?_) ?_; rotate_left
    · obtain ⟨⟨⟨hx0, hx1, hx2, hx3, hx4, hx5⟩, _⟩, _⟩ := hx; go_simp; try with_reducible rfl
    refine tkH 2 ?_ hS (fun wx hx => ?_) ?_; rotate_left
    · obtain ⟨⟨⟨hx0, hx1, hx2, hx3, hx4, hx5⟩, _⟩, _⟩ := hx; go_simp; try with_reducible rfl
    refine rdH 1 (fun K hK => ?_)
    go_simp
    go_wp2_with fail
    refine (lookAt_is (listOf F n) y B _ (row_list (H.out.later HB2.out)) (pairs_rise HF.out.1).1 (by rw [listOf_length]; have := (pairs_rise HF.out.1).2; omega)).mono ?_
    rintro e w3 ⟨b, rb, mb, rfl, l3, hrb, q3⟩
    have hS3 := hS.later q3
    have H3 : Hid (Looks w3 b rb mb (listOf F n) [] (.slice none 0 0) ∧ w2.heap.size ≤ rb ∧ Below w.heap.size w w3 ∧ w.heap.size + 1 < w2.heap.size) := ⟨l3, hrb, HB2.out.trans (q3.mono HB2.out.size), hS.2.lt⟩
    clear l3 hrb q3 HB2 hS
    go_wp2_with fail
    refine hK.out _ _ hS3 (fun hS => ?_)
    clear hK K
    clear hS3
    refine rdH 3 (fun K hK => ?_)
    go_simp
    go_wp2_with fail
    refine (plan_is (listOf F n) b rb mb _ kd d nm td tn vv _ H3.out.1 (pairs_rise HF.out.1).1 (by rw [listOf_length]; have := (pairs_rise HF.out.1).2; omega) (look_fits HF.out.1) HOB.out.1 HOB.out.2.1 HOB.out.2.2.1 HOB.out.2.2.2.1 HOB.out.2.2.2.2 r v ys m W HF.out.2.2).mono ?_
    rintro e w4 ⟨vy, vw, rfl, hA, k4⟩
    have hord := H3.out.1.2.2.2.2
    have hof : ∀ k, k < w2.heap.size → Off w3 b mb (.slice none 0 0) k := fun k hk => ⟨by have := H3.out.1.1.lt; have := H3.out.2.1; omega, by have := H3.out.2.1; omega, by have := H3.out.2.1; omega, fun e => by cases e⟩
    have hS4 : Bxo w kd d nm td tn vv w4 := ⟨hS.1.kept (k4.off (hof _ (by have := H3.out.2.2.2; omega))).2, hS.2.kept (k4.off (hof _ (by have := H3.out.2.2.2; omega))).2⟩
    have hB4 : Below w.heap.size w w4 := H3.out.2.2.1.trans (k4.toBelow H3.out.2.2.1.size (by have := H3.out.2.1; have := H3.out.2.2.2; omega) (by have := H3.out.2.1; have := H3.out.2.2.2; omega) (fun k hk => by cases hk))
    have hP4 : PlanAt w4 (w.heap.size + 2) ys m W vy vw := ⟨hA.1.mono (by have := H3.out.2.1; have := H3.out.2.2.2; omega), OwnM.monoP hA.2.1 (by have := H3.out.2.1; have := H3.out.2.2.2; have := H3.out.1.1.lt; omega), hA.2.2⟩
    obtain ⟨⟨a1, a2, rfl⟩, ⟨a3, a4, rfl⟩⟩ := hP4.form
    have H4 : Hid (Below w.heap.size w w4 ∧ PlanAt w4 (w.heap.size + 2) ys m W (.slice a1 ys.length a2) (.slice a3 m a4)) := ⟨hB4, hP4⟩
    clear hA k4 hord hof hB4 hP4 hS H3
    go_wp2_with fail
    refine hK.out _ _ hS4 (fun hS => ?_)
    clear hK K
    clear hS4
    refine rdH 4 (fun K hK => ?_)
    refine step_storeP rfl _ _ rfl (w.heap.size + 1) _ _ _ _ _ rfl rfl hS.2 (by kernel_rfl) ?_
    have HS5 : Hid (PBk w4 (w.heap.size + 1)) := hS.2
    have hS5 := hS.rowed #[.int .i64 0, .int .i64 r, .int .i64 v, .slice a1 ys.length a2, .slice a3 m a4] rfl
    clear hS
    refine hK.out _ _ hS5 (fun hS => ?_)
    clear hK K
    clear hS5
    refine wpAnyH_done (by kernel_rfl) ?_ _
    go_simp
    go_wp2
    exact bodyPost_ret (v := .agg #[.int .i64 0, .int .i64 r, .int .i64 v, .slice a1 ys.length a2, .slice a3 m a4]) (results_pl Tryz.results50 _ _ _ _ _ _ _ _ rfl HS5.out) rfl ⟨_, _, rfl, PlanAt.up (plan_kept H4.out.2 (fun k hk => by have := (H4.out.2.1.lt k hk).1; omega) (fun k hk => by have := (OwnM.block H4.out.2.2.1 k hk).1; omega)) (by omega), below_row H4.out.1 (by omega) _⟩
end Go.Proofs.YtnchaccgenfhoaaGreat

namespace Go.Proofs.YtnchaccgenfhoaaGreat
open Go.RowKit

def partK (key : Int) : Int := if faultOf key = 0 then kindAt key else 0
def partA (key : Int) : Int := if faultOf key = 0 then (if kindAt key = 2 then (key - 20) / 10 else key - firstAt key) else 0
def partB (key : Int) : Int := if faultOf key = 0 then (if kindAt key = 2 then key % 10 else 0) else 0
theorem parts_bad {key : Int} (h : faultOf key ≠ 0) : partK key = 0 ∧ partA key = 0 ∧ partB key = 0 := by
  unfold partK partA partB; rw [if_neg h, if_neg h, if_neg h]; exact ⟨rfl, rfl, rfl⟩
theorem parts_ok {key : Int} (h : faultOf key = 0) : partK key = kindAt key ∧ partA key = (if kindAt key = 2 then (key - 20) / 10 else key - firstAt key) ∧ partB key = (if kindAt key = 2 then key % 10 else 0) := by
  unfold partK partA partB; rw [if_pos h, if_pos h, if_pos h]; exact ⟨rfl, rfl, rfl⟩
theorem fault_zero {key : Int} (h : faultOf key = 0) : key = 0 ∨ (10 ≤ key ∧ key ≤ 19) ∨ (180 ≤ key ∧ key ≤ 189) ∨ (20 ≤ key ∧ key ≤ 119 ∧ key % 10 ≤ 5) := by
  apply Classical.byContradiction; intro hn
  by_cases h1 : key < 0 ∨ 199 < key
  · rw [faultOf_range h1] at h; omega
  · rw [faultOf_form (by omega) (by omega) hn] at h; omega
/-- The ways of a key: it has a fault, or it is of one of the four kinds. -/
theorem parts_ways (key : Int) :
    (faultOf key ≠ 0 ∧ partK key = 0 ∧ partA key = 0 ∧ partB key = 0)
    ∨ (key = 0 ∧ faultOf key = 0 ∧ partK key = 0 ∧ partA key = 0 ∧ partB key = 0)
    ∨ (10 ≤ key ∧ key ≤ 19 ∧ faultOf key = 0 ∧ partK key = 1 ∧ partA key = key - 10 ∧ partB key = 0)
    ∨ (20 ≤ key ∧ key ≤ 119 ∧ key % 10 ≤ 5 ∧ faultOf key = 0 ∧ partK key = 2 ∧ partA key = (key - 20) / 10 ∧ partB key = key % 10)
    ∨ (180 ≤ key ∧ key ≤ 189 ∧ faultOf key = 0 ∧ partK key = 3 ∧ partA key = key - 180 ∧ partB key = 0) := by
  by_cases h : faultOf key = 0
  · right
    obtain ⟨hk, ha, hb⟩ := parts_ok h
    rcases fault_zero h with rfl | ⟨h1, h2⟩ | ⟨h1, h2⟩ | ⟨h1, h2, h3⟩
    · obtain ⟨e1, e2⟩ := kindAt_0 (key := 0) (by omega)
      rw [e1] at hk; rw [e1, if_neg (by omega), e2] at ha; rw [e1, if_neg (by omega)] at hb
      exact Or.inl ⟨rfl, h, hk, ha, hb⟩
    · obtain ⟨e1, e2⟩ := kindAt_1 h1 (by omega)
      rw [e1] at hk; rw [e1, if_neg (by omega), e2] at ha; rw [e1, if_neg (by omega)] at hb
      exact Or.inr (Or.inl ⟨h1, h2, h, hk, ha, hb⟩)
    · obtain ⟨e1, e2⟩ := kindAt_3 h1
      rw [e1] at hk; rw [e1, if_neg (by omega), e2] at ha; rw [e1, if_neg (by omega)] at hb
      exact Or.inr (Or.inr (Or.inr ⟨h1, h2, h, hk, ha, hb⟩))
    · obtain ⟨e1, e2⟩ := kindAt_2 h1 (by omega)
      rw [e1] at hk; rw [e1, if_pos rfl] at ha; rw [e1, if_pos rfl] at hb
      exact Or.inr (Or.inr (Or.inl ⟨h1, h2, h3, h, hk, ha, hb⟩))
  · exact Or.inl ⟨h, parts_bad h⟩

/-- What both answer. -/
def partsVal (key : Int) : Value := .agg #[.int .i64 (faultOf key), .int .i64 (partK key), .int .i64 (partA key), .int .i64 (partB key)]
def partsObj (key : Int) : Obj := .cells #[.int .i64 (faultOf key), .int .i64 (partK key), .int .i64 (partA key), .int .i64 (partB key)] 97

set_option maxHeartbeats 1000000 in
theorem implPartsOf_any (key : Int) (w : World) :
    Calls Tryz.prog 64 #[.int .i64 key] w fun e w' => e = .returned (partsVal key) ∧ w' = w.alloc (partsObj key) := by
  unfold partsVal partsObj
  rcases parts_ways key with ⟨h, e1, e2, e3⟩ | ⟨rfl, h, e1, e2, e3⟩ | ⟨h1, h2, h, e1, e2, e3⟩ | ⟨h1, h2, h3, h, e1, e2, e3⟩ | ⟨h1, h2, h, e1, e2, e3⟩
  · rw [e1, e2, e3]; clear e1 e2 e3
    have hF := fun w => keyFault_any key w
    generalize faultOf key = c at *
    have HF : Hid (∀ w, Calls Tryz.prog 62 #[.int .i64 key] w fun e w' => e = .returned (.int .i64 c) ∧ w' = w) := hF
    clear hF
    have d : (c != 0) = true := by rw [bne_iff_ne]; exact h
    go_enter Tryz.func64, Tryz.ntmps64
    go_wp2_with fail
    refine (HF.out _).mono ?_
    rintro e w' ⟨rfl, rfl⟩
    go_wp2
    exact bodyPost_ret (v := .agg #[.int .i64 c, .int .i64 0, .int .i64 0, .int .i64 0]) (by simp [results, Tryz.results64, go_sem]) rfl ⟨rfl, rfl⟩
  · have HE := kindAt_0 (key := 0) (by omega)
    rw [e1, e2, e3, h]; clear e1 e2 e3
    have HF : Hid (∀ w, Calls Tryz.prog 62 #[.int .i64 0] w fun e w' => e = .returned (.int .i64 0) ∧ w' = w) := fun w => by have := keyFault_any 0 w; rw [h] at this; exact this
    clear h
    go_enter Tryz.func64, Tryz.ntmps64
    go_wp2_with fail
    refine (HF.out _).mono ?_
    rintro e w' ⟨rfl, rfl⟩
    go_wp2_with fail
    refine (tellKey_any _ _ (by omega) (by omega)).mono ?_
    rintro e w' ⟨rfl, rfl⟩
    rw [HE.1, HE.2]; clear HE
    go_wp2_with fail
    refine (partsTold_other _ _ _ (by omega) (by omega) rfl (by omega) (by omega)).mono ?_
    rintro e w' ⟨rfl, rfl⟩
    go_wp2
    exact bodyPost_ret (v := .agg #[.int .i64 0, .int .i64 0, .int .i64 0, .int .i64 0]) (by simp [results, Tryz.results64, go_sem]) rfl ⟨rfl, rfl⟩
  · have HE := kindAt_1 h1 (by omega)
    rw [e1, e2, e3, h]; clear e1 e2 e3
    have HF : Hid (∀ w, Calls Tryz.prog 62 #[.int .i64 key] w fun e w' => e = .returned (.int .i64 0) ∧ w' = w) := fun w => by have := keyFault_any key w; rw [h] at this; exact this
    clear h
    go_enter Tryz.func64, Tryz.ntmps64
    go_wp2_with fail
    refine (HF.out _).mono ?_
    rintro e w' ⟨rfl, rfl⟩
    go_wp2_with fail
    refine (tellKey_any _ _ (by omega) (by omega)).mono ?_
    rintro e w' ⟨rfl, rfl⟩
    rw [HE.1, HE.2]; clear HE
    go_wp2_with fail
    refine (partsTold_other _ _ _ (by omega) (by omega) rfl (by omega) (by omega)).mono ?_
    rintro e w' ⟨rfl, rfl⟩
    go_wp2
    exact bodyPost_ret (v := .agg #[.int .i64 0, .int .i64 1, .int .i64 (key - 10), .int .i64 0]) (by simp [results, Tryz.results64, go_sem]) rfl ⟨rfl, rfl⟩
  · have HE := kindAt_2 h1 (by omega)
    have em : (key - 20) % 10 = key % 10 := by omega
    have Hem : Hid ((key - 20) % 10 = key % 10) := em
    clear em
    rw [e1, e2, e3, h]; clear e1 e2 e3
    have HF : Hid (∀ w, Calls Tryz.prog 62 #[.int .i64 key] w fun e w' => e = .returned (.int .i64 0) ∧ w' = w) := fun w => by have := keyFault_any key w; rw [h] at this; exact this
    clear h
    go_enter Tryz.func64, Tryz.ntmps64
    go_wp2_with fail
    refine (HF.out _).mono ?_
    rintro e w' ⟨rfl, rfl⟩
    go_wp2_with fail
    refine (tellKey_any _ _ (by omega) (by omega)).mono ?_
    rintro e w' ⟨rfl, rfl⟩
    rw [HE.1, HE.2]; clear HE
    go_wp2_with fail
    refine (partsTold_entry _ _ (by omega) (by omega)).mono ?_
    rintro e w' ⟨rfl, rfl⟩
    rw [Hem.out]; clear Hem
    go_wp2
    exact bodyPost_ret (v := .agg #[.int .i64 0, .int .i64 2, .int .i64 ((key - 20) / 10), .int .i64 (key % 10)]) (by simp [results, Tryz.results64, go_sem]) rfl ⟨rfl, rfl⟩
  · have HE := kindAt_3 h1
    rw [e1, e2, e3, h]; clear e1 e2 e3
    have HF : Hid (∀ w, Calls Tryz.prog 62 #[.int .i64 key] w fun e w' => e = .returned (.int .i64 0) ∧ w' = w) := fun w => by have := keyFault_any key w; rw [h] at this; exact this
    clear h
    go_enter Tryz.func64, Tryz.ntmps64
    go_wp2_with fail
    refine (HF.out _).mono ?_
    rintro e w' ⟨rfl, rfl⟩
    go_wp2_with fail
    refine (tellKey_any _ _ (by omega) (by omega)).mono ?_
    rintro e w' ⟨rfl, rfl⟩
    rw [HE.1, HE.2]; clear HE
    go_wp2_with fail
    refine (partsTold_other _ _ _ (by omega) (by omega) rfl (by omega) (by omega)).mono ?_
    rintro e w' ⟨rfl, rfl⟩
    go_wp2
    exact bodyPost_ret (v := .agg #[.int .i64 0, .int .i64 3, .int .i64 (key - 180), .int .i64 0]) (by simp [results, Tryz.results64, go_sem]) rfl ⟨rfl, rfl⟩
end Go.Proofs.YtnchaccgenfhoaaGreat

namespace Go.Proofs.YtnchaccgenfhoaaGreat
open Go.RowKit

/-- The entries of a view: of which directory each is, and what hangs there. -/
def lnkL : Prs → Prs
  | [] => []
  | e :: t => (if partK e.1 = 2 then [(partA e.1, e.2)] else []) ++ lnkL t
/-- Those of one inode. -/
def toL (K : Prs) (a : Int) : Prs := K.filter fun l => l.2 == a
def linkN (L : Prs) (a : Int) : Nat := (toL (lnkL L) a).length
theorem lnkL_append : ∀ (L M : Prs), lnkL (L ++ M) = lnkL L ++ lnkL M
  | [], _ => rfl
  | e :: t, M => by simp only [List.cons_append, lnkL, lnkL_append t M, List.append_assoc]
theorem lnkL_len : ∀ (L : Prs), (lnkL L).length ≤ L.length
  | [] => Nat.le_refl _
  | e :: t => by
    have := lnkL_len t
    simp only [lnkL, List.length_append, List.length_cons]
    split <;> simp <;> omega
theorem toL_len (K : Prs) (a : Int) : (toL K a).length ≤ K.length := List.length_filter_le _ _
theorem take_snoc {L : Prs} {k : Nat} (hk : k < L.length) : L.take (k + 1) = L.take k ++ [L.getD k (0, 0)] := by
  rw [List.take_add_one, List.getD_eq_getElem?_getD, List.getElem?_eq_getElem hk]
  rfl
theorem lnk_step {L : Prs} {k : Nat} (hk : k < L.length) {n0 n1 : Int} (h0 : (L.getD k (0, 0)).1 = n0) (h1 : (L.getD k (0, 0)).2 = n1) : lnkL (L.take (k + 1)) = lnkL (L.take k) ++ (if partK n0 = 2 then [(partA n0, n1)] else []) := by
  rw [take_snoc hk, lnkL_append, ← h0, ← h1]
  simp only [lnkL, List.append_nil]
theorem linkN_step {L : Prs} {k : Nat} (hk : k < L.length) {n0 n1 : Int} (h0 : (L.getD k (0, 0)).1 = n0) (h1 : (L.getD k (0, 0)).2 = n1) (a : Int) : linkN (L.take (k + 1)) a = linkN (L.take k) a + (if partK n0 = 2 ∧ n1 = a then 1 else 0) := by
  unfold linkN
  rw [lnk_step hk h0 h1]
  unfold toL
  rw [List.filter_append, List.length_append]
  congr 1
  by_cases h : partK n0 = 2
  · by_cases h2 : n1 = a
    · rw [if_pos h, if_pos ⟨h, h2⟩]; simp [h2]
    · rw [if_pos h, if_neg (fun q => h2 q.2)]; simp [h2]
  · rw [if_neg h, if_neg (fun q => h q.1)]; rfl
theorem linkN_take (L : Prs) (a : Int) : linkN (L.take L.length) a = linkN L a := by rw [List.take_length]
/-- All keys of a list are keys. -/
def KeysOk (L : Prs) : Prop := ∀ k, k < L.length → faultOf (L.getD k (0, 0)).1 = 0
theorem pairs_keys {F : Nat → Int} {n : Nat} (h : pairsF F n 0 = 0) : KeysOk (listOf F n) := fun k hk => by
  rw [listOf_length] at hk
  rw [listOf_get hk]
  have := pairsF_all h k hk
  rw [Nat.zero_add] at this
  exact (pairF_zero this).1
set_option maxHeartbeats 1000000 in
theorem l1Parts_is (key : Int) (hf : faultOf key = 0) (w : World) :
    Calls Tryz.prog 57 #[.int .i64 key] w fun e w' => e = .returned (.tuple #[.int .i64 (partK key), .int .i64 (partA key), .int .i64 (partB key)]) ∧ w' = w := by
  rcases parts_ways key with ⟨h, e1, e2, e3⟩ | ⟨rfl, h, e1, e2, e3⟩ | ⟨h1, h2, h, e1, e2, e3⟩ | ⟨h1, h2, h3, h, e1, e2, e3⟩ | ⟨h1, h2, h, e1, e2, e3⟩
  · exact absurd hf h
  · rw [e1, e2, e3]; clear e1 e2 e3 hf h
    go_enter Tryz.func57, Tryz.ntmps57
    go_wp2
    go_ret3
    exact ⟨rfl, rfl⟩
  · rw [e1, e2, e3]; clear e1 e2 e3 hf h
    have d0 : (key == 0) = false := beq_eq_false_iff_ne.2 (by omega)
    have d1 : decide (key < 20) = true := decide_eq_true (by omega)
    go_enter Tryz.func57, Tryz.ntmps57
    go_wp2
    go_ret3
    exact ⟨rfl, rfl⟩
  · rw [e1, e2, e3]; clear e1 e2 e3 hf h h3
    have d0 : (key == 0) = false := beq_eq_false_iff_ne.2 (by omega)
    have d1 : decide (key < 20) = false := decide_eq_false (by omega)
    have d2 : decide (key < 180) = true := decide_eq_true (by omega)
    go_enter Tryz.func57, Tryz.ntmps57
    go_wp2
    go_ret3
    exact ⟨rfl, rfl⟩
  · rw [e1, e2, e3]; clear e1 e2 e3 hf h
    have d0 : (key == 0) = false := beq_eq_false_iff_ne.2 (by omega)
    have d1 : decide (key < 20) = false := decide_eq_false (by omega)
    have d2 : decide (key < 180) = false := decide_eq_false (by omega)
    go_enter Tryz.func57, Tryz.ntmps57
    go_wp2
    go_ret3
    exact ⟨rfl, rfl⟩
set_option maxRecDepth 100000 in
set_option maxHeartbeats 2000000 in
theorem l14Links_is (L : Prs) (v : Value) (B : Nat) (a : Int) (w : World) (h : Row w B 2 L.length (rowL L) v) (hn : L.length ≤ 1000) (hf : KeysOk L) :
    Calls Tryz.prog 84 #[v, .int .i64 a] w fun e w' => e = .returned (.int .i64 (linkN L a)) ∧ w' = w := by
  obtain ⟨ao, cp, rfl⟩ := h.form
  have H : Hid (Row w B 2 L.length (rowL L) (.slice ao L.length cp) ∧ KeysOk L) := ⟨h, hf⟩
  clear h hf
  go_enter Tryz.func84, Tryz.ntmps84
  go_wp2
  go_loopw [5, 6] (fun n i wr => ∃ k c : Nat, k ≤ L.length ∧ i = .int .i64 k ∧ n = .int .i64 c ∧ c ≤ k ∧ Hid (linkN (L.take k) a = c) ∧ wr = w) (fun _ i _ => L.length - (intOf i).toNat)
  case atStart => exact ⟨0, 0, Nat.zero_le _, rfl, rfl, Nat.le_refl _, rfl, rfl⟩
  case round =>
    obtain ⟨k, c, hk, rfl, rfl, hc, HC, rfl⟩ := hrel
    by_cases hlt : k < L.length
    case neg =>
      obtain rfl : k = L.length := by omega
      have HE : Hid (linkN L a = c) := (linkN_take L a).symm.trans HC.out
      clear HC
      go_wp2
      go_ret
      rw [HE.out]
      exact ⟨rfl, rfl⟩
    obtain ⟨g, o, hao, _, hg, y0, y1⟩ := H.out.1.at2 hlt
    subst hao
    rw [rowL_key] at y0
    rw [rowL_val] at y1
    obtain ⟨n0, N0⟩ : ∃ x, (L.getD k (0, 0)).1 = x := ⟨_, rfl⟩
    rw [N0] at y0
    obtain ⟨n1, N1⟩ : ∃ x, (L.getD k (0, 0)).2 = x := ⟨_, rfl⟩
    rw [N1] at y1
    have HF : Hid (faultOf n0 = 0) := by have := H.out.2 k hlt; rwa [N0] at this
    obtain ⟨s, hs⟩ : ∃ s, linkN (L.take (k + 1)) a = s := ⟨_, rfl⟩
    have HS : Hid (linkN (L.take (k + 1)) a = s) := hs
    have hst := linkN_step hlt N0 N1 a
    rw [hs, HC.out] at hst
    obtain ⟨kk, hkk⟩ : ∃ x, partK n0 = x := ⟨_, rfl⟩
    obtain ⟨ka, hka⟩ : ∃ x, partA n0 = x := ⟨_, rfl⟩
    obtain ⟨kb, hkb⟩ : ∃ x, partB n0 = x := ⟨_, rfl⟩
    have HK : Hid (partK n0 = kk ∧ partA n0 = ka ∧ partB n0 = kb) := ⟨hkk, hka, hkb⟩
    rw [hkk] at hst
    clear hs N0 N1 hkk hka hkb HC
    have hsk : s ≤ k + 1 := by rw [hst]; split <;> omega
    by_cases h2 : kk = 2
    · by_cases h3 : n1 = a
      · obtain rfl : s = c + 1 := by rw [hst, if_pos ⟨h2, h3⟩]
        clear hst
        subst h2
        have d2 : (n1 == a) = true := beq_iff_eq.2 h3
        clear h3
        go_wp2_with fail
        refine (l1Parts_is n0 HF.out _).mono ?_
        rintro e w9 ⟨rfl, hw9⟩
        obtain rfl := hw9.symm
        rw [HK.out.1, HK.out.2.1, HK.out.2.2]
        go_wp2
        go_roundw
        case rel => exact ⟨k + 1, c + 1, by omega, by go_num, by go_num, by omega, HS, trivial⟩
        case measure => simp [intOf]; omega
      · obtain rfl : s = c := by rw [hst, if_neg (fun q => h3 q.2)]; rfl
        clear hst
        subst h2
        have d2 : (n1 == a) = false := beq_eq_false_iff_ne.2 h3
        clear h3
        go_wp2_with fail
        refine (l1Parts_is n0 HF.out _).mono ?_
        rintro e w9 ⟨rfl, hw9⟩
        obtain rfl := hw9.symm
        rw [HK.out.1, HK.out.2.1, HK.out.2.2]
        go_wp2
        go_roundw
        case rel => exact ⟨k + 1, s, by omega, by go_num, rfl, by omega, HS, trivial⟩
        case measure => simp [intOf]; omega
    · obtain rfl : s = c := by rw [hst, if_neg (fun q => h2 q.1)]; rfl
      clear hst
      have d2 : (kk == 2) = false := beq_eq_false_iff_ne.2 h2
      clear h2
      go_wp2_with fail
      refine (l1Parts_is n0 HF.out _).mono ?_
      rintro e w9 ⟨rfl, hw9⟩
      obtain rfl := hw9.symm
      rw [HK.out.1, HK.out.2.1, HK.out.2.2]
      go_wp2
      go_roundw
      case rel => exact ⟨k + 1, s, by omega, by go_num, rfl, by omega, HS, trivial⟩
      case measure => simp [intOf]; omega
end Go.Proofs.YtnchaccgenfhoaaGreat

namespace Go.Proofs.YtnchaccgenfhoaaGreat
open Go.RowKit

/-- Only a list of the caller's own has turned. -/
theorem Looks.grew {X X' : World} {b rb mb B : Nat} {L : Prs} {zs : List Int} {vz u : Value} (h : Looks X b rb mb L zs vz) (hl : ∀ k, u.ownBlock = some k → B ≤ k) (hb : b < B) (hd : ∀ k, vz.ownBlock = some k → u.ownBlock ≠ some k) (hk : ∀ k, k < X.heap.size → u.ownBlock ≠ some k → X'.heap[k]? = X.heap[k]?) : Looks X' b rb mb L zs vz := by
  have low : ∀ k, k < X.heap.size → k < B → X'.heap[k]? = X.heap[k]? := fun k h1 h2 => hk k h1 (fun e => by have := hl k e; omega)
  have hi : OwnM X (b + 1) 2 1 vz zs.length zs := h.2.2.2.1
  have ho := h.2.2.2.2
  exact ⟨h.1.kept (low b h.1.lt hb), h.2.1.kept (fun k h1 h2 => low k h1 (by omega)) ho.1, h.2.2.1.kept (low mb h.2.2.1.lt (by omega)), OwnM.keptB hi (fun k hq => hk k (OwnM.block hi k hq).2 (hd k hq)), ho⟩
theorem Blk2.set1E {x : World} {b : Nat} {a0 a1 : Value} (h : Blk2 x b a0 a1) (u : Value) : Blk2 (x.setCell ⟨b, 1, none⟩ u) b a0 u := by
  obtain ⟨⟨h0, h1⟩, f0, f1⟩ := h
  exact ⟨⟨(World.cell?_setCell_other _ _ _ _ (by simp)).trans h0, World.cell?_setCell_same _ _ _ h1⟩, by simpa using f0, by simpa using f1⟩
end Go.Proofs.YtnchaccgenfhoaaGreat

namespace Go.Proofs.YtnchaccgenfhoaaGreat
open Go.RowKit

theorem infoz_link : (Tryz.prog.info? 100).map (fun i => (i.zero, i.size, i.bytes)) = some (some (.agg #[.int .i64 0, .int .i64 0]), 2, 16) := by kernel_rfl
theorem Own.keptT {w w' : World} {B : Nat} {e : TypeId} {m n : Nat} {F : Nat → Int} {v : Value} (h : Own w B e m n F v) (hb : ∀ k, v.ownBlock = some k → w'.heap[k]? = w.heap[k]?) : Own w' B e m n F v := by
  refine ⟨h.1, ?_⟩
  rcases h.2 with q | ⟨g, cap, cur, rfl, hg, hw, r⟩
  · exact Or.inl q
  · exact Or.inr ⟨g, cap, cur, rfl, hg, (hb g rfl).trans hw, r⟩
/-- A view under way: how it is looked at, and its entries so far. -/
def HgE (w1 : World) (b rb mb : Nat) (L K : Prs) (lv : Value) (X : World) : Prop :=
  (Looks X b rb mb L [] (.slice none 0 0) ∧ b < w1.heap.size) ∧ Blk2 X w1.heap.size (.pointer (some ⟨b, 0, none⟩)) lv ∧ OwnM X (w1.heap.size + 1) 100 2 lv K.length (flatL K) ∧ Below w1.heap.size w1 X
theorem HgE.later {w1 X X' : World} {b rb mb : Nat} {L K : Prs} {lv : Value} (h : HgE w1 b rb mb L K lv X) (hb : Below X.heap.size X X') : HgE w1 b rb mb L K lv X' :=
  ⟨⟨h.1.1.later hb, h.1.2⟩, h.2.1.later hb, h.2.2.1.later hb, h.2.2.2.trans (hb.mono h.2.2.2.size)⟩
theorem HgE.app {w1 X w6 : World} {b rb mb : Nat} {L K : Prs} {ao ao1 : Option Addr} {cp cp1 : Nat} {a0 a1 : Int} (h : HgE w1 b rb mb L K (.slice ao K.length cp) X)
    (O6 : OwnM w6 (w1.heap.size + 1) 100 2 (.slice ao1 (K.length + 1) cp1) (K.length + 1) (flatL K ++ nums (fun p => [a0, a1].getD p 0) (1 * 2))) (G6 : X.grownBy w6 (Value.slice ao K.length cp).ownBlock) :
    Blk2 w6 w1.heap.size (.pointer (some ⟨b, 0, none⟩)) (.slice ao K.length cp) ∧ HgE w1 b rb mb L (K ++ [(a0, a1)]) (.slice ao1 (K.length + 1) cp1) (w6.setCell ⟨w1.heap.size, 1, none⟩ (.slice ao1 (K.length + 1) cp1)) := by
  obtain ⟨⟨h1, hb⟩, h2, h3, h4⟩ := h
  have hbb := h2.lt
  have kp : ∀ k, k < X.heap.size → (Value.slice ao K.length cp).ownBlock ≠ some k → w6.heap[k]? = X.heap[k]? := fun k hk hne => G6.block k hk (fun e => hne e.symm)
  have hB6 := h2.kept (kp _ hbb (fun e => by have := (h3.block _ e).1; omega))
  have ks : ∀ k, k ≠ w1.heap.size → (w6.setCell ⟨w1.heap.size, 1, none⟩ (.slice ao1 (K.length + 1) cp1)).heap[k]? = w6.heap[k]? := fun k hk => Below.heap_setCell w6 ⟨w1.heap.size, 1, none⟩ _ k hk
  have l6 : Looks w6 b rb mb L [] (.slice none 0 0) := h1.grew (B := w1.heap.size + 1) (fun k hk => (h3.block k hk).1) (by omega) (fun k hk => by cases hk) kp
  have l7 : Looks (w6.setCell ⟨w1.heap.size, 1, none⟩ (.slice ao1 (K.length + 1) cp1)) b rb mb L [] (.slice none 0 0) :=
    l6.grew (u := .slice (some ⟨w1.heap.size, 0, none⟩) 0 0) (B := w1.heap.size) (fun k hk => Nat.le_of_eq (Option.some.inj hk)) hb (fun k hk => by cases hk) (fun k _ hk => ks k (fun e => hk (by rw [e]; rfl)))
  refine ⟨hB6, ⟨l7, hb⟩, hB6.set1E _, ?_, h4.trans ⟨G6.os, G6.tape, G6.output, by simpa using G6.size, fun k hk => (ks k (by omega)).trans (kp k (by omega) (fun e => by have := (h3.block k e).1; omega))⟩⟩
  have e : nums (fun p => [a0, a1].getD p 0) (1 * 2) = [a0, a1] := rfl
  rw [e] at O6
  rw [List.length_append, flatL_append]
  exact OwnM.keptB O6 (fun k hk => ks k (by have := (OwnM.block O6 k hk).1; omega))
/-- What hangingIn answers. -/
def HangRes (w : World) (L : Prs) (e : Ending) (w' : World) : Prop :=
  ∃ b rb mb lv, e = .returned (.agg #[.pointer (some ⟨b, 0, none⟩), lv]) ∧ Looks w' b rb mb L [] (.slice none 0 0) ∧ OwnM w' (b + 1) 100 2 lv (lnkL L).length (flatL (lnkL L)) ∧ w.heap.size ≤ rb ∧ Below w.heap.size w w'
set_option maxRecDepth 100000 in
set_option maxHeartbeats 4000000 in
theorem hangingIn_is (L : Prs) (v : Value) (B : Nat) (w : World) (h : Row w B 2 L.length (rowL L) v) (hr : Rises L) (hn : L.length ≤ 800) (hf : KeysOk L) :
    Calls Tryz.prog 28 #[v] w (HangRes w L) := by
  obtain ⟨ao0, cp0, rfl⟩ := h.form
  have H : Hid (Row w B 2 L.length (rowL L) (.slice ao0 L.length cp0) ∧ Rises L ∧ KeysOk L) := ⟨h, hr, hf⟩
  obtain ⟨i0, hi, iz0, iz1, iz2⟩ := info_parts infoz_link
  clear h hr hf
  go_enter Tryz.func28, Tryz.ntmps28
  go_wp2_with fail
  refine (lookAt_is L _ B _ (H.out.1.alloc _) H.out.2.1 hn).mono ?_
  rintro e w1 ⟨b, rb, mb, rfl, hl, hrb, q1⟩
  have hbl : b < w1.heap.size := hl.1.lt
  have hrb' : w.heap.size < rb := by rw [World.size_alloc] at hrb; omega
  have HR1 : Hid (Blk2 w1 w.heap.size (.pointer none) (.slice none 0 0) ∧ Below w.heap.size w w1 ∧ w.heap.size < rb ∧ rb < mb ∧ mb < b) := ⟨(Blk2.new w _ _ _).later q1, (below_alloc _ _).trans (q1.mono (by simp)), hrb', hl.2.2.2.2.1, hl.2.2.2.2.2⟩
  have HE0 : Hid (HgE w1 b rb mb L [] (.slice none 0 0) (w1.alloc (.cells #[.pointer (some ⟨b, 0, none⟩), .slice none 0 0] 57))) := ⟨⟨hl.alloc _, hbl⟩, Blk2.new _ _ _ _, OwnM.nil _ _ _ _, below_alloc _ _⟩
  have HB : Hid (b < w1.heap.size) := hbl
  clear hl hrb hrb' q1 hbl
  go_wp2
  go_loopw [12] (fun i wr => ∃ (k : Nat) (ao : Option Addr) (cp : Nat) (K : Prs), k ≤ L.length ∧ i = .int .i64 k ∧ List.length K ≤ k ∧ Hid (lnkL (L.take k) = K ∧ HgE w1 b rb mb L K (.slice ao (List.length K) cp) wr)) (fun i _ => L.length - (intOf i).toNat)
  case atStart => exact ⟨0, none, 0, [], Nat.zero_le _, rfl, Nat.le_refl _, rfl, HE0.out⟩
  case round =>
    obtain ⟨k, ao, cp, K, hk, rfl, hK, HS⟩ := hrel
    have hz : Hid (w.heap.size < wr.heap.size ∧ w1.heap.size < wr.heap.size) := ⟨Nat.lt_of_lt_of_le HR1.out.1.lt HS.out.2.2.2.2.size, HS.out.2.2.1.lt⟩
    by_cases hlt : k < L.length
    case neg =>
      obtain rfl : k = L.length := by omega
      have HX : Hid (HgE w1 b rb mb L (lnkL L) (.slice ao K.length cp) wr) := by
        have e := HS.out.1
        rw [List.take_length] at e
        unfold Hid
        rw [e]
        exact HS.out.2
      have HQ : Hid (Blk2 wr w.heap.size (.pointer none) (.slice none 0 0) ∧ Below w.heap.size w wr) := ⟨HR1.out.1.kept (HS.out.2.2.2.2.block _ HR1.out.1.lt), HR1.out.2.1.trans (HS.out.2.2.2.2.mono HR1.out.2.1.size)⟩
      obtain ⟨⟨u0, u1⟩, v0, v1⟩ := HX.out.2.1
      obtain ⟨⟨x0, x1⟩, y0, y1⟩ := HQ.out.1
      have HP : Hid (_ ∧ _) := (Blk2.put (x := wr) (b := w.heap.size) ⟨⟨x0, x1⟩, y0, y1⟩ (.pointer (some ⟨b, 0, none⟩)) (.slice ao K.length cp)).1
      go_wp2
      refine bodyPost_ret (v := .agg #[.pointer (some ⟨b, 0, none⟩), .slice ao K.length cp]) (by simp [results, Tryz.results28, go_sem, HP.out.1, HP.out.2]) rfl ⟨b, rb, mb, _, rfl, ?_, ?_, by have := HR1.out.2.2.1; omega, (HQ.out.2.setCell (by simp) _).setCell (by simp) _⟩
      · have hk : ∀ q, q ≠ w.heap.size → ((wr.setCell ⟨w.heap.size, 0, none⟩ (.pointer (some ⟨b, 0, none⟩))).setCell ⟨w.heap.size, 1, none⟩ (.slice ao K.length cp)).heap[q]? = wr.heap[q]? := fun q hq => (Below.heap_setCell _ ⟨w.heap.size, 1, none⟩ _ q hq).trans (Below.heap_setCell _ ⟨w.heap.size, 0, none⟩ _ q hq)
        have hq := HR1.out.2.2
        obtain ⟨l1, l2, l3, l4, l5, l6⟩ := HX.out.1.1
        obtain ⟨vv, r1, r2, r3⟩ := l2
        refine ⟨l1.kept (hk b (by omega)), ⟨vv, r1.kept (hk rb (by omega)), Own.keptT r2 (fun q hqq => hk q (by have := (own_in r2 q hqq).1; omega)), r3⟩, l3.kept (hk mb (by omega)), Ints.nil _ _, l5, l6⟩
      · have e := HS.out.1
        rw [List.take_length] at e
        rw [e]
        have hi := HS.out.2.2.2.1
        have hq := HR1.out.2.2
        have hbb := HB.out
        exact OwnM.monoP (OwnM.keptB hi (fun q hqq => (Below.heap_setCell _ ⟨w.heap.size, 1, none⟩ _ q (by have := (OwnM.block hi q hqq).1; simp; omega)).trans (Below.heap_setCell _ ⟨w.heap.size, 0, none⟩ _ q (by have := (OwnM.block hi q hqq).1; simp; omega)))) (by omega)
    have HBW : Hid (Below w.heap.size w wr) := HR1.out.2.1.trans (HS.out.2.2.2.2.mono HR1.out.2.1.size)
    obtain ⟨g, o, hao, _, hg, y0, y1⟩ := (H.out.1.later HBW.out).at2 hlt
    subst hao
    rw [rowL_key] at y0
    rw [rowL_val] at y1
    obtain ⟨n0, N0⟩ : ∃ x, (L.getD k (0, 0)).1 = x := ⟨_, rfl⟩
    rw [N0] at y0
    obtain ⟨n1, N1⟩ : ∃ x, (L.getD k (0, 0)).2 = x := ⟨_, rfl⟩
    rw [N1] at y1
    have HF : Hid (faultOf n0 = 0) := by have := H.out.2.2 k hlt; rwa [N0] at this
    have hst := lnk_step hlt N0 N1
    rw [HS.out.1] at hst
    obtain ⟨kk, hkk⟩ : ∃ x, partK n0 = x := ⟨_, rfl⟩
    obtain ⟨ka, hka⟩ : ∃ x, partA n0 = x := ⟨_, rfl⟩
    rw [hkk, hka] at hst
    have HST : Hid (lnkL (L.take (k + 1)) = K ++ (if kk = 2 then [(ka, n1)] else [])) := hst
    have HK : Hid (partK n0 = kk ∧ partA n0 = ka) := ⟨hkk, hka⟩
    clear N0 N1 hst hkk hka
    go_wp2_with fail
    refine (implPartsOf_any n0 _).mono ?_
    rintro e w9 ⟨rfl, hw9⟩
    have HP5 : Hid (Blk2 w9 wr.heap.size (.int .i64 n0) (.int .i64 n1) ∧ Below wr.heap.size wr w9 ∧ w9.heap.size = wr.heap.size + 2) := by
      subst hw9
      exact ⟨(Blk2.new wr _ _ _).later (below_alloc _ _), (below_alloc _ _).trans ((below_alloc _ _).mono (by simp)), by simp⟩
    have HE5 : Hid (HgE w1 b rb mb L K (.slice ao K.length cp) w9) := HS.out.2.later HP5.out.2.1
    clear hw9 y0 y1
    unfold partsVal
    rw [HK.out.1, HK.out.2, HF.out]
    obtain ⟨⟨p0, p1⟩, _, _⟩ := HP5.out.1
    obtain ⟨⟨x0, x1⟩, z0, z1⟩ := HE5.out.2.1
    have hz9 : wr.heap.size < w9.heap.size := by have := HP5.out.2.2; omega
    have hz8 : w1.heap.size < w9.heap.size := by have := hz.out.2; omega
    by_cases h2 : kk = 2
    · subst h2
      have HO : Hid (OwnM ((w9.alloc (.cells #[.int .i64 0, .int .i64 2, .int .i64 ka, .int .i64 (partB n0)] 97)).alloc (.cells #[.int .i64 ka, .int .i64 n1] 100)) (w1.heap.size + 1) 100 2 (.slice ao K.length cp) K.length (flatL K)) := HE5.out.2.2.1.later ((below_alloc _ _).alloc (by simp) _)
      have HRW : Hid (Row ((w9.alloc (.cells #[.int .i64 0, .int .i64 2, .int .i64 ka, .int .i64 (partB n0)] 97)).alloc (.cells #[.int .i64 ka, .int .i64 n1] 100)) 0 2 1 (fun p => [ka, n1].getD p 0) (.slice (some ⟨(w9.alloc (.cells #[.int .i64 0, .int .i64 2, .int .i64 ka, .int .i64 (partB n0)] 97)).heap.size, 0, none⟩) 1 1)) := row_lit2 _ ka n1 _
      have HEa : Hid (HgE w1 b rb mb L K (.slice ao K.length cp) ((w9.alloc (.cells #[.int .i64 0, .int .i64 2, .int .i64 ka, .int .i64 (partB n0)] 97)).alloc (.cells #[.int .i64 ka, .int .i64 n1] 100))) := HE5.out.later ((below_alloc _ _).alloc (by simp) _)
      go_wp2_with (at_builtin; refine wpList_app 100 i0 (.agg #[.int .i64 0, .int .i64 0]) 2 16 rfl _ _ 55 rfl Tryz.underlying55 hi iz0 iz1 iz2 rfl (by omega) (by omega) _ (w1.heap.size + 1) K.length (flatL K) (.slice ao K.length cp) rfl HO.out 0 1 (fun p => [ka, n1].getD p 0) (.slice (some ⟨w9.heap.size + 1, 0, none⟩) 1 1) rfl (by simpa using HRW.out) (by omega) (by simp; omega) ?_; intro ao1 cp1 w6 O6 G6; clear x0 x1 z0 z1; obtain ⟨⟨⟨x0, x1⟩, z0, z1⟩, hq6⟩ := HEa.out.app O6 G6; have H6 : Hid (HgE w1 b rb mb L (K ++ [(ka, n1)]) (.slice ao1 (K.length + 1) cp1) (w6.setCell ⟨w1.heap.size, 1, none⟩ (.slice ao1 (K.length + 1) cp1))) := hq6; clear hq6 O6 G6 HO HRW HEa)
      go_roundw
      case rel => exact ⟨k + 1, ao1, cp1, K ++ [(ka, n1)], by omega, by go_num, by simp; omega, by simpa using HST.out, by simpa using H6.out⟩
      case measure => simp [intOf]; omega
    · have d2 : (kk == 2) = false := beq_eq_false_iff_ne.2 h2
      have HE6 : Hid (HgE w1 b rb mb L K (.slice ao K.length cp) (w9.alloc (.cells #[.int .i64 0, .int .i64 kk, .int .i64 ka, .int .i64 (partB n0)] 97))) := HE5.out.later (below_alloc _ _)
      have HST2 : Hid (lnkL (L.take (k + 1)) = K) := by
        have := HST.out
        rw [if_neg h2, List.append_nil] at this
        exact this
      clear h2
      go_wp2
      go_roundw
      case rel => exact ⟨k + 1, ao, cp, K, by omega, by go_num, by omega, HST2.out, HE6.out⟩
      case measure => simp [intOf]; omega
end Go.Proofs.YtnchaccgenfhoaaGreat

namespace Go.Proofs.YtnchaccgenfhoaaGreat
open Go.RowKit

/-- The entries of one inode under way. -/
def LtE (w : World) (K : Prs) (lv : Value) (X : World) : Prop := OwnM X (w.heap.size + 1) 100 2 lv K.length (flatL K) ∧ Below w.heap.size w X ∧ w.heap.size < X.heap.size
theorem LtE.later {w X X' : World} {K : Prs} {lv : Value} (h : LtE w K lv X) (hb : Below X.heap.size X X') : LtE w K lv X' := ⟨h.1.later hb, h.2.1.trans (hb.mono h.2.1.size), Nat.lt_of_lt_of_le h.2.2 hb.size⟩
theorem LtE.app {w X w6 : World} {K : Prs} {ao ao1 : Option Addr} {cp cp1 : Nat} {a0 a1 : Int} (h : LtE w K (.slice ao K.length cp) X)
    (O6 : OwnM w6 (w.heap.size + 1) 100 2 (.slice ao1 (K.length + 1) cp1) (K.length + 1) (flatL K ++ nums (fun p => [a0, a1].getD p 0) (1 * 2))) (G6 : X.grownBy w6 (Value.slice ao K.length cp).ownBlock) : LtE w (K ++ [(a0, a1)]) (.slice ao1 (K.length + 1) cp1) w6 := by
  refine ⟨?_, h.2.1.trans ⟨G6.os, G6.tape, G6.output, G6.size, fun k hk => G6.block k (Nat.lt_trans hk h.2.2) (fun e => by have := (h.1.block _ e.symm).1; omega)⟩, Nat.lt_of_lt_of_le h.2.2 G6.size⟩
  have e : nums (fun p => [a0, a1].getD p 0) (1 * 2) = [a0, a1] := rfl
  rw [e] at O6
  rw [List.length_append, flatL_append]
  exact O6
theorem toL_step {K : Prs} {k : Nat} (hk : k < K.length) {n0 n1 : Int} (h0 : (K.getD k (0, 0)).1 = n0) (h1 : (K.getD k (0, 0)).2 = n1) (a : Int) : toL (K.take (k + 1)) a = toL (K.take k) a ++ (if n1 = a then [(n0, n1)] else []) := by
  unfold toL
  have e : K.getD k (0, 0) = (n0, n1) := by rw [← h0, ← h1]
  rw [take_snoc hk, List.filter_append, e]
  by_cases h : n1 = a
  · rw [if_pos h]; simp [h]
  · rw [if_neg h]; simp [h]
set_option maxRecDepth 100000 in
set_option maxHeartbeats 4000000 in
theorem linksTo_is (K : Prs) (pb : Addr) (v : Value) (B : Nat) (a : Int) (w : World) (h : Row w B 2 K.length (rowL K) v) (hn : K.length ≤ 1000) :
    Calls Tryz.prog 39 #[.agg #[.pointer (some pb), v], .int .i64 a] w fun e w' => ∃ lv, e = .returned lv ∧ OwnM w' w.heap.size 100 2 lv (toL K a).length (flatL (toL K a)) ∧ Below w.heap.size w w' := by
  obtain ⟨ao0, cp0, rfl⟩ := h.form
  have H : Hid (Row w B 2 K.length (rowL K) (.slice ao0 K.length cp0)) := h
  obtain ⟨i0, hi, iz0, iz1, iz2⟩ := info_parts infoz_link
  clear h
  go_enter Tryz.func39, Tryz.ntmps39
  go_wp2
  go_loopw [4, 10] (fun l i wr => ∃ (k : Nat) (ao : Option Addr) (cp : Nat) (M : Prs), k ≤ K.length ∧ i = .int .i64 k ∧ List.length M ≤ k ∧ l = .slice ao (List.length M) cp ∧ Hid (toL (K.take k) a = M ∧ LtE w M (.slice ao (List.length M) cp) wr)) (fun _ i _ => K.length - (intOf i).toNat)
  case atStart => exact ⟨0, none, 0, [], Nat.zero_le _, rfl, Nat.le_refl _, rfl, rfl, OwnM.nil _ _ _ _, below_alloc _ _, by simp⟩
  case round =>
    obtain ⟨k, ao, cp, M, hk, rfl, hM, rfl, HS⟩ := hrel
    by_cases hlt : k < K.length
    case neg =>
      obtain rfl : k = K.length := by omega
      go_wp2
      go_ret
      have e := HS.out.1
      rw [List.take_length] at e
      refine ⟨_, rfl, ?_, HS.out.2.2.1⟩
      rw [e]
      exact OwnM.monoP HS.out.2.1 (by omega)
    obtain ⟨g, o, hao, _, hg, y0, y1⟩ := (H.out.later HS.out.2.2.1).at2 hlt
    subst hao
    rw [rowL_key] at y0
    rw [rowL_val] at y1
    obtain ⟨n0, N0⟩ : ∃ x, (K.getD k (0, 0)).1 = x := ⟨_, rfl⟩
    rw [N0] at y0
    obtain ⟨n1, N1⟩ : ∃ x, (K.getD k (0, 0)).2 = x := ⟨_, rfl⟩
    rw [N1] at y1
    have hst := toL_step hlt N0 N1 a
    rw [HS.out.1] at hst
    have HST : Hid (toL (K.take (k + 1)) a = M ++ (if n1 = a then [(n0, n1)] else [])) := hst
    clear N0 N1 hst
    by_cases h2 : n1 = a
    · have d2 : (n1 == a) = true := beq_iff_eq.2 h2
      have HST2 : Hid (toL (K.take (k + 1)) a = M ++ [(n0, n1)]) := by
        have := HST.out
        rwa [if_pos h2] at this
      clear h2 HST
      have HEa : Hid (LtE w M (.slice ao M.length cp) ((wr.alloc (.cells #[.int .i64 n0, .int .i64 n1] 100)).alloc (.cells #[.int .i64 n0, .int .i64 n1] 100))) := HS.out.2.later ((below_alloc _ _).alloc (by simp) _)
      have HRW : Hid (Row ((wr.alloc (.cells #[.int .i64 n0, .int .i64 n1] 100)).alloc (.cells #[.int .i64 n0, .int .i64 n1] 100)) 0 2 1 (fun p => [n0, n1].getD p 0) (.slice (some ⟨(wr.alloc (.cells #[.int .i64 n0, .int .i64 n1] 100)).heap.size, 0, none⟩) 1 1)) := row_lit2 _ n0 n1 _
      have hz : w.heap.size < wr.heap.size := HS.out.2.2.2
      go_wp2_with (at_builtin; refine wpList_app 100 i0 (.agg #[.int .i64 0, .int .i64 0]) 2 16 rfl _ _ 55 rfl Tryz.underlying55 hi iz0 iz1 iz2 rfl (by omega) (by omega) _ (w.heap.size + 1) M.length (flatL M) (.slice ao M.length cp) rfl HEa.out.1 0 1 (fun p => [n0, n1].getD p 0) (.slice (some ⟨wr.heap.size + 1, 0, none⟩) 1 1) rfl (by simpa using HRW.out) (by omega) (by simp; omega) ?_; intro ao1 cp1 w6 O6 G6; have H6 : Hid (LtE w (M ++ [(n0, n1)]) (.slice ao1 (M.length + 1) cp1) w6) := HEa.out.app O6 G6; clear O6 G6 HRW HEa)
      go_roundw
      case rel => exact ⟨k + 1, ao1, cp1, M ++ [(n0, n1)], by omega, by go_num, by simp; omega, by simp, HST2.out, by simpa using H6.out⟩
      case measure => simp [intOf]; omega
    · have d2 : (n1 == a) = false := beq_eq_false_iff_ne.2 h2
      have HST2 : Hid (toL (K.take (k + 1)) a = M) := by
        have := HST.out
        rw [if_neg h2, List.append_nil] at this
        exact this
      have H6 : Hid (LtE w M (.slice ao M.length cp) (wr.alloc (.cells #[.int .i64 n0, .int .i64 n1] 100))) := HS.out.2.later (below_alloc _ _)
      clear h2 HST
      go_wp2
      go_roundw
      case rel => exact ⟨k + 1, ao, cp, M, by omega, by go_num, by omega, rfl, HST2.out, H6.out⟩
      case measure => simp [intOf]; omega
theorem countLinks_is (ao : Option Addr) (n cp : Nat) (hn : n ≤ 1000) (w : World) :
    Calls Tryz.prog 38 #[.slice ao n cp] w fun e w' => e = .returned (.int .u64 n) ∧ w' = w := by
  go_enter Tryz.func38, Tryz.ntmps38
  go_wp2
  go_ret
  exact ⟨rfl, rfl⟩
end Go.Proofs.YtnchaccgenfhoaaGreat

