/-
  Own text, merged of ApyC, ApyD, WldE, PlnB, PlnC, PlnD, PlnE, PlnF, PlnG, AplB, PlnH.
-/
import Derived.Test.YtnchaccgenfhoaaGreatPk7
namespace Go.Proofs.YtnchaccgenfhoaaGreat
open Go.RowKit

abbrev zeroFs : Obj := .cells #[.int .i64 0, .int .i64 0, .int .i64 0, .slice none 0 0] 30
theorem nums_selfA {l : List Int} {N : Nat} (h : l.length = N) : nums (fun p => l.getD p 0) N = l := by
  subst h
  unfold nums
  apply List.ext_getElem
  · simp
  · intro i h1 h2
    simp only [List.getElem_map, List.getElem_range]
    rw [List.getD_eq_getElem?_getD, List.getElem?_eq_getElem h2]
    rfl
theorem nums_rowL (L : Prs) : nums (rowL L) (L.length * 2) = flatL L := by
  have := nums_selfA (l := flatL L) (flatL_length L)
  rw [← this]
  unfold nums
  exact List.map_congr_left fun p _ => (flatL_get L p).symm
theorem own_flat {w : World} {B : Nat} {v : Value} {L : Prs} (h : OwnM w B 61 2 v L.length (flatL L)) : Row w B 2 L.length (rowL L) v ∧ Free w (L.length * 2) v := flat_row h
/-- What stands in the last region: the plan's box, the answer's box. -/
def ApS (X : World) (pb rb : Nat) (r v : Int) (vr vw : Value) : Prop := BlkP X pb (.int .i64 0) (.int .i64 r) (.int .i64 v) vr vw ∧ FBk X rb
theorem ApS.later {X X' : World} {pb rb : Nat} {r v : Int} {vr vw : Value} (h : ApS X pb rb r v vr vw) (hb : Below X.heap.size X X') : ApS X' pb rb r v vr vw := ⟨h.1.later hb, h.2.later hb⟩
theorem ApS.grown {X X' : World} {pb rb : Nat} {r v : Int} {vr vw u : Value} (h : ApS X pb rb r v vr vw) (hg : X.grownBy X' u.ownBlock) (h1 : ∀ k, u.ownBlock = some k → pb < k ∧ rb < k) : ApS X' pb rb r v vr vw :=
  ⟨h.1.kept (hg.block pb h.1.lt (fun e => by have := (h1 pb e.symm).1; omega)), h.2.kept (hg.block rb h.2.lt (fun e => by have := (h1 rb e.symm).2; omega))⟩
theorem ApS.row {X : World} {pb rb : Nat} {r v : Int} {vr vw : Value} (h : ApS X pb rb r v vr vw) (hne : pb ≠ rb) (a0 a1 a2 a3 : Value) : ApS (X.setRow rb #[a0, a1, a2, a3]) pb rb r v vr vw := by
  refine ⟨h.1.kept (heap_setRow _ _ _ _ hne), ?_⟩
  obtain ⟨old, hg, hs⟩ := h.2
  exact ⟨#[a0, a1, a2, a3], by simp [World.setRow, Array.getElem?_modify, hg], rfl⟩
theorem Own.blockT {w : World} {B : Nat} {e : TypeId} {m n : Nat} {F : Nat → Int} {v : Value} (h : Own w B e m n F v) : ∀ k, v.ownBlock = some k → B ≤ k ∧ k < w.heap.size := own_in h
/-- Behind the store of the answer. -/
theorem own_end {w z1 : World} {B : Nat} {c r v : Int} {R : Prs} {ao : Option Addr} {cp : Nat} (h : Row z1 B 2 R.length (rowL R) (.slice ao R.length cp) ∧ Free z1 (R.length * 2) (.slice ao R.length cp) ∧ Below w.heap.size w z1 ∧ ∀ k, (Value.slice ao R.length cp).ownBlock = some k → B ≤ k) (hB : w.heap.size < B) (cs : Array Value) :
    ResFs w c r v R (.returned (.agg #[.int .i64 c, .int .i64 r, .int .i64 v, .slice ao R.length cp])) (z1.setRow w.heap.size cs) := by
  obtain ⟨h1, h2, h3, h4⟩ := h
  have ks : ∀ k, (Value.slice ao R.length cp).ownBlock = some k → (z1.setRow w.heap.size cs).heap[k]? = z1.heap[k]? := fun k hk => heap_setRow _ _ _ _ (by have := h4 k hk; omega)
  refine ⟨ao, cp, rfl, (h1.kept (by rw [size_setRow]; exact Nat.le_refl _) (fun k hk _ => ks k hk)).mono (Nat.le_of_lt hB), ?_, below_row h3 (Nat.le_refl _) _⟩
  intro g o n c e p hp
  have h5 := h2 g o n c e p hp
  have hg : (Value.slice ao R.length cp).ownBlock = some g := by rw [e]; rfl
  exact (World.frozen?_of_block (w := z1) (a := ⟨g, o + p, none⟩) (ks g hg)).trans h5
set_option maxRecDepth 100000 in
set_option maxHeartbeats 4000000 in
theorem l14Apply_is (L : Prs) (y : Value) (bo oo : Nat) (kd d n td tn vv : Int) (w : World) (hc : Ctx w L y bo oo kd d n td tn vv) (ho : opF kd d n td tn vv = 0) (hL : GoodP L) (r v : Int) (R : Prs) (hp : applyP L kd d n td tn vv = (r, v, R)) :
    Calls Tryz.prog 26 #[y, .pointer (some ⟨bo, oo, none⟩)] w (ResFs w 0 r v R) := by
  obtain ⟨q, hq⟩ : ∃ q, replyP L kd d n td tn vv = q := ⟨_, rfl⟩
  obtain ⟨r', v', ys, m, W⟩ := q
  have hit := reply_items hL.vals ho
  unfold applyP at hp
  rw [hq] at hp hit
  simp only [Prod.mk.injEq] at hp
  obtain ⟨rfl, rfl, hR⟩ := hp
  obtain ⟨hit1, hit2, hit3⟩ := hit
  simp only at hit1 hit2 hit3
  have hl := hL.len
  have hm := (appliedF_zero hit1.1).1
  have HY : Hid (Row w 0 2 L.length (rowL L) y) := hc.1.1
  have HIT : Hid (ItemsOk m W ∧ (r' ≠ 0 → m = 0) ∧ applyN L (fun p => W.getD p 0) m = R) := ⟨hit1, hit2, hR⟩
  have HC : Hid (Ctx (w.alloc zeroFs) L y bo oo kd d n td tn vv) := ⟨⟨hc.1.1.alloc _, hc.1.2⟩, hc.2.1.alloc _, hc.2.2⟩
  have HK : Hid ((1 ≤ kd ∧ kd ≤ 8) ∧ replyP L kd d n td tn vv = (r', v', ys, m, W)) := ⟨(op_bounds ho).1, hq⟩
  have HFw : Hid (FBk (w.alloc zeroFs) w.heap.size) := FBk.new _ _ _ _ _
  obtain ⟨yo, yc, rfl⟩ := hc.1.1.form
  obtain ⟨i0, hi, hz0, hz1, hz2⟩ := info_parts infoz_Pair
  clear hc ho hq hR hit1 hit2 hit3
  go_enter Tryz.func26, Tryz.ntmps26
  go_wp2_with fail
  refine (l13Compile_is L _ bo oo kd d n td tn vv _ HC.out HK.out.1 r' v' ys m W HK.out.2).mono ?_
  rintro e w1 ⟨vr, vw, rfl, hA, q1⟩
  obtain ⟨⟨a1, a2, rfl⟩, ⟨a3, a4, rfl⟩⟩ := PlanAt.form hA
  have q1' : Below (w.heap.size + 1) (w.alloc zeroFs) w1 := by have := q1; rwa [World.size_alloc] at this
  have hlt1 : w.heap.size < w1.heap.size := by have := q1'.size; rw [World.size_alloc] at this; omega
  have HPB : Hid (PBk (w1.alloc zeroPl) w1.heap.size) := PBk.new _ _ _ _ _ _
  have H1 : Hid (PlanAt (w1.alloc zeroPl) (w.heap.size + 1) ys m W (.slice a1 ys.length a2) (.slice a3 m a4) ∧ Below w.heap.size w (w1.alloc zeroPl) ∧ FBk (w1.alloc zeroPl) w.heap.size) := by
    have hA' := hA
    rw [World.size_alloc] at hA'
    exact ⟨PlanAt.alloc hA' _, ((below_alloc w _).trans (q1'.mono (Nat.le_succ _))).alloc (Nat.le_of_lt hlt1) _, (HFw.out.kept (q1'.block _ (Nat.lt_succ_self _))).alloc _⟩
  have hlo1 : ∀ k, (Value.slice a1 ys.length a2).ownBlock = some k → k ≠ w1.heap.size := fun k hk => by have := (hA.1.lt k hk).2; omega
  have hlo2 : ∀ k, (Value.slice a3 m a4).ownBlock = some k → k ≠ w1.heap.size := fun k hk => by have := (OwnM.block hA.2.1 k hk).2; omega
  have H2 : Hid (BlkP ((w1.alloc zeroPl).setRow w1.heap.size #[.int .i64 0, .int .i64 r', .int .i64 v', .slice a1 ys.length a2, .slice a3 m a4]) w1.heap.size (.int .i64 0) (.int .i64 r') (.int .i64 v') (.slice a1 ys.length a2) (.slice a3 m a4) ∧ PlanAt ((w1.alloc zeroPl).setRow w1.heap.size #[.int .i64 0, .int .i64 r', .int .i64 v', .slice a1 ys.length a2, .slice a3 m a4]) (w.heap.size + 1) ys m W (.slice a1 ys.length a2) (.slice a3 m a4) ∧ Below w.heap.size w ((w1.alloc zeroPl).setRow w1.heap.size #[.int .i64 0, .int .i64 r', .int .i64 v', .slice a1 ys.length a2, .slice a3 m a4]) ∧ FBk ((w1.alloc zeroPl).setRow w1.heap.size #[.int .i64 0, .int .i64 r', .int .i64 v', .slice a1 ys.length a2, .slice a3 m a4]) w.heap.size) :=
    ⟨HPB.out.blk _ _ _ _ _, plan_kept H1.out.1 hlo1 hlo2, below_row H1.out.2.1 (Nat.le_of_lt hlt1) _, H1.out.2.2.kept (heap_setRow _ _ _ _ (Nat.ne_of_lt hlt1))⟩
  have HNE : Hid (w1.heap.size ≠ w.heap.size) := Nat.ne_of_gt hlt1
  clear hA q1 q1' hlo1 hlo2 HC HK HFw
  by_cases hr0 : r' = 0
  · have dr : (r' != 0) = false := by simp [hr0]
    subst hr0
    have hkd : ∀ i, i < m → 1 ≤ W.getD (i * 3 + 1) 0 ∧ W.getD (i * 3 + 1) 0 ≤ 3 := (appliedF_zero HIT.out.1.1).2.2
    have HKD : Hid (∀ i, i < m → 1 ≤ W.getD (i * 3 + 1) 0 ∧ W.getD (i * 3 + 1) 0 ≤ 3) := hkd
    clear hkd
    go_wp2_with (refine wpList_storeP rfl _ _ rfl w1.heap.size _ _ _ _ _ rfl rfl HPB.out (by kernel_rfl) ?_; clear HPB H1; generalize (w1.alloc zeroPl).setRow w1.heap.size #[.int .i64 0, .int .i64 0, .int .i64 v', .slice a1 ys.length a2, .slice a3 m a4] = X2 at H2 ⊢; obtain ⟨⟨c0, c1, c2, c3, c4⟩, _⟩ := H2.out.1)
    go_upto_region 4 with fail
    refine wp_region_held_drew (S := fun X => ApS X w1.heap.size w.heap.size 0 v' (.slice a1 ys.length a2) (.slice a3 m a4)) (by kernel_rfl) ⟨H2.out.1, H2.out.2.2.2⟩ (fun hS => ?_)
    have H3 : Hid (PlanAt X2.drew (w.heap.size + 1) ys m W (.slice a1 ys.length a2) (.slice a3 m a4) ∧ Below w.heap.size w X2.drew) := ⟨H2.out.2.1, H2.out.2.2.1.drew⟩
    clear H2 c0 c1 c2 c3 c4
    generalize X2.drew = z0 at hS H3 ⊢
    refine tkH 0 ?_ hS (fun wx hx => ?_) ?_; rotate_left
    · obtain ⟨⟨⟨hx0, hx1, hx2, hx3, hx4⟩, _⟩, _⟩ := hx; go_simp; try with_reducible rfl
    refine tkH 1 ?_ hS (fun wx hx => ?_) ?_; rotate_left
    · obtain ⟨⟨⟨hx0, hx1, hx2, hx3, hx4⟩, _⟩, _⟩ := hx; go_simp; try with_reducible rfl
    refine tkH 2 ?_ hS (fun wx hx => ?_) ?_; rotate_left
    · obtain ⟨⟨⟨hx0, hx1, hx2, hx3, hx4⟩, _⟩, _⟩ := hx; go_simp; try with_reducible rfl
    refine tkH 3 ?_ hS (fun wx hx => ?_) ?_; rotate_left
    · obtain ⟨⟨⟨hx0, hx1, hx2, hx3, hx4⟩, _⟩, _⟩ := hx; go_simp; try with_reducible rfl
    refine tkH 4 ?_ hS (fun wx hx => ?_) ?_; rotate_left
    · obtain ⟨⟨⟨hx0, hx1, hx2, hx3, hx4⟩, _⟩, _⟩ := hx; go_simp; try with_reducible rfl
    refine rdH 5 (fun K hK => ?_)
    go_simp
    go_wp2_with fail
    refine (l11Apply_any L (fun p => W.getD p 0) m _ _ 0 (w.heap.size + 1) _ (HY.out.later H3.out.2) H3.out.1.rows.1 (by omega) hm HKD.out).mono ?_
    rintro e z1 ⟨ao, cp, rfl, ho, q⟩
    rw [HIT.out.2.2] at ho
    have HRR : (applyN L (fun p => W.getD p 0) m).length = R.length := by rw [HIT.out.2.2]
    rw [HRR]
    have hS1 := hS.later q
    have HO : Hid (Row z1 z0.heap.size 2 R.length (rowL R) (.slice ao R.length cp) ∧ Free z1 (R.length * 2) (.slice ao R.length cp) ∧ Below w.heap.size w z1 ∧ ∀ k, (Value.slice ao R.length cp).ownBlock = some k → z0.heap.size ≤ k) := ⟨ho.row.1, ho.row.2, H3.out.2.trans (q.mono H3.out.2.size), fun k hk => (Own.blockT ho k hk).1⟩
    have HZ0 : Hid (w.heap.size < z0.heap.size) := hS.2.lt
    clear q ho hS HRR H3
    go_wp2_with fail
    refine hK.out _ _ hS1 (fun hS => ?_)
    clear hK K
    clear hS1
    refine tkH 6 ?_ hS (fun wx hx => ?_) ?_; rotate_left
    · obtain ⟨⟨⟨hx0, hx1, hx2, hx3, hx4⟩, _⟩, _⟩ := hx; go_simp; try with_reducible rfl
    refine rdH 7 (fun K hK => ?_)
    refine step_storeF rfl _ _ rfl w.heap.size _ _ _ _ rfl rfl hS.2 (by kernel_rfl) ?_
    have hS9 := hS.row HNE.out (.int .i64 0) (.int .i64 0) (.int .i64 v') (.slice ao R.length cp)
    have HFB : Hid (FBk z1 w.heap.size) := hS.2
    clear hS
    refine hK.out _ _ hS9 (fun hS => ?_)
    clear hK K
    clear hS9
    refine wpAnyH_done (by kernel_rfl) ?_ _
    go_simp
    go_wp2_with fail
    refine bodyPost_ret (v := .agg #[.int .i64 0, .int .i64 0, .int .i64 v', .slice ao R.length cp]) (results_fs Tryz.results26 _ _ _ _ _ _ _ rfl HFB.out) rfl ?_
    exact own_end HO.out HZ0.out _
  · have dr : (r' != 0) = true := bne_iff_ne.2 hr0
    have hm0 := HIT.out.2.1 hr0
    subst hm0
    have HRL : Hid (L = R) := HIT.out.2.2
    clear hr0
    go_wp2_with (refine wpList_storeP rfl _ _ rfl w1.heap.size _ _ _ _ _ rfl rfl HPB.out (by kernel_rfl) ?_; clear HPB H1; generalize (w1.alloc zeroPl).setRow w1.heap.size #[.int .i64 0, .int .i64 r', .int .i64 v', .slice a1 ys.length a2, .slice a3 0 a4] = X2 at H2 ⊢; obtain ⟨⟨c0, c1, c2, c3, c4⟩, _⟩ := H2.out.1)
    go_upto_region 3 with fail
    refine wp_region_held_drew (S := fun X => ApS X w1.heap.size w.heap.size r' v' (.slice a1 ys.length a2) (.slice a3 0 a4)) (by kernel_rfl) ⟨H2.out.1, H2.out.2.2.2⟩ (fun hS => ?_)
    have H3 : Hid (Below w.heap.size w X2.drew) := H2.out.2.2.1.drew
    clear H2 c0 c1 c2 c3 c4
    generalize X2.drew = z0 at hS H3 ⊢
    refine tkH 0 ?_ hS (fun wx hx => ?_) ?_; rotate_left
    · obtain ⟨⟨⟨hx0, hx1, hx2, hx3, hx4⟩, _⟩, _⟩ := hx; go_simp; try with_reducible rfl
    refine tkH 1 ?_ hS (fun wx hx => ?_) ?_; rotate_left
    · obtain ⟨⟨⟨hx0, hx1, hx2, hx3, hx4⟩, _⟩, _⟩ := hx; go_simp; try with_reducible rfl
    refine tkH 2 ?_ hS (fun wx hx => ?_) ?_; rotate_left
    · obtain ⟨⟨⟨hx0, hx1, hx2, hx3, hx4⟩, _⟩, _⟩ := hx; go_simp; try with_reducible rfl
    refine tkH 3 ?_ hS (fun wx hx => ?_) ?_; rotate_left
    · obtain ⟨⟨⟨hx0, hx1, hx2, hx3, hx4⟩, _⟩, _⟩ := hx; go_simp; try with_reducible rfl
    refine tkH 5 ?_ hS (fun wx hx => ?_) ?_; rotate_left
    · obtain ⟨⟨⟨hx0, hx1, hx2, hx3, hx4⟩, _⟩, _⟩ := hx; go_simp; try with_reducible rfl
    refine rdH 4 (fun K hK => ?_)
    go_simp
    have hS1 := hS.later (below_alloc z0 (.cells #[] 61))
    have HZ0 : Hid (w.heap.size < z0.heap.size ∧ w1.heap.size < z0.heap.size) := ⟨hS.2.lt, hS.1.lt⟩
    have HO1 : Hid (OwnM (z0.alloc (.cells #[] 61)) z0.heap.size 61 2 (.slice (some ⟨z0.heap.size, 0, none⟩) 0 0) 0 []) := OwnM.lit0 _ _ _ _ rfl
    have HY1 : Hid (Row (z0.alloc (.cells #[] 61)) 0 2 L.length (rowL L) (.slice yo L.length yc) ∧ Below w.heap.size w (z0.alloc (.cells #[] 61))) := ⟨(HY.out.later H3.out).alloc _, H3.out.alloc H3.out.size _⟩
    clear hS
    refine hK.out _ _ hS1 (fun hS => ?_)
    clear hK K
    clear hS1
    refine rdH 6 (fun K hK => ?_)
    refine step_app 61 i0 (.agg #[.int .i64 0, .int .i64 0]) 2 16 (by rfl) _ _ 24 (by rfl) Tryz.underlying24 hi hz0 hz1 hz2 rfl (by omega) (by omega) _ z0.heap.size 0 [] (.slice (some ⟨z0.heap.size, 0, none⟩) 0 0) (by rfl) HO1.out 0 L.length (rowL L) (.slice yo L.length yc) (by rfl) HY1.out.1 (by omega) (by simp) ?_
    intro ao cp z1 O2 G2
    have hS2 := hS.grown G2 (fun k hk => by have : z0.heap.size = k := Option.some.inj hk; have := HZ0.out; omega)
    rw [List.nil_append, nums_rowL, Nat.zero_add] at O2
    have HO : Hid (Row z1 z0.heap.size 2 R.length (rowL R) (.slice ao R.length cp) ∧ Free z1 (R.length * 2) (.slice ao R.length cp) ∧ Below w.heap.size w z1 ∧ ∀ k, (Value.slice ao R.length cp).ownBlock = some k → z0.heap.size ≤ k) := by
      rw [← HRL.out]
      exact ⟨(own_flat O2).1, (own_flat O2).2, HY1.out.2.trans ⟨G2.os, G2.tape, G2.output, G2.size, fun k hk => G2.block k (by have := HY1.out.2.size; omega) (fun e => by have : k = z0.heap.size := Option.some.inj e; have := HZ0.out; omega)⟩, fun k hk => (OwnM.block O2 k hk).1⟩
    have hLR : L.length = R.length := by rw [HRL.out]
    rw [Nat.zero_add, hLR]
    clear O2 G2 hS HO1 HY1
    refine hK.out _ _ hS2 (fun hS => ?_)
    clear hK K
    clear hS2
    refine tkH 7 ?_ hS (fun wx hx => ?_) ?_; rotate_left
    · obtain ⟨⟨⟨hx0, hx1, hx2, hx3, hx4⟩, _⟩, _⟩ := hx; go_simp; try with_reducible rfl
    refine rdH 8 (fun K hK => ?_)
    refine step_storeF rfl _ _ rfl w.heap.size _ _ _ _ rfl rfl hS.2 (by kernel_rfl) ?_
    have hS9 := hS.row HNE.out (.int .i64 0) (.int .i64 r') (.int .i64 v') (.slice ao R.length cp)
    have HFB : Hid (FBk z1 w.heap.size) := hS.2
    clear hS
    refine hK.out _ _ hS9 (fun hS => ?_)
    clear hK K
    clear hS9
    refine wpAnyH_done (by kernel_rfl) ?_ _
    go_simp
    go_wp2_with fail
    refine bodyPost_ret (v := .agg #[.int .i64 0, .int .i64 r', .int .i64 v', .slice ao R.length cp]) (results_fs Tryz.results26 _ _ _ _ _ _ _ rfl HFB.out) rfl ?_
    exact own_end HO.out HZ0.out.1 _
end Go.Proofs.YtnchaccgenfhoaaGreat

namespace Go.Proofs.YtnchaccgenfhoaaGreat
open Go.RowKit

theorem res_end {w z1 : World} {B rb : Nat} {c r v : Int} {R : Prs} {ao : Option Addr} {cp : Nat} (h1 : Row z1 B 2 R.length (rowL R) (.slice ao R.length cp)) (h2 : Free z1 (R.length * 2) (.slice ao R.length cp)) (h3 : Below w.heap.size w z1) (hrb : w.heap.size ≤ rb) (hB : rb < B) (cs : Array Value) :
    ResFs w c r v R (.returned (.agg #[.int .i64 c, .int .i64 r, .int .i64 v, .slice ao R.length cp])) (z1.setRow rb cs) := by
  refine ⟨ao, cp, rfl, ?_, ?_, below_row h3 hrb _⟩
  · by_cases hn : R.length = 0
    · exact ⟨_, _, rfl, fun q => by omega⟩
    · have ks : ∀ k, (Value.slice ao R.length cp).ownBlock = some k → (z1.setRow rb cs).heap[k]? = z1.heap[k]? := fun k hk => heap_setRow _ _ _ _ (by have := (h1.lt (by omega) k hk).1; omega)
      exact (h1.kept (by rw [size_setRow]; exact Nat.le_refl _) (fun k hk _ => ks k hk)).mono (by omega)
  · intro g o n q e p hp
    have hn : 0 < R.length := by omega
    have hg : (Value.slice ao R.length cp).ownBlock = some g := by rw [e]; rfl
    have hgb : g ≠ rb := by have := (h1.lt hn g hg).1; omega
    exact (World.frozen?_of_block (w := z1) (a := ⟨g, o + p, none⟩) (heap_setRow _ _ _ _ hgb)).trans (h2 g o n q e p hp)
theorem res_nil {w w' : World} (c : Int) (hb : Below w.heap.size w w') : ResFs w c 0 0 [] (.returned (.agg #[.int .i64 c, .int .i64 0, .int .i64 0, .slice none 0 0])) w' :=
  ⟨none, 0, rfl, ⟨_, _, rfl, fun q => by cases q⟩, fun g o n q e p hp => absurd hp (Nat.not_lt_zero _), hb⟩
/-- Boxes of an operation and of an answer. -/
def Bxf (w : World) (kd d nm td tn vv : Int) (X : World) : Prop := Blk6 X w.heap.size (.int .i64 kd) (.int .i64 d) (.int .i64 nm) (.int .i64 td) (.int .i64 tn) (.int .i64 vv) ∧ FBk X (w.heap.size + 1)
theorem Bxf.later {w X X' : World} {kd d nm td tn vv : Int} (h : Bxf w kd d nm td tn vv X) (hb : Below X.heap.size X X') : Bxf w kd d nm td tn vv X' := ⟨h.1.later hb, h.2.later hb⟩
theorem Bxf.new (w : World) (kd d nm td tn vv : Int) : Bxf w kd d nm td tn vv ((w.alloc (opO kd d nm td tn vv)).alloc zeroFs) := by
  refine ⟨(Blk6.new w _ _ _ _ _ _ _).alloc _, ?_⟩
  have := FBk.new (w.alloc (opO kd d nm td tn vv)) (.int .i64 0) (.int .i64 0) (.int .i64 0) (.slice none 0 0)
  rwa [World.size_alloc] at this
theorem field_pairsR (c : Int) (ao : Option Addr) (n cp : Nat) (w : World) : (Instr.field 84 (.agg #[.int .i64 c, .slice ao n cp]) 1).run Tryz.prog w = .ok (.slice ao n cp) w := by kernel_rfl
set_option maxRecDepth 100000 in
set_option maxHeartbeats 4000000 in
theorem applyOp_is (y : Value) (B n : Nat) (F : Nat → Int) (kd d nm td tn vv : Int) (w : World) (h : Row w B 2 n F y) (hn : n ≤ 1048576) (hg : pairsF F n 0 = 0) (ho : opF kd d nm td tn vv = 0) (r v : Int) (R : Prs) (hp : applyP (listOf F n) kd d nm td tn vv = (r, v, R)) :
    Calls Tryz.prog 23 #[y, .agg #[.int .i64 kd, .int .i64 d, .int .i64 nm, .int .i64 td, .int .i64 tn, .int .i64 vv]] w (ResFs w 0 r v R) := by
  obtain ⟨q, hq⟩ : ∃ q, replyP (listOf F n) kd d nm td tn vv = q := ⟨_, rfl⟩
  obtain ⟨r', v', ys, m, W⟩ := q
  have hL := good_of_pairs hg
  have hit := reply_items hL.vals ho
  unfold applyP at hp
  rw [hq] at hp hit
  simp only [Prod.mk.injEq] at hp
  obtain ⟨rfl, rfl, hR⟩ := hp
  obtain ⟨hit1, hit2, hit3⟩ := hit
  simp only at hit1 hit2 hit3
  have hm := (appliedF_zero hit1.1).1
  have H : Hid (Row w B 2 n F y) := h
  have HIT : Hid (pairsF F n 0 = 0 ∧ appliedF m (fun p => W.getD p 0) = 0 ∧ applyN (listOf F n) (fun p => W.getD p 0) m = R) := ⟨hg, hit1.1, hR⟩
  have HCA : Hid (CompAns n F kd d nm td tn vv 0 (r', v', ys, m, W)) := Or.inr (Or.inr ⟨hg, ho, rfl, hq.symm⟩)
  have HB0 : Hid (Bxf w kd d nm td tn vv ((w.alloc (opO kd d nm td tn vv)).alloc zeroFs) ∧ Below w.heap.size w ((w.alloc (opO kd d nm td tn vv)).alloc zeroFs)) := ⟨Bxf.new _ _ _ _ _ _ _, (below_alloc _ _).alloc (by simp) _⟩
  obtain ⟨yo, yc, rfl⟩ := h.form
  have fp := fun c ao n cp w => field_pairsR c ao n cp w
  clear h hg ho hq hR hit1 hit2 hit3 hL
  obtain ⟨⟨b0, b1, b2, b3, b4, b5⟩, _⟩ := HB0.out.1.1
  go_enter Tryz.func23, Tryz.ntmps23
  go_wp2_with fail
  refine (implCompile_is _ B n F kd d nm td tn vv 0 (r', v', ys, m, W) _ (H.out.later HB0.out.2) hn HCA.out).mono ?_
  rintro e w1 ⟨vr, vw, rfl, hA, q1⟩
  obtain ⟨⟨a1, a2, rfl⟩, ⟨a3, a4, rfl⟩⟩ := PlanAt.form hA
  have hA' : PlanAt w1 (w.heap.size + 2) ys m W (.slice a1 ys.length a2) (.slice a3 m a4) := by
    have := hA
    simp only [World.size_alloc] at this
    exact this
  have HPB : Hid (PBk (w1.alloc zeroPl) w1.heap.size) := PBk.new _ _ _ _ _ _
  have hS1 := HB0.out.1.later q1
  have hlt1 : w.heap.size + 1 < w1.heap.size := hS1.2.lt
  have hlo1 : ∀ k, (Value.slice a1 ys.length a2).ownBlock = some k → k ≠ w1.heap.size := fun k hk => by have := (hA'.1.lt k hk).2; omega
  have hlo2 : ∀ k, (Value.slice a3 m a4).ownBlock = some k → k ≠ w1.heap.size := fun k hk => by have := (OwnM.block hA'.2.1 k hk).2; omega
  have H2 : Hid (BlkP ((w1.alloc zeroPl).setRow w1.heap.size #[.int .i64 0, .int .i64 r', .int .i64 v', .slice a1 ys.length a2, .slice a3 m a4]) w1.heap.size (.int .i64 0) (.int .i64 r') (.int .i64 v') (.slice a1 ys.length a2) (.slice a3 m a4) ∧ PlanAt ((w1.alloc zeroPl).setRow w1.heap.size #[.int .i64 0, .int .i64 r', .int .i64 v', .slice a1 ys.length a2, .slice a3 m a4]) (w.heap.size + 2) ys m W (.slice a1 ys.length a2) (.slice a3 m a4) ∧ Below w.heap.size w ((w1.alloc zeroPl).setRow w1.heap.size #[.int .i64 0, .int .i64 r', .int .i64 v', .slice a1 ys.length a2, .slice a3 m a4]) ∧ FBk ((w1.alloc zeroPl).setRow w1.heap.size #[.int .i64 0, .int .i64 r', .int .i64 v', .slice a1 ys.length a2, .slice a3 m a4]) (w.heap.size + 1)) :=
    ⟨HPB.out.blk _ _ _ _ _, plan_kept (PlanAt.alloc (w := w1) hA' _) hlo1 hlo2, below_row ((HB0.out.2.trans (q1.mono HB0.out.2.size)).alloc (by omega) _) (by omega) _, (hS1.2.alloc _).kept (heap_setRow _ _ _ _ (by omega))⟩
  have HNE : Hid (w1.heap.size ≠ w.heap.size + 1) := by unfold Hid; omega
  clear hA hA' q1 hS1 hlo1 hlo2 HCA b0 b1 b2 b3 b4 b5
  go_wp2_with (refine wpList_storeP rfl _ _ rfl w1.heap.size _ _ _ _ _ rfl rfl HPB.out (by kernel_rfl) ?_; clear HPB HB0; generalize (w1.alloc zeroPl).setRow w1.heap.size #[.int .i64 0, .int .i64 r', .int .i64 v', .slice a1 ys.length a2, .slice a3 m a4] = X2 at H2 ⊢)
  refine wp_region_held_drew (S := fun X => ApS X w1.heap.size (w.heap.size + 1) r' v' (.slice a1 ys.length a2) (.slice a3 m a4)) (by kernel_rfl) ⟨H2.out.1, H2.out.2.2.2⟩ (fun hS => ?_)
  have H3 : Hid (PlanAt X2.drew (w.heap.size + 2) ys m W (.slice a1 ys.length a2) (.slice a3 m a4) ∧ Below w.heap.size w X2.drew) := ⟨H2.out.2.1, H2.out.2.2.1.drew⟩
  clear H2
  generalize X2.drew = z0 at hS H3 ⊢
  refine tkH 0 ?_ hS (fun wx hx => ?_) ?_; rotate_left
  · obtain ⟨⟨⟨hx0, hx1, hx2, hx3, hx4⟩, _⟩, _⟩ := hx; go_simp; try with_reducible rfl
  refine tkH 1 ?_ hS (fun wx hx => ?_) ?_; rotate_left
  · obtain ⟨⟨⟨hx0, hx1, hx2, hx3, hx4⟩, _⟩, _⟩ := hx; go_simp; try with_reducible rfl
  refine tkH 2 ?_ hS (fun wx hx => ?_) ?_; rotate_left
  · obtain ⟨⟨⟨hx0, hx1, hx2, hx3, hx4⟩, _⟩, _⟩ := hx; go_simp; try with_reducible rfl
  refine tkH 3 ?_ hS (fun wx hx => ?_) ?_; rotate_left
  · obtain ⟨⟨⟨hx0, hx1, hx2, hx3, hx4⟩, _⟩, _⟩ := hx; go_simp; try with_reducible rfl
  refine tkH 4 ?_ hS (fun wx hx => ?_) ?_; rotate_left
  · obtain ⟨⟨⟨hx0, hx1, hx2, hx3, hx4⟩, _⟩, _⟩ := hx; go_simp; try with_reducible rfl
  refine tkH 5 ?_ hS (fun wx hx => ?_) ?_; rotate_left
  · obtain ⟨⟨⟨hx0, hx1, hx2, hx3, hx4⟩, _⟩, _⟩ := hx; go_simp; try with_reducible rfl
  refine tkH 6 ?_ hS (fun wx hx => ?_) ?_; rotate_left
  · obtain ⟨⟨⟨hx0, hx1, hx2, hx3, hx4⟩, _⟩, _⟩ := hx; go_simp; try with_reducible rfl
  refine rdH 7 (fun K hK => ?_)
  go_simp
  go_wp2_with fail
  refine (implApply_is _ _ B (w.heap.size + 2) n m F (fun p => W.getD p 0) 0 R _ (H.out.later H3.out.2) H3.out.1.rows.1 hn (by omega) (Or.inr (Or.inr ⟨HIT.out.1, HIT.out.2.1, rfl, HIT.out.2.2.symm⟩))).mono ?_
  rintro e z1 ⟨ao, cp, rfl, hrow, hfree, q⟩
  have hS1 := hS.later q
  have HO : Hid (Row z1 z0.heap.size 2 R.length (rowL R) (.slice ao R.length cp) ∧ Free z1 (R.length * 2) (.slice ao R.length cp) ∧ Below w.heap.size w z1) := ⟨hrow, hfree, H3.out.2.trans (q.mono H3.out.2.size)⟩
  have HZ0 : Hid (w.heap.size + 1 < z0.heap.size) := hS.2.lt
  clear q hrow hfree hS H3
  go_wp2_with fail
  refine hK.out _ _ hS1 (fun hS => ?_)
  clear hK K
  clear hS1
  refine tkH 8 ?_ hS (fun wx hx => ?_) ?_; rotate_left
  · obtain ⟨⟨⟨hx0, hx1, hx2, hx3, hx4⟩, _⟩, _⟩ := hx; go_simp; try with_reducible rfl
  refine tkH 9 ?_ hS (fun wx hx => ?_) ?_; rotate_left
  · obtain ⟨⟨⟨hx0, hx1, hx2, hx3, hx4⟩, _⟩, _⟩ := hx; go_simp; try with_reducible rfl
  refine rdH 10 (fun K hK => ?_)
  refine step_storeF rfl _ _ rfl (w.heap.size + 1) _ _ _ _ rfl rfl hS.2 (by kernel_rfl) ?_
  have hS9 := hS.row HNE.out (.int .i64 0) (.int .i64 r') (.int .i64 v') (.slice ao R.length cp)
  have HFB : Hid (FBk z1 (w.heap.size + 1)) := hS.2
  clear hS
  refine hK.out _ _ hS9 (fun hS => ?_)
  clear hK K
  clear hS9
  refine wpAnyH_done (by kernel_rfl) ?_ _
  go_simp
  go_wp2_with fail
  refine bodyPost_ret (v := .agg #[.int .i64 0, .int .i64 r', .int .i64 v', .slice ao R.length cp]) (results_fs Tryz.results23 _ _ _ _ _ _ _ rfl HFB.out) rfl ?_
  exact res_end HO.out.1 HO.out.2.1 HO.out.2.2 (by omega) HZ0.out _
/-- What ApplyFs answers. -/
def ApAns (n : Nat) (F : Nat → Int) (kd d nm td tn vv c r v : Int) (R : Prs) : Prop :=
  (fsF n F ≠ 0 ∧ c = fsF n F ∧ r = 0 ∧ v = 0 ∧ R = []) ∨ (fsF n F = 0 ∧ opF kd d nm td tn vv ≠ 0 ∧ c = opF kd d nm td tn vv ∧ r = 0 ∧ v = 0 ∧ R = []) ∨ (fsF n F = 0 ∧ opF kd d nm td tn vv = 0 ∧ c = 0 ∧ applyP (listOf F n) kd d nm td tn vv = (r, v, R))
theorem ApAns.get (n : Nat) (F : Nat → Int) (kd d nm td tn vv : Int) : ∃ c r v R, ApAns n F kd d nm td tn vv c r v R ∧ R.length ≤ 200 := by
  by_cases h : fsF n F = 0
  · by_cases h2 : opF kd d nm td tn vv = 0
    · exact ⟨0, _, _, _, Or.inr (Or.inr ⟨h, h2, rfl, rfl⟩), ((good_of_pairs (fsF_zero h).1).applyOp h2).len⟩
    · exact ⟨_, 0, 0, [], Or.inr (Or.inl ⟨h, h2, rfl, rfl, rfl, rfl⟩), by simp⟩
  · exact ⟨_, 0, 0, [], Or.inl ⟨h, rfl, rfl, rfl, rfl⟩, by simp⟩
set_option maxRecDepth 100000 in
set_option maxHeartbeats 4000000 in
theorem specApplyFs_is (y : Value) (B n : Nat) (F : Nat → Int) (kd d nm td tn vv c r v : Int) (R : Prs) (w : World) (h : Row w B 2 n F y) (hn : n ≤ 1048576) (ha : ApAns n F kd d nm td tn vv c r v R) :
    Calls Tryz.prog 9 #[y, .agg #[.int .i64 kd, .int .i64 d, .int .i64 nm, .int .i64 td, .int .i64 tn, .int .i64 vv]] w (ResFs w c r v R) := by
  have H : Hid (Row w B 2 n F y) := h
  have HB0 : Hid (Bxf w kd d nm td tn vv ((w.alloc (opO kd d nm td tn vv)).alloc zeroFs) ∧ Below w.heap.size w ((w.alloc (opO kd d nm td tn vv)).alloc zeroFs)) := ⟨Bxf.new _ _ _ _ _ _ _, (below_alloc _ _).alloc (by simp) _⟩
  clear h
  rcases ha with ⟨h1, rfl, rfl, rfl, rfl⟩ | ⟨h1, h2, rfl, rfl, rfl, rfl⟩ | ⟨h1, h2, rfl, hp⟩
  · obtain ⟨f, hf⟩ : ∃ f, fsF n F = f := ⟨_, rfl⟩
    have HF : Hid (fsF n F = f ∧ True) := ⟨hf, trivial⟩
    have dd : (f != 0) = true := bne_iff_ne.2 (by rw [← hf]; exact h1)
    rw [hf]
    clear h1 hf
    go_enter Tryz.func9, Tryz.ntmps9
    go_wp2_with fail
    refine (specFs_is _ B n F _ (H.out.later HB0.out.2) hn).mono ?_
    rintro e w1 ⟨rfl, q1⟩
    rw [HF.out.1]
    have H1 : Hid (Bxf w kd d nm td tn vv w1 ∧ Below w.heap.size w w1) := ⟨HB0.out.1.later q1, HB0.out.2.trans (q1.mono HB0.out.2.size)⟩
    clear q1
    go_wp2_with (refine wpList_storeF rfl _ _ rfl (w.heap.size + 1) _ _ _ _ rfl rfl H1.out.1.2 (by kernel_rfl) ?_)
    refine bodyPost_ret (v := .agg #[.int .i64 f, .int .i64 0, .int .i64 0, .slice none 0 0]) (results_fs Tryz.results9 _ _ _ _ _ _ _ rfl H1.out.1.2) rfl (res_nil _ (below_row H1.out.2 (by omega) _))
  · obtain ⟨f, hf⟩ : ∃ f, opF kd d nm td tn vv = f := ⟨_, rfl⟩
    have HF : Hid (fsF n F = 0 ∧ opF kd d nm td tn vv = f ∧ True) := ⟨h1, hf, trivial⟩
    have dd : (f != 0) = true := bne_iff_ne.2 (by rw [← hf]; exact h2)
    rw [hf]
    clear h1 h2 hf
    go_enter Tryz.func9, Tryz.ntmps9
    go_wp2_with fail
    refine (specFs_is _ B n F _ (H.out.later HB0.out.2) hn).mono ?_
    rintro e w1 ⟨rfl, q1⟩
    rw [HF.out.1]
    have H1 : Hid (Bxf w kd d nm td tn vv w1 ∧ Below w.heap.size w w1) := ⟨HB0.out.1.later q1, HB0.out.2.trans (q1.mono HB0.out.2.size)⟩
    clear q1
    obtain ⟨⟨b0, b1, b2, b3, b4, b5⟩, _⟩ := H1.out.1.1
    go_wp2_with fail
    refine (specFsOp_any kd d nm td tn vv _).mono ?_
    rintro e w2 ⟨rfl, q2⟩
    rw [HF.out.2.1]
    have H2 : Hid (Bxf w kd d nm td tn vv w2 ∧ Below w.heap.size w w2) := ⟨H1.out.1.later q2, H1.out.2.trans (q2.mono H1.out.2.size)⟩
    clear q2 H1 b0 b1 b2 b3 b4 b5
    go_wp2_with (refine wpList_storeF rfl _ _ rfl (w.heap.size + 1) _ _ _ _ rfl rfl H2.out.1.2 (by kernel_rfl) ?_)
    refine bodyPost_ret (v := .agg #[.int .i64 f, .int .i64 0, .int .i64 0, .slice none 0 0]) (results_fs Tryz.results9 _ _ _ _ _ _ _ rfl H2.out.1.2) rfl (res_nil _ (below_row H2.out.2 (by omega) _))
  have HF : Hid (fsF n F = 0 ∧ opF kd d nm td tn vv = 0 ∧ True) := ⟨h1, h2, trivial⟩
  go_enter Tryz.func9, Tryz.ntmps9
  go_wp2_with fail
  refine (specFs_is _ B n F _ (H.out.later HB0.out.2) hn).mono ?_
  rintro e w1 ⟨rfl, q1⟩
  rw [HF.out.1]
  have H1 : Hid (Bxf w kd d nm td tn vv w1 ∧ Below w.heap.size w w1) := ⟨HB0.out.1.later q1, HB0.out.2.trans (q1.mono HB0.out.2.size)⟩
  clear q1
  obtain ⟨⟨b0, b1, b2, b3, b4, b5⟩, _⟩ := H1.out.1.1
  go_wp2_with fail
  refine (specFsOp_any kd d nm td tn vv _).mono ?_
  rintro e w2 ⟨rfl, q2⟩
  rw [HF.out.2.1]
  have H2 : Hid (Bxf w kd d nm td tn vv w2 ∧ Below w.heap.size w w2) := ⟨H1.out.1.later q2, H1.out.2.trans (q2.mono H1.out.2.size)⟩
  clear q2 H1 b0 b1 b2 b3 b4 b5
  have hob := op_bounds h2
  have hgp := good_of_pairs (fsF_zero h1).1
  have HCX : Hid (Ctx w2 (listOf F n) y w.heap.size 0 kd d nm td tn vv) := ⟨⟨(row_list (H.out.later H2.out.2)).mono (Nat.zero_le _), by have := hgp.len; omega⟩, H2.out.1.1.toO, hgp.vals, hob.2.1, hob.2.2.1, hob.2.2.2.1, hob.2.2.2.2⟩
  have HG : Hid (GoodP (listOf F n) ∧ opF kd d nm td tn vv = 0 ∧ applyP (listOf F n) kd d nm td tn vv = (r, v, R)) := ⟨hgp, h2, hp⟩
  clear hob hgp h1 h2 hp
  go_wp2_with fail
  refine (l14Apply_is (listOf F n) y w.heap.size 0 kd d nm td tn vv _ HCX.out HG.out.2.1 HG.out.1 r v R HG.out.2.2).mono ?_
  rintro e w3 ⟨ao, cp, rfl, hrow, hfree, q3⟩
  clear HCX
  have H4 : Hid (FBk w3 (w.heap.size + 1) ∧ Below w.heap.size w w3 ∧ Row w3 w2.heap.size 2 R.length (rowL R) (.slice ao R.length cp) ∧ Free w3 (R.length * 2) (.slice ao R.length cp) ∧ w.heap.size + 1 < w2.heap.size) := ⟨H2.out.1.2.later q3, H2.out.2.trans (q3.mono H2.out.2.size), hrow, hfree, H2.out.1.2.lt⟩
  clear hrow hfree q3 H2
  go_wp2_with (refine wpList_storeF rfl _ _ rfl (w.heap.size + 1) _ _ _ _ rfl rfl H4.out.1 (by kernel_rfl) ?_)
  exact bodyPost_ret (v := .agg #[.int .i64 0, .int .i64 r, .int .i64 v, .slice ao R.length cp]) (results_fs Tryz.results9 _ _ _ _ _ _ _ rfl H4.out.1) rfl (res_end H4.out.2.2.1 H4.out.2.2.2.1 H4.out.2.1 (by omega) H4.out.2.2.2.2 _)
set_option maxRecDepth 100000 in
set_option maxHeartbeats 4000000 in
theorem implApplyFs_is (y : Value) (B n : Nat) (F : Nat → Int) (kd d nm td tn vv c r v : Int) (R : Prs) (w : World) (h : Row w B 2 n F y) (hn : n ≤ 1048576) (ha : ApAns n F kd d nm td tn vv c r v R) :
    Calls Tryz.prog 8 #[y, .agg #[.int .i64 kd, .int .i64 d, .int .i64 nm, .int .i64 td, .int .i64 tn, .int .i64 vv]] w (ResFs w c r v R) := by
  have H : Hid (Row w B 2 n F y) := h
  have HB0 : Hid (Bxf w kd d nm td tn vv ((w.alloc (opO kd d nm td tn vv)).alloc zeroFs) ∧ Below w.heap.size w ((w.alloc (opO kd d nm td tn vv)).alloc zeroFs)) := ⟨Bxf.new _ _ _ _ _ _ _, (below_alloc _ _).alloc (by simp) _⟩
  clear h
  rcases ha with ⟨h1, rfl, rfl, rfl, rfl⟩ | ⟨h1, h2, rfl, rfl, rfl, rfl⟩ | ⟨h1, h2, rfl, hp⟩
  · obtain ⟨f, hf⟩ : ∃ f, fsF n F = f := ⟨_, rfl⟩
    have HF : Hid (fsF n F = f ∧ True) := ⟨hf, trivial⟩
    have dd : (f != 0) = true := bne_iff_ne.2 (by rw [← hf]; exact h1)
    rw [hf]
    clear h1 hf
    go_enter Tryz.func8, Tryz.ntmps8
    go_wp2_with fail
    refine (implFs_is _ B n F _ (H.out.later HB0.out.2) hn).mono ?_
    rintro e w1 ⟨rfl, q1⟩
    rw [HF.out.1]
    have H1 : Hid (Bxf w kd d nm td tn vv w1 ∧ Below w.heap.size w w1) := ⟨HB0.out.1.later q1, HB0.out.2.trans (q1.mono HB0.out.2.size)⟩
    clear q1
    go_wp2_with (refine wpList_storeF rfl _ _ rfl (w.heap.size + 1) _ _ _ _ rfl rfl H1.out.1.2 (by kernel_rfl) ?_)
    refine bodyPost_ret (v := .agg #[.int .i64 f, .int .i64 0, .int .i64 0, .slice none 0 0]) (results_fs Tryz.results8 _ _ _ _ _ _ _ rfl H1.out.1.2) rfl (res_nil _ (below_row H1.out.2 (by omega) _))
  · obtain ⟨f, hf⟩ : ∃ f, opF kd d nm td tn vv = f := ⟨_, rfl⟩
    have HF : Hid (fsF n F = 0 ∧ opF kd d nm td tn vv = f ∧ True) := ⟨h1, hf, trivial⟩
    have dd : (f != 0) = true := bne_iff_ne.2 (by rw [← hf]; exact h2)
    rw [hf]
    clear h1 h2 hf
    go_enter Tryz.func8, Tryz.ntmps8
    go_wp2_with fail
    refine (implFs_is _ B n F _ (H.out.later HB0.out.2) hn).mono ?_
    rintro e w1 ⟨rfl, q1⟩
    rw [HF.out.1]
    have H1 : Hid (Bxf w kd d nm td tn vv w1 ∧ Below w.heap.size w w1) := ⟨HB0.out.1.later q1, HB0.out.2.trans (q1.mono HB0.out.2.size)⟩
    clear q1
    obtain ⟨⟨b0, b1, b2, b3, b4, b5⟩, _⟩ := H1.out.1.1
    go_wp2_with fail
    refine (implFsOp_any kd d nm td tn vv _).mono ?_
    rintro e w2 ⟨rfl, q2⟩
    rw [HF.out.2.1]
    have H2 : Hid (Bxf w kd d nm td tn vv w2 ∧ Below w.heap.size w w2) := ⟨H1.out.1.later q2, H1.out.2.trans (q2.mono H1.out.2.size)⟩
    clear q2 H1 b0 b1 b2 b3 b4 b5
    go_wp2_with (refine wpList_storeF rfl _ _ rfl (w.heap.size + 1) _ _ _ _ rfl rfl H2.out.1.2 (by kernel_rfl) ?_)
    refine bodyPost_ret (v := .agg #[.int .i64 f, .int .i64 0, .int .i64 0, .slice none 0 0]) (results_fs Tryz.results8 _ _ _ _ _ _ _ rfl H2.out.1.2) rfl (res_nil _ (below_row H2.out.2 (by omega) _))
  have HF : Hid (fsF n F = 0 ∧ opF kd d nm td tn vv = 0 ∧ True) := ⟨h1, h2, trivial⟩
  go_enter Tryz.func8, Tryz.ntmps8
  go_wp2_with fail
  refine (implFs_is _ B n F _ (H.out.later HB0.out.2) hn).mono ?_
  rintro e w1 ⟨rfl, q1⟩
  rw [HF.out.1]
  have H1 : Hid (Bxf w kd d nm td tn vv w1 ∧ Below w.heap.size w w1) := ⟨HB0.out.1.later q1, HB0.out.2.trans (q1.mono HB0.out.2.size)⟩
  clear q1
  obtain ⟨⟨b0, b1, b2, b3, b4, b5⟩, _⟩ := H1.out.1.1
  go_wp2_with fail
  refine (implFsOp_any kd d nm td tn vv _).mono ?_
  rintro e w2 ⟨rfl, q2⟩
  rw [HF.out.2.1]
  have H2 : Hid (Bxf w kd d nm td tn vv w2 ∧ Below w.heap.size w w2) := ⟨H1.out.1.later q2, H1.out.2.trans (q2.mono H1.out.2.size)⟩
  clear q2 H1 b0 b1 b2 b3 b4 b5
  have HG : Hid (pairsF F n 0 = 0 ∧ opF kd d nm td tn vv = 0 ∧ applyP (listOf F n) kd d nm td tn vv = (r, v, R)) := ⟨(fsF_zero h1).1, h2, hp⟩
  clear h1 h2 hp
  obtain ⟨⟨b0, b1, b2, b3, b4, b5⟩, _⟩ := H2.out.1.1
  go_wp2_with fail
  refine (applyOp_is y B n F kd d nm td tn vv _ (H.out.later H2.out.2) hn HG.out.1 HG.out.2.1 r v R HG.out.2.2).mono ?_
  rintro e w3 ⟨ao, cp, rfl, hrow, hfree, q3⟩
  clear b0 b1 b2 b3 b4 b5
  have H4 : Hid (FBk w3 (w.heap.size + 1) ∧ Below w.heap.size w w3 ∧ Row w3 w2.heap.size 2 R.length (rowL R) (.slice ao R.length cp) ∧ Free w3 (R.length * 2) (.slice ao R.length cp) ∧ w.heap.size + 1 < w2.heap.size) := ⟨H2.out.1.2.later q3, H2.out.2.trans (q3.mono H2.out.2.size), hrow, hfree, H2.out.1.2.lt⟩
  clear hrow hfree q3 H2
  go_wp2_with (refine wpList_storeF rfl _ _ rfl (w.heap.size + 1) _ _ _ _ rfl rfl H4.out.1 (by kernel_rfl) ?_)
  exact bodyPost_ret (v := .agg #[.int .i64 0, .int .i64 r, .int .i64 v, .slice ao R.length cp]) (results_fs Tryz.results8 _ _ _ _ _ _ _ rfl H4.out.1) rfl (res_end H4.out.2.2.1 H4.out.2.2.2.1 H4.out.2.1 (by omega) H4.out.2.2.2.2 _)
end Go.Proofs.YtnchaccgenfhoaaGreat

namespace Go.Proofs.YtnchaccgenfhoaaGreat
open Go.RowKit

theorem setCell_otherE {x : World} {b i j : Nat} {u v : Value} (hn : i ≠ j) (h : x.cell? ⟨b, i, none⟩ = some u) : (x.setCell ⟨b, j, none⟩ v).cell? ⟨b, i, none⟩ = some u := (World.cell?_setCell_other _ _ _ _ (fun e => hn (congrArg Addr.off e).symm)).trans h
theorem Blk6.put34 {x : World} {b : Nat} {a0 a1 a2 a3 a4 a5 : Value} (h : Blk6 x b a0 a1 a2 a3 a4 a5) (c3 c4 : Value) : Blk6 ((x.setCell ⟨b, 3, none⟩ c3).setCell ⟨b, 4, none⟩ c4) b a0 a1 a2 c3 c4 a5 := by
  obtain ⟨⟨h0, h1, h2, h3, h4, h5⟩, f0, f1, f2, f3, f4, f5⟩ := h
  refine ⟨⟨?_, ?_, ?_, ?_, ?_, ?_⟩, by simpa using f0, by simpa using f1, by simpa using f2, by simpa using f3, by simpa using f4, by simpa using f5⟩
  · exact setCell_otherE (by decide) (setCell_otherE (by decide) h0)
  · exact setCell_otherE (by decide) (setCell_otherE (by decide) h1)
  · exact setCell_otherE (by decide) (setCell_otherE (by decide) h2)
  · exact setCell_otherE (by decide) (World.cell?_setCell_same _ _ _ h3)
  · exact World.cell?_setCell_same _ _ _ (setCell_otherE (by decide) h4)
  · exact setCell_otherE (by decide) (setCell_otherE (by decide) h5)
theorem Blk6.putAll {x : World} {b : Nat} {a0 a1 a2 a3 a4 a5 : Value} (h : Blk6 x b a0 a1 a2 a3 a4 a5) (c0 c1 c2 c3 c4 c5 : Value) : Blk6 ((((((x.setCell ⟨b, 0, none⟩ c0).setCell ⟨b, 1, none⟩ c1).setCell ⟨b, 2, none⟩ c2).setCell ⟨b, 3, none⟩ c3).setCell ⟨b, 4, none⟩ c4).setCell ⟨b, 5, none⟩ c5) b c0 c1 c2 c3 c4 c5 := by
  obtain ⟨⟨h0, h1, h2, h3, h4, h5⟩, f0, f1, f2, f3, f4, f5⟩ := h
  refine ⟨⟨?_, ?_, ?_, ?_, ?_, ?_⟩, by simpa using f0, by simpa using f1, by simpa using f2, by simpa using f3, by simpa using f4, by simpa using f5⟩
  · exact setCell_otherE (by decide) (setCell_otherE (by decide) (setCell_otherE (by decide) (setCell_otherE (by decide) (setCell_otherE (by decide) (World.cell?_setCell_same _ _ _ h0)))))
  · exact setCell_otherE (by decide) (setCell_otherE (by decide) (setCell_otherE (by decide) (setCell_otherE (by decide) (World.cell?_setCell_same _ _ _ (setCell_otherE (by decide) h1)))))
  · exact setCell_otherE (by decide) (setCell_otherE (by decide) (setCell_otherE (by decide) (World.cell?_setCell_same _ _ _ (setCell_otherE (by decide) (setCell_otherE (by decide) h2)))))
  · exact setCell_otherE (by decide) (setCell_otherE (by decide) (World.cell?_setCell_same _ _ _ (setCell_otherE (by decide) (setCell_otherE (by decide) (setCell_otherE (by decide) h3)))))
  · exact setCell_otherE (by decide) (World.cell?_setCell_same _ _ _ (setCell_otherE (by decide) (setCell_otherE (by decide) (setCell_otherE (by decide) (setCell_otherE (by decide) h4)))))
  · exact World.cell?_setCell_same _ _ _ (setCell_otherE (by decide) (setCell_otherE (by decide) (setCell_otherE (by decide) (setCell_otherE (by decide) (setCell_otherE (by decide) h5)))))

end Go.Proofs.YtnchaccgenfhoaaGreat

namespace Go.Proofs.YtnchaccgenfhoaaGreat
open Go.RowKit

/-- An operation that was drawn: it suits, and nothing in it is great. -/
def DrawnO (kd d n td tn v : Int) : Prop := (1 ≤ kd ∧ kd ≤ 8) ∧ (0 ≤ d ∧ d ≤ 2) ∧ (0 ≤ n ∧ n ≤ 2) ∧ ((kd = 4 ∨ kd = 5) ∧ (0 ≤ td ∧ td ≤ 2) ∧ (0 ≤ tn ∧ tn ≤ 3) ∨ td = 0 ∧ tn = 0) ∧ (kd = 6 ∧ (0 ≤ v ∧ v ≤ 98) ∨ v = 0)
def zeroO : Obj := .cells #[.int .i64 0, .int .i64 0, .int .i64 0, .int .i64 0, .int .i64 0, .int .i64 0] 26
structure DrO (w : World) (b : Nat) (o : Option Addr) (len cap : Nat) (a : Int) (x : World) : Prop where
  src : Src x b o len cap a
  but : But b w x
  res : Blk6 x w.heap.size (.int .i64 0) (.int .i64 0) (.int .i64 0) (.int .i64 0) (.int .i64 0) (.int .i64 0)
theorem DrO.alloc {w x : World} {b : Nat} {o : Option Addr} {len cap : Nat} {a : Int} (h : DrO w b o len cap a x) (ob : Obj) : DrO w b o len cap a (x.alloc ob) := ⟨h.src.alloc _, h.but.alloc _, h.res.alloc _⟩
theorem DrO.step {w x x' : World} {b : Nat} {o : Option Addr} {len cap : Nat} {a a' : Int} (h : DrO w b o len cap a x) (hb : b < w.heap.size) (hS : Src x' b o len cap a') (hT : But b x x') : DrO w b o len cap a' x' :=
  ⟨hS, h.but.trans hT, h.res.kept (hT.block _ h.res.lt (fun e => by have := Option.some.inj e; omega))⟩
def pickA : Array Value := #[.int .i64 1, .int .i64 1, .int .i64 2, .int .i64 2, .int .i64 3, .int .i64 4, .int .i64 5, .int .i64 6, .int .i64 6, .int .i64 7, .int .i64 8]
def pickB : Array Value := #[.int .i64 0, .int .i64 0, .int .i64 1, .int .i64 2]
theorem intsA (x : World) : Ints (x.alloc (.cells #[.int .i64 1, .int .i64 1, .int .i64 2, .int .i64 2, .int .i64 3, .int .i64 4, .int .i64 5, .int .i64 6, .int .i64 6, .int .i64 7, .int .i64 8] 2)) x.heap.size (.slice (some ⟨x.heap.size, 0, none⟩) 11 11) [1, 1, 2, 2, 3, 4, 5, 6, 6, 7, 8] := World.ownsRow_lit x pickA 11 (Nat.le_refl _) (by decide) rfl
theorem intsB (x : World) : Ints (x.alloc (.cells #[.int .i64 0, .int .i64 0, .int .i64 1, .int .i64 2] 2)) x.heap.size (.slice (some ⟨x.heap.size, 0, none⟩) 4 4) [0, 0, 1, 2] := World.ownsRow_lit x pickB 4 (Nat.le_refl _) (by decide) rfl
theorem memB {r : Int} (h : r ∈ [(0 : Int), 0, 1, 2]) : 0 ≤ r ∧ r ≤ 2 := by
  simp only [List.mem_cons, List.not_mem_nil, or_false] at h
  omega
theorem memA {r : Int} (h : r ∈ [(1 : Int), 1, 2, 2, 3, 4, 5, 6, 6, 7, 8]) : 1 ≤ r ∧ r ≤ 8 := by
  simp only [List.mem_cons, List.not_mem_nil, or_false] at h
  omega
/-- Behind the build: the operation's box. -/
structure DrB (w : World) (b : Nat) (o : Option Addr) (len cap : Nat) (g : Nat) (kd d n td tn v : Int) (a : Int) (x : World) : Prop where
  dr : DrO w b o len cap a x
  box : Blk6 x g (.int .i64 kd) (.int .i64 d) (.int .i64 n) (.int .i64 td) (.int .i64 tn) (.int .i64 v)
  lt : w.heap.size < g
theorem DrB.step {w x x' : World} {b : Nat} {o : Option Addr} {len cap g : Nat} {kd d n td tn v a a' : Int} (h : DrB w b o len cap g kd d n td tn v a x) (hb : b < w.heap.size) (hS : Src x' b o len cap a') (hT : But b x x') : DrB w b o len cap g kd d n td tn v a' x' :=
  ⟨h.dr.step hb hS hT, h.box.kept (hT.block _ h.box.lt (fun e => by have := Option.some.inj e; have := h.lt; omega)), h.lt⟩
theorem DrB.alloc {w x : World} {b : Nat} {o : Option Addr} {len cap g : Nat} {kd d n td tn v a : Int} (h : DrB w b o len cap g kd d n td tn v a x) (ob : Obj) : DrB w b o len cap g kd d n td tn v a (x.alloc ob) := ⟨h.dr.alloc _, h.box.alloc _, h.lt⟩
theorem But.setO {b : Nat} {w x : World} (h : But b w x) {c : Nat} (hc : w.heap.size ≤ c) (off : Nat) (v : Value) : But b w (x.setCell ⟨c, off, none⟩ v) :=
  ⟨h.os, h.tape, h.output, by simpa [World.setCell] using h.size, fun k hk hne => (Below.heap_setCell x ⟨c, off, none⟩ v k (by simp; omega)).trans (h.block k hk hne)⟩
theorem Src.setO {x : World} {b : Nat} {o : Option Addr} {len cap : Nat} {a : Int} (h : Src x b o len cap a) {w : World} {a0 : Int} (h0 : Src w b o len cap a0) (hT : But b w x) {c : Nat} (hc : w.heap.size ≤ c) (off : Nat) (v : Value) : Src (x.setCell ⟨c, off, none⟩ v) b o len cap a := by
  have hb := h0.lt
  have kb : (x.setCell ⟨c, off, none⟩ v).heap[b]? = x.heap[b]? := Below.heap_setCell x ⟨c, off, none⟩ v b (by simp; omega)
  refine ⟨(World.cell?_of_block (w := x) (a := ⟨b, 0, none⟩) kb).trans h.code, (World.cell?_of_block (w := x) (a := ⟨b, 1, none⟩) kb).trans h.count, (World.frozen?_of_block (w := x) (a := ⟨b, 1, none⟩) kb).trans h.live, h.pos, fun j hj => ?_⟩
  obtain ⟨g, off', n, e1, e2, e3, e4⟩ := h0.bytes j hj
  exact ⟨g, off', n, e1, e2, (hT.setO hc off v).cell e3 e2, e4⟩
theorem DrO.set {w x : World} {b : Nat} {o : Option Addr} {len cap : Nat} {a : Int} (h : DrO w b o len cap a x) {a0 : Int} (h0 : Src w b o len cap a0) {c : Nat} (hc : w.heap.size < c) (off : Nat) (v : Value) : DrO w b o len cap a (x.setCell ⟨c, off, none⟩ v) :=
  ⟨h.src.setO h0 h.but (by omega) off v, h.but.setO (by omega) off v, h.res.kept (Below.heap_setCell x ⟨c, off, none⟩ v _ (by simp; omega))⟩
theorem DrB.put34 {w x : World} {b : Nat} {o : Option Addr} {len cap g : Nat} {kd d n td tn v a : Int} (h : DrB w b o len cap g kd d n td tn v a x) {a0 : Int} (h0 : Src w b o len cap a0) (u : Int) (j : Nat) (hj : j = 3 ∨ j = 4 ∨ j = 5) :
    DrB w b o len cap g kd d n (if j = 3 then u else td) (if j = 4 then u else tn) (if j = 5 then u else v) a (x.setCell ⟨g, j, none⟩ (.int .i64 u)) := by
  refine ⟨h.dr.set h0 h.lt _ _, ?_, h.lt⟩
  obtain ⟨⟨c0, c1, c2, c3, c4, c5⟩, f0, f1, f2, f3, f4, f5⟩ := h.box
  rcases hj with rfl | rfl | rfl
  · refine ⟨⟨?_, ?_, ?_, ?_, ?_, ?_⟩, by simpa using f0, by simpa using f1, by simpa using f2, by simpa using f3, by simpa using f4, by simpa using f5⟩
    · exact setCell_otherE (by decide) c0
    · exact setCell_otherE (by decide) c1
    · exact setCell_otherE (by decide) c2
    · exact World.cell?_setCell_same _ _ _ c3
    · exact setCell_otherE (by decide) c4
    · exact setCell_otherE (by decide) c5
  · refine ⟨⟨?_, ?_, ?_, ?_, ?_, ?_⟩, by simpa using f0, by simpa using f1, by simpa using f2, by simpa using f3, by simpa using f4, by simpa using f5⟩
    · exact setCell_otherE (by decide) c0
    · exact setCell_otherE (by decide) c1
    · exact setCell_otherE (by decide) c2
    · exact setCell_otherE (by decide) c3
    · exact World.cell?_setCell_same _ _ _ c4
    · exact setCell_otherE (by decide) c5
  · refine ⟨⟨?_, ?_, ?_, ?_, ?_, ?_⟩, by simpa using f0, by simpa using f1, by simpa using f2, by simpa using f3, by simpa using f4, by simpa using f5⟩
    · exact setCell_otherE (by decide) c0
    · exact setCell_otherE (by decide) c1
    · exact setCell_otherE (by decide) c2
    · exact setCell_otherE (by decide) c3
    · exact setCell_otherE (by decide) c4
    · exact World.cell?_setCell_same _ _ _ c5
end Go.Proofs.YtnchaccgenfhoaaGreat

namespace Go.Proofs.YtnchaccgenfhoaaGreat
open Go.RowKit

theorem DrO.fin {w x : World} {b : Nat} {o : Option Addr} {len cap : Nat} {a a0 : Int} (h : DrO w b o len cap a x) (h0 : Src w b o len cap a0) (c0 c1 c2 c3 c4 c5 : Value) :
    Src ((((((x.setCell ⟨w.heap.size, 0, none⟩ c0).setCell ⟨w.heap.size, 1, none⟩ c1).setCell ⟨w.heap.size, 2, none⟩ c2).setCell ⟨w.heap.size, 3, none⟩ c3).setCell ⟨w.heap.size, 4, none⟩ c4).setCell ⟨w.heap.size, 5, none⟩ c5) b o len cap a ∧
      But b w ((((((x.setCell ⟨w.heap.size, 0, none⟩ c0).setCell ⟨w.heap.size, 1, none⟩ c1).setCell ⟨w.heap.size, 2, none⟩ c2).setCell ⟨w.heap.size, 3, none⟩ c3).setCell ⟨w.heap.size, 4, none⟩ c4).setCell ⟨w.heap.size, 5, none⟩ c5) := by
  have l := Nat.le_refl w.heap.size
  have s0 := h.src.setO h0 h.but l 0 c0
  have t0 := h.but.setO l 0 c0
  have s1 := s0.setO h0 t0 l 1 c1
  have t1 := t0.setO l 1 c1
  have s2 := s1.setO h0 t1 l 2 c2
  have t2 := t1.setO l 2 c2
  have s3 := s2.setO h0 t2 l 3 c3
  have t3 := t2.setO l 3 c3
  have s4 := s3.setO h0 t3 l 4 c4
  have t4 := t3.setO l 4 c4
  exact ⟨s4.setO h0 t4 l 5 c5, t4.setO l 5 c5⟩
theorem intsAg (x : World) (g : Nat) (hg : x.heap.size = g) : Ints (x.alloc (.cells #[.int .i64 1, .int .i64 1, .int .i64 2, .int .i64 2, .int .i64 3, .int .i64 4, .int .i64 5, .int .i64 6, .int .i64 6, .int .i64 7, .int .i64 8] 2)) g (.slice (some ⟨g, 0, none⟩) 11 11) [1, 1, 2, 2, 3, 4, 5, 6, 6, 7, 8] := hg ▸ intsA x
theorem intsBg (x : World) (g : Nat) (hg : x.heap.size = g) : Ints (x.alloc (.cells #[.int .i64 0, .int .i64 0, .int .i64 1, .int .i64 2] 2)) g (.slice (some ⟨g, 0, none⟩) 4 4) [0, 0, 1, 2] := hg ▸ intsB x
theorem hidPln {p : Prop} (h : p) : Hid p := h
set_option maxRecDepth 100000 in
set_option maxHeartbeats 4000000 in
theorem l13Draw_any (w : World) (b : Nat) (o : Option Addr) (len cap : Nat) (a : Int) (h : Src w b o len cap a) (ha : a ≤ 900000) (hl : len ≤ 1048576) :
    Calls Tryz.prog 43 #[.pointer (some ⟨b, 0, none⟩)] w fun e w' => ∃ kd d n td tn v a1 : Int, e = .returned (.agg #[.int .i64 kd, .int .i64 d, .int .i64 n, .int .i64 td, .int .i64 tn, .int .i64 v]) ∧ DrawnO kd d n td tn v ∧ a1 ≤ a + 6 ∧ Src w' b o len cap a1 ∧ But b w w' := by
  have H : Hid (Src w b o len cap a) := h
  have hbl := h.lt
  have H0 : Hid (DrO w b o len cap a (w.alloc zeroO)) := ⟨h.alloc _, (But.refl _ _).alloc _, Blk6.new w _ _ _ _ _ _ _⟩
  clear h
  go_enter Tryz.func43, Tryz.ntmps43
  go_wp2_with fail
  refine (l1Pick_any _ b o len cap a _ _ [1, 1, 2, 2, 3, 4, 5, 6, 6, 7, 8] (H0.out.src.alloc _) (by omega) hl (intsAg (w.alloc zeroO) (w.heap.size + 1) (World.size_alloc _ _)) (by omega) (by simp) (by simp)).mono ?_
  rintro e w1 ⟨kd, rfl, mk, hS, hT⟩
  have H1 : Hid (DrO w b o len cap (a + 1) w1) := (H0.out.alloc _).step hbl hS hT
  have mk' := memA mk
  clear hS hT H0 mk
  go_wp2_with fail
  refine (l1Pick_any _ b o len cap (a + 1) _ _ [0, 0, 1, 2] (H1.out.src.alloc _) (by omega) hl (intsBg w1 w1.heap.size rfl) H1.out.src.lt (by simp) (by simp)).mono ?_
  rintro e w2 ⟨d, rfl, md, hS, hT⟩
  have H2 : Hid (DrO w b o len cap (a + 1 + 1) w2) := (H1.out.alloc _).step hbl hS hT
  have md' := memB md
  clear hS hT H1 md
  go_wp2_with fail
  refine (l1Next_any _ b o len cap (a + 1 + 1) 3 H2.out.src (by omega) hl).mono ?_
  rintro e w3 ⟨n, rfl, n0, n1, hS, hT⟩
  have n3 := n1 (by omega)
  have HW3 : Hid (DrO w b o len cap (a + 1 + 1 + 1) w3) := H2.out.step hbl hS hT
  have H3 : Hid (DrB w b o len cap w3.heap.size kd d n 0 0 0 (a + 1 + 1 + 1) (w3.alloc (.cells #[.int .i64 kd, .int .i64 d, .int .i64 n, .int .i64 0, .int .i64 0, .int .i64 0] 26))) := ⟨HW3.out.alloc _, Blk6.new w3 _ _ _ _ _ _ _, HW3.out.res.lt⟩
  clear hS hT H2 n1
  obtain ⟨⟨q0, q1, q2, q3, q4, q5⟩, p0, p1, p2, p3, p4, p5⟩ := HW3.out.res
  have hwl := HW3.out.res.lt
  rcases (show kd = 4 ∨ kd = 5 ∨ kd = 6 ∨ (kd ≠ 4 ∧ kd ≠ 5 ∧ kd ≠ 6) by omega) with rfl | rfl | rfl | ⟨k4, k5, k6⟩
  · obtain ⟨⟨c0, c1, c2, c3, c4, c5⟩, f0, f1, f2, f3, f4, f5⟩ := H3.out.box
    obtain ⟨⟨r0, r1, r2, r3, r4, r5⟩, g0, g1, g2, g3, g4, g5⟩ := H3.out.dr.res
    have hgl := H3.out.lt
    go_wp2_with fail
    refine (l1Pick_any _ b o len cap (a + 1 + 1 + 1) _ _ [0, 0, 1, 2] (H3.out.dr.src.alloc _) (by omega) hl (intsBg (w3.alloc (.cells #[.int .i64 4, .int .i64 d, .int .i64 n, .int .i64 0, .int .i64 0, .int .i64 0] 26)) (w3.heap.size + 1) (World.size_alloc _ _)) (by omega) (by simp) (by simp)).mono ?_
    rintro e w4 ⟨td, rfl, mtd, hS, hT⟩
    have H4 : Hid (DrB w b o len cap w3.heap.size 4 d n 0 0 0 (a + 1 + 1 + 1 + 1) w4) := (H3.out.alloc _).step hbl hS hT
    clear c0 c1 c2 c3 c4 c5 f0 f1 f2 f3 f4 f5 r0 r1 r2 r3 r4 r5 g0 g1 g2 g3 g4 g5
    clear hS hT H3 hgl
    obtain ⟨⟨c0, c1, c2, c3, c4, c5⟩, f0, f1, f2, f3, f4, f5⟩ := H4.out.box
    obtain ⟨⟨r0, r1, r2, r3, r4, r5⟩, g0, g1, g2, g3, g4, g5⟩ := H4.out.dr.res
    have hgl := H4.out.lt
    have H5 : Hid (DrB w b o len cap w3.heap.size 4 d n td 0 0 (a + 1 + 1 + 1 + 1) (w4.setCell ⟨w3.heap.size, 3, none⟩ (.int .i64 td))) := H4.out.put34 H.out td 3 (Or.inl rfl)
    go_wp2_with fail
    refine (l1Next_any _ b o len cap (a + 1 + 1 + 1 + 1) 4 H5.out.dr.src (by omega) hl).mono ?_
    rintro e w5 ⟨tn, rfl, tn0, tn1, hS, hT⟩
    have H6 : Hid (DrB w b o len cap w3.heap.size 4 d n td 0 0 (a + 1 + 1 + 1 + 1 + 1) w5) := H5.out.step hbl hS hT
    clear c0 c1 c2 c3 c4 c5 f0 f1 f2 f3 f4 f5 r0 r1 r2 r3 r4 r5 g0 g1 g2 g3 g4 g5
    clear hS hT H4 H5 hgl
    obtain ⟨⟨c0, c1, c2, c3, c4, c5⟩, f0, f1, f2, f3, f4, f5⟩ := H6.out.box
    obtain ⟨⟨r0, r1, r2, r3, r4, r5⟩, g0, g1, g2, g3, g4, g5⟩ := H6.out.dr.res
    have hgl := H6.out.lt
    have H7 : Hid (DrB w b o len cap w3.heap.size 4 d n td tn 0 (a + 1 + 1 + 1 + 1 + 1) (w5.setCell ⟨w3.heap.size, 4, none⟩ (.int .i64 tn))) := H6.out.put34 H.out tn 4 (Or.inr (Or.inl rfl))
    have tn4 := tn1 (by omega)
    have mtd' := memB mtd
    have HD : Hid (DrawnO 4 d n td tn 0) := ⟨by omega, md', ⟨n0, by omega⟩, Or.inl ⟨by omega, mtd', tn0, by omega⟩, Or.inr rfl⟩
    clear mtd H6
    have KL := hidPln (H7.out.dr.res.putAll (.int .i64 4) (.int .i64 d) (.int .i64 n) (.int .i64 td) (.int .i64 tn) (.int .i64 0))
    obtain ⟨⟨c0, c1, c2, c3, c4, c5⟩, f0, f1, f2, f3, f4, f5⟩ := H7.out.box
    obtain ⟨⟨r0, r1, r2, r3, r4, r5⟩, g0, g1, g2, g3, g4, g5⟩ := H7.out.dr.res
    have hgl := H7.out.lt
    go_wp2
    obtain ⟨⟨e0, e1, e2, e3, e4, e5⟩, _⟩ := KL.out
    refine bodyPost_ret (v := .agg #[.int .i64 4, .int .i64 d, .int .i64 n, .int .i64 td, .int .i64 tn, .int .i64 0]) (by simp [results, Tryz.results43, go_sem, e0, e1, e2, e3, e4, e5]) rfl ?_
    exact ⟨_, _, _, _, _, _, _, rfl, HD.out, by omega, H7.out.dr.fin H.out _ _ _ _ _ _⟩
  · obtain ⟨⟨c0, c1, c2, c3, c4, c5⟩, f0, f1, f2, f3, f4, f5⟩ := H3.out.box
    obtain ⟨⟨r0, r1, r2, r3, r4, r5⟩, g0, g1, g2, g3, g4, g5⟩ := H3.out.dr.res
    have hgl := H3.out.lt
    go_wp2_with fail
    refine (l1Pick_any _ b o len cap (a + 1 + 1 + 1) _ _ [0, 0, 1, 2] (H3.out.dr.src.alloc _) (by omega) hl (intsBg (w3.alloc (.cells #[.int .i64 5, .int .i64 d, .int .i64 n, .int .i64 0, .int .i64 0, .int .i64 0] 26)) (w3.heap.size + 1) (World.size_alloc _ _)) (by omega) (by simp) (by simp)).mono ?_
    rintro e w4 ⟨td, rfl, mtd, hS, hT⟩
    have H4 : Hid (DrB w b o len cap w3.heap.size 5 d n 0 0 0 (a + 1 + 1 + 1 + 1) w4) := (H3.out.alloc _).step hbl hS hT
    clear c0 c1 c2 c3 c4 c5 f0 f1 f2 f3 f4 f5 r0 r1 r2 r3 r4 r5 g0 g1 g2 g3 g4 g5
    clear hS hT H3 hgl
    obtain ⟨⟨c0, c1, c2, c3, c4, c5⟩, f0, f1, f2, f3, f4, f5⟩ := H4.out.box
    obtain ⟨⟨r0, r1, r2, r3, r4, r5⟩, g0, g1, g2, g3, g4, g5⟩ := H4.out.dr.res
    have hgl := H4.out.lt
    have H5 : Hid (DrB w b o len cap w3.heap.size 5 d n td 0 0 (a + 1 + 1 + 1 + 1) (w4.setCell ⟨w3.heap.size, 3, none⟩ (.int .i64 td))) := H4.out.put34 H.out td 3 (Or.inl rfl)
    go_wp2_with fail
    refine (l1Next_any _ b o len cap (a + 1 + 1 + 1 + 1) 4 H5.out.dr.src (by omega) hl).mono ?_
    rintro e w5 ⟨tn, rfl, tn0, tn1, hS, hT⟩
    have H6 : Hid (DrB w b o len cap w3.heap.size 5 d n td 0 0 (a + 1 + 1 + 1 + 1 + 1) w5) := H5.out.step hbl hS hT
    clear c0 c1 c2 c3 c4 c5 f0 f1 f2 f3 f4 f5 r0 r1 r2 r3 r4 r5 g0 g1 g2 g3 g4 g5
    clear hS hT H4 H5 hgl
    obtain ⟨⟨c0, c1, c2, c3, c4, c5⟩, f0, f1, f2, f3, f4, f5⟩ := H6.out.box
    obtain ⟨⟨r0, r1, r2, r3, r4, r5⟩, g0, g1, g2, g3, g4, g5⟩ := H6.out.dr.res
    have hgl := H6.out.lt
    have H7 : Hid (DrB w b o len cap w3.heap.size 5 d n td tn 0 (a + 1 + 1 + 1 + 1 + 1) (w5.setCell ⟨w3.heap.size, 4, none⟩ (.int .i64 tn))) := H6.out.put34 H.out tn 4 (Or.inr (Or.inl rfl))
    have tn4 := tn1 (by omega)
    have mtd' := memB mtd
    have HD : Hid (DrawnO 5 d n td tn 0) := ⟨by omega, md', ⟨n0, by omega⟩, Or.inl ⟨by omega, mtd', tn0, by omega⟩, Or.inr rfl⟩
    clear mtd H6
    have KL := hidPln (H7.out.dr.res.putAll (.int .i64 5) (.int .i64 d) (.int .i64 n) (.int .i64 td) (.int .i64 tn) (.int .i64 0))
    obtain ⟨⟨c0, c1, c2, c3, c4, c5⟩, f0, f1, f2, f3, f4, f5⟩ := H7.out.box
    obtain ⟨⟨r0, r1, r2, r3, r4, r5⟩, g0, g1, g2, g3, g4, g5⟩ := H7.out.dr.res
    have hgl := H7.out.lt
    go_wp2
    obtain ⟨⟨e0, e1, e2, e3, e4, e5⟩, _⟩ := KL.out
    refine bodyPost_ret (v := .agg #[.int .i64 5, .int .i64 d, .int .i64 n, .int .i64 td, .int .i64 tn, .int .i64 0]) (by simp [results, Tryz.results43, go_sem, e0, e1, e2, e3, e4, e5]) rfl ?_
    exact ⟨_, _, _, _, _, _, _, rfl, HD.out, by omega, H7.out.dr.fin H.out _ _ _ _ _ _⟩
  · go_wp2_with fail
    refine (l1Next_any _ b o len cap (a + 1 + 1 + 1) 99 H3.out.dr.src (by omega) hl).mono ?_
    rintro e w4 ⟨v, rfl, v0, v1, hS, hT⟩
    have H4 : Hid (DrB w b o len cap w3.heap.size 6 d n 0 0 0 (a + 1 + 1 + 1 + 1) w4) := H3.out.step hbl hS hT
    have v9 := v1 (by omega)
    clear hS hT H3 v1
    obtain ⟨⟨c0, c1, c2, c3, c4, c5⟩, f0, f1, f2, f3, f4, f5⟩ := H4.out.box
    obtain ⟨⟨r0, r1, r2, r3, r4, r5⟩, g0, g1, g2, g3, g4, g5⟩ := H4.out.dr.res
    have hgl := H4.out.lt
    have H5 : Hid (DrB w b o len cap w3.heap.size 6 d n 0 0 v (a + 1 + 1 + 1 + 1) (w4.setCell ⟨w3.heap.size, 5, none⟩ (.int .i64 v))) := H4.out.put34 H.out v 5 (Or.inr (Or.inr rfl))
    have HD : Hid (DrawnO 6 d n 0 0 v) := ⟨by omega, md', ⟨n0, by omega⟩, Or.inr ⟨rfl, rfl⟩, Or.inl ⟨rfl, v0, by omega⟩⟩
    clear H4
    have KL := hidPln (H5.out.dr.res.putAll (.int .i64 6) (.int .i64 d) (.int .i64 n) (.int .i64 0) (.int .i64 0) (.int .i64 v))
    obtain ⟨⟨c0, c1, c2, c3, c4, c5⟩, f0, f1, f2, f3, f4, f5⟩ := H5.out.box
    obtain ⟨⟨r0, r1, r2, r3, r4, r5⟩, g0, g1, g2, g3, g4, g5⟩ := H5.out.dr.res
    have hgl := H5.out.lt
    go_wp2
    obtain ⟨⟨e0, e1, e2, e3, e4, e5⟩, _⟩ := KL.out
    refine bodyPost_ret (v := .agg #[.int .i64 6, .int .i64 d, .int .i64 n, .int .i64 0, .int .i64 0, .int .i64 v]) (by simp [results, Tryz.results43, go_sem, e0, e1, e2, e3, e4, e5]) rfl ?_
    exact ⟨_, _, _, _, _, _, _, rfl, HD.out, by omega, H5.out.dr.fin H.out _ _ _ _ _ _⟩
  · have d4 : (kd == 4) = false := by simp [k4]
    have d5 : (kd == 5) = false := by simp [k5]
    have d6 : (kd == 6) = false := by simp [k6]
    have HD : Hid (DrawnO kd d n 0 0 0) := ⟨mk', md', ⟨n0, by omega⟩, Or.inr ⟨rfl, rfl⟩, Or.inr rfl⟩
    clear k4 k5 k6
    go_upto_region 2 with fail
    generalize w3.alloc (.cells #[.int .i64 kd, .int .i64 d, .int .i64 n, .int .i64 0, .int .i64 0, .int .i64 0] 26) = x3 at H3 ⊢
    clear q0 q1 q2 q3 q4 q5 p0 p1 p2 p3 p4 p5
    have KL := hidPln (H3.out.dr.res.putAll (.int .i64 kd) (.int .i64 d) (.int .i64 n) (.int .i64 0) (.int .i64 0) (.int .i64 0))
    obtain ⟨⟨c0, c1, c2, c3, c4, c5⟩, f0, f1, f2, f3, f4, f5⟩ := H3.out.box
    obtain ⟨⟨r0, r1, r2, r3, r4, r5⟩, g0, g1, g2, g3, g4, g5⟩ := H3.out.dr.res
    have hgl := H3.out.lt
    go_wp2
    obtain ⟨⟨e0, e1, e2, e3, e4, e5⟩, _⟩ := KL.out
    refine bodyPost_ret (v := .agg #[.int .i64 kd, .int .i64 d, .int .i64 n, .int .i64 0, .int .i64 0, .int .i64 0]) (by simp [results, Tryz.results43, go_sem, e0, e1, e2, e3, e4, e5]) rfl ?_
    exact ⟨_, _, _, _, _, _, _, rfl, HD.out, by omega, H3.out.dr.fin H.out _ _ _ _ _ _⟩
end Go.Proofs.YtnchaccgenfhoaaGreat

namespace Go.Proofs.YtnchaccgenfhoaaGreat
open Go.RowKit

theorem field_plan4 (a b c d e : Value) (w : World) : (Instr.field 81 (.agg #[a, b, c, d, e]) 4).run Tryz.prog w = .ok e w := by kernel_rfl
theorem DrawnO.op {kd d n td tn v : Int} (h : DrawnO kd d n td tn v) : opF kd d n td tn v = 0 := by
  obtain ⟨h1, h2, h3, h4, h5⟩ := h
  exact opF_ok (decide_eq_true (by omega)) (decide_eq_true (by omega))
theorem Own.butD {x x' w : World} {b : Nat} {e : TypeId} {m n : Nat} {F : Nat → Int} {v : Value} (h : Own x w.heap.size e m n F v) (hT : But b x x') (hb : b < w.heap.size) : Own x' w.heap.size e m n F v :=
  h.keptT (fun k hk => hT.block k (own_in h k hk).2 (fun q => by have := (own_in h k hk).1; cases q; omega))
/-- What stands while a view grows. -/
def VwG (w : World) (b : Nat) (o : Option Addr) (len cap : Nat) (a : Int) (L : Prs) (u : Value) (x : World) : Prop := Src x b o len cap a ∧ But b w x ∧ Own x w.heap.size 61 2 L.length (rowL L) u
theorem VwG.below {w x x' : World} {b : Nat} {o : Option Addr} {len cap : Nat} {a : Int} {L : Prs} {u : Value} (h : VwG w b o len cap a L u x) (hb : Below x.heap.size x x') : VwG w b o len cap a L u x' := ⟨h.1.later hb, h.2.1.below hb, h.2.2.later hb⟩
set_option maxRecDepth 100000 in
set_option maxHeartbeats 4000000 in
theorem l13View_any (w : World) (b : Nat) (o : Option Addr) (len cap : Nat) (a : Int) (q : Nat) (h : Src w b o len cap a) (hq : q ≤ 100) (ha : a ≤ 800000) (hl : len ≤ 1048576) :
    Calls Tryz.prog 74 #[.pointer (some ⟨b, 0, none⟩), .int .i64 q] w fun e w' => ∃ (L : Prs) (ao : Option Addr) (cp : Nat) (a1 : Int), e = .returned (.slice ao L.length cp) ∧ GoodP L ∧ a1 ≤ a + 6 * q ∧ VwG w b o len cap a1 L (.slice ao L.length cp) w' := by
  have H : Hid (Src w b o len cap a) := h
  have hbl := h.lt
  have hfd := field_plan4
  clear h
  go_enter Tryz.func74, Tryz.ntmps74
  go_wp2_with fail
  refine (specEmpty_is 1 0 2 [0, 1, 1, 10, 1, 1000] _ (Or.inr ⟨by decide, rfl, rfl, rfl⟩)).mono ?_
  rintro e w1 ⟨vr, vw, rfl, ⟨_, hW, _⟩, q1⟩
  have H1 : Hid (Row w1 0 3 2 (fun p => [(0 : Int), 1, 1, 10, 1, 1000].getD p 0) vw ∧ Below w.heap.size w w1) := ⟨(OwnM.rowL hW).1.mono (Nat.zero_le _), q1⟩
  clear hW q1
  go_wp2_with fail
  refine (l11Apply_any [] (fun p => [(0 : Int), 1, 1, 10, 1, 1000].getD p 0) 2 (.slice none 0 0) vw 0 0 _ ⟨_, _, rfl, fun q => absurd q (Nat.lt_irrefl 0)⟩ H1.out.1 (by simp) (by decide) (fun i hi => by
    match i, hi with
    | 0, _ => exact ⟨by decide, by decide⟩
    | 1, _ => exact ⟨by decide, by decide⟩)).mono ?_
  rintro e w2 ⟨uo, uc, rfl, hO, q2⟩
  obtain ⟨V0, hV0⟩ : ∃ V0, applyN [] (fun p => [(0 : Int), 1, 1, 10, 1, 1000].getD p 0) 2 = V0 := ⟨_, rfl⟩
  have hg0 : GoodP V0 := by
    rw [← hV0]
    refine GoodP.apply ⟨List.Pairwise.nil, fun e he => absurd he (by simp)⟩ (fun i hi => ?_)
    match i, hi with
    | 0, _ => decide
    | 1, _ => decide
  rw [hV0] at hO ⊢
  have H2 : Hid (VwG w b o len cap a V0 (.slice uo V0.length uc) w2 ∧ GoodP V0) := ⟨⟨H.out.later (H1.out.2.trans (q2.mono H1.out.2.size)), (But.refl b w).below (H1.out.2.trans (q2.mono H1.out.2.size)), hO.mono H1.out.2.size⟩, hg0⟩
  clear hO q2 H1 hV0 hg0
  go_wp2
  go_loopw [1, 5] (fun i out wr => ∃ (k : Nat) (L : Prs) (ao : Option Addr) (cp : Nat) (a1 : Int), k ≤ q ∧ i = .int .i64 k ∧ out = .slice ao L.length cp ∧ a1 + 6 * k ≤ a + 6 * q ∧ Hid (VwG w b o len cap a1 L (.slice ao L.length cp) wr ∧ GoodP L)) (fun i _ _ => (intOf i).toNat)
  case atStart => exact ⟨q, V0, uo, uc, a, Nat.le_refl _, rfl, rfl, by omega, H2⟩
  case round =>
    clear H2
    obtain ⟨k, L, ao, cp, a1, hk, rfl, rfl, hak, HB⟩ := hrel
    obtain ⟨wa, rfl⟩ : ∃ x, x = wr := ⟨_, rfl⟩
    by_cases hlt : 0 < k
    case neg =>
      obtain rfl : k = 0 := by omega
      obtain ⟨LN, hLN⟩ : ∃ LN, L.length = LN := ⟨_, rfl⟩
      have HLN : Hid (L.length = LN) := hLN
      rw [hLN]
      clear hLN
      go_wp2
      refine bodyPost_ret (v := .slice ao LN cp) (by simp [results, Tryz.results74, go_sem]) rfl ?_
      rw [← HLN.out]
      exact ⟨L, ao, cp, a1, rfl, HB.out.2, by omega, HB.out.1⟩
    go_wp2_with fail
    refine (l13Draw_any _ b o len cap a1 HB.out.1.1 (by omega) hl).mono ?_
    rintro e w3 ⟨kd, d, n, td, tn, v, a2, rfl, hd, ha2, hS, hT⟩
    have hop := hd.op
    have hbd := op_bounds hop
    have H3 : Hid (VwG w b o len cap a2 L (.slice ao L.length cp) w3 ∧ GoodP L) := ⟨⟨hS, HB.out.1.2.1.trans hT, HB.out.1.2.2.butD hT hbl⟩, HB.out.2⟩
    have HA : Hid (a2 ≤ a1 + 6) := ha2
    clear hS hT HB hd ha2
    obtain ⟨r, vv, ys, m, W, hp⟩ : ∃ r vv ys m W, replyP L kd d n td tn v = (r, vv, ys, m, W) := ⟨_, _, _, _, _, rfl⟩
    have HI : Hid (ItemsOk m W ∧ GoodP (applyN L (fun p => W.getD p 0) m)) := by
      have i1 := (reply_items H3.out.2.vals hop).1
      have i2 := H3.out.2.applyOp hop
      unfold applyP at i2
      rw [hp] at i1 i2
      exact ⟨i1, i2⟩
    have HP : Hid (replyP L kd d n td tn v = (r, vv, ys, m, W)) := hp
    have HC : Hid (VwG w b o len cap a2 L (.slice ao L.length cp) (w3.alloc (.cells #[.int .i64 kd, .int .i64 d, .int .i64 n, .int .i64 td, .int .i64 tn, .int .i64 v] 26)) ∧ Ctx (w3.alloc (.cells #[.int .i64 kd, .int .i64 d, .int .i64 n, .int .i64 td, .int .i64 tn, .int .i64 v] 26)) L (.slice ao L.length cp) w3.heap.size 0 kd d n td tn v) := by
      have k1 := H3.out.1.below (below_alloc w3 (.cells #[.int .i64 kd, .int .i64 d, .int .i64 n, .int .i64 td, .int .i64 tn, .int .i64 v] 26))
      exact ⟨k1, ⟨k1.2.2.row.1.mono (Nat.zero_le _), by have := H3.out.2.len; omega⟩, (Blk6.new w3 _ _ _ _ _ _ _).toO, H3.out.2.vals, hbd.2.1, hbd.2.2.1, hbd.2.2.2.1, hbd.2.2.2.2⟩
    have hkd := hbd.1
    have hgl := H3.out.2
    clear hp hbd hop H3
    go_wp2_with fail
    generalize w3.alloc (.cells #[.int .i64 kd, .int .i64 d, .int .i64 n, .int .i64 td, .int .i64 tn, .int .i64 v] 26) = w4 at HC ⊢
    refine (l13Compile_is L _ w3.heap.size 0 kd d n td tn v _ HC.out.2 hkd r vv ys m W HP.out).mono ?_
    rintro e w5 ⟨pr, pw, rfl, ⟨hI, hW, _⟩, q5⟩
    obtain ⟨g1, g2, rfl⟩ := hI.form
    obtain ⟨g3, g4, rfl⟩ := hW.form
    have H5 : Hid (VwG w b o len cap a2 L (.slice ao L.length cp) (w5.alloc (.cells #[.int .i64 0, .int .i64 r, .int .i64 vv, .slice g1 ys.length g2, .slice g3 m g4] 81)) ∧ Row (w5.alloc (.cells #[.int .i64 0, .int .i64 r, .int .i64 vv, .slice g1 ys.length g2, .slice g3 m g4] 81)) 0 3 m (fun p => W.getD p 0) (.slice g3 m g4)) := ⟨(HC.out.1.below q5).below (below_alloc _ _), ((OwnM.rowL hW).1.mono (Nat.zero_le _)).alloc _⟩
    clear hW hI q5 HC HP
    by_cases hr : r = 0
    case neg =>
      have d1 : (r == 0) = false := beq_eq_false_iff_ne.2 hr
      clear hr HI
      go_wp2
      go_roundw
      case rel => exact ⟨k - 1, L, ao, cp, a2, by omega, by go_num, rfl, by have := HA.out; omega, H5.out.1, hgl⟩
      case measure => simp [intOf]; omega
    have d1 : (r == 0) = true := beq_iff_eq.2 hr
    clear hr
    go_wp2_with fail
    refine (l11Apply_any L (fun p => W.getD p 0) m _ _ w.heap.size 0 _ H5.out.1.2.2.row.1 H5.out.2 (by have := hgl.len; omega) (appliedF_zero HI.out.1.1).1 (fun i hi => (appF_zero (HI.out.1.all i hi)).2.1)).mono ?_
    rintro e w6 ⟨bo, bc, rfl, hO, q6⟩
    have H6 : Hid (VwG w b o len cap a2 (applyN L (fun p => W.getD p 0) m) (.slice bo (applyN L (fun p => W.getD p 0) m).length bc) w6 ∧ GoodP (applyN L (fun p => W.getD p 0) m)) := by
      have k1 := H5.out.1.below q6
      exact ⟨⟨k1.1, k1.2.1, hO.mono (H5.out.1.2.1.size)⟩, HI.out.2⟩
    clear hO q6 H5 HI
    go_wp2
    go_roundw
    case rel => exact ⟨k - 1, _, bo, bc, a2, by omega, by go_num, rfl, by have := HA.out; omega, H6⟩
    case measure => simp [intOf]; omega
end Go.Proofs.YtnchaccgenfhoaaGreat

namespace Go.Proofs.YtnchaccgenfhoaaGreat
open Go.RowKit

theorem intsCg (x : World) (g : Nat) (hg : x.heap.size = g) : Ints (x.alloc (.cells #[.int .i64 0, .int .i64 5, .int .i64 1000, .int .i64 2001, .int .i64 9999] 2)) g (.slice (some ⟨g, 0, none⟩) 5 5) [0, 5, 1000, 2001, 9999] := hg ▸ World.ownsRow_lit x #[.int .i64 0, .int .i64 5, .int .i64 1000, .int .i64 2001, .int .i64 9999] 5 (Nat.le_refl _) (by decide) rfl
theorem accS_two (L : Prs) (k x : Int) (has : Bool) : ∀ i, (accS L k x has i).1.length ≤ 2 * i
  | 0 => by simp [accS]
  | i + 1 => by
    have := accS_two L k x has i
    rw [accS]
    unfold stepS
    split <;> (try split) <;> simp <;> omega
theorem setS_len (L : Prs) (k x : Int) (has : Bool) : (setS L k x has).length ≤ 2 * L.length + 1 := by
  have := accS_two L k x has L.length
  unfold setS
  split
  · omega
  · simp; omega
/-- A view that was drawn. -/
def DrV (w : World) (b : Nat) (o : Option Addr) (len cap : Nat) (a : Int) (n : Nat) (v : Value) (x : World) : Prop := (∃ F, Row x w.heap.size 2 n F v) ∧ Src x b o len cap a ∧ But b w x
set_option maxRecDepth 100000 in
set_option maxHeartbeats 4000000 in
theorem l13BentView_any (w : World) (b : Nat) (o : Option Addr) (len cap : Nat) (a : Int) (h : Src w b o len cap a) (ha : a ≤ 300000) (hl : len ≤ 1048576) :
    Calls Tryz.prog 41 #[.pointer (some ⟨b, 0, none⟩)] w fun e w' => ∃ (n : Nat) (ao : Option Addr) (cp : Nat) (a1 : Int), e = .returned (.slice ao n cp) ∧ n ≤ 401 ∧ a1 ≤ a + 300 ∧ DrV w b o len cap a1 n (.slice ao n cp) w' := by
  have H : Hid (Src w b o len cap a) := h
  have hbl := h.lt
  clear h
  go_enter Tryz.func41, Tryz.ntmps41
  go_wp2_with fail
  refine (l1Next_any _ b o len cap a 20 H.out (by omega) hl).mono ?_
  rintro e w1 ⟨q0, rfl, h0, h1, hS, hT⟩
  have h20 := h1 (by omega)
  obtain ⟨q, rfl⟩ : ∃ q : Nat, q0 = (q : Int) := ⟨q0.toNat, by omega⟩
  have H1 : Hid (Src w1 b o len cap (a + 1) ∧ But b w w1) := ⟨hS, hT⟩
  clear hS hT h1
  go_wp2_with fail
  refine (l13View_any w1 b o len cap (a + 1) q H1.out.1 (by omega) (by omega) hl).mono ?_
  rintro e w2 ⟨L, ao, cp, a2, rfl, hg, ha2, hV⟩
  have H2 : Hid (Src w2 b o len cap a2 ∧ But b w w2 ∧ Own w2 w.heap.size 61 2 L.length (rowL L) (.slice ao L.length cp) ∧ GoodP L) := ⟨hV.1, H1.out.2.trans hV.2.1, hV.2.2.mono H1.out.2.size, hg⟩
  have HA : Hid (a2 ≤ a + 127) := by show a2 ≤ _; omega
  clear hg ha2 hV H1
  go_wp2_with fail
  refine (l1Next_any _ b o len cap a2 12 H2.out.1 (by have := HA.out; omega) hl).mono ?_
  rintro e w3 ⟨s, rfl, s0, s1, hS, hT⟩
  have H3 : Hid (Src w3 b o len cap (a2 + 1) ∧ But b w w3 ∧ Own w3 w.heap.size 61 2 L.length (rowL L) (.slice ao L.length cp) ∧ GoodP L) := ⟨hS, H2.out.2.1.trans hT, H2.out.2.2.1.butD hT hbl, H2.out.2.2.2⟩
  clear hS hT H2 s1
  have hLl : L.length ≤ 200 := H3.out.2.2.2.len
  by_cases e0 : s = 0
  · subst e0
    go_wp2_with fail
    refine (l11Bent_any _ b o len cap (a2 + 1) H3.out.1 (by have := HA.out; omega) hl).mono ?_
    rintro e w4 ⟨n, bo, bc, a4, rfl, hn, ha4, hq⟩
    have H4 : Hid (DrV w b o len cap a4 n (.slice bo n bc) w4) := by
      obtain ⟨G, hG⟩ := hq.row
      exact ⟨⟨G, hG.mono H3.out.2.1.size⟩, hq.src, H3.out.2.1.trans hq.but⟩
    clear hq
    go_wp2
    go_ret
    exact ⟨n, bo, bc, a4, rfl, by omega, by have := HA.out; omega, H4.out⟩
  have d0 : (s == 0) = false := beq_eq_false_iff_ne.2 e0
  by_cases e1 : s = 1
  · subst e1
    go_wp2_with fail
    refine (l1Key_any _ b o len cap (a2 + 1) H3.out.1 (by have := HA.out; omega) hl).mono ?_
    rintro e w4 ⟨ky, rfl, _, hS, hT⟩
    have H4 : Hid (Src w4 b o len cap (a2 + 1 + 5) ∧ But b w w4 ∧ Own w4 w.heap.size 61 2 L.length (rowL L) (.slice ao L.length cp)) := ⟨hS, H3.out.2.1.trans hT, H3.out.2.2.1.butD hT hbl⟩
    clear hS hT H3
    go_wp2_with fail
    refine (l1Pick_any _ b o len cap (a2 + 1 + 5) _ _ [0, 5, 1000, 2001, 9999] (H4.out.1.alloc _) (by have := HA.out; omega) hl (intsCg w4 w4.heap.size rfl) H4.out.1.lt (by simp) (by simp)).mono ?_
    rintro e w5 ⟨pv, rfl, _, hS, hT⟩
    have H5 : Hid (Src w5 b o len cap (a2 + 1 + 5 + 1) ∧ But b w w5 ∧ Own w5 w.heap.size 61 2 L.length (rowL L) (.slice ao L.length cp)) := ⟨hS, (H4.out.2.1.alloc _).trans hT, (H4.out.2.2.alloc _).butD hT hbl⟩
    clear hS hT H4
    go_wp2_with fail
    refine (l11Set_any L _ w.heap.size ky pv true _ H5.out.2.2.row.1 (by omega)).mono ?_
    rintro e w6 ⟨bo, bc, rfl, hO, q6⟩
    obtain ⟨LN, hLN⟩ : ∃ LN, (setS L ky pv true).length = LN := ⟨_, rfl⟩
    have hLN2 : LN ≤ 401 := by rw [← hLN]; have := setS_len L ky pv true; omega
    have H6 : Hid (DrV w b o len cap (a2 + 1 + 5 + 1) LN (.slice bo LN bc) w6) := by
      rw [hLN] at hO
      exact ⟨⟨_, hO.row.1.mono H5.out.2.1.size⟩, H5.out.1.later q6, H5.out.2.1.below q6⟩
    rw [hLN]
    clear hO q6 H5 hLN
    go_wp2
    go_ret
    exact ⟨LN, bo, bc, _, rfl, hLN2, by have := HA.out; omega, H6.out⟩
  have d1 : (s == 1) = false := beq_eq_false_iff_ne.2 e1
  by_cases e2 : s = 2
  · subst e2
    go_wp2_with fail
    refine (l1Key_any _ b o len cap (a2 + 1) H3.out.1 (by have := HA.out; omega) hl).mono ?_
    rintro e w4 ⟨ky, rfl, _, hS, hT⟩
    have H4 : Hid (Src w4 b o len cap (a2 + 1 + 5) ∧ But b w w4 ∧ Own w4 w.heap.size 61 2 L.length (rowL L) (.slice ao L.length cp)) := ⟨hS, H3.out.2.1.trans hT, H3.out.2.2.1.butD hT hbl⟩
    clear hS hT H3
    go_wp2_with fail
    refine (l11Set_any L _ w.heap.size ky 0 false _ H4.out.2.2.row.1 (by omega)).mono ?_
    rintro e w6 ⟨bo, bc, rfl, hO, q6⟩
    obtain ⟨LN, hLN⟩ : ∃ LN, (setS L ky 0 false).length = LN := ⟨_, rfl⟩
    have hLN2 : LN ≤ 401 := by rw [← hLN]; have := setS_len L ky 0 false; omega
    have H6 : Hid (DrV w b o len cap (a2 + 1 + 5) LN (.slice bo LN bc) w6) := by
      rw [hLN] at hO
      exact ⟨⟨_, hO.row.1.mono H4.out.2.1.size⟩, H4.out.1.later q6, H4.out.2.1.below q6⟩
    rw [hLN]
    clear hO q6 H4 hLN
    go_wp2
    go_ret
    exact ⟨LN, bo, bc, _, rfl, hLN2, by have := HA.out; omega, H6.out⟩
  have d2 : (s == 2) = false := beq_eq_false_iff_ne.2 e2
  obtain ⟨LN, hLN⟩ : ∃ LN, L.length = LN := ⟨_, rfl⟩
  have H6 : Hid (DrV w b o len cap (a2 + 1) LN (.slice ao LN cp) w3) := by
    rw [← hLN]
    exact ⟨⟨_, H3.out.2.2.1.row.1⟩, H3.out.1, H3.out.2.1⟩
  have hLN2 : LN ≤ 401 := by omega
  rw [hLN]
  clear H3 hLN hLl
  go_wp2
  go_ret
  exact ⟨LN, ao, cp, _, rfl, hLN2, by have := HA.out; omega, H6.out⟩
end Go.Proofs.YtnchaccgenfhoaaGreat

namespace Go.Proofs.YtnchaccgenfhoaaGreat
open Go.RowKit

theorem DrB.put0B {w x : World} {b : Nat} {o : Option Addr} {len cap g : Nat} {kd d n td tn v a : Int} (h : DrB w b o len cap g kd d n td tn v a x) {a0 : Int} (h0 : Src w b o len cap a0) (u : Int) :
    DrB w b o len cap g u d n td tn v a (x.setCell ⟨g, 0, none⟩ (.int .i64 u)) := by
  refine ⟨h.dr.set h0 h.lt _ _, ?_, h.lt⟩
  obtain ⟨⟨c0, c1, c2, c3, c4, c5⟩, f0, f1, f2, f3, f4, f5⟩ := h.box
  refine ⟨⟨?_, ?_, ?_, ?_, ?_, ?_⟩, by simpa using f0, by simpa using f1, by simpa using f2, by simpa using f3, by simpa using f4, by simpa using f5⟩
  · exact World.cell?_setCell_same _ _ _ c0
  · exact setCell_otherE (by decide) c1
  · exact setCell_otherE (by decide) c2
  · exact setCell_otherE (by decide) c3
  · exact setCell_otherE (by decide) c4
  · exact setCell_otherE (by decide) c5
theorem DrB.put1B {w x : World} {b : Nat} {o : Option Addr} {len cap g : Nat} {kd d n td tn v a : Int} (h : DrB w b o len cap g kd d n td tn v a x) {a0 : Int} (h0 : Src w b o len cap a0) (u : Int) :
    DrB w b o len cap g kd u n td tn v a (x.setCell ⟨g, 1, none⟩ (.int .i64 u)) := by
  refine ⟨h.dr.set h0 h.lt _ _, ?_, h.lt⟩
  obtain ⟨⟨c0, c1, c2, c3, c4, c5⟩, f0, f1, f2, f3, f4, f5⟩ := h.box
  refine ⟨⟨?_, ?_, ?_, ?_, ?_, ?_⟩, by simpa using f0, by simpa using f1, by simpa using f2, by simpa using f3, by simpa using f4, by simpa using f5⟩
  · exact setCell_otherE (by decide) c0
  · exact World.cell?_setCell_same _ _ _ c1
  · exact setCell_otherE (by decide) c2
  · exact setCell_otherE (by decide) c3
  · exact setCell_otherE (by decide) c4
  · exact setCell_otherE (by decide) c5
theorem DrB.put2B {w x : World} {b : Nat} {o : Option Addr} {len cap g : Nat} {kd d n td tn v a : Int} (h : DrB w b o len cap g kd d n td tn v a x) {a0 : Int} (h0 : Src w b o len cap a0) (u : Int) :
    DrB w b o len cap g kd d u td tn v a (x.setCell ⟨g, 2, none⟩ (.int .i64 u)) := by
  refine ⟨h.dr.set h0 h.lt _ _, ?_, h.lt⟩
  obtain ⟨⟨c0, c1, c2, c3, c4, c5⟩, f0, f1, f2, f3, f4, f5⟩ := h.box
  refine ⟨⟨?_, ?_, ?_, ?_, ?_, ?_⟩, by simpa using f0, by simpa using f1, by simpa using f2, by simpa using f3, by simpa using f4, by simpa using f5⟩
  · exact setCell_otherE (by decide) c0
  · exact setCell_otherE (by decide) c1
  · exact World.cell?_setCell_same _ _ _ c2
  · exact setCell_otherE (by decide) c3
  · exact setCell_otherE (by decide) c4
  · exact setCell_otherE (by decide) c5
theorem intsP0 (x : World) (g : Nat) (hg : x.heap.size = g) : Ints (x.alloc (.cells #[.int .i64 0, .int .i64 9, .int .i64 1, .int .i64 6] 2)) g (.slice (some ⟨g, 0, none⟩) 4 4) [0, 9, 1, 6] := hg ▸ World.ownsRow_lit x #[.int .i64 0, .int .i64 9, .int .i64 1, .int .i64 6] 4 (Nat.le_refl _) (by decide) rfl
theorem intsP1 (x : World) (g : Nat) (hg : x.heap.size = g) : Ints (x.alloc (.cells #[.int .i64 (-1), .int .i64 10, .int .i64 9] 2)) g (.slice (some ⟨g, 0, none⟩) 3 3) [-1, 10, 9] := hg ▸ World.ownsRow_lit x #[.int .i64 (-1), .int .i64 10, .int .i64 9] 3 (Nat.le_refl _) (by decide) rfl
theorem intsP2 (x : World) (g : Nat) (hg : x.heap.size = g) : Ints (x.alloc (.cells #[.int .i64 (-1), .int .i64 6, .int .i64 5] 2)) g (.slice (some ⟨g, 0, none⟩) 3 3) [-1, 6, 5] := hg ▸ World.ownsRow_lit x #[.int .i64 (-1), .int .i64 6, .int .i64 5] 3 (Nat.le_refl _) (by decide) rfl
theorem intsP3 (x : World) (g : Nat) (hg : x.heap.size = g) : Ints (x.alloc (.cells #[.int .i64 10, .int .i64 3] 2)) g (.slice (some ⟨g, 0, none⟩) 2 2) [10, 3] := hg ▸ World.ownsRow_lit x #[.int .i64 10, .int .i64 3] 2 (Nat.le_refl _) (by decide) rfl
theorem intsP4 (x : World) (g : Nat) (hg : x.heap.size = g) : Ints (x.alloc (.cells #[.int .i64 (-1), .int .i64 10000, .int .i64 5] 2)) g (.slice (some ⟨g, 0, none⟩) 3 3) [-1, 10000, 5] := hg ▸ World.ownsRow_lit x #[.int .i64 (-1), .int .i64 10000, .int .i64 5] 3 (Nat.le_refl _) (by decide) rfl
set_option maxRecDepth 100000 in
set_option maxHeartbeats 4000000 in
theorem l13Bent_any (w : World) (b : Nat) (o : Option Addr) (len cap : Nat) (a : Int) (h : Src w b o len cap a) (ha : a ≤ 800000) (hl : len ≤ 1048576) :
    Calls Tryz.prog 44 #[.pointer (some ⟨b, 0, none⟩)] w fun e w' => ∃ kd d n td tn v a1 : Int, e = .returned (.agg #[.int .i64 kd, .int .i64 d, .int .i64 n, .int .i64 td, .int .i64 tn, .int .i64 v]) ∧ a1 ≤ a + 8 ∧ Src w' b o len cap a1 ∧ But b w w' := by
  have H : Hid (Src w b o len cap a) := h
  have hbl := h.lt
  have H0 : Hid (DrO w b o len cap a (w.alloc zeroO)) := ⟨h.alloc _, (But.refl _ _).alloc _, Blk6.new w _ _ _ _ _ _ _⟩
  clear h
  go_enter Tryz.func44, Tryz.ntmps44
  go_wp2_with fail
  refine (l13Draw_any _ b o len cap a H0.out.src (by omega) hl).mono ?_
  rintro e w1 ⟨kd, d, n, td, tn, v, a1, rfl, _, ha1, hS, hT⟩
  have HW : Hid (DrO w b o len cap a1 w1) := H0.out.step hbl hS hT
  have H1 : Hid (DrB w b o len cap w1.heap.size kd d n td tn v a1 (w1.alloc (.cells #[.int .i64 kd, .int .i64 d, .int .i64 n, .int .i64 td, .int .i64 tn, .int .i64 v] 26))) := ⟨HW.out.alloc _, Blk6.new w1 _ _ _ _ _ _ _, HW.out.res.lt⟩
  clear hS hT H0
  go_wp2_with fail
  refine (l1Next_any _ b o len cap a1 12 H1.out.dr.src (by omega) hl).mono ?_
  rintro e w2 ⟨s, rfl, s0, _, hS, hT⟩
  have H2 : Hid (DrB w b o len cap w1.heap.size kd d n td tn v (a1 + 1) w2) := H1.out.step hbl hS hT
  clear hS hT H1 HW
  by_cases e0 : s = 0
  · subst e0
    go_wp2_with fail
    refine (l1Pick_any _ b o len cap (a1 + 1) _ _ [0, 9, 1, 6] (H2.out.dr.src.alloc _) (by omega) hl (intsP0 w2 w2.heap.size rfl) H2.out.dr.src.lt (by simp) (by simp)).mono ?_
    rintro e w3 ⟨u, rfl, _, hS, hT⟩
    have H4 : Hid (DrB w b o len cap w1.heap.size kd d n td tn v (a1 + 1 + 1) w3) := (H2.out.alloc _).step hbl hS hT
    clear hS hT H2
    obtain ⟨⟨z0, z1, z2, z3, z4, z5⟩, f0, f1, f2, f3, f4, f5⟩ := H4.out.box
    have H5 : Hid (DrB w b o len cap w1.heap.size u d n td tn v (a1 + 1 + 1) (w3.setCell ⟨w1.heap.size, 0, none⟩ (.int .i64 u))) := H4.out.put0B H.out u
    have KL := hidPln (H5.out.dr.res.putAll (.int .i64 u) (.int .i64 d) (.int .i64 n) (.int .i64 td) (.int .i64 tn) (.int .i64 v))
    obtain ⟨⟨r0, r1, r2, r3, r4, r5⟩, g0, g1, g2, g3, g4, g5⟩ := H4.out.dr.res
    have hgl := H4.out.lt
    clear H4
    go_wp2
    obtain ⟨⟨k0, k1, k2, k3, k4, k5⟩, _⟩ := KL.out
    refine bodyPost_ret (v := .agg #[.int .i64 u, .int .i64 d, .int .i64 n, .int .i64 td, .int .i64 tn, .int .i64 v]) (by simp [results, Tryz.results44, go_sem, k0, k1, k2, k3, k4, k5]) rfl ?_
    exact ⟨_, _, _, _, _, _, _, rfl, by omega, H5.out.dr.fin H.out _ _ _ _ _ _⟩
  have d0 : (s == 0) = false := beq_eq_false_iff_ne.2 e0
  by_cases e1 : s = 1
  · subst e1
    go_wp2_with fail
    refine (l1Pick_any _ b o len cap (a1 + 1) _ _ [-1, 10, 9] (H2.out.dr.src.alloc _) (by omega) hl (intsP1 w2 w2.heap.size rfl) H2.out.dr.src.lt (by simp) (by simp)).mono ?_
    rintro e w3 ⟨u, rfl, _, hS, hT⟩
    have H4 : Hid (DrB w b o len cap w1.heap.size kd d n td tn v (a1 + 1 + 1) w3) := (H2.out.alloc _).step hbl hS hT
    clear hS hT H2
    obtain ⟨⟨z0, z1, z2, z3, z4, z5⟩, f0, f1, f2, f3, f4, f5⟩ := H4.out.box
    have H5 : Hid (DrB w b o len cap w1.heap.size kd u n td tn v (a1 + 1 + 1) (w3.setCell ⟨w1.heap.size, 1, none⟩ (.int .i64 u))) := H4.out.put1B H.out u
    have KL := hidPln (H5.out.dr.res.putAll (.int .i64 kd) (.int .i64 u) (.int .i64 n) (.int .i64 td) (.int .i64 tn) (.int .i64 v))
    obtain ⟨⟨r0, r1, r2, r3, r4, r5⟩, g0, g1, g2, g3, g4, g5⟩ := H4.out.dr.res
    have hgl := H4.out.lt
    clear H4
    go_wp2
    obtain ⟨⟨k0, k1, k2, k3, k4, k5⟩, _⟩ := KL.out
    refine bodyPost_ret (v := .agg #[.int .i64 kd, .int .i64 u, .int .i64 n, .int .i64 td, .int .i64 tn, .int .i64 v]) (by simp [results, Tryz.results44, go_sem, k0, k1, k2, k3, k4, k5]) rfl ?_
    exact ⟨_, _, _, _, _, _, _, rfl, by omega, H5.out.dr.fin H.out _ _ _ _ _ _⟩
  have d1 : (s == 1) = false := beq_eq_false_iff_ne.2 e1
  by_cases e2 : s = 2
  · subst e2
    go_wp2_with fail
    refine (l1Pick_any _ b o len cap (a1 + 1) _ _ [-1, 6, 5] (H2.out.dr.src.alloc _) (by omega) hl (intsP2 w2 w2.heap.size rfl) H2.out.dr.src.lt (by simp) (by simp)).mono ?_
    rintro e w3 ⟨u, rfl, _, hS, hT⟩
    have H4 : Hid (DrB w b o len cap w1.heap.size kd d n td tn v (a1 + 1 + 1) w3) := (H2.out.alloc _).step hbl hS hT
    clear hS hT H2
    obtain ⟨⟨z0, z1, z2, z3, z4, z5⟩, f0, f1, f2, f3, f4, f5⟩ := H4.out.box
    have H5 : Hid (DrB w b o len cap w1.heap.size kd d u td tn v (a1 + 1 + 1) (w3.setCell ⟨w1.heap.size, 2, none⟩ (.int .i64 u))) := H4.out.put2B H.out u
    have KL := hidPln (H5.out.dr.res.putAll (.int .i64 kd) (.int .i64 d) (.int .i64 u) (.int .i64 td) (.int .i64 tn) (.int .i64 v))
    obtain ⟨⟨r0, r1, r2, r3, r4, r5⟩, g0, g1, g2, g3, g4, g5⟩ := H4.out.dr.res
    have hgl := H4.out.lt
    clear H4
    go_wp2
    obtain ⟨⟨k0, k1, k2, k3, k4, k5⟩, _⟩ := KL.out
    refine bodyPost_ret (v := .agg #[.int .i64 kd, .int .i64 d, .int .i64 u, .int .i64 td, .int .i64 tn, .int .i64 v]) (by simp [results, Tryz.results44, go_sem, k0, k1, k2, k3, k4, k5]) rfl ?_
    exact ⟨_, _, _, _, _, _, _, rfl, by omega, H5.out.dr.fin H.out _ _ _ _ _ _⟩
  have d2 : (s == 2) = false := beq_eq_false_iff_ne.2 e2
  by_cases e3 : s = 3
  · subst e3
    go_wp2_with fail
    refine (l1Pick_any _ b o len cap (a1 + 1) _ _ [10, 3] (H2.out.dr.src.alloc _) (by omega) hl (intsP3 w2 w2.heap.size rfl) H2.out.dr.src.lt (by simp) (by simp)).mono ?_
    rintro e w3 ⟨u, rfl, _, hS, hT⟩
    have H4 : Hid (DrB w b o len cap w1.heap.size kd d n td tn v (a1 + 1 + 1) w3) := (H2.out.alloc _).step hbl hS hT
    clear hS hT H2
    obtain ⟨⟨z0, z1, z2, z3, z4, z5⟩, f0, f1, f2, f3, f4, f5⟩ := H4.out.box
    have H5 : Hid (DrB w b o len cap w1.heap.size kd d n u tn v (a1 + 1 + 1) (w3.setCell ⟨w1.heap.size, 3, none⟩ (.int .i64 u))) := H4.out.put34 H.out u 3 (Or.inl rfl)
    have KL := hidPln (H5.out.dr.res.putAll (.int .i64 kd) (.int .i64 d) (.int .i64 n) (.int .i64 u) (.int .i64 tn) (.int .i64 v))
    obtain ⟨⟨r0, r1, r2, r3, r4, r5⟩, g0, g1, g2, g3, g4, g5⟩ := H4.out.dr.res
    have hgl := H4.out.lt
    clear H4
    go_wp2
    obtain ⟨⟨k0, k1, k2, k3, k4, k5⟩, _⟩ := KL.out
    refine bodyPost_ret (v := .agg #[.int .i64 kd, .int .i64 d, .int .i64 n, .int .i64 u, .int .i64 tn, .int .i64 v]) (by simp [results, Tryz.results44, go_sem, k0, k1, k2, k3, k4, k5]) rfl ?_
    exact ⟨_, _, _, _, _, _, _, rfl, by omega, H5.out.dr.fin H.out _ _ _ _ _ _⟩
  have d3 : (s == 3) = false := beq_eq_false_iff_ne.2 e3
  by_cases e4 : s = 4
  · subst e4
    go_wp2_with fail
    refine (l1Pick_any _ b o len cap (a1 + 1) _ _ [-1, 10000, 5] (H2.out.dr.src.alloc _) (by omega) hl (intsP4 w2 w2.heap.size rfl) H2.out.dr.src.lt (by simp) (by simp)).mono ?_
    rintro e w3 ⟨u, rfl, _, hS, hT⟩
    have H4 : Hid (DrB w b o len cap w1.heap.size kd d n td tn v (a1 + 1 + 1) w3) := (H2.out.alloc _).step hbl hS hT
    clear hS hT H2
    obtain ⟨⟨z0, z1, z2, z3, z4, z5⟩, f0, f1, f2, f3, f4, f5⟩ := H4.out.box
    have H5 : Hid (DrB w b o len cap w1.heap.size kd d n td tn u (a1 + 1 + 1) (w3.setCell ⟨w1.heap.size, 5, none⟩ (.int .i64 u))) := H4.out.put34 H.out u 5 (Or.inr (Or.inr rfl))
    have KL := hidPln (H5.out.dr.res.putAll (.int .i64 kd) (.int .i64 d) (.int .i64 n) (.int .i64 td) (.int .i64 tn) (.int .i64 u))
    obtain ⟨⟨r0, r1, r2, r3, r4, r5⟩, g0, g1, g2, g3, g4, g5⟩ := H4.out.dr.res
    have hgl := H4.out.lt
    clear H4
    go_wp2
    obtain ⟨⟨k0, k1, k2, k3, k4, k5⟩, _⟩ := KL.out
    refine bodyPost_ret (v := .agg #[.int .i64 kd, .int .i64 d, .int .i64 n, .int .i64 td, .int .i64 tn, .int .i64 u]) (by simp [results, Tryz.results44, go_sem, k0, k1, k2, k3, k4, k5]) rfl ?_
    exact ⟨_, _, _, _, _, _, _, rfl, by omega, H5.out.dr.fin H.out _ _ _ _ _ _⟩
  have d4 : (s == 4) = false := beq_eq_false_iff_ne.2 e4
  obtain ⟨⟨z0, z1, z2, z3, z4, z5⟩, f0, f1, f2, f3, f4, f5⟩ := H2.out.box
  have KL := hidPln (H2.out.dr.res.putAll (.int .i64 kd) (.int .i64 d) (.int .i64 n) (.int .i64 td) (.int .i64 tn) (.int .i64 v))
  obtain ⟨⟨r0, r1, r2, r3, r4, r5⟩, g0, g1, g2, g3, g4, g5⟩ := H2.out.dr.res
  have hgl := H2.out.lt
  go_wp2
  obtain ⟨⟨k0, k1, k2, k3, k4, k5⟩, _⟩ := KL.out
  refine bodyPost_ret (v := .agg #[.int .i64 kd, .int .i64 d, .int .i64 n, .int .i64 td, .int .i64 tn, .int .i64 v]) (by simp [results, Tryz.results44, go_sem, k0, k1, k2, k3, k4, k5]) rfl ?_
  exact ⟨_, _, _, _, _, _, _, rfl, by omega, H2.out.dr.fin H.out _ _ _ _ _ _⟩
end Go.Proofs.YtnchaccgenfhoaaGreat

namespace Go.Proofs.YtnchaccgenfhoaaGreat
open Go.RowKit

set_option maxHeartbeats 1000000 in
theorem l1ChanceP_any (w : World) (b : Nat) (o : Option Addr) (len cap : Nat) (a n : Int) (h : Src w b o len cap a) (ha : a ≤ 1000000) (hl : len ≤ 1048576) :
    Calls Tryz.prog 47 #[.pointer (some ⟨b, 0, none⟩), .int .i64 n] w fun e w' => ∃ r : Bool, e = .returned (.bool r) ∧ Src w' b o len cap (a + 1) ∧ But b w w' := by
  have HN : Hid (Calls Tryz.prog 42 #[.pointer (some ⟨b, 0, none⟩), .int .i64 n] w fun e w' => ∃ r : Int, e = .returned (.int .i64 r) ∧ 0 ≤ r ∧ (1 ≤ n → r < n) ∧ Src w' b o len cap (a + 1) ∧ But b w w') := l1Next_any w b o len cap a n h ha hl
  clear h
  go_enter Tryz.func47, Tryz.ntmps47
  go_wp2_with fail
  refine HN.out.mono ?_
  rintro e w1 ⟨r, rfl, _, _, hS, hT⟩
  have HR : Hid (Src w1 b o len cap (a + 1) ∧ But b w w1) := ⟨hS, hT⟩
  clear hS hT
  go_wp2
  go_ret
  exact ⟨_, rfl, HR.out⟩
/-- Block b is one that an operation lies in. -/
def OBk (x : World) (b : Nat) : Prop := ∃ old : Array Value, x.heap[b]? = some (.cells old 26 (0, 0)) ∧ old.size = 6
theorem OBk.lt {x : World} {b : Nat} (h : OBk x b) : b < x.heap.size := by
  obtain ⟨old, h, _⟩ := h
  exact (Array.getElem?_eq_some_iff.1 h).1
theorem OBk.kept {x x' : World} {b : Nat} (h : OBk x b) (hb : x'.heap[b]? = x.heap[b]?) : OBk x' b := by
  obtain ⟨old, h, hs⟩ := h
  exact ⟨old, hb.trans h, hs⟩
theorem OBk.later {x x' : World} {b : Nat} (h : OBk x b) (hb : Below x.heap.size x x') : OBk x' b := h.kept (hb.block b h.lt)
theorem OBk.new (w : World) (a0 a1 a2 a3 a4 a5 : Value) : OBk (w.alloc (.cells #[a0, a1, a2, a3, a4, a5] 26)) w.heap.size := ⟨_, heap_alloc_new w _, rfl⟩
theorem step_storeO {ops : Array Oper} {o : Oper} {a : Act} {w : World} {K : Act → World → Prop} {Q : Exit → Act → World → Prop} {E : Prop} (hgd : o.guard = none) (x y : Operand) (ho : o.op = .store 26 x y)
    (g : Nat) (a0 a1 a2 a3 a4 a5 : Value) (hx : a.eval x = .pointer (some ⟨g, 0, none⟩)) (hy : a.eval y = .agg #[a0, a1, a2, a3, a4, a5]) (hP : OBk w g) (h1 : (#[a0, a1, a2, a3, a4, a5] : Array Value).all (·.oneCell') = true)
    (h : K (a.put o.dst undef) (w.setRow g #[a0, a1, a2, a3, a4, a5])) : if Region.wanted o (yielded ops a.tmps) = true then Oper.wp Tryz.prog o a w K Q else E := by
  have hw : Region.wanted o (yielded ops a.tmps) = true := by simp [Region.wanted, hgd]
  rw [if_pos hw]
  obtain ⟨old, hg, hs⟩ := hP
  exact wp_store_row 26 x y ho g #[a0, a1, a2, a3, a4, a5] hx hy 26 old hg (by kernel_rfl) hs h1 h
theorem OBk.blk {x : World} {b : Nat} (h : OBk x b) (a0 a1 a2 a3 a4 a5 : Value) : Blk6 (x.setRow b #[a0, a1, a2, a3, a4, a5]) b a0 a1 a2 a3 a4 a5 := by
  obtain ⟨old, hg, _⟩ := h
  have e : (x.setRow b #[a0, a1, a2, a3, a4, a5]).heap[b]? = some (.cells #[a0, a1, a2, a3, a4, a5] 26 (0, 0)) := by simp [World.setRow, Array.getElem?_modify, hg]
  refine ⟨⟨?_, ?_, ?_, ?_, ?_, ?_⟩, ?_, ?_, ?_, ?_, ?_, ?_⟩ <;> simp [World.cell?, World.frozen?, e]
theorem Row.rowO {w : World} {B m n g : Nat} {F : Nat → Int} {v : Value} (h : Row w B m n F v) (hg : g < B) (cs : Array Value) : Row (w.setRow g cs) B m n F v := by
  rcases Nat.eq_zero_or_pos n with e | e
  · subst e
    obtain ⟨ao, cp, hv, _⟩ := h
    exact ⟨ao, cp, hv, fun q => absurd q (Nat.lt_irrefl 0)⟩
  · exact h.kept (by rw [size_setRow]; exact Nat.le_refl _) (fun k hk _ => heap_setRow _ _ _ _ (by have := (h.lt e k hk).1; omega))
theorem Row.farG {w : World} {B m n g j : Nat} {F : Nat → Int} {v : Value} (h : Row w B m n F v) (hg : 0 < n → ∀ k, v.ownBlock = some k → k ≠ g) (u : Value) : Row (w.setCell ⟨g, j, none⟩ u) B m n F v := by
  rcases Nat.eq_zero_or_pos n with e | e
  · subst e
    obtain ⟨ao, cp, hv, _⟩ := h
    exact ⟨ao, cp, hv, fun q => absurd q (Nat.lt_irrefl 0)⟩
  · exact h.kept (by simp [World.setCell]) (fun k hk _ => Below.heap_setCell w ⟨g, j, none⟩ u k (hg e k hk))
set_option maxRecDepth 100000 in
set_option maxHeartbeats 4000000 in
theorem drawCompile_any (w : World) (o : Option Addr) (len cap : Nat) (h : Code (w.alloc zeroO) o len) (hl : len ≤ 1048576) :
    Calls Tryz.prog 21 #[.slice o len cap] w fun e w' => ∃ (m : Nat) (V : Nat → Int) (ao : Option Addr) (cp : Nat) (kd d n td tn v : Int), e = .returned (.tuple #[.slice ao m cp, .agg #[.int .i64 kd, .int .i64 d, .int .i64 n, .int .i64 td, .int .i64 tn, .int .i64 v]]) ∧ m ≤ 401 ∧ Row w' w.heap.size 2 m V (.slice ao m cp) ∧ Below w.heap.size w w' := by
  have H : Hid (Code (w.alloc zeroO) o len) := h
  clear h
  go_enter Tryz.func21, Tryz.ntmps21
  go_wp2_with fail
  refine (l1Source_any (w.alloc zeroO) o len cap H.out).mono ?_
  rw [World.size_alloc]
  rintro e w1 ⟨rfl, hS, hb, hz⟩
  have H1 : Hid (Src w1 (w.heap.size + 1) o len cap 0 ∧ Below w.heap.size w w1 ∧ OBk w1 w.heap.size) := ⟨hS, (below_alloc w zeroO).trans (hb.mono (by omega)), (OBk.new w _ _ _ _ _ _).later (by rw [World.size_alloc]; exact hb)⟩
  have hbl : w.heap.size + 1 < w1.heap.size := by omega
  clear hS hb
  go_wp2_with fail
  refine (l13BentView_any _ (w.heap.size + 1) o len cap 0 H1.out.1 (by omega) hl).mono ?_
  rintro e w2 ⟨m, ao, cp, a1, rfl, hm, ha1, ⟨V, hV⟩, hS, hT⟩
  have bt : ∀ {x y : World}, But (w.heap.size + 1) x y → Below w.heap.size w x → Below w.heap.size w y := fun {x y} hT hB => ⟨hT.os.trans hB.os, hT.tape.trans hB.tape, hT.output.trans hB.output, Nat.le_trans hB.size hT.size, fun i hi => (hT.block i (Nat.lt_of_lt_of_le hi hB.size) (fun e => by have := Option.some.inj e; omega)).trans (hB.block i hi)⟩
  have H2 : Hid (Src w2 (w.heap.size + 1) o len cap a1 ∧ Below w.heap.size w w2 ∧ OBk w2 w.heap.size ∧ Row w2 (w.heap.size + 2) 2 m V (.slice ao m cp)) := ⟨hS, bt hT H1.out.2.1, H1.out.2.2.kept (hT.block _ H1.out.2.2.lt (fun e => by have := Option.some.inj e; omega)), hV.mono (by omega)⟩
  have hbk : 0 < m → ∀ k, (Value.slice ao m cp).ownBlock = some k → w.heap.size + 2 ≤ k := fun h0 k hk => (H2.out.2.2.2.lt h0 k hk).1
  have hbl2 : 0 < m → ∀ k, (Value.slice ao m cp).ownBlock = some k → k < w2.heap.size := fun h0 k hk => (H2.out.2.2.2.lt h0 k hk).2
  have hz2 : w.heap.size + 1 < w2.heap.size := H2.out.1.lt
  clear hS hT hV H1
  go_wp2_with fail
  refine (l13Draw_any _ (w.heap.size + 1) o len cap a1 H2.out.1 (by omega) hl).mono ?_
  rintro e w4 ⟨kd, d, n, td, tn, v, a2, rfl, _, ha2, hS, hT⟩
  have hb4 : w.heap.size + 1 < w4.heap.size := Nat.lt_of_lt_of_le H2.out.1.lt hT.size
  have hbl4 : 0 < m → ∀ k, (Value.slice ao m cp).ownBlock = some k → k < w4.heap.size := fun h0 k hk => Nat.lt_of_lt_of_le (hbl2 h0 k hk) hT.size
  have H4 : Hid (Src (w4.alloc (.cells #[.int .i64 kd, .int .i64 d, .int .i64 n, .int .i64 td, .int .i64 tn, .int .i64 v] 26)) (w.heap.size + 1) o len cap a2 ∧ Below w.heap.size w (w4.alloc (.cells #[.int .i64 kd, .int .i64 d, .int .i64 n, .int .i64 td, .int .i64 tn, .int .i64 v] 26)) ∧ OBk (w4.alloc (.cells #[.int .i64 kd, .int .i64 d, .int .i64 n, .int .i64 td, .int .i64 tn, .int .i64 v] 26)) w.heap.size ∧ Row (w4.alloc (.cells #[.int .i64 kd, .int .i64 d, .int .i64 n, .int .i64 td, .int .i64 tn, .int .i64 v] 26)) (w.heap.size + 2) 2 m V (.slice ao m cp) ∧ Blk6 (w4.alloc (.cells #[.int .i64 kd, .int .i64 d, .int .i64 n, .int .i64 td, .int .i64 tn, .int .i64 v] 26)) w4.heap.size (.int .i64 kd) (.int .i64 d) (.int .i64 n) (.int .i64 td) (.int .i64 tn) (.int .i64 v)) :=
    ⟨hS.alloc _, (bt hT H2.out.2.1).alloc (Nat.le_trans H2.out.2.1.size hT.size) _, (H2.out.2.2.1.kept (hT.block _ H2.out.2.2.1.lt (fun e => by have := Option.some.inj e; omega))).later (below_alloc _ _), (H2.out.2.2.2.turnedC hT (by omega)).alloc _, Blk6.new w4 _ _ _ _ _ _ _⟩
  clear hS hT H2
  go_wp2_with fail
  generalize w4.alloc (.cells #[.int .i64 kd, .int .i64 d, .int .i64 n, .int .i64 td, .int .i64 tn, .int .i64 v] 26) = w5 at H4 ⊢
  refine (l1ChanceP_any _ (w.heap.size + 1) o len cap a2 10 H4.out.1 (by omega) hl).mono ?_
  rintro e w6 ⟨r, rfl, hS, hT⟩
  have H6 : Hid (Src w6 (w.heap.size + 1) o len cap (a2 + 1) ∧ Below w.heap.size w w6 ∧ OBk w6 w.heap.size ∧ Row w6 (w.heap.size + 2) 2 m V (.slice ao m cp) ∧ Blk6 w6 w4.heap.size (.int .i64 kd) (.int .i64 d) (.int .i64 n) (.int .i64 td) (.int .i64 tn) (.int .i64 v)) :=
    ⟨hS, bt hT H4.out.2.1, H4.out.2.2.1.kept (hT.block _ H4.out.2.2.1.lt (fun e => by have := Option.some.inj e; omega)), H4.out.2.2.2.1.turnedC hT (by omega), H4.out.2.2.2.2.kept (hT.block _ H4.out.2.2.2.2.lt (fun e => by have := Option.some.inj e; omega))⟩
  clear hS hT H4
  cases r with
  | false =>
    have HE : Hid (Blk6 w6 w4.heap.size (.int .i64 kd) (.int .i64 d) (.int .i64 n) (.int .i64 td) (.int .i64 tn) (.int .i64 v) ∧ OBk w6 w.heap.size ∧ w.heap.size < w4.heap.size ∧ Row w6 (w.heap.size + 2) 2 m V (.slice ao m cp) ∧ Below w.heap.size w w6) := ⟨H6.out.2.2.2.2, H6.out.2.2.1, by omega, H6.out.2.2.2.1, H6.out.2.1⟩
    clear H6
    go_upto_region 6 with fail
    refine wp_region_held_drew (S := fun Z : World => Blk6 Z w4.heap.size (.int .i64 kd) (.int .i64 d) (.int .i64 n) (.int .i64 td) (.int .i64 tn) (.int .i64 v)) (by kernel_rfl) (HE.out.1.later (Below.refl _ _).drew) (fun hS => ?_)
    have HF : Hid (OBk w6.drew w.heap.size ∧ w.heap.size < w4.heap.size ∧ Row w6.drew (w.heap.size + 2) 2 m V (.slice ao m cp) ∧ Below w.heap.size w w6.drew) := ⟨HE.out.2.1.later (Below.refl _ _).drew, HE.out.2.2.1, HE.out.2.2.2.1.later (Below.refl _ _).drew, HE.out.2.2.2.2.drew⟩
    clear HE
    generalize w6.drew = z0 at hS HF ⊢
    refine tkH 0 ?_ hS (fun wx hx => ?_) ?_; rotate_left
    · obtain ⟨⟨hx0, hx1, hx2, hx3, hx4, hx5⟩, _⟩ := hx; go_simp; try with_reducible rfl
    refine tkH 1 ?_ hS (fun wx hx => ?_) ?_; rotate_left
    · obtain ⟨⟨hx0, hx1, hx2, hx3, hx4, hx5⟩, _⟩ := hx; go_simp; try with_reducible rfl
    refine tkH 2 ?_ hS (fun wx hx => ?_) ?_; rotate_left
    · obtain ⟨⟨hx0, hx1, hx2, hx3, hx4, hx5⟩, _⟩ := hx; go_simp; try with_reducible rfl
    refine rdH 3 (fun K hK => ?_)
    refine step_storeO rfl _ _ rfl w.heap.size _ _ _ _ _ _ rfl rfl HF.out.1 (by kernel_rfl) ?_
    have KB : Hid (Blk6 (z0.setRow w.heap.size #[.int .i64 kd, .int .i64 d, .int .i64 n, .int .i64 td, .int .i64 tn, .int .i64 v]) w.heap.size (.int .i64 kd) (.int .i64 d) (.int .i64 n) (.int .i64 td) (.int .i64 tn) (.int .i64 v)) := HF.out.1.blk _ _ _ _ _ _
    have HG : Hid (Row (z0.setRow w.heap.size #[.int .i64 kd, .int .i64 d, .int .i64 n, .int .i64 td, .int .i64 tn, .int .i64 v]) (w.heap.size + 2) 2 m V (.slice ao m cp) ∧ Below w.heap.size w (z0.setRow w.heap.size #[.int .i64 kd, .int .i64 d, .int .i64 n, .int .i64 td, .int .i64 tn, .int .i64 v])) := ⟨HF.out.2.2.1.rowO (by omega) _, below_row HF.out.2.2.2 (Nat.le_refl _) _⟩
    have hS' : Blk6 (z0.setRow w.heap.size #[.int .i64 kd, .int .i64 d, .int .i64 n, .int .i64 td, .int .i64 tn, .int .i64 v]) w4.heap.size (.int .i64 kd) (.int .i64 d) (.int .i64 n) (.int .i64 td) (.int .i64 tn) (.int .i64 v) := hS.kept (heap_setRow _ _ _ _ (by have := HF.out.2.1; omega))
    clear hS HF
    refine hK.out _ _ hS' (fun hS => ?_)
    clear hK K hS' hS
    refine wpAnyH_done (by kernel_rfl) ?_ _
    go_simp
    obtain ⟨⟨k0, k1, k2, k3, k4, k5⟩, _⟩ := KB.out
    go_wp2
    refine bodyPost_ret (v := .tuple #[.slice ao m cp, .agg #[.int .i64 kd, .int .i64 d, .int .i64 n, .int .i64 td, .int .i64 tn, .int .i64 v]]) (by simp [results, Tryz.results21, go_sem, k0, k1, k2, k3, k4, k5]) rfl ?_
    exact ⟨m, V, ao, cp, _, _, _, _, _, _, rfl, hm, HG.out.1.mono (by omega), HG.out.2⟩
  | true =>
    go_wp2_with fail
    refine (l13Bent_any _ (w.heap.size + 1) o len cap (a2 + 1) H6.out.1 (by omega) hl).mono ?_
    rintro e w7 ⟨kd', d', n', td', tn', v', a3, rfl, _, hS, hT⟩
    have H7 : Hid ((Below w.heap.size w w7 ∧ OBk w7 w.heap.size ∧ Row w7 (w.heap.size + 2) 2 m V (.slice ao m cp)) ∧ Blk6 w7 w4.heap.size (.int .i64 kd) (.int .i64 d) (.int .i64 n) (.int .i64 td) (.int .i64 tn) (.int .i64 v)) :=
      ⟨⟨bt hT H6.out.2.1, H6.out.2.2.1.kept (hT.block _ H6.out.2.2.1.lt (fun e => by have := Option.some.inj e; omega)), H6.out.2.2.2.1.turnedC hT (by omega)⟩, H6.out.2.2.2.2.kept (hT.block _ H6.out.2.2.2.2.lt (fun e => by have := Option.some.inj e; omega))⟩
    clear hS hT H6
    obtain ⟨w8, HY⟩ : ∃ y, Hid (y = ((((((w7.setCell ⟨w4.heap.size, 0, none⟩ (.int .i64 kd')).setCell ⟨w4.heap.size, 1, none⟩ (.int .i64 d')).setCell ⟨w4.heap.size, 2, none⟩ (.int .i64 n')).setCell ⟨w4.heap.size, 3, none⟩ (.int .i64 td')).setCell ⟨w4.heap.size, 4, none⟩ (.int .i64 tn')).setCell ⟨w4.heap.size, 5, none⟩ (.int .i64 v'))) := ⟨_, rfl⟩
    have HE : Hid (Blk6 w8 w4.heap.size (.int .i64 kd') (.int .i64 d') (.int .i64 n') (.int .i64 td') (.int .i64 tn') (.int .i64 v') ∧ OBk w8 w.heap.size ∧ w.heap.size < w4.heap.size ∧ Row w8 (w.heap.size + 2) 2 m V (.slice ao m cp) ∧ Below w.heap.size w w8) := by
      rw [HY.out]
      obtain ⟨⟨k1, k2, k3⟩, k4⟩ := H7.out
      have so : ∀ {y : World} (j : Nat) (u : Value), OBk y w.heap.size → OBk (y.setCell ⟨w4.heap.size, j, none⟩ u) w.heap.size := fun {y} j u q => q.kept (Below.heap_setCell y ⟨w4.heap.size, j, none⟩ u _ (by simp; omega))
      have sb : ∀ {y : World} (j : Nat) (u : Value), Below w.heap.size w y → Below w.heap.size w (y.setCell ⟨w4.heap.size, j, none⟩ u) := fun {y} j u q => q.setCell (by show w.heap.size ≤ w4.heap.size; omega) u
      have sr : ∀ {y : World} (j : Nat) (u : Value), Row y (w.heap.size + 2) 2 m V (.slice ao m cp) → Row (y.setCell ⟨w4.heap.size, j, none⟩ u) (w.heap.size + 2) 2 m V (.slice ao m cp) := fun {y} j u q => q.farG (fun h0 k hk => by have := hbl4 h0 k hk; omega) u
      exact ⟨k4.putAll _ _ _ _ _ _, so _ _ (so _ _ (so _ _ (so _ _ (so _ _ (so _ _ k2))))), by omega, sr _ _ (sr _ _ (sr _ _ (sr _ _ (sr _ _ (sr _ _ k3))))), sb _ _ (sb _ _ (sb _ _ (sb _ _ (sb _ _ (sb _ _ k1)))))⟩
    obtain ⟨⟨z0, z1, z2, z3, z4, z5⟩, f0, f1, f2, f3, f4, f5⟩ := H7.out.2
    go_upto_region 6 with fail
    rw [← HY.out]
    clear z0 z1 z2 z3 z4 z5 f0 f1 f2 f3 f4 f5 H7 HY
    refine wp_region_held_drew (S := fun Z : World => Blk6 Z w4.heap.size (.int .i64 kd') (.int .i64 d') (.int .i64 n') (.int .i64 td') (.int .i64 tn') (.int .i64 v')) (by kernel_rfl) (HE.out.1.later (Below.refl _ _).drew) (fun hS => ?_)
    have HF : Hid (OBk w8.drew w.heap.size ∧ w.heap.size < w4.heap.size ∧ Row w8.drew (w.heap.size + 2) 2 m V (.slice ao m cp) ∧ Below w.heap.size w w8.drew) := ⟨HE.out.2.1.later (Below.refl _ _).drew, HE.out.2.2.1, HE.out.2.2.2.1.later (Below.refl _ _).drew, HE.out.2.2.2.2.drew⟩
    clear HE
    generalize w8.drew = z0 at hS HF ⊢
    refine tkH 0 ?_ hS (fun wx hx => ?_) ?_; rotate_left
    · obtain ⟨⟨hx0, hx1, hx2, hx3, hx4, hx5⟩, _⟩ := hx; go_simp; try with_reducible rfl
    refine tkH 1 ?_ hS (fun wx hx => ?_) ?_; rotate_left
    · obtain ⟨⟨hx0, hx1, hx2, hx3, hx4, hx5⟩, _⟩ := hx; go_simp; try with_reducible rfl
    refine tkH 2 ?_ hS (fun wx hx => ?_) ?_; rotate_left
    · obtain ⟨⟨hx0, hx1, hx2, hx3, hx4, hx5⟩, _⟩ := hx; go_simp; try with_reducible rfl
    refine rdH 3 (fun K hK => ?_)
    refine step_storeO rfl _ _ rfl w.heap.size _ _ _ _ _ _ rfl rfl HF.out.1 (by kernel_rfl) ?_
    have KB : Hid (Blk6 (z0.setRow w.heap.size #[.int .i64 kd', .int .i64 d', .int .i64 n', .int .i64 td', .int .i64 tn', .int .i64 v']) w.heap.size (.int .i64 kd') (.int .i64 d') (.int .i64 n') (.int .i64 td') (.int .i64 tn') (.int .i64 v')) := HF.out.1.blk _ _ _ _ _ _
    have HG : Hid (Row (z0.setRow w.heap.size #[.int .i64 kd', .int .i64 d', .int .i64 n', .int .i64 td', .int .i64 tn', .int .i64 v']) (w.heap.size + 2) 2 m V (.slice ao m cp) ∧ Below w.heap.size w (z0.setRow w.heap.size #[.int .i64 kd', .int .i64 d', .int .i64 n', .int .i64 td', .int .i64 tn', .int .i64 v'])) := ⟨HF.out.2.2.1.rowO (by omega) _, below_row HF.out.2.2.2 (Nat.le_refl _) _⟩
    have hS' : Blk6 (z0.setRow w.heap.size #[.int .i64 kd', .int .i64 d', .int .i64 n', .int .i64 td', .int .i64 tn', .int .i64 v']) w4.heap.size (.int .i64 kd') (.int .i64 d') (.int .i64 n') (.int .i64 td') (.int .i64 tn') (.int .i64 v') := hS.kept (heap_setRow _ _ _ _ (by have := HF.out.2.1; omega))
    clear hS HF
    refine hK.out _ _ hS' (fun hS => ?_)
    clear hK K hS' hS
    refine wpAnyH_done (by kernel_rfl) ?_ _
    go_simp
    obtain ⟨⟨k0, k1, k2, k3, k4, k5⟩, _⟩ := KB.out
    go_wp2
    refine bodyPost_ret (v := .tuple #[.slice ao m cp, .agg #[.int .i64 kd', .int .i64 d', .int .i64 n', .int .i64 td', .int .i64 tn', .int .i64 v']]) (by simp [results, Tryz.results21, go_sem, k0, k1, k2, k3, k4, k5]) rfl ?_
    exact ⟨m, V, ao, cp, _, _, _, _, _, _, rfl, hm, HG.out.1.mono (by omega), HG.out.2⟩
end Go.Proofs.YtnchaccgenfhoaaGreat

namespace Go.Proofs.YtnchaccgenfhoaaGreat
open Go.RowKit

theorem hidA {p : Prop} (h : p) : Hid p := h
/-- What the law stands on: the view, the operation's box, what the program's ApplyFs answered. -/
structure EnvA (w : World) (b4 b5 : Nat) (c r v kd d n td tn vv : Int) (m : Nat) (V : Nat → Int) (view : Value) (R : Prs) (pv : Value) (x : World) : Prop where
  below : Below w.heap.size w x
  view : Row x 0 2 m V view
  op : Blk6 x b4 (.int .i64 kd) (.int .i64 d) (.int .i64 n) (.int .i64 td) (.int .i64 tn) (.int .i64 vv)
  got : BlkF x b5 (.int .i64 c) (.int .i64 r) (.int .i64 v) pv
  row : Row x 0 2 R.length (rowL R) pv
theorem EnvA.later {w : World} {b4 b5 : Nat} {c r v kd d n td tn vv : Int} {m : Nat} {V : Nat → Int} {view : Value} {R : Prs} {pv : Value} {x x' : World} (h : EnvA w b4 b5 c r v kd d n td tn vv m V view R pv x) (hb : Below x.heap.size x x') : EnvA w b4 b5 c r v kd d n td tn vv m V view R pv x' :=
  ⟨h.below.trans (hb.mono h.below.size), h.view.later hb, h.op.later hb, h.got.later hb, h.row.later hb⟩
theorem fs_of_whole {R : Prs} (hg : GoodP R) (h : wholeB R = true) : fsF R.length (rowL R) = 0 := fsF_ok (pairs_of_good hg) (by rw [listOf_rowL]; exact h)
theorem ch_of {R : Prs} (hg : GoodP R) {d n z : Int} {has : Bool} (hd : 0 ≤ d ∧ d ≤ 9) (hn : 0 ≤ n ∧ n ≤ 5) (h : lookF R (kE d n) = (has, z)) : ChAns R.length (rowL R) d n 0 z has := Or.inr (Or.inr ⟨pairs_of_good hg, ⟨hd, hn⟩, rfl, by rw [listOf_rowL]; exact h⟩)
theorem same_of (V : Nat → Int) (m : Nat) : true = true ↔ AlikeP 2 (listOf V m).length (rowL (listOf V m)) m V := ⟨fun _ => ⟨listOf_length V m, fun p hp => rowL_listOf (by rw [listOf_length] at hp; exact hp)⟩, fun _ => rfl⟩
theorem field_fs0 (c r v : Int) (ao : Option Addr) (n cp : Nat) (w : World) : (Instr.field 30 (.agg #[.int .i64 c, .int .i64 r, .int .i64 v, .slice ao n cp]) 0).run Tryz.prog w = .ok (.int .i64 c) w := by kernel_rfl
theorem field_ints1 (c : Int) (ao : Option Addr) (n cp : Nat) (w : World) : (Instr.field 41 (.agg #[.int .i64 c, .slice ao n cp]) 1).run Tryz.prog w = .ok (.slice ao n cp) w := by kernel_rfl
set_option maxHeartbeats 1000000 in
theorem drawApplyFs_any (w : World) (o : Option Addr) (len cap : Nat) (h : Code w o len) (hl : len ≤ 1048576) :
    Calls Tryz.prog 7 #[.slice o len cap] w fun e w' => ∃ (m : Nat) (V : Nat → Int) (ao : Option Addr) (cp : Nat) (kd d n td tn v : Int), e = .returned (.tuple #[.slice ao m cp, .agg #[.int .i64 kd, .int .i64 d, .int .i64 n, .int .i64 td, .int .i64 tn, .int .i64 v]]) ∧ m ≤ 401 ∧ Row w' w.heap.size 2 m V (.slice ao m cp) ∧ Below w.heap.size w w' := by
  have H := hidA h
  clear h
  go_enter Tryz.func7, Tryz.ntmps7
  go_wp2_with fail
  refine (drawCompile_any (w.alloc zeroO) o len cap ((H.out.later (below_alloc _ _)).later (below_alloc _ _)) hl).mono ?_
  rintro e w1 ⟨m, V, ao, cp, kd, d, n, td, tn, vv, rfl, hm, hV, q1⟩
  rw [World.size_alloc] at hV q1
  have hf : 0 < m → ∀ k, (Value.slice ao m cp).ownBlock = some k → k ≠ w.heap.size := fun h0 k hk => by have := (hV.lt h0 k hk).1; omega
  have hb : Below w.heap.size w w1 := (below_alloc w zeroO).trans (q1.mono (by omega))
  obtain ⟨⟨z0, z1, z2, z3, z4, z5⟩, f0, f1, f2, f3, f4, f5⟩ := (Blk6.new w (.int .i64 0) (.int .i64 0) (.int .i64 0) (.int .i64 0) (.int .i64 0) (.int .i64 0) 26).later (by rw [World.size_alloc]; exact q1)
  have HX := hidA (And.intro (hV.mono (B' := w.heap.size) (by omega)) (And.intro hb hf))
  clear hV q1 hb hf
  go_wp2
  refine bodyPost_ret (v := .tuple #[.slice ao m cp, .agg #[.int .i64 kd, .int .i64 d, .int .i64 n, .int .i64 td, .int .i64 tn, .int .i64 vv]]) (by simp [results, Tryz.results7, go_sem, z0, z1, z2, z3, z4, z5]) rfl ?_
  obtain ⟨k1, k2, k3⟩ := HX.out
  exact ⟨m, V, ao, cp, kd, d, n, td, tn, vv, rfl, hm, (((((k1.farG k3 _).farG k3 _).farG k3 _).farG k3 _).farG k3 _).farG k3 _, (((((k2.setCell (Nat.le_refl _) _).setCell (Nat.le_refl _) _).setCell (Nat.le_refl _) _).setCell (Nat.le_refl _) _).setCell (Nat.le_refl _) _).setCell (Nat.le_refl _) _⟩
end Go.Proofs.YtnchaccgenfhoaaGreat

namespace Go.Proofs.YtnchaccgenfhoaaGreat
open Go.RowKit

set_option maxHeartbeats 400000 in
theorem lwHas_any (v : Value) (B : Nat) (xs : List Int) (x : Int) (r : Bool) (hr : Hid (decide (x ∈ xs) = r)) (w : World) (h : Ints w B v xs) (hl : xs.length ≤ 1000) :
    Calls Tryz.prog 14 #[v, .int .i64 x] w fun e w' => e = .returned (.bool r) ∧ w' = w := by
  obtain ⟨ao, ca, rfl⟩ := h.form
  have H0 : Hid (Ints w B (.slice ao xs.length ca) xs) := h
  clear h
  go_enter Tryz.func14, Tryz.ntmps14
  go_wp2
  go_loop [5] (fun i => ∃ n : Nat, n ≤ xs.length ∧ i = .int .i64 n ∧ Hid (x ∉ xs.take n)) (fun i => xs.length - (intOf i).toNat)
  case atStart => exact ⟨0, Nat.zero_le _, rfl, by unfold Hid; simp⟩
  case round =>
    obtain ⟨n, hn, rfl, hno⟩ := hrel
    by_cases hlt : n < xs.length
    · obtain ⟨g, rfl, _, hc, _⟩ := H0.out.at hlt
      have ht : xs.take (n + 1) = xs.take n ++ [xs[n]] := by rw [List.take_succ_eq_append_getElem hlt]
      by_cases hx : xs[n] = x
      · obtain rfl : r = true := hr.out.symm.trans (decide_eq_true (hx ▸ List.getElem_mem hlt))
        have dx : (xs[n] == x) = true := beq_iff_eq.2 hx
        clear ht hx
        go_wp2
        go_ret
        exact ⟨rfl, rfl⟩
      · have HN : Hid (x ∉ xs.take (n + 1)) := by
          unfold Hid; rw [ht, List.mem_append]
          rintro (h1 | h1)
          · exact hno.out h1
          · simp at h1; exact hx h1.symm
        have dx : (xs[n] == x) = false := beq_eq_false_iff_ne.2 hx
        clear ht hx
        go_wp2
        go_round
        case rel => exact ⟨n + 1, by omega, by go_num, HN⟩
        case measure => simp [intOf]; omega
    · obtain rfl : r = false := hr.out.symm.trans (decide_eq_false (by have := hno.out; rw [List.take_of_length_le (by omega)] at this; exact this))
      go_wp2
      go_ret
      exact ⟨rfl, rfl⟩

end Go.Proofs.YtnchaccgenfhoaaGreat

