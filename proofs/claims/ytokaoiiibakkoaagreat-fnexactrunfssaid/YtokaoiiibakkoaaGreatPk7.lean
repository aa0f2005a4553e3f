/-
  Own text, merged of TreK, ApyB, ApyC, ApyD, FopA, RopA, RopB, RopC, RopD.
-/
import Derived.Test.YtokaoiiibakkoaaGreatPk6
namespace Go.Proofs.YtokaoiiibakkoaaGreat
open Go.RowKit

set_option maxRecDepth 100000 in
set_option maxHeartbeats 2000000 in
theorem implFs_is (y : Value) (B n : Nat) (F : Nat → Int) (w : World) (h : Row w B 2 n F y) (hn : n ≤ 1048576) :
    Calls Tryz.prog 25 #[y] w fun e w' => e = .returned (.int .i64 (fsF n F)) ∧ Below w.heap.size w w' := by
  have H : Hid (Row w B 2 n F y) := h
  clear h
  by_cases h1 : pairsF F n 0 = 0
  case neg =>
    obtain ⟨f, hf⟩ : ∃ f, pairsF F n 0 = f := ⟨_, rfl⟩
    have HF : Hid (pairsF F n 0 = f) := hf
    have HQ : Hid (fsF n F = f) := (fsF_bad h1).trans hf
    have dd : (f != 0) = true := bne_iff_ne.2 (by rw [← hf]; exact h1)
    rw [HQ.out]
    clear h1 hf
    go_enter Tryz.func25, Tryz.ntmps25
    go_wp2_with fail
    refine (implPairs_any _ B n F _ H.out hn).mono ?_
    rintro e w1 ⟨rfl, q1⟩
    rw [HF.out]
    have HB : Hid (Below w.heap.size w w1) := q1
    clear q1
    go_wp2
    go_ret
    exact ⟨rfl, HB.out⟩
  have HF : Hid (pairsF F n 0 = 0) := h1
  obtain ⟨q, hq⟩ : ∃ q, wholeB (listOf F n) = q := ⟨_, rfl⟩
  have HW : Hid (wholeB (listOf F n) = q) := hq
  have HQ : Hid (fsF n F = if q = true then 0 else 1) := by
    cases q with
    | true => exact fsF_ok h1 hq
    | false => exact fsF_no h1 hq
  have hn2 := (pairs_rise h1).2
  rw [HQ.out]
  clear h1 hq
  go_enter Tryz.func25, Tryz.ntmps25
  go_wp2_with fail
  refine (implPairs_any _ B n F _ H.out hn).mono ?_
  rintro e w1 ⟨rfl, q1⟩
  rw [HF.out]
  have HB : Hid (Below w.heap.size w w1) := q1
  clear q1
  go_wp2_with fail
  refine (hangingIn_is (listOf F n) _ B _ (row_list (H.out.later HB.out)) (pairs_rise HF.out).1 (by rw [listOf_length]; omega) (pairs_keys HF.out)).mono ?_
  rintro e w2 ⟨b, rb, mb, lv, rfl, hl, ho, hrb, q2⟩
  have HH : Hid (Hung w2 b rb mb (listOf F n) [] (.slice none 0 0) lv ∧ w1.heap.size ≤ mb ∧ w1.heap.size ≤ b) := ⟨Hung.new hl ho, by have := hl.2.2.2.2; omega, by have := hl.2.2.2.2; omega⟩
  have HB2 : Hid (Below w.heap.size w w2 ∧ w1.heap.size ≤ w2.heap.size) := ⟨HB.out.trans (q2.mono HB.out.size), q2.size⟩
  clear hl ho hrb q2
  go_wp2_with fail
  refine (isWhole_is (listOf F n) b rb mb [] (.slice none 0 0) lv _ HH.out.1 (pairs_rise HF.out).1 (by rw [listOf_length]; omega) (lookF_val (pairs_vals HF.out))).mono ?_
  rintro e w3 ⟨rfl, ys, vy, hg, hk⟩
  have HB3 : Hid (Below w.heap.size w w3) := HB2.out.1.trans (hk.toBelow HB2.out.1.size (Nat.le_trans HB.out.size HH.out.2.2) (Nat.le_trans HB.out.size HH.out.2.1) (fun k hk => by cases hk))
  rw [HW.out]
  clear hg hk HH HB HB2
  cases q with
  | true =>
    go_wp2
    go_ret
    exact ⟨rfl, HB3.out⟩
  | false =>
    go_wp2
    go_ret
    exact ⟨rfl, HB3.out⟩
end Go.Proofs.YtokaoiiibakkoaaGreat

namespace Go.Proofs.YtokaoiiibakkoaaGreat
open Go.RowKit

theorem kI_ok {a : Int} (h : 0 ≤ a ∧ a ≤ 9) : faultOf (kI a) = 0 := faultOf_ok (by unfold kI; omega)
theorem kB_ok {a : Int} (h : 0 ≤ a ∧ a ≤ 9) : faultOf (kB a) = 0 := faultOf_ok (by unfold kB; omega)
theorem appsF_of {G : Nat → Int} : ∀ {m k : Nat}, (∀ j, j < m → appF (G ((k + j) * 3)) (G ((k + j) * 3 + 1)) (G ((k + j) * 3 + 2)) = 0) → appsF G m k = 0
  | 0, _, _ => rfl
  | m + 1, k, h => by
    rw [appsF, if_neg (by have := h 0 (Nat.succ_pos _); simpa using this)]
    exact appsF_of fun j hj => by
      have := h (j + 1) (by omega)
      rwa [show k + (j + 1) = k + 1 + j by omega] at this
/-- What is written, and how many: items without a fault. -/
def ItemsOk (m : Nat) (W : List Int) : Prop := appliedF m (fun p => W.getD p 0) = 0 ∧ W.length = m * 3
theorem items0 : ItemsOk 0 [] := ⟨rfl, rfl⟩
theorem items1 {a0 a1 a2 : Int} (h0 : appF a0 a1 a2 = 0) : ItemsOk 1 [a0, a1, a2] := by
  refine ⟨?_, rfl⟩
  unfold appliedF
  rw [if_neg (by omega)]
  exact appsF_of fun j hj => by
    match j, hj with
    | 0, _ => exact h0
theorem items2 {a0 a1 a2 b0 b1 b2 : Int} (h0 : appF a0 a1 a2 = 0) (h1 : appF b0 b1 b2 = 0) : ItemsOk 2 [a0, a1, a2, b0, b1, b2] := by
  refine ⟨?_, rfl⟩
  unfold appliedF
  rw [if_neg (by omega)]
  exact appsF_of fun j hj => by
    match j, hj with
    | 0, _ => exact h0
    | 1, _ => exact h1
theorem items3 {a0 a1 a2 b0 b1 b2 c0 c1 c2 : Int} (h0 : appF a0 a1 a2 = 0) (h1 : appF b0 b1 b2 = 0) (h2 : appF c0 c1 c2 = 0) : ItemsOk 3 [a0, a1, a2, b0, b1, b2, c0, c1, c2] := by
  refine ⟨?_, rfl⟩
  unfold appliedF
  rw [if_neg (by omega)]
  exact appsF_of fun j hj => by
    match j, hj with
    | 0, _ => exact h0
    | 1, _ => exact h1
    | 2, _ => exact h2
theorem op_value {kd d n td tn vv : Int} (h : opF kd d n td tn vv = 0) : 0 ≤ vv ∧ vv ≤ 9999 := by
  unfold opF at h
  cases h1 : suitsB kd td tn vv with
  | false => rw [h1] at h; simp at h
  | true =>
    cases h2 : boundsB d n td tn vv with
    | false => rw [h1, h2] at h; simp at h
    | true =>
      have b := of_decide_eq_true h2
      exact b.2.2.2.2
/-- Whatever an operation finds: with a reply nothing is written; what is written has no fault. -/
theorem reply_items {L : Prs} (hv : ∀ k, 0 ≤ (lookF L k).2 ∧ (lookF L k).2 ≤ 9999) {kd d n td tn vv : Int} (ho : opF kd d n td tn vv = 0) :
    ItemsOk (replyP L kd d n td tn vv).2.2.2.1 (replyP L kd d n td tn vv).2.2.2.2 ∧ ((replyP L kd d n td tn vv).1 ≠ 0 → (replyP L kd d n td tn vv).2.2.2.1 = 0) ∧ (0 ≤ (replyP L kd d n td tn vv).2.1 ∧ (replyP L kd d n td tn vv).2.1 ≤ 9999) := by
  obtain ⟨hkd, hd, hn, htd, htn⟩ := op_bounds ho
  have hvv := op_value ho
  have hc : 0 ≤ minC (lookF L (kE d n)).2 ∧ minC (lookF L (kE d n)).2 ≤ 9 := minC_in (hv _).1
  have hcv := hv (kI (minC (lookF L (kE d n)).2))
  have hbv := hv (kB (minC (lookF L (kE d n)).2))
  have h0v := hv 0
  have e0 : faultOf (0 : Int) = 0 := by decide
  unfold replyP
  split
  · split
    · split
      · exact ⟨items0, fun _ => rfl, by simp only; omega⟩
      · unfold makeP
        split
        · rename_i hnx
          exact ⟨items3 (appF_ok e0 (by omega) (by omega)) (appF_ok (kI_ok (by omega)) (by omega) (by split <;> omega)) (appF_ok (kE_ok hd hn) (by omega) (by omega)), fun h => absurd rfl h, by simp only; omega⟩
        · exact ⟨items0, fun _ => rfl, by simp only; omega⟩
    · split
      · unfold childP
        generalize minC (lookF L (kE d n)).2 = c at hc hcv hbv ⊢
        generalize (lookF L (kI c)).2 = cv at hcv ⊢
        split
        · unfold removeP
          split
          · split
            · exact ⟨items2 (appF_ok (kE_ok hd hn) (by omega) (by omega)) (appF_ok (kI_ok hc) (by omega) (by omega)), fun h => absurd rfl h, by simp only; omega⟩
            · exact ⟨items0, fun _ => rfl, by simp only; omega⟩
          · split
            · exact ⟨items2 (appF_ok (kE_ok hd hn) (by omega) (by omega)) (appF_ok (kI_ok hc) (by omega) (by omega)), fun h => absurd rfl h, by simp only; omega⟩
            · exact ⟨items3 (appF_ok (kE_ok hd hn) (by omega) (by omega)) (appF_ok (kI_ok hc) (by omega) (by omega)) (appF_ok (kB_ok hc) (by omega) (by omega)), fun h => absurd rfl h, by simp only; omega⟩
        · split
          · unfold moveP
            split
            · exact ⟨items0, fun _ => rfl, by simp only; omega⟩
            · split
              · exact ⟨items2 (appF_ok (kE_ok hd hn) (by omega) (by omega)) (appF_ok (kE_ok htd htn) (by omega) (by omega)), fun h => absurd rfl h, by simp only; omega⟩
              · exact ⟨items0, fun _ => rfl, by simp only; omega⟩
          · split
            · unfold linkP
              split
              · exact ⟨items0, fun _ => rfl, by simp only; omega⟩
              · split
                · split
                  · exact ⟨items0, fun _ => rfl, by simp only; omega⟩
                  · exact ⟨items2 (appF_ok (kI_ok hc) (by omega) (by omega)) (appF_ok (kE_ok htd htn) (by omega) (by omega)), fun h => absurd rfl h, by simp only; omega⟩
                · exact ⟨items0, fun _ => rfl, by simp only; omega⟩
            · split
              · exact ⟨items0, fun h => absurd rfl h, by simp only; omega⟩
              · split
                · exact ⟨items0, fun _ => rfl, by simp only; omega⟩
                · split
                  · exact ⟨items1 (appF_ok (kB_ok hc) (by omega) (by omega)), fun h => absurd rfl h, by simp only; omega⟩
                  · exact ⟨items0, fun _ => rfl, by simp only; omega⟩
      · exact ⟨items0, fun _ => rfl, by simp only; omega⟩
  · exact ⟨items0, fun _ => rfl, by simp only; omega⟩
/-- A list of pairs that has no fault. -/
def GoodP (L : Prs) : Prop := Rises L ∧ ∀ e ∈ L, faultOf e.1 = 0 ∧ 0 ≤ e.2 ∧ e.2 ≤ 9999
theorem good_of_pairs {F : Nat → Int} {n : Nat} (h : pairsF F n 0 = 0) : GoodP (listOf F n) := by
  refine ⟨(pairs_rise h).1, fun e he => ⟨?_, pairs_vals h e he⟩⟩
  unfold listOf at he
  obtain ⟨k, hk, rfl⟩ := List.mem_map.1 he
  have := pairsF_all h k (List.mem_range.1 hk)
  rw [Nat.zero_add] at this
  exact (pairF_zero this).1
theorem pairsF_of {F : Nat → Int} : ∀ {m k : Nat}, (∀ j, j < m → pairF F (k + j) = 0) → pairsF F m k = 0
  | 0, _, _ => rfl
  | m + 1, k, h => by
    rw [pairsF, if_neg (by have := h 0 (Nat.succ_pos _); simpa using this)]
    exact pairsF_of fun j hj => by
      have := h (j + 1) (by omega)
      rwa [show k + (j + 1) = k + 1 + j by omega] at this
theorem pairs_of_good {L : Prs} (h : GoodP L) : pairsF (rowL L) L.length 0 = 0 := by
  refine pairsF_of fun j hj => ?_
  rw [Nat.zero_add]
  have hm : L.getD j (0, 0) ∈ L := by
    rw [List.getD_eq_getElem?_getD, List.getElem?_eq_getElem hj]
    exact List.getElem_mem hj
  have he := h.2 _ hm
  refine pairF_ok (rowL_key L j) (rowL_val L j) rfl he.1 he.2 (fun q => ?_)
  have hr := List.pairwise_iff_getElem.1 h.1 (j - 1) j (by omega) hj (by omega)
  rw [rowL_key] at q
  rw [List.getD_eq_getElem?_getD, List.getElem?_eq_getElem hj, List.getD_eq_getElem?_getD, List.getElem?_eq_getElem (show j - 1 < L.length by omega)] at q
  simp only [Option.getD_some] at q
  omega
theorem listOf_rowL (L : Prs) : listOf (rowL L) L.length = L := by
  apply List.ext_getElem
  · rw [listOf_length]
  · intro i h1 h2
    have := listOf_get (F := rowL L) h2
    rw [List.getD_eq_getElem?_getD, List.getElem?_eq_getElem h1, Option.getD_some, rowL_key, rowL_val, List.getD_eq_getElem?_getD, List.getElem?_eq_getElem h2] at this
    simpa using this
theorem GoodP.step {L : Prs} (h : GoodP L) {k kd v : Int} (hi : appF k kd v = 0) : GoodP (stepA L k kd v) := by
  have h3 := appF_zero hi
  refine ⟨stepA_rises h.1 k kd v, fun e he => ?_⟩
  unfold stepA at he
  split at he
  · rcases putPr_mem he with rfl | q
    · exact ⟨h3.1, h3.2.2⟩
    · exact h.2 e q
  · split at he
    · exact h.2 e (List.mem_filter.1 he).1
    · exact h.2 e he
theorem GoodP.apply {L : Prs} (h : GoodP L) {G : Nat → Int} : ∀ {m : Nat}, (∀ i, i < m → appF (G (i * 3)) (G (i * 3 + 1)) (G (i * 3 + 2)) = 0) → GoodP (applyN L G m)
  | 0, _ => h
  | m + 1, hi => (GoodP.apply h (m := m) (fun i him => hi i (by omega))).step (hi m (Nat.lt_succ_self _))
theorem ItemsOk.all {m : Nat} {W : List Int} (h : ItemsOk m W) : ∀ i, i < m → appF (W.getD (i * 3) 0) (W.getD (i * 3 + 1) 0) (W.getD (i * 3 + 2) 0) = 0 := fun i hi => by
  have := appsF_all (appliedF_zero h.1).2.1 i hi
  rwa [Nat.zero_add] at this
theorem GoodP.vals {L : Prs} (h : GoodP L) : ∀ k, 0 ≤ (lookF L k).2 ∧ (lookF L k).2 ≤ 9999 := lookF_val fun e he => (h.2 e he).2
theorem GoodP.len {L : Prs} (h : GoodP L) : L.length ≤ 200 := by
  have := (pairs_rise (pairs_of_good h)).2
  exact this
/-- What an operation comes to: its reply, its value, the view behind it. -/
def applyP (L : Prs) (kd d n td tn vv : Int) : Int × Int × Prs :=
  ((replyP L kd d n td tn vv).1, (replyP L kd d n td tn vv).2.1, applyN L (fun p => (replyP L kd d n td tn vv).2.2.2.2.getD p 0) (replyP L kd d n td tn vv).2.2.2.1)
theorem GoodP.applyOp {L : Prs} (h : GoodP L) {kd d n td tn vv : Int} (ho : opF kd d n td tn vv = 0) : GoodP (applyP L kd d n td tn vv).2.2 :=
  h.apply ((reply_items h.vals ho).1.all)
end Go.Proofs.YtokaoiiibakkoaaGreat

namespace Go.Proofs.YtokaoiiibakkoaaGreat
open Go.RowKit

abbrev zeroFs : Obj := .cells #[.int .i64 0, .int .i64 0, .int .i64 0, .slice none 0 0] 28
theorem nums_selfA {l : List Int} {N : Nat} (h : l.length = N) : nums (fun p => l.getD p 0) N = l := by
  subst h
  unfold nums
  apply List.ext_getElem
  · simp
  · intro i h1 h2
    simp only [List.getElem_map, List.getElem_range]
    rw [List.getD_eq_getElem?_getD, List.getElem?_eq_getElem h2]
    rfl
theorem nums_rowL (L : Prs) : nums (rowL L) (L.length * 2) = flatL L := by
  have := nums_selfA (l := flatL L) (flatL_length L)
  rw [← this]
  unfold nums
  exact List.map_congr_left fun p _ => (flatL_get L p).symm
theorem own_flat {w : World} {B : Nat} {v : Value} {L : Prs} (h : OwnM w B 51 2 v L.length (flatL L)) : Row w B 2 L.length (rowL L) v ∧ Free w (L.length * 2) v := flat_row h
/-- What stands in the last region: the plan's box, the answer's box. -/
def ApS (X : World) (pb rb : Nat) (r v : Int) (vr vw : Value) : Prop := BlkP X pb (.int .i64 0) (.int .i64 r) (.int .i64 v) vr vw ∧ FBk X rb
theorem ApS.later {X X' : World} {pb rb : Nat} {r v : Int} {vr vw : Value} (h : ApS X pb rb r v vr vw) (hb : Below X.heap.size X X') : ApS X' pb rb r v vr vw := ⟨h.1.later hb, h.2.later hb⟩
theorem ApS.grown {X X' : World} {pb rb : Nat} {r v : Int} {vr vw u : Value} (h : ApS X pb rb r v vr vw) (hg : X.grownBy X' u.ownBlock) (h1 : ∀ k, u.ownBlock = some k → pb < k ∧ rb < k) : ApS X' pb rb r v vr vw :=
  ⟨h.1.kept (hg.block pb h.1.lt (fun e => by have := (h1 pb e.symm).1; omega)), h.2.kept (hg.block rb h.2.lt (fun e => by have := (h1 rb e.symm).2; omega))⟩
theorem ApS.row {X : World} {pb rb : Nat} {r v : Int} {vr vw : Value} (h : ApS X pb rb r v vr vw) (hne : pb ≠ rb) (a0 a1 a2 a3 : Value) : ApS (X.setRow rb #[a0, a1, a2, a3]) pb rb r v vr vw := by
  refine ⟨h.1.kept (heap_setRow _ _ _ _ hne), ?_⟩
  obtain ⟨old, hg, hs⟩ := h.2
  exact ⟨#[a0, a1, a2, a3], by simp [World.setRow, Array.getElem?_modify, hg], rfl⟩
theorem Own.blockT {w : World} {B : Nat} {e : TypeId} {m n : Nat} {F : Nat → Int} {v : Value} (h : Own w B e m n F v) : ∀ k, v.ownBlock = some k → B ≤ k ∧ k < w.heap.size := own_in h
/-- Behind the store of the answer. -/
theorem own_end {w z1 : World} {B : Nat} {c r v : Int} {R : Prs} {ao : Option Addr} {cp : Nat} (h : Row z1 B 2 R.length (rowL R) (.slice ao R.length cp) ∧ Free z1 (R.length * 2) (.slice ao R.length cp) ∧ Below w.heap.size w z1 ∧ ∀ k, (Value.slice ao R.length cp).ownBlock = some k → B ≤ k) (hB : w.heap.size < B) (cs : Array Value) :
    ResFs w c r v R (.returned (.agg #[.int .i64 c, .int .i64 r, .int .i64 v, .slice ao R.length cp])) (z1.setRow w.heap.size cs) := by
  obtain ⟨h1, h2, h3, h4⟩ := h
  have ks : ∀ k, (Value.slice ao R.length cp).ownBlock = some k → (z1.setRow w.heap.size cs).heap[k]? = z1.heap[k]? := fun k hk => heap_setRow _ _ _ _ (by have := h4 k hk; omega)
  refine ⟨ao, cp, rfl, (h1.kept (by rw [size_setRow]; exact Nat.le_refl _) (fun k hk _ => ks k hk)).mono (Nat.le_of_lt hB), ?_, below_row h3 (Nat.le_refl _) _⟩
  intro g o n c e p hp
  have h5 := h2 g o n c e p hp
  have hg : (Value.slice ao R.length cp).ownBlock = some g := by rw [e]; rfl
  exact (World.frozen?_of_block (w := z1) (a := ⟨g, o + p, none⟩) (ks g hg)).trans h5
set_option maxRecDepth 100000 in
set_option maxHeartbeats 4000000 in
theorem l14Apply_is (L : Prs) (y : Value) (bo oo : Nat) (kd d n td tn vv : Int) (w : World) (hc : Ctx w L y bo oo kd d n td tn vv) (ho : opF kd d n td tn vv = 0) (hL : GoodP L) (r v : Int) (R : Prs) (hp : applyP L kd d n td tn vv = (r, v, R)) :
    Calls Tryz.prog 23 #[y, .pointer (some ⟨bo, oo, none⟩)] w (ResFs w 0 r v R) := by
  obtain ⟨q, hq⟩ : ∃ q, replyP L kd d n td tn vv = q := ⟨_, rfl⟩
  obtain ⟨r', v', ys, m, W⟩ := q
  have hit := reply_items hL.vals ho
  unfold applyP at hp
  rw [hq] at hp hit
  simp only [Prod.mk.injEq] at hp
  obtain ⟨rfl, rfl, hR⟩ := hp
  obtain ⟨hit1, hit2, hit3⟩ := hit
  simp only at hit1 hit2 hit3
  have hl := hL.len
  have hm := (appliedF_zero hit1.1).1
  have HY : Hid (Row w 0 2 L.length (rowL L) y) := hc.1.1
  have HIT : Hid (ItemsOk m W ∧ (r' ≠ 0 → m = 0) ∧ applyN L (fun p => W.getD p 0) m = R) := ⟨hit1, hit2, hR⟩
  have HC : Hid (Ctx (w.alloc zeroFs) L y bo oo kd d n td tn vv) := ⟨⟨hc.1.1.alloc _, hc.1.2⟩, hc.2.1.alloc _, hc.2.2⟩
  have HK : Hid ((1 ≤ kd ∧ kd ≤ 8) ∧ replyP L kd d n td tn vv = (r', v', ys, m, W)) := ⟨(op_bounds ho).1, hq⟩
  have HFw : Hid (FBk (w.alloc zeroFs) w.heap.size) := FBk.new _ _ _ _ _
  obtain ⟨yo, yc, rfl⟩ := hc.1.1.form
  obtain ⟨i0, hi, hz0, hz1, hz2⟩ := info_parts infoz_Pair
  clear hc ho hq hR hit1 hit2 hit3
  go_enter Tryz.func23, Tryz.ntmps23
  go_wp2_with fail
  refine (l13Compile_is L _ bo oo kd d n td tn vv _ HC.out HK.out.1 r' v' ys m W HK.out.2).mono ?_
  rintro e w1 ⟨vr, vw, rfl, hA, q1⟩
  obtain ⟨⟨a1, a2, rfl⟩, ⟨a3, a4, rfl⟩⟩ := PlanAt.form hA
  have q1' : Below (w.heap.size + 1) (w.alloc zeroFs) w1 := by have := q1; rwa [World.size_alloc] at this
  have hlt1 : w.heap.size < w1.heap.size := by have := q1'.size; rw [World.size_alloc] at this; omega
  have HPB : Hid (PBk (w1.alloc zeroPl) w1.heap.size) := PBk.new _ _ _ _ _ _
  have H1 : Hid (PlanAt (w1.alloc zeroPl) (w.heap.size + 1) ys m W (.slice a1 ys.length a2) (.slice a3 m a4) ∧ Below w.heap.size w (w1.alloc zeroPl) ∧ FBk (w1.alloc zeroPl) w.heap.size) := by
    have hA' := hA
    rw [World.size_alloc] at hA'
    exact ⟨PlanAt.alloc hA' _, ((below_alloc w _).trans (q1'.mono (Nat.le_succ _))).alloc (Nat.le_of_lt hlt1) _, (HFw.out.kept (q1'.block _ (Nat.lt_succ_self _))).alloc _⟩
  have hlo1 : ∀ k, (Value.slice a1 ys.length a2).ownBlock = some k → k ≠ w1.heap.size := fun k hk => by have := (hA.1.lt k hk).2; omega
  have hlo2 : ∀ k, (Value.slice a3 m a4).ownBlock = some k → k ≠ w1.heap.size := fun k hk => by have := (OwnM.block hA.2.1 k hk).2; omega
  have H2 : Hid (BlkP ((w1.alloc zeroPl).setRow w1.heap.size #[.int .i64 0, .int .i64 r', .int .i64 v', .slice a1 ys.length a2, .slice a3 m a4]) w1.heap.size (.int .i64 0) (.int .i64 r') (.int .i64 v') (.slice a1 ys.length a2) (.slice a3 m a4) ∧ PlanAt ((w1.alloc zeroPl).setRow w1.heap.size #[.int .i64 0, .int .i64 r', .int .i64 v', .slice a1 ys.length a2, .slice a3 m a4]) (w.heap.size + 1) ys m W (.slice a1 ys.length a2) (.slice a3 m a4) ∧ Below w.heap.size w ((w1.alloc zeroPl).setRow w1.heap.size #[.int .i64 0, .int .i64 r', .int .i64 v', .slice a1 ys.length a2, .slice a3 m a4]) ∧ FBk ((w1.alloc zeroPl).setRow w1.heap.size #[.int .i64 0, .int .i64 r', .int .i64 v', .slice a1 ys.length a2, .slice a3 m a4]) w.heap.size) :=
    ⟨HPB.out.blk _ _ _ _ _, plan_kept H1.out.1 hlo1 hlo2, below_row H1.out.2.1 (Nat.le_of_lt hlt1) _, H1.out.2.2.kept (heap_setRow _ _ _ _ (Nat.ne_of_lt hlt1))⟩
  have HNE : Hid (w1.heap.size ≠ w.heap.size) := Nat.ne_of_gt hlt1
  clear hA q1 q1' hlo1 hlo2 HC HK HFw
  by_cases hr0 : r' = 0
  · have dr : (r' != 0) = false := by simp [hr0]
    subst hr0
    have hkd : ∀ i, i < m → 1 ≤ W.getD (i * 3 + 1) 0 ∧ W.getD (i * 3 + 1) 0 ≤ 3 := (appliedF_zero HIT.out.1.1).2.2
    have HKD : Hid (∀ i, i < m → 1 ≤ W.getD (i * 3 + 1) 0 ∧ W.getD (i * 3 + 1) 0 ≤ 3) := hkd
    clear hkd
    go_wp2_with (refine wpList_storeP rfl _ _ rfl w1.heap.size _ _ _ _ _ rfl rfl HPB.out (by kernel_rfl) ?_; clear HPB H1; generalize (w1.alloc zeroPl).setRow w1.heap.size #[.int .i64 0, .int .i64 0, .int .i64 v', .slice a1 ys.length a2, .slice a3 m a4] = X2 at H2 ⊢; obtain ⟨⟨c0, c1, c2, c3, c4⟩, _⟩ := H2.out.1)
    go_upto_region 4 with fail
    refine wp_region_held_drew (S := fun X => ApS X w1.heap.size w.heap.size 0 v' (.slice a1 ys.length a2) (.slice a3 m a4)) (by kernel_rfl) ⟨H2.out.1, H2.out.2.2.2⟩ (fun hS => ?_)
    have H3 : Hid (PlanAt X2.drew (w.heap.size + 1) ys m W (.slice a1 ys.length a2) (.slice a3 m a4) ∧ Below w.heap.size w X2.drew) := ⟨H2.out.2.1, H2.out.2.2.1.drew⟩
    clear H2 c0 c1 c2 c3 c4
    generalize X2.drew = z0 at hS H3 ⊢
    refine tkH 0 ?_ hS (fun wx hx => ?_) ?_; rotate_left
    · obtain ⟨⟨⟨hx0, hx1, hx2, hx3, hx4⟩, _⟩, _⟩ := hx; go_simp; try with_reducible rfl
    refine tkH 1 ?_ hS (fun wx hx => ?_) ?_; rotate_left
    · obtain ⟨⟨⟨hx0, hx1, hx2, hx3, hx4⟩, _⟩, _⟩ := hx; go_simp; try with_reducible rfl
    refine tkH 2 ?_ hS (fun wx hx => ?_) ?_; rotate_left
    · obtain ⟨⟨⟨hx0, hx1, hx2, hx3, hx4⟩, _⟩, _⟩ := hx; go_simp; try with_reducible rfl
    refine tkH 3 ?_ hS (fun wx hx => ?_) ?_; rotate_left
    · obtain ⟨⟨⟨hx0, hx1, hx2, hx3, hx4⟩, _⟩, _⟩ := hx; go_simp; try with_reducible rfl
    refine tkH 4 ?_ hS (fun wx hx => ?_) ?_; rotate_left
    · obtain ⟨⟨⟨hx0, hx1, hx2, hx3, hx4⟩, _⟩, _⟩ := hx; go_simp; try with_reducible rfl
    refine rdH 5 (fun K hK => ?_)
    go_simp
    go_wp2_with fail
    refine (l11Apply_any L (fun p => W.getD p 0) m _ _ 0 (w.heap.size + 1) _ (HY.out.later H3.out.2) H3.out.1.rows.1 (by omega) hm HKD.out).mono ?_
    rintro e z1 ⟨ao, cp, rfl, ho, q⟩
    rw [HIT.out.2.2] at ho
    have HRR : (applyN L (fun p => W.getD p 0) m).length = R.length := by rw [HIT.out.2.2]
    rw [HRR]
    have hS1 := hS.later q
    have HO : Hid (Row z1 z0.heap.size 2 R.length (rowL R) (.slice ao R.length cp) ∧ Free z1 (R.length * 2) (.slice ao R.length cp) ∧ Below w.heap.size w z1 ∧ ∀ k, (Value.slice ao R.length cp).ownBlock = some k → z0.heap.size ≤ k) := ⟨ho.row.1, ho.row.2, H3.out.2.trans (q.mono H3.out.2.size), fun k hk => (Own.blockT ho k hk).1⟩
    have HZ0 : Hid (w.heap.size < z0.heap.size) := hS.2.lt
    clear q ho hS HRR H3
    go_wp2_with fail
    refine hK.out _ _ hS1 (fun hS => ?_)
    clear hK K
    clear hS1
    refine tkH 6 ?_ hS (fun wx hx => ?_) ?_; rotate_left
    · obtain ⟨⟨⟨hx0, hx1, hx2, hx3, hx4⟩, _⟩, _⟩ := hx; go_simp; try with_reducible rfl
    refine rdH 7 (fun K hK => ?_)
    refine step_storeF rfl _ _ rfl w.heap.size _ _ _ _ rfl rfl hS.2 (by kernel_rfl) ?_
    have hS9 := hS.row HNE.out (.int .i64 0) (.int .i64 0) (.int .i64 v') (.slice ao R.length cp)
    have HFB : Hid (FBk z1 w.heap.size) := hS.2
    clear hS
    refine hK.out _ _ hS9 (fun hS => ?_)
    clear hK K
    clear hS9
    refine wpAnyH_done (by kernel_rfl) ?_ _
    go_simp
    go_wp2_with fail
    refine bodyPost_ret (v := .agg #[.int .i64 0, .int .i64 0, .int .i64 v', .slice ao R.length cp]) (results_fs Tryz.results23 _ _ _ _ _ _ _ rfl HFB.out) rfl ?_
    exact own_end HO.out HZ0.out _
  · have dr : (r' != 0) = true := bne_iff_ne.2 hr0
    have hm0 := HIT.out.2.1 hr0
    subst hm0
    have HRL : Hid (L = R) := HIT.out.2.2
    clear hr0
    go_wp2_with (refine wpList_storeP rfl _ _ rfl w1.heap.size _ _ _ _ _ rfl rfl HPB.out (by kernel_rfl) ?_; clear HPB H1; generalize (w1.alloc zeroPl).setRow w1.heap.size #[.int .i64 0, .int .i64 r', .int .i64 v', .slice a1 ys.length a2, .slice a3 0 a4] = X2 at H2 ⊢; obtain ⟨⟨c0, c1, c2, c3, c4⟩, _⟩ := H2.out.1)
    go_upto_region 3 with fail
    refine wp_region_held_drew (S := fun X => ApS X w1.heap.size w.heap.size r' v' (.slice a1 ys.length a2) (.slice a3 0 a4)) (by kernel_rfl) ⟨H2.out.1, H2.out.2.2.2⟩ (fun hS => ?_)
    have H3 : Hid (Below w.heap.size w X2.drew) := H2.out.2.2.1.drew
    clear H2 c0 c1 c2 c3 c4
    generalize X2.drew = z0 at hS H3 ⊢
    refine tkH 0 ?_ hS (fun wx hx => ?_) ?_; rotate_left
    · obtain ⟨⟨⟨hx0, hx1, hx2, hx3, hx4⟩, _⟩, _⟩ := hx; go_simp; try with_reducible rfl
    refine tkH 1 ?_ hS (fun wx hx => ?_) ?_; rotate_left
    · obtain ⟨⟨⟨hx0, hx1, hx2, hx3, hx4⟩, _⟩, _⟩ := hx; go_simp; try with_reducible rfl
    refine tkH 2 ?_ hS (fun wx hx => ?_) ?_; rotate_left
    · obtain ⟨⟨⟨hx0, hx1, hx2, hx3, hx4⟩, _⟩, _⟩ := hx; go_simp; try with_reducible rfl
    refine tkH 3 ?_ hS (fun wx hx => ?_) ?_; rotate_left
    · obtain ⟨⟨⟨hx0, hx1, hx2, hx3, hx4⟩, _⟩, _⟩ := hx; go_simp; try with_reducible rfl
    refine tkH 5 ?_ hS (fun wx hx => ?_) ?_; rotate_left
    · obtain ⟨⟨⟨hx0, hx1, hx2, hx3, hx4⟩, _⟩, _⟩ := hx; go_simp; try with_reducible rfl
    refine rdH 4 (fun K hK => ?_)
    go_simp
    have hS1 := hS.later (below_alloc z0 (.cells #[] 51))
    have HZ0 : Hid (w.heap.size < z0.heap.size ∧ w1.heap.size < z0.heap.size) := ⟨hS.2.lt, hS.1.lt⟩
    have HO1 : Hid (OwnM (z0.alloc (.cells #[] 51)) z0.heap.size 51 2 (.slice (some ⟨z0.heap.size, 0, none⟩) 0 0) 0 []) := OwnM.lit0 _ _ _ _ rfl
    have HY1 : Hid (Row (z0.alloc (.cells #[] 51)) 0 2 L.length (rowL L) (.slice yo L.length yc) ∧ Below w.heap.size w (z0.alloc (.cells #[] 51))) := ⟨(HY.out.later H3.out).alloc _, H3.out.alloc H3.out.size _⟩
    clear hS
    refine hK.out _ _ hS1 (fun hS => ?_)
    clear hK K
    clear hS1
    refine rdH 6 (fun K hK => ?_)
    refine step_app 51 i0 (.agg #[.int .i64 0, .int .i64 0]) 2 16 (by rfl) _ _ 26 (by rfl) Tryz.underlying26 hi hz0 hz1 hz2 rfl (by omega) (by omega) _ z0.heap.size 0 [] (.slice (some ⟨z0.heap.size, 0, none⟩) 0 0) (by rfl) HO1.out 0 L.length (rowL L) (.slice yo L.length yc) (by rfl) HY1.out.1 (by omega) (by simp) ?_
    intro ao cp z1 O2 G2
    have hS2 := hS.grown G2 (fun k hk => by have : z0.heap.size = k := Option.some.inj hk; have := HZ0.out; omega)
    rw [List.nil_append, nums_rowL, Nat.zero_add] at O2
    have HO : Hid (Row z1 z0.heap.size 2 R.length (rowL R) (.slice ao R.length cp) ∧ Free z1 (R.length * 2) (.slice ao R.length cp) ∧ Below w.heap.size w z1 ∧ ∀ k, (Value.slice ao R.length cp).ownBlock = some k → z0.heap.size ≤ k) := by
      rw [← HRL.out]
      exact ⟨(own_flat O2).1, (own_flat O2).2, HY1.out.2.trans ⟨G2.os, G2.tape, G2.output, G2.size, fun k hk => G2.block k (by have := HY1.out.2.size; omega) (fun e => by have : k = z0.heap.size := Option.some.inj e; have := HZ0.out; omega)⟩, fun k hk => (OwnM.block O2 k hk).1⟩
    have hLR : L.length = R.length := by rw [HRL.out]
    rw [Nat.zero_add, hLR]
    clear O2 G2 hS HO1 HY1
    refine hK.out _ _ hS2 (fun hS => ?_)
    clear hK K
    clear hS2
    refine tkH 7 ?_ hS (fun wx hx => ?_) ?_; rotate_left
    · obtain ⟨⟨⟨hx0, hx1, hx2, hx3, hx4⟩, _⟩, _⟩ := hx; go_simp; try with_reducible rfl
    refine rdH 8 (fun K hK => ?_)
    refine step_storeF rfl _ _ rfl w.heap.size _ _ _ _ rfl rfl hS.2 (by kernel_rfl) ?_
    have hS9 := hS.row HNE.out (.int .i64 0) (.int .i64 r') (.int .i64 v') (.slice ao R.length cp)
    have HFB : Hid (FBk z1 w.heap.size) := hS.2
    clear hS
    refine hK.out _ _ hS9 (fun hS => ?_)
    clear hK K
    clear hS9
    refine wpAnyH_done (by kernel_rfl) ?_ _
    go_simp
    go_wp2_with fail
    refine bodyPost_ret (v := .agg #[.int .i64 0, .int .i64 r', .int .i64 v', .slice ao R.length cp]) (results_fs Tryz.results23 _ _ _ _ _ _ _ rfl HFB.out) rfl ?_
    exact own_end HO.out HZ0.out.1 _
end Go.Proofs.YtokaoiiibakkoaaGreat

namespace Go.Proofs.YtokaoiiibakkoaaGreat
open Go.RowKit

theorem res_end {w z1 : World} {B rb : Nat} {c r v : Int} {R : Prs} {ao : Option Addr} {cp : Nat} (h1 : Row z1 B 2 R.length (rowL R) (.slice ao R.length cp)) (h2 : Free z1 (R.length * 2) (.slice ao R.length cp)) (h3 : Below w.heap.size w z1) (hrb : w.heap.size ≤ rb) (hB : rb < B) (cs : Array Value) :
    ResFs w c r v R (.returned (.agg #[.int .i64 c, .int .i64 r, .int .i64 v, .slice ao R.length cp])) (z1.setRow rb cs) := by
  refine ⟨ao, cp, rfl, ?_, ?_, below_row h3 hrb _⟩
  · by_cases hn : R.length = 0
    · exact ⟨_, _, rfl, fun q => by omega⟩
    · have ks : ∀ k, (Value.slice ao R.length cp).ownBlock = some k → (z1.setRow rb cs).heap[k]? = z1.heap[k]? := fun k hk => heap_setRow _ _ _ _ (by have := (h1.lt (by omega) k hk).1; omega)
      exact (h1.kept (by rw [size_setRow]; exact Nat.le_refl _) (fun k hk _ => ks k hk)).mono (by omega)
  · intro g o n q e p hp
    have hn : 0 < R.length := by omega
    have hg : (Value.slice ao R.length cp).ownBlock = some g := by rw [e]; rfl
    have hgb : g ≠ rb := by have := (h1.lt hn g hg).1; omega
    exact (World.frozen?_of_block (w := z1) (a := ⟨g, o + p, none⟩) (heap_setRow _ _ _ _ hgb)).trans (h2 g o n q e p hp)
theorem res_nil {w w' : World} (c : Int) (hb : Below w.heap.size w w') : ResFs w c 0 0 [] (.returned (.agg #[.int .i64 c, .int .i64 0, .int .i64 0, .slice none 0 0])) w' :=
  ⟨none, 0, rfl, ⟨_, _, rfl, fun q => by cases q⟩, fun g o n q e p hp => absurd hp (Nat.not_lt_zero _), hb⟩
/-- Boxes of an operation and of an answer. -/
def Bxf (w : World) (kd d nm td tn vv : Int) (X : World) : Prop := Blk6 X w.heap.size (.int .i64 kd) (.int .i64 d) (.int .i64 nm) (.int .i64 td) (.int .i64 tn) (.int .i64 vv) ∧ FBk X (w.heap.size + 1)
theorem Bxf.later {w X X' : World} {kd d nm td tn vv : Int} (h : Bxf w kd d nm td tn vv X) (hb : Below X.heap.size X X') : Bxf w kd d nm td tn vv X' := ⟨h.1.later hb, h.2.later hb⟩
theorem Bxf.new (w : World) (kd d nm td tn vv : Int) : Bxf w kd d nm td tn vv ((w.alloc (opO kd d nm td tn vv)).alloc zeroFs) := by
  refine ⟨(Blk6.new w _ _ _ _ _ _ _).alloc _, ?_⟩
  have := FBk.new (w.alloc (opO kd d nm td tn vv)) (.int .i64 0) (.int .i64 0) (.int .i64 0) (.slice none 0 0)
  rwa [World.size_alloc] at this
theorem field_pairsR (c : Int) (ao : Option Addr) (n cp : Nat) (w : World) : (Instr.field 81 (.agg #[.int .i64 c, .slice ao n cp]) 1).run Tryz.prog w = .ok (.slice ao n cp) w := by kernel_rfl
set_option maxRecDepth 100000 in
set_option maxHeartbeats 4000000 in
theorem applyOp_is (y : Value) (B n : Nat) (F : Nat → Int) (kd d nm td tn vv : Int) (w : World) (h : Row w B 2 n F y) (hn : n ≤ 1048576) (hg : pairsF F n 0 = 0) (ho : opF kd d nm td tn vv = 0) (r v : Int) (R : Prs) (hp : applyP (listOf F n) kd d nm td tn vv = (r, v, R)) :
    Calls Tryz.prog 27 #[y, .agg #[.int .i64 kd, .int .i64 d, .int .i64 nm, .int .i64 td, .int .i64 tn, .int .i64 vv]] w (ResFs w 0 r v R) := by
  obtain ⟨q, hq⟩ : ∃ q, replyP (listOf F n) kd d nm td tn vv = q := ⟨_, rfl⟩
  obtain ⟨r', v', ys, m, W⟩ := q
  have hL := good_of_pairs hg
  have hit := reply_items hL.vals ho
  unfold applyP at hp
  rw [hq] at hp hit
  simp only [Prod.mk.injEq] at hp
  obtain ⟨rfl, rfl, hR⟩ := hp
  obtain ⟨hit1, hit2, hit3⟩ := hit
  simp only at hit1 hit2 hit3
  have hm := (appliedF_zero hit1.1).1
  have H : Hid (Row w B 2 n F y) := h
  have HIT : Hid (pairsF F n 0 = 0 ∧ appliedF m (fun p => W.getD p 0) = 0 ∧ applyN (listOf F n) (fun p => W.getD p 0) m = R) := ⟨hg, hit1.1, hR⟩
  have HCA : Hid (CompAns n F kd d nm td tn vv 0 (r', v', ys, m, W)) := Or.inr (Or.inr ⟨hg, ho, rfl, hq.symm⟩)
  have HB0 : Hid (Bxf w kd d nm td tn vv ((w.alloc (opO kd d nm td tn vv)).alloc zeroFs) ∧ Below w.heap.size w ((w.alloc (opO kd d nm td tn vv)).alloc zeroFs)) := ⟨Bxf.new _ _ _ _ _ _ _, (below_alloc _ _).alloc (by simp) _⟩
  obtain ⟨yo, yc, rfl⟩ := h.form
  have fp := fun c ao n cp w => field_pairsR c ao n cp w
  clear h hg ho hq hR hit1 hit2 hit3 hL
  obtain ⟨⟨b0, b1, b2, b3, b4, b5⟩, _⟩ := HB0.out.1.1
  go_enter Tryz.func27, Tryz.ntmps27
  go_wp2_with fail
  refine (implCompile_is _ B n F kd d nm td tn vv 0 (r', v', ys, m, W) _ (H.out.later HB0.out.2) hn HCA.out).mono ?_
  rintro e w1 ⟨vr, vw, rfl, hA, q1⟩
  obtain ⟨⟨a1, a2, rfl⟩, ⟨a3, a4, rfl⟩⟩ := PlanAt.form hA
  have hA' : PlanAt w1 (w.heap.size + 2) ys m W (.slice a1 ys.length a2) (.slice a3 m a4) := by
    have := hA
    simp only [World.size_alloc] at this
    exact this
  have HPB : Hid (PBk (w1.alloc zeroPl) w1.heap.size) := PBk.new _ _ _ _ _ _
  have hS1 := HB0.out.1.later q1
  have hlt1 : w.heap.size + 1 < w1.heap.size := hS1.2.lt
  have hlo1 : ∀ k, (Value.slice a1 ys.length a2).ownBlock = some k → k ≠ w1.heap.size := fun k hk => by have := (hA'.1.lt k hk).2; omega
  have hlo2 : ∀ k, (Value.slice a3 m a4).ownBlock = some k → k ≠ w1.heap.size := fun k hk => by have := (OwnM.block hA'.2.1 k hk).2; omega
  have H2 : Hid (BlkP ((w1.alloc zeroPl).setRow w1.heap.size #[.int .i64 0, .int .i64 r', .int .i64 v', .slice a1 ys.length a2, .slice a3 m a4]) w1.heap.size (.int .i64 0) (.int .i64 r') (.int .i64 v') (.slice a1 ys.length a2) (.slice a3 m a4) ∧ PlanAt ((w1.alloc zeroPl).setRow w1.heap.size #[.int .i64 0, .int .i64 r', .int .i64 v', .slice a1 ys.length a2, .slice a3 m a4]) (w.heap.size + 2) ys m W (.slice a1 ys.length a2) (.slice a3 m a4) ∧ Below w.heap.size w ((w1.alloc zeroPl).setRow w1.heap.size #[.int .i64 0, .int .i64 r', .int .i64 v', .slice a1 ys.length a2, .slice a3 m a4]) ∧ FBk ((w1.alloc zeroPl).setRow w1.heap.size #[.int .i64 0, .int .i64 r', .int .i64 v', .slice a1 ys.length a2, .slice a3 m a4]) (w.heap.size + 1)) :=
    ⟨HPB.out.blk _ _ _ _ _, plan_kept (PlanAt.alloc (w := w1) hA' _) hlo1 hlo2, below_row ((HB0.out.2.trans (q1.mono HB0.out.2.size)).alloc (by omega) _) (by omega) _, (hS1.2.alloc _).kept (heap_setRow _ _ _ _ (by omega))⟩
  have HNE : Hid (w1.heap.size ≠ w.heap.size + 1) := by unfold Hid; omega
  clear hA hA' q1 hS1 hlo1 hlo2 HCA b0 b1 b2 b3 b4 b5
  go_wp2_with (refine wpList_storeP rfl _ _ rfl w1.heap.size _ _ _ _ _ rfl rfl HPB.out (by kernel_rfl) ?_; clear HPB HB0; generalize (w1.alloc zeroPl).setRow w1.heap.size #[.int .i64 0, .int .i64 r', .int .i64 v', .slice a1 ys.length a2, .slice a3 m a4] = X2 at H2 ⊢)
  refine wp_region_held_drew (S := fun X => ApS X w1.heap.size (w.heap.size + 1) r' v' (.slice a1 ys.length a2) (.slice a3 m a4)) (by kernel_rfl) ⟨H2.out.1, H2.out.2.2.2⟩ (fun hS => ?_)
  have H3 : Hid (PlanAt X2.drew (w.heap.size + 2) ys m W (.slice a1 ys.length a2) (.slice a3 m a4) ∧ Below w.heap.size w X2.drew) := ⟨H2.out.2.1, H2.out.2.2.1.drew⟩
  clear H2
  generalize X2.drew = z0 at hS H3 ⊢
  refine tkH 0 ?_ hS (fun wx hx => ?_) ?_; rotate_left
  · obtain ⟨⟨⟨hx0, hx1, hx2, hx3, hx4⟩, _⟩, _⟩ := hx; go_simp; try with_reducible rfl
  refine tkH 1 ?_ hS (fun wx hx => ?_) ?_; rotate_left
  · obtain ⟨⟨⟨hx0, hx1, hx2, hx3, hx4⟩, _⟩, _⟩ := hx; go_simp; try with_reducible rfl
  refine tkH 2 ?_ hS (fun wx hx => ?_) ?_; rotate_left
  · obtain ⟨⟨⟨hx0, hx1, hx2, hx3, hx4⟩, _⟩, _⟩ := hx; go_simp; try with_reducible rfl
  refine tkH 3 ?_ hS (fun wx hx => ?_) ?_; rotate_left
  · obtain ⟨⟨⟨hx0, hx1, hx2, hx3, hx4⟩, _⟩, _⟩ := hx; go_simp; try with_reducible rfl
  refine tkH 4 ?_ hS (fun wx hx => ?_) ?_; rotate_left
  · obtain ⟨⟨⟨hx0, hx1, hx2, hx3, hx4⟩, _⟩, _⟩ := hx; go_simp; try with_reducible rfl
  refine tkH 5 ?_ hS (fun wx hx => ?_) ?_; rotate_left
  · obtain ⟨⟨⟨hx0, hx1, hx2, hx3, hx4⟩, _⟩, _⟩ := hx; go_simp; try with_reducible rfl
  refine tkH 6 ?_ hS (fun wx hx => ?_) ?_; rotate_left
  · obtain ⟨⟨⟨hx0, hx1, hx2, hx3, hx4⟩, _⟩, _⟩ := hx; go_simp; try with_reducible rfl
  refine rdH 7 (fun K hK => ?_)
  go_simp
  go_wp2_with fail
  refine (implApply_is _ _ B (w.heap.size + 2) n m F (fun p => W.getD p 0) 0 R _ (H.out.later H3.out.2) H3.out.1.rows.1 hn (by omega) (Or.inr (Or.inr ⟨HIT.out.1, HIT.out.2.1, rfl, HIT.out.2.2.symm⟩))).mono ?_
  rintro e z1 ⟨ao, cp, rfl, hrow, hfree, q⟩
  have hS1 := hS.later q
  have HO : Hid (Row z1 z0.heap.size 2 R.length (rowL R) (.slice ao R.length cp) ∧ Free z1 (R.length * 2) (.slice ao R.length cp) ∧ Below w.heap.size w z1) := ⟨hrow, hfree, H3.out.2.trans (q.mono H3.out.2.size)⟩
  have HZ0 : Hid (w.heap.size + 1 < z0.heap.size) := hS.2.lt
  clear q hrow hfree hS H3
  go_wp2_with fail
  refine hK.out _ _ hS1 (fun hS => ?_)
  clear hK K
  clear hS1
  refine tkH 8 ?_ hS (fun wx hx => ?_) ?_; rotate_left
  · obtain ⟨⟨⟨hx0, hx1, hx2, hx3, hx4⟩, _⟩, _⟩ := hx; go_simp; try with_reducible rfl
  refine tkH 9 ?_ hS (fun wx hx => ?_) ?_; rotate_left
  · obtain ⟨⟨⟨hx0, hx1, hx2, hx3, hx4⟩, _⟩, _⟩ := hx; go_simp; try with_reducible rfl
  refine rdH 10 (fun K hK => ?_)
  refine step_storeF rfl _ _ rfl (w.heap.size + 1) _ _ _ _ rfl rfl hS.2 (by kernel_rfl) ?_
  have hS9 := hS.row HNE.out (.int .i64 0) (.int .i64 r') (.int .i64 v') (.slice ao R.length cp)
  have HFB : Hid (FBk z1 (w.heap.size + 1)) := hS.2
  clear hS
  refine hK.out _ _ hS9 (fun hS => ?_)
  clear hK K
  clear hS9
  refine wpAnyH_done (by kernel_rfl) ?_ _
  go_simp
  go_wp2_with fail
  refine bodyPost_ret (v := .agg #[.int .i64 0, .int .i64 r', .int .i64 v', .slice ao R.length cp]) (results_fs Tryz.results27 _ _ _ _ _ _ _ rfl HFB.out) rfl ?_
  exact res_end HO.out.1 HO.out.2.1 HO.out.2.2 (by omega) HZ0.out _
end Go.Proofs.YtokaoiiibakkoaaGreat

namespace Go.Proofs.YtokaoiiibakkoaaGreat
open Go.RowKit

theorem Row.at6 {w : World} {B n : Nat} {F : Nat → Int} {ao : Option Addr} {cp : Nat} (h : Row w B 6 n F (.slice ao n cp)) {k : Nat} (hk : k < n) :
    ∃ g o, ao = some ⟨g, o, none⟩ ∧ B ≤ g ∧ g < w.heap.size ∧ w.cell? ⟨g, o + k * 6, none⟩ = some (.int .i64 (F (k * 6))) ∧ w.cell? ⟨g, o + k * 6 + 1, none⟩ = some (.int .i64 (F (k * 6 + 1))) ∧ w.cell? ⟨g, o + k * 6 + 2, none⟩ = some (.int .i64 (F (k * 6 + 2))) ∧ w.cell? ⟨g, o + k * 6 + 3, none⟩ = some (.int .i64 (F (k * 6 + 3))) ∧ w.cell? ⟨g, o + k * 6 + 4, none⟩ = some (.int .i64 (F (k * 6 + 4))) ∧ w.cell? ⟨g, o + k * 6 + 5, none⟩ = some (.int .i64 (F (k * 6 + 5))) := by
  obtain ⟨g, o, ha, hB, hg, hc⟩ := h.at hk
  exact ⟨g, o, ha, hB, hg, hc 0 (by omega), hc 1 (by omega), hc 2 (by omega), hc 3 (by omega), hc 4 (by omega), hc 5 (by omega)⟩
theorem info_FsOpA : (Tryz.prog.info? 31).map (fun i => (i.zero, i.size, i.bytes)) = some (some (.agg #[.int .i64 0, .int .i64 0, .int .i64 0, .int .i64 0, .int .i64 0, .int .i64 0]), 6, 48) := by kernel_rfl
set_option maxHeartbeats 400000 in
theorem toFsOp_any (x0 x1 x2 x3 x4 x5 : Int) (w : World) :
    Calls Tryz.prog 8 #[.agg #[.int .i64 x0, .int .i64 x1, .int .i64 x2, .int .i64 x3, .int .i64 x4, .int .i64 x5]] w fun e w' => e = .returned (.agg #[.int .i64 x0, .int .i64 x1, .int .i64 x2, .int .i64 x3, .int .i64 x4, .int .i64 x5]) ∧ Below w.heap.size w w' := by
  go_enter Tryz.func8, Tryz.ntmps8
  go_wp2
  exact bodyPost_ret (v := .agg #[.int .i64 x0, .int .i64 x1, .int .i64 x2, .int .i64 x3, .int .i64 x4, .int .i64 x5]) (by simp [results, Tryz.results8, go_sem]) rfl ⟨rfl, (((Below.refl _ _).alloc (Nat.le_refl _) _).alloc (by simp) _).alloc (by simp; omega) _⟩
set_option maxHeartbeats 400000 in
theorem toFsOpS_cap (v : Value) (B n : Nat) (F : Nat → Int) (w : World) (h : Row w B 6 n F v) (hn : n ≤ 1048576) :
    Calls Tryz.prog 17 #[v] w fun e w' => ∃ uo, e = .returned (.slice uo n n) ∧ Row w' w.heap.size 6 n F (.slice uo n n) ∧ Free w' (n * 6) (.slice uo n n) ∧ Below w.heap.size w w' := by
  obtain ⟨ao, cp, rfl⟩ := h.form
  have H : Hid (Row w B 6 n F (.slice ao n cp)) := h
  clear h
  have hmk := make_rowP Tryz.underlying41 info_FsOpA n (by omega) (by omega)
  go_enter Tryz.func17, Tryz.ntmps17
  go_wp2
  go_loopw [4] (fun i wr => ∃ k : Nat, k ≤ n ∧ i = .int .i64 k ∧ Hid (Below w.heap.size w wr ∧ Fill wr w.heap.size 0 (n * 6) (k * 6) F)) (fun i _ => n - (intOf i).toNat)
  case atStart => exact ⟨0, Nat.zero_le _, rfl, below_alloc _ _, by rw [Nat.zero_mul]; exact Fill.made _ _ _ _ _⟩
  case round =>
    obtain ⟨k, hk, rfl, hR⟩ := hrel
    by_cases hlt : k < n
    · obtain ⟨g, o, rfl, _, hg, c0, c1, c2, c3, c4, c5⟩ := H.out.at6 hlt
      have b0 := hR.out.1.cell (p := ⟨g, o + k * 6, none⟩) hg
      rw [c0] at b0
      have b1 := hR.out.1.cell (p := ⟨g, o + k * 6 + 1, none⟩) hg
      rw [c1] at b1
      have b2 := hR.out.1.cell (p := ⟨g, o + k * 6 + 2, none⟩) hg
      rw [c2] at b2
      have b3 := hR.out.1.cell (p := ⟨g, o + k * 6 + 3, none⟩) hg
      rw [c3] at b3
      have b4 := hR.out.1.cell (p := ⟨g, o + k * 6 + 4, none⟩) hg
      rw [c4] at b4
      have b5 := hR.out.1.cell (p := ⟨g, o + k * 6 + 5, none⟩) hg
      rw [c5] at b5
      clear c0 c1 c2 c3 c4 c5
      go_wp2_with fail
      refine (toFsOp_any _ _ _ _ _ _ _).mono ?_
      rintro e w1 ⟨rfl, q1⟩
      have f1 := hR.out.2.later q1
      obtain ⟨v0, d0, e0⟩ := f1.at (p := k * 6) (by omega)
      obtain ⟨v1, d1, e1⟩ := f1.at (p := k * 6 + 1) (by omega)
      obtain ⟨v2, d2, e2⟩ := f1.at (p := k * 6 + 2) (by omega)
      obtain ⟨v3, d3, e3⟩ := f1.at (p := k * 6 + 3) (by omega)
      obtain ⟨v4, d4, e4⟩ := f1.at (p := k * 6 + 4) (by omega)
      obtain ⟨v5, d5, e5⟩ := f1.at (p := k * 6 + 5) (by omega)
      have HF : Hid (Below w.heap.size w w1 ∧ Fill w1 w.heap.size 0 (n * 6) (k * 6) F) := ⟨hR.out.1.trans (q1.mono hR.out.1.size), f1⟩
      clear q1 f1 b0 b1 b2 b3 b4 b5
      simp only [Nat.zero_add] at d0 e0 d1 e1 d2 e2 d3 e3 d4 e4 d5 e5
      go_wp2
      go_roundw
      case rel =>
        refine ⟨k + 1, by omega, by go_num, ((((((HF.out.1.setCell (Nat.le_refl _) _).setCell (Nat.le_refl _) _).setCell (Nat.le_refl _) _).setCell (Nat.le_refl _) _).setCell (Nat.le_refl _) _).setCell (Nat.le_refl _) _), ?_⟩
        have hq := ((((((HF.out.2.put0 (by omega)).put0 (by omega)).put0 (by omega)).put0 (by omega)).put0 (by omega)).put0 (by omega))
        rwa [show k * 6 + 1 + 1 + 1 + 1 + 1 + 1 = (k + 1) * 6 by omega] at hq
      case measure => simp [intOf]; omega
    · obtain rfl : k = n := by omega
      go_wp2
      go_ret
      exact ⟨_, rfl, (hR.out.2.row (Nat.le_refl _) _).1, (hR.out.2.row (B := 0) (Nat.zero_le _) _).2, hR.out.1⟩
theorem toFsOpS_any (v : Value) (B n : Nat) (F : Nat → Int) (w : World) (h : Row w B 6 n F v) (hn : n ≤ 1048576) :
    Calls Tryz.prog 17 #[v] w fun e w' => ∃ u, e = .returned u ∧ Row w' w.heap.size 6 n F u ∧ Free w' (n * 6) u ∧ Below w.heap.size w w' :=
  (toFsOpS_cap v B n F w h hn).mono fun _ _ ⟨uo, h1, h2, h3, h4⟩ => ⟨.slice uo n n, h1, h2, h3, h4⟩
set_option maxHeartbeats 400000 in
theorem szFsOpS_ok (a : Option Addr) (n c : Nat) (left : Int) (w : World) (h : (n : Int) ≤ left) (h2 : left ≤ 1048576) :
    Calls Tryz.prog 15 #[.slice a n c, .int .i64 left] w fun e w' => e = .returned (.int .i64 (left - n)) ∧ w' = w := by
  have d : decide (left - n < 0) = false := decide_eq_false (by omega)
  go_enter Tryz.func15, Tryz.ntmps15
  go_wp2
  go_ret
  exact ⟨rfl, rfl⟩
set_option maxHeartbeats 400000 in
theorem szFsOpS_no (a : Option Addr) (n c : Nat) (left : Int) (w : World) (h : left < n) (h0 : 0 ≤ left) (h2 : left ≤ 1048576) (hn : n ≤ 9223372036854775807) :
    Calls Tryz.prog 15 #[.slice a n c, .int .i64 left] w fun e w' => e = .returned (.int .i64 (-1)) ∧ w' = w := by
  have d : decide (left - n < 0) = true := decide_eq_true (by omega)
  go_enter Tryz.func15, Tryz.ntmps15
  go_wp2
  go_ret
  exact ⟨rfl, rfl⟩

set_option maxHeartbeats 400000 in
theorem eqFsOp_same (x0 x1 x2 x3 x4 x5 : Int) (w : World) :
    Calls Tryz.prog 32 #[.agg #[.int .i64 x0, .int .i64 x1, .int .i64 x2, .int .i64 x3, .int .i64 x4, .int .i64 x5], .agg #[.int .i64 x0, .int .i64 x1, .int .i64 x2, .int .i64 x3, .int .i64 x4, .int .i64 x5]] w fun e w' => e = .returned (.bool true) ∧ Below w.heap.size w w' := by
  go_enter Tryz.func32, Tryz.ntmps32
  go_wp2
  go_ret
  exact ⟨rfl, ((Below.refl _ _).alloc (Nat.le_refl _) _).alloc (by simp) _⟩
def TwoFsOp (w : World) (g o g' o' k : Nat) (F : Nat → Int) (x : World) : Prop := (x.cell? ⟨g, o + k * 6, none⟩ = some (.int .i64 (F (k * 6))) ∧ x.cell? ⟨g, o + k * 6 + 1, none⟩ = some (.int .i64 (F (k * 6 + 1))) ∧ x.cell? ⟨g, o + k * 6 + 2, none⟩ = some (.int .i64 (F (k * 6 + 2))) ∧ x.cell? ⟨g, o + k * 6 + 3, none⟩ = some (.int .i64 (F (k * 6 + 3))) ∧ x.cell? ⟨g, o + k * 6 + 4, none⟩ = some (.int .i64 (F (k * 6 + 4))) ∧ x.cell? ⟨g, o + k * 6 + 5, none⟩ = some (.int .i64 (F (k * 6 + 5))) ∧ x.cell? ⟨g', o' + k * 6, none⟩ = some (.int .i64 (F (k * 6))) ∧ x.cell? ⟨g', o' + k * 6 + 1, none⟩ = some (.int .i64 (F (k * 6 + 1))) ∧ x.cell? ⟨g', o' + k * 6 + 2, none⟩ = some (.int .i64 (F (k * 6 + 2))) ∧ x.cell? ⟨g', o' + k * 6 + 3, none⟩ = some (.int .i64 (F (k * 6 + 3))) ∧ x.cell? ⟨g', o' + k * 6 + 4, none⟩ = some (.int .i64 (F (k * 6 + 4))) ∧ x.cell? ⟨g', o' + k * 6 + 5, none⟩ = some (.int .i64 (F (k * 6 + 5)))) ∧ Below w.heap.size w x
theorem TwoFsOp.later {w x x' : World} {g o g' o' k : Nat} {F : Nat → Int} (h : TwoFsOp w g o g' o' k F x) (hg : g < w.heap.size) (hg' : g' < w.heap.size) (hb : Below x.heap.size x x') : TwoFsOp w g o g' o' k F x' := by
  obtain ⟨⟨hx0, hx1, hx2, hx3, hx4, hx5, hx6, hx7, hx8, hx9, hx10, hx11⟩, hy⟩ := h
  exact ⟨⟨(hb.cell (Nat.lt_of_lt_of_le hg hy.size)).trans hx0, (hb.cell (Nat.lt_of_lt_of_le hg hy.size)).trans hx1, (hb.cell (Nat.lt_of_lt_of_le hg hy.size)).trans hx2, (hb.cell (Nat.lt_of_lt_of_le hg hy.size)).trans hx3, (hb.cell (Nat.lt_of_lt_of_le hg hy.size)).trans hx4, (hb.cell (Nat.lt_of_lt_of_le hg hy.size)).trans hx5, (hb.cell (Nat.lt_of_lt_of_le hg' hy.size)).trans hx6, (hb.cell (Nat.lt_of_lt_of_le hg' hy.size)).trans hx7, (hb.cell (Nat.lt_of_lt_of_le hg' hy.size)).trans hx8, (hb.cell (Nat.lt_of_lt_of_le hg' hy.size)).trans hx9, (hb.cell (Nat.lt_of_lt_of_le hg' hy.size)).trans hx10, (hb.cell (Nat.lt_of_lt_of_le hg' hy.size)).trans hx11⟩, hy.trans (hb.mono hy.size)⟩
set_option maxRecDepth 100000 in
set_option maxHeartbeats 1000000 in
theorem eqFsOpS_same (va vb : Value) (Ba Bb n : Nat) (F : Nat → Int) (w : World) (ha : Row w Ba 6 n F va) (hb : Row w Bb 6 n F vb) (hn : n ≤ 1048576) :
    Calls Tryz.prog 19 #[va, vb] w fun e w' => e = .returned (.bool true) ∧ Below w.heap.size w w' := by
  obtain ⟨ao, ca, rfl⟩ := ha.form
  obtain ⟨bo, cb, rfl⟩ := hb.form
  have HA : Hid (Row w Ba 6 n F (.slice ao n ca)) := ha
  have HB : Hid (Row w Bb 6 n F (.slice bo n cb)) := hb
  clear ha hb
  go_enter Tryz.func19, Tryz.ntmps19
  go_wp2
  go_loopw [5] (fun i wr => ∃ k : Nat, k ≤ n ∧ i = .int .i64 k ∧ Below w.heap.size w wr) (fun i _ => n - (intOf i).toNat)
  case atStart => exact ⟨0, Nat.zero_le _, rfl, Below.refl _ _⟩
  case round =>
    obtain ⟨k, hk, rfl, hbw⟩ := hrel
    by_cases hlt : k < n
    · obtain ⟨g, o, rfl, _, hg, c0, c1, c2, c3, c4, c5⟩ := HA.out.at6 hlt
      obtain ⟨g', o', rfl, _, hg', d0, d1, d2, d3, d4, d5⟩ := HB.out.at6 hlt
      have h0 : TwoFsOp w g o g' o' k F wr.drew := ⟨⟨(hbw.cell (p := ⟨g, o + k * 6, none⟩) hg).trans c0, (hbw.cell (p := ⟨g, o + k * 6 + 1, none⟩) hg).trans c1, (hbw.cell (p := ⟨g, o + k * 6 + 2, none⟩) hg).trans c2, (hbw.cell (p := ⟨g, o + k * 6 + 3, none⟩) hg).trans c3, (hbw.cell (p := ⟨g, o + k * 6 + 4, none⟩) hg).trans c4, (hbw.cell (p := ⟨g, o + k * 6 + 5, none⟩) hg).trans c5, (hbw.cell (p := ⟨g', o' + k * 6, none⟩) hg').trans d0, (hbw.cell (p := ⟨g', o' + k * 6 + 1, none⟩) hg').trans d1, (hbw.cell (p := ⟨g', o' + k * 6 + 2, none⟩) hg').trans d2, (hbw.cell (p := ⟨g', o' + k * 6 + 3, none⟩) hg').trans d3, (hbw.cell (p := ⟨g', o' + k * 6 + 4, none⟩) hg').trans d4, (hbw.cell (p := ⟨g', o' + k * 6 + 5, none⟩) hg').trans d5⟩, hbw.drew⟩
      clear c0 d0 c1 d1 c2 d2 c3 d3 c4 d4 c5 d5 hbw
      go_wp2_with fail
      refine wp_region_held_drew (S := TwoFsOp w g o g' o' k F) (by kernel_rfl) h0 (fun hS => ?_)
      clear h0
      refine tkH 0 ?_ hS (fun wx hx => ?_) ?_; rotate_left
      · obtain ⟨⟨hx0, hx1, hx2, hx3, hx4, hx5, hx6, hx7, hx8, hx9, hx10, hx11⟩, _⟩ := hx; go_simp; try with_reducible rfl
      refine tkH 1 ?_ hS (fun wx hx => ?_) ?_; rotate_left
      · obtain ⟨⟨hx0, hx1, hx2, hx3, hx4, hx5, hx6, hx7, hx8, hx9, hx10, hx11⟩, _⟩ := hx; go_simp; try with_reducible rfl
      refine tkH 2 ?_ hS (fun wx hx => ?_) ?_; rotate_left
      · obtain ⟨⟨hx0, hx1, hx2, hx3, hx4, hx5, hx6, hx7, hx8, hx9, hx10, hx11⟩, _⟩ := hx; go_simp; try with_reducible rfl
      refine tkH 3 ?_ hS (fun wx hx => ?_) ?_; rotate_left
      · obtain ⟨⟨hx0, hx1, hx2, hx3, hx4, hx5, hx6, hx7, hx8, hx9, hx10, hx11⟩, _⟩ := hx; go_simp; try with_reducible rfl
      refine tkH 4 ?_ hS (fun wx hx => ?_) ?_; rotate_left
      · obtain ⟨⟨hx0, hx1, hx2, hx3, hx4, hx5, hx6, hx7, hx8, hx9, hx10, hx11⟩, _⟩ := hx; go_simp; try with_reducible rfl
      refine tkH 5 ?_ hS (fun wx hx => ?_) ?_; rotate_left
      · obtain ⟨⟨hx0, hx1, hx2, hx3, hx4, hx5, hx6, hx7, hx8, hx9, hx10, hx11⟩, _⟩ := hx; go_simp; try with_reducible rfl
      refine tkH 6 ?_ hS (fun wx hx => ?_) ?_; rotate_left
      · obtain ⟨⟨hx0, hx1, hx2, hx3, hx4, hx5, hx6, hx7, hx8, hx9, hx10, hx11⟩, _⟩ := hx; go_simp; try with_reducible rfl
      refine tkH 7 ?_ hS (fun wx hx => ?_) ?_; rotate_left
      · obtain ⟨⟨hx0, hx1, hx2, hx3, hx4, hx5, hx6, hx7, hx8, hx9, hx10, hx11⟩, _⟩ := hx; go_simp; try with_reducible rfl
      refine rdH 8 (fun K hK => ?_)
      go_simp
      go_wp2_with fail
      refine (eqFsOp_same _ _ _ _ _ _ _).mono ?_
      rintro e w' ⟨rfl, hb⟩
      go_wp2_with fail
      refine hK.out _ _ (hS.later hg hg' hb) (fun hS => ?_)
      clear hK K
      refine tkH 9 ?_ hS (fun wx hx => ?_) ?_; rotate_left
      · obtain ⟨⟨hx0, hx1, hx2, hx3, hx4, hx5, hx6, hx7, hx8, hx9, hx10, hx11⟩, _⟩ := hx; go_simp; try with_reducible rfl
      refine wpAnyH_done (by kernel_rfl) ?_ _
      go_simp
      go_wp2
      go_roundw
      case rel => exact ⟨k + 1, by omega, by go_num, hS.2⟩
      case measure => simp [intOf]; omega
    · go_wp2
      go_ret
      exact ⟨rfl, hbw⟩
set_option maxRecDepth 100000 in
set_option maxHeartbeats 2000000 in
theorem markFsOpS_any (v : Value) (B n : Nat) (F : Nat → Int) (k0 : Int) (w : World) (h : Row w B 6 n F v) (hf : Free w (n * 6) v) (hn : n ≤ 1048576) (hk0 : 0 ≤ k0) (hk1 : k0 ≤ 100000000) :
    Calls Tryz.prog 20 #[v, .int .i64 k0] w fun e w' => e = .returned (.int .i64 (k0 + n * 6)) ∧ Row w' B 6 n (fun p => k0 + (p : Nat)) v ∧ Free w' (n * 6) v ∧ w.grownBy w' v.ownBlock := by
  obtain ⟨ao, cp, rfl⟩ := h.form
  have H0 : Hid (Marked w w B 6 n 0 k0 ao cp) := Marked.start h hf k0
  clear h hf
  go_enter Tryz.func20, Tryz.ntmps20
  go_wp2
  go_loopw [1, 5] (fun k i wr => ∃ j : Nat, j ≤ n ∧ i = .int .i64 j ∧ k = .int .i64 (k0 + j * 6) ∧ Hid (Marked w wr B 6 n j k0 ao cp)) (fun _ i _ => n - (intOf i).toNat)
  case atStart => exact ⟨0, Nat.zero_le _, rfl, by go_num, H0⟩
  case round =>
    obtain ⟨j, hj, rfl, rfl, hM⟩ := hrel
    by_cases hlt : j < n
    · obtain ⟨g, o, rfl, hB, hF⟩ := hM.out.1 (by omega)
      obtain ⟨u0, c0, e0⟩ := hF.at (p := j * 6) (by omega)
      obtain ⟨u1, c1, e1⟩ := hF.at (p := j * 6 + 1) (by omega)
      obtain ⟨u2, c2, e2⟩ := hF.at (p := j * 6 + 2) (by omega)
      obtain ⟨u3, c3, e3⟩ := hF.at (p := j * 6 + 3) (by omega)
      obtain ⟨u4, c4, e4⟩ := hF.at (p := j * 6 + 4) (by omega)
      obtain ⟨u5, c5, e5⟩ := hF.at (p := j * 6 + 5) (by omega)
      simp only [← Nat.add_assoc] at c0 e0 c1 e1 c2 e2 c3 e3 c4 e4 c5 e5
      have HF : Hid (Fill wr g o (n * 6) (j * 6) (fun p => k0 + (p : Nat)) ∧ w.grownBy wr (some g)) := ⟨hF, hM.out.2⟩
      clear hF hM H0
      go_wp2
      go_roundw
      case rel => exact ⟨j + 1, by omega, by go_num, by go_num, fun _ => ⟨g, o, rfl, hB, by rw [Nat.succ_mul]; exact ((((((HF.out.1.step (by omega) (by omega) (by omega)).step (by omega) (by omega) (by omega)).step (by omega) (by omega) (by omega)).step (by omega) (by omega) (by omega)).step (by omega) (by omega) (by omega)).step (by omega) (by omega) (by omega))⟩, (grownBy_set (grownBy_set (grownBy_set (grownBy_set (grownBy_set (grownBy_set HF.out.2 _ _) _ _) _ _) _ _) _ _) _ _)⟩
      case measure => simp [intOf]; omega
    · obtain rfl : j = n := by omega
      go_wp2
      go_ret
      exact ⟨rfl, hM.out.done.1, hM.out.done.2, hM.out.2⟩
set_option maxHeartbeats 1000000 in
theorem markFsOpS_none (ao : Option Addr) (cp : Nat) (k0 : Int) (w : World) :
    Calls Tryz.prog 20 #[.slice ao 0 cp, .int .i64 k0] w fun e w' => e = .returned (.int .i64 k0) ∧ w' = w := by
  go_enter Tryz.func20, Tryz.ntmps20
  go_wp2
  go_loop [1, 5] (fun k i => i = .int .i64 0 ∧ k = .int .i64 k0) (fun _ i => 1 - (intOf i).toNat)
  case atStart => exact ⟨rfl, rfl⟩
  case round =>
    obtain ⟨rfl, rfl⟩ := hrel
    go_wp2
    go_ret
    exact ⟨rfl, rfl⟩
theorem markFsOpS_turn (v : Value) (B n : Nat) (F : Nat → Int) (k0 : Int) (w : World) (h : Row w B 6 n F v) (hf : Free w (n * 6) v) (hn : n ≤ 1048576) (hk0 : 0 ≤ k0) (hk1 : k0 ≤ 100000000) :
    Calls Tryz.prog 20 #[v, .int .i64 k0] w fun e w' => e = .returned (.int .i64 (k0 + n * 6)) ∧ Row w' B 6 n (fun p => k0 + (p : Nat)) v ∧ Free w' (n * 6) v ∧ w.grownBy w' (turn n v) := by
  rcases Nat.eq_zero_or_pos n with e | e
  · subst e
    obtain ⟨ao, cp, rfl⟩ := h.form
    refine (markFsOpS_none ao cp k0 w).mono fun e w' ⟨he, hw⟩ => ?_
    subst hw
    exact ⟨by rw [he]; simp, ⟨_, _, rfl, fun q => absurd q (Nat.lt_irrefl 0)⟩, hf, rfl, rfl, rfl, Nat.le_refl _, fun _ _ _ => rfl⟩
  · refine (markFsOpS_any v B n F k0 w h hf hn hk0 hk1).mono fun e' w' ⟨he, h1, h2, h3⟩ => ⟨he, h1, h2, ?_⟩
    unfold turn
    rw [if_neg (by omega)]
    exact h3
end Go.Proofs.YtokaoiiibakkoaaGreat

namespace Go.Proofs.YtokaoiiibakkoaaGreat
open Go.RowKit

/-- The fault of the operation at a place. -/
def opAt (G : Nat → Int) (i : Nat) : Int := opF (G (i * 6)) (G (i * 6 + 1)) (G (i * 6 + 2)) (G (i * 6 + 3)) (G (i * 6 + 4)) (G (i * 6 + 5))
def opsF (G : Nat → Int) : Nat → Nat → Int
  | 0, _ => 0
  | m + 1, k => if opAt G k ≠ 0 then opAt G k else opsF G m (k + 1)
theorem opsF_bad {G : Nat → Int} {m k : Nat} {f : Int} (hm : 0 < m) (h : opAt G k = f) (h0 : f ≠ 0) : opsF G m k = f := by
  cases m with
  | zero => exact absurd hm (Nat.lt_irrefl 0)
  | succ m => rw [opsF, if_pos (by rw [h]; exact h0), h]
theorem opsF_on {G : Nat → Int} {m k : Nat} (hm : 0 < m) (h : opAt G k = 0) : opsF G m k = opsF G (m - 1) (k + 1) := by
  cases m with
  | zero => exact absurd hm (Nat.lt_irrefl 0)
  | succ m => rw [opsF, if_neg (fun q => q h)]; rfl
theorem opsF_all {G : Nat → Int} : ∀ {m k : Nat}, opsF G m k = 0 → ∀ j, j < m → opAt G (k + j) = 0
  | 0, _, _, j, hj => absurd hj (Nat.not_lt_zero j)
  | m + 1, k, h, j, hj => by
    rw [opsF] at h
    by_cases h0 : opAt G k = 0
    · rw [if_neg (fun q => q h0)] at h
      cases j with
      | zero => exact h0
      | succ j =>
        have := opsF_all h j (by omega)
        rwa [show k + 1 + j = k + (j + 1) by omega] at this
    · rw [if_pos h0] at h
      exact absurd h h0
/-- The fault of a list of operations. -/
def opsT (m : Nat) (G : Nat → Int) : Int := if 40 < m then 2 else opsF G m 0
theorem opsT_zero {m : Nat} {G : Nat → Int} (h : opsT m G = 0) : m ≤ 40 ∧ ∀ i, i < m → opAt G i = 0 := by
  unfold opsT at h
  by_cases h1 : 40 < m
  · rw [if_pos h1] at h; cases h
  · rw [if_neg h1] at h
    refine ⟨by omega, fun i hi => ?_⟩
    have := opsF_all h i hi
    rwa [Nat.zero_add] at this
/-- What the operations come to, one behind the other: the view, and how many came to nothing. -/
def apAt (L : Prs) (G : Nat → Int) (i : Nat) : Int × Int × Prs := applyP L (G (i * 6)) (G (i * 6 + 1)) (G (i * 6 + 2)) (G (i * 6 + 3)) (G (i * 6 + 4)) (G (i * 6 + 5))
def runP (L : Prs) (G : Nat → Int) : Nat → Prs × Int
  | 0 => (L, 0)
  | i + 1 => ((apAt (runP L G i).1 G i).2.2, if (apAt (runP L G i).1 G i).1 ≠ 0 then (runP L G i).2 + 1 else (runP L G i).2)
theorem run_good {L : Prs} (h : GoodP L) {G : Nat → Int} : ∀ {m : Nat}, (∀ i, i < m → opAt G i = 0) → GoodP (runP L G m).1
  | 0, _ => h
  | m + 1, ho => (run_good h (m := m) (fun i hi => ho i (by omega))).applyOp (ho m (Nat.lt_succ_self _))
theorem run_cnt (L : Prs) (G : Nat → Int) : ∀ m : Nat, 0 ≤ (runP L G m).2 ∧ (runP L G m).2 ≤ m
  | 0 => ⟨Int.le_refl _, by simp [runP]⟩
  | m + 1 => by
    have := run_cnt L G m
    rw [runP]
    simp only
    split <;> omega
/-- What RunFs answers. -/
def RunAns (n : Nat) (F : Nat → Int) (m : Nat) (G : Nat → Int) (c v : Int) (R : Prs) : Prop :=
  (fsF n F ≠ 0 ∧ c = fsF n F ∧ v = 0 ∧ R = []) ∨ (fsF n F = 0 ∧ opsT m G ≠ 0 ∧ c = opsT m G ∧ v = 0 ∧ R = []) ∨ (fsF n F = 0 ∧ opsT m G = 0 ∧ c = 0 ∧ runP (listOf F n) G m = (R, v))
theorem RunAns.get (n : Nat) (F : Nat → Int) (m : Nat) (G : Nat → Int) : ∃ c v R, RunAns n F m G c v R ∧ R.length ≤ 200 := by
  by_cases h : fsF n F = 0
  · by_cases h2 : opsT m G = 0
    · exact ⟨0, _, _, Or.inr (Or.inr ⟨h, h2, rfl, rfl⟩), (run_good (good_of_pairs (fsF_zero h).1) (opsT_zero h2).2).len⟩
    · exact ⟨_, 0, [], Or.inr (Or.inl ⟨h, h2, rfl, rfl, rfl⟩), by simp⟩
  · exact ⟨_, 0, [], Or.inl ⟨h, rfl, rfl, rfl⟩, by simp⟩
set_option maxRecDepth 100000 in
set_option maxHeartbeats 4000000 in
theorem opsFault_is (y : Value) (B m : Nat) (G : Nat → Int) (w : World) (h : Row w B 6 m G y) (hm : m ≤ 1048576) :
    Calls Tryz.prog 30 #[y] w fun e w' => e = .returned (.int .i64 (opsT m G)) ∧ Below w.heap.size w w' := by
  obtain ⟨ao, cp, rfl⟩ := h.form
  have H : Hid (Row w B 6 m G (.slice ao m cp)) := h
  clear h
  obtain ⟨res, hres⟩ : ∃ res, opsT m G = res := ⟨_, rfl⟩
  have HR : Hid (opsT m G = res) := hres
  rw [hres]
  clear hres
  by_cases h40 : 40 < m
  · have d : decide ((m : Int) > 40) = true := decide_eq_true (by omega)
    have HQ : Hid (res = 2) := HR.out.symm.trans (by unfold opsT; rw [if_pos h40])
    clear HR h40
    go_enter Tryz.func30, Tryz.ntmps30
    go_wp2
    go_ret
    exact ⟨by rw [HQ.out]; rfl, Below.refl _ _⟩
  have d : decide ((m : Int) > 40) = false := decide_eq_false (by omega)
  have HF : Hid (opsF G m 0 = res) := by
    have := HR.out
    unfold opsT at this
    rwa [if_neg h40] at this
  clear HR
  go_enter Tryz.func30, Tryz.ntmps30
  go_wp2
  go_loopw [11] (fun i wr => ∃ k : Nat, k ≤ m ∧ i = .int .i64 k ∧ Hid (opsF G (m - k) k = res ∧ Below w.heap.size w wr)) (fun i _ => m - (intOf i).toNat)
  case atStart => exact ⟨0, Nat.zero_le _, rfl, HF.out, Below.refl _ _⟩
  case round =>
    obtain ⟨k, hk, rfl, HS⟩ := hrel
    by_cases hlt : k < m
    case neg =>
      obtain rfl : k = m := by omega
      have HQ : Hid (res = 0) := by
        have := HS.out.1
        rw [Nat.sub_self] at this
        exact this.symm
      go_wp2
      go_ret
      exact ⟨by rw [HQ.out]; rfl, HS.out.2⟩
    have HROW := H.out.later HS.out.2
    obtain ⟨g, o, rfl, _, hg, y0, y1, y2, y3, y4, y5⟩ := HROW.at6 hlt
    obtain ⟨n0, N0⟩ : ∃ x, G (k * 6) = x := ⟨_, rfl⟩
    rw [N0] at y0
    obtain ⟨n1, N1⟩ : ∃ x, G (k * 6 + 1) = x := ⟨_, rfl⟩
    rw [N1] at y1
    obtain ⟨n2, N2⟩ : ∃ x, G (k * 6 + 2) = x := ⟨_, rfl⟩
    rw [N2] at y2
    obtain ⟨n3, N3⟩ : ∃ x, G (k * 6 + 3) = x := ⟨_, rfl⟩
    rw [N3] at y3
    obtain ⟨n4, N4⟩ : ∃ x, G (k * 6 + 4) = x := ⟨_, rfl⟩
    rw [N4] at y4
    obtain ⟨n5, N5⟩ : ∃ x, G (k * 6 + 5) = x := ⟨_, rfl⟩
    rw [N5] at y5
    obtain ⟨f, hf⟩ : ∃ f, opF n0 n1 n2 n3 n4 n5 = f := ⟨_, rfl⟩
    have HFQ : Hid (opF n0 n1 n2 n3 n4 n5 = f) := hf
    have hat : opAt G k = f := by unfold opAt; rw [N0, N1, N2, N3, N4, N5, hf]
    clear N0 N1 N2 N3 N4 N5 hf HROW
    by_cases h0 : f = 0
    · subst h0
      have HON : Hid (opsF G (m - (k + 1)) (k + 1) = res) := by
        have := HS.out.1
        rw [opsF_on (by omega) hat] at this
        rwa [show m - k - 1 = m - (k + 1) by omega] at this
      have HB1 : Hid (Below w.heap.size w (wr.alloc (opO n0 n1 n2 n3 n4 n5))) := HS.out.2.alloc HS.out.2.size _
      clear hat
      go_wp2_with fail
      refine (implFsOp_any n0 n1 n2 n3 n4 n5 _).mono ?_
      rintro e w1 ⟨rfl, q1⟩
      rw [HFQ.out]
      have HB2 : Hid (Below w.heap.size w w1) := HB1.out.trans (q1.mono HB1.out.size)
      clear q1 HB1 HS
      go_wp2
      go_roundw
      case rel => exact ⟨k + 1, by omega, by go_num, HON.out, HB2.out⟩
      case measure => simp [intOf]; omega
    · have HQ : Hid (res = f) := by
        have := HS.out.1
        rw [opsF_bad (by omega) hat h0] at this
        exact this.symm
      have df : (f != 0) = true := bne_iff_ne.2 h0
      have HB1 : Hid (Below w.heap.size w (wr.alloc (opO n0 n1 n2 n3 n4 n5))) := HS.out.2.alloc HS.out.2.size _
      clear hat h0
      go_wp2_with fail
      refine (implFsOp_any n0 n1 n2 n3 n4 n5 _).mono ?_
      rintro e w1 ⟨rfl, q1⟩
      rw [HFQ.out]
      have HB2 : Hid (Below w.heap.size w w1) := HB1.out.trans (q1.mono HB1.out.size)
      clear q1 HB1 HS
      go_wp2
      go_ret
      exact ⟨by rw [HQ.out]; rfl, HB2.out⟩
end Go.Proofs.YtokaoiiibakkoaaGreat

namespace Go.Proofs.YtokaoiiibakkoaaGreat
open Go.RowKit

set_option maxRecDepth 100000 in
theorem clonePairs_any (n : Nat) (F : Nat → Int) (v : Value) (B : Nat) (w : World) (h : Row w B 2 n F v) (hn : n ≤ 1048576) :
    Calls Tryz.prog 31 #[v] w fun e w' => ∃ v', e = .returned v' ∧ Own w' w.heap.size 51 2 n F v' ∧ Below w.heap.size w w' := by
  obtain ⟨ao, cp, rfl⟩ := h.form
  cases ao with
  | none =>
    have e0 : n = 0 := by
      rcases Nat.eq_zero_or_pos n with e | e
      · exact e
      · obtain ⟨ao, cp', hv, h⟩ := h
        obtain ⟨g, o, rfl, _⟩ := h e
        simp at hv
    subst e0
    clear h
    have he : ∀ w : World, (binOp .eql 26 (.slice none 0 cp) (.slice none 0 0)).run Tryz.prog w = .ok (.bool true) w := fun _ => rfl
    go_enter Tryz.func31, Tryz.ntmps31
    go_wp2
    go_ret
    exact ⟨_, rfl, Own.nil _ _ _ _ _, Below.refl _ _⟩
  | some a =>
    have H : Hid (Row w B 2 n F (.slice (some a) n cp)) := h
    clear h
    have he : ∀ w : World, (binOp .eql 26 (.slice (some a) n cp) (.slice none 0 0)).run Tryz.prog w = .ok (.bool false) w := fun _ => rfl
    obtain ⟨i0, hi, hz0, hz1, hz2⟩ := info_parts infoz_Pair
    go_enter Tryz.func31, Tryz.ntmps31
    go_wp2_with (at_builtin; refine wpList_append_own _ rfl _ _ 26 rfl w.heap.size 51 i0 (.agg #[.int .i64 0, .int .i64 0]) 2 16 Tryz.underlying26 hi hz0 hz1 hz2 rfl (by decide) _ 0 [] rfl (own_empty w 51 2) a n cp (vals F (n * 2)) rfl (vals_length _ _) (row_cells (H.out.alloc _)) (vals_one _ _) ?c3 ?c4 ?c5 ?_)
    case c3 => unfold maxLen; omega
    case c4 => omega
    case c5 => simp
    intro v' w1 ho hg _
    go_wp2
    go_ret
    refine ⟨v', rfl, ?_, below_grownBy (below_alloc w _) (by simp) (fun b hb => by simp [Value.ownBlock] at hb; omega) hg⟩
    simpa [Own] using ho

/-- A list of pairs of a call's own. -/
def VwO (w : World) (B : Nat) (R : Prs) (u : Value) : Prop := Row w B 2 R.length (rowL R) u ∧ Free w (R.length * 2) u
theorem VwO.keptG {w w' : World} {B : Nat} {R : Prs} {u : Value} (h : VwO w B R u) (hs : w.heap.size ≤ w'.heap.size) (hb : ∀ k, 0 < R.length → u.ownBlock = some k → k < w.heap.size → w'.heap[k]? = w.heap[k]?) : VwO w' B R u := by
  by_cases hn : R.length = 0
  · obtain ⟨ao, cp, rfl⟩ := h.1.form
    exact ⟨⟨_, _, rfl, fun q => by omega⟩, fun g o n c e p hp => by omega⟩
  · refine ⟨h.1.kept hs (fun k hk hq => hb k (by omega) hk hq), fun g o n c e p hp => ?_⟩
    have hg : u.ownBlock = some g := by rw [e]; rfl
    exact (World.frozen?_of_block (w := w) (a := ⟨g, o + p, none⟩) (hb g (by omega) hg (h.1.lt (by omega) g hg).2)).trans (h.2 g o n c e p hp)
theorem VwO.later {w w' : World} {B : Nat} {R : Prs} {u : Value} (h : VwO w B R u) (hb : Below w.heap.size w w') : VwO w' B R u := h.keptG hb.size (fun k _ _ hk => hb.block k hk)
theorem BlkF.set3 {x : World} {b : Nat} {a0 a1 a2 a3 : Value} (h : BlkF x b a0 a1 a2 a3) (u : Value) : BlkF (x.setCell ⟨b, 3, none⟩ u) b a0 a1 a2 u := by
  obtain ⟨⟨h0, h1, h2, h3⟩, f0, f1, f2, f3⟩ := h
  exact ⟨⟨(World.cell?_setCell_other _ _ _ _ (by simp)).trans h0, (World.cell?_setCell_other _ _ _ _ (by simp)).trans h1, (World.cell?_setCell_other _ _ _ _ (by simp)).trans h2, World.cell?_setCell_same _ _ _ h3⟩, by simpa using f0, by simpa using f1, by simpa using f2, by simpa using f3⟩
theorem BlkF.set2 {x : World} {b : Nat} {a0 a1 a2 a3 : Value} (h : BlkF x b a0 a1 a2 a3) (u : Value) : BlkF (x.setCell ⟨b, 2, none⟩ u) b a0 a1 u a3 := by
  obtain ⟨⟨h0, h1, h2, h3⟩, f0, f1, f2, f3⟩ := h
  exact ⟨⟨(World.cell?_setCell_other _ _ _ _ (by simp)).trans h0, (World.cell?_setCell_other _ _ _ _ (by simp)).trans h1, World.cell?_setCell_same _ _ _ h2, (World.cell?_setCell_other _ _ _ _ (by simp)).trans h3⟩, by simpa using f0, by simpa using f1, by simpa using f2, by simpa using f3⟩
/-- A run under way: its box b, the view in a list of its own, how many came to nothing; the answer's box rb. -/
def RnE (w : World) (rb b : Nat) (R : Prs) (v : Int) (u : Value) (X : World) : Prop := FBk X rb ∧ BlkF X b (.int .i64 0) (.int .i64 0) (.int .i64 v) u ∧ VwO X (rb + 1) R u ∧ Below w.heap.size w X ∧ (rb < b ∧ w.heap.size ≤ rb ∧ ∀ k, 0 < R.length → u.ownBlock = some k → k ≠ b)
theorem RnE.later {w X X' : World} {rb b : Nat} {R : Prs} {v : Int} {u : Value} (h : RnE w rb b R v u X) (hb : Below X.heap.size X X') : RnE w rb b R v u X' := ⟨h.1.later hb, h.2.1.later hb, h.2.2.1.later hb, h.2.2.2.1.trans (hb.mono h.2.2.2.1.size), h.2.2.2.2⟩
theorem FBk.set {x : World} {b g : Nat} (h : FBk x b) (hne : b ≠ g) (j : Nat) (u : Value) : FBk (x.setCell ⟨g, j, none⟩ u) b := h.kept (Below.heap_setCell x ⟨g, j, none⟩ u b hne)
/-- The view behind an operation is put into the run's box. -/
theorem RnE.view {w X : World} {rb b : Nat} {R R' : Prs} {v : Int} {u u' : Value} (h : RnE w rb b R v u X) (hu : VwO X (b + 1) R' u') : RnE w rb b R' v u' (X.setCell ⟨b, 3, none⟩ u') := by
  obtain ⟨h1, h2, h3, h4, h5, h6, h7⟩ := h
  have ks : ∀ k, k ≠ b → (X.setCell ⟨b, 3, none⟩ u').heap[k]? = X.heap[k]? := fun k hk => Below.heap_setCell X ⟨b, 3, none⟩ u' k hk
  have hv : ∀ k, 0 < R'.length → u'.ownBlock = some k → b + 1 ≤ k := fun k hl hk => (hu.1.lt (by omega) k hk).1
  refine ⟨h1.set (by omega) 3 u', h2.set3 u', ?_, h4.setCell (by simp; omega) _, h5, h6, fun k hl hk => by have := hv k hl hk; omega⟩
  have h8 := hu.keptG (w' := X.setCell ⟨b, 3, none⟩ u') (by simp) (fun k hl hk _ => ks k (by have := hv k hl hk; omega))
  exact ⟨h8.1.mono (by omega), h8.2⟩
theorem RnE.count {w X : World} {rb b : Nat} {R : Prs} {v : Int} {u : Value} (h : RnE w rb b R v u X) (v' : Int) : RnE w rb b R v' u (X.setCell ⟨b, 2, none⟩ (.int .i64 v')) := by
  obtain ⟨h1, h2, h3, h4, h5, h6, h7⟩ := h
  exact ⟨h1.set (by omega) 2 _, h2.set2 _, h3.keptG (by simp) (fun k hl hk _ => Below.heap_setCell X ⟨b, 2, none⟩ _ k (h7 k hl hk)), h4.setCell (by simp; omega) _, h5, h6, h7⟩
set_option maxRecDepth 100000 in
set_option maxHeartbeats 4000000 in
theorem implRunFs_is (y z : Value) (B B2 n m : Nat) (F G : Nat → Int) (c v : Int) (R : Prs) (w : World) (h : Row w B 2 n F y) (hz : Row w B2 6 m G z) (hn : n ≤ 1048576) (hm : m ≤ 1048576) (ha : RunAns n F m G c v R) :
    Calls Tryz.prog 18 #[y, z] w (ResFs w c 0 v R) := by
  obtain ⟨zo, zc, rfl⟩ := hz.form
  have H : Hid (Row w B 2 n F y ∧ Row w B2 6 m G (.slice zo m zc)) := ⟨h, hz⟩
  have HB0 : Hid (FBk (w.alloc zeroFs) w.heap.size ∧ Below w.heap.size w (w.alloc zeroFs)) := ⟨FBk.new _ _ _ _ _, below_alloc _ _⟩
  clear h hz
  rcases ha with ⟨h1, rfl, rfl, rfl⟩ | ⟨h1, h2, rfl, rfl, rfl⟩ | ⟨h1, h2, rfl, hp⟩
  · obtain ⟨f, hf⟩ : ∃ f, fsF n F = f := ⟨_, rfl⟩
    have HF : Hid (fsF n F = f ∧ True) := ⟨hf, trivial⟩
    have dd : (f != 0) = true := bne_iff_ne.2 (by rw [← hf]; exact h1)
    rw [hf]
    clear h1 hf
    go_enter Tryz.func18, Tryz.ntmps18
    go_wp2_with fail
    refine (implFs_is _ B n F _ (H.out.1.later HB0.out.2) hn).mono ?_
    rintro e w1 ⟨rfl, q1⟩
    rw [HF.out.1]
    have H1 : Hid (FBk w1 w.heap.size ∧ Below w.heap.size w w1) := ⟨HB0.out.1.later q1, HB0.out.2.trans (q1.mono HB0.out.2.size)⟩
    clear q1
    go_wp2_with (refine wpList_storeF rfl _ _ rfl w.heap.size _ _ _ _ rfl rfl H1.out.1 (by kernel_rfl) ?_)
    refine bodyPost_ret (v := .agg #[.int .i64 f, .int .i64 0, .int .i64 0, .slice none 0 0]) (results_fs Tryz.results18 _ _ _ _ _ _ _ rfl H1.out.1) rfl (res_nil _ (below_row H1.out.2 (by omega) _))
  · obtain ⟨f, hf⟩ : ∃ f, opsT m G = f := ⟨_, rfl⟩
    have HF : Hid (fsF n F = 0 ∧ opsT m G = f ∧ True) := ⟨h1, hf, trivial⟩
    have dd : (f != 0) = true := bne_iff_ne.2 (by rw [← hf]; exact h2)
    rw [hf]
    clear h1 h2 hf
    go_enter Tryz.func18, Tryz.ntmps18
    go_wp2_with fail
    refine (implFs_is _ B n F _ (H.out.1.later HB0.out.2) hn).mono ?_
    rintro e w1 ⟨rfl, q1⟩
    rw [HF.out.1]
    have H1 : Hid (FBk w1 w.heap.size ∧ Below w.heap.size w w1) := ⟨HB0.out.1.later q1, HB0.out.2.trans (q1.mono HB0.out.2.size)⟩
    clear q1
    go_wp2_with fail
    refine (opsFault_is _ B2 m G _ (H.out.2.later H1.out.2) hm).mono ?_
    rintro e w2 ⟨rfl, q2⟩
    rw [HF.out.2.1]
    have H2 : Hid (FBk w2 w.heap.size ∧ Below w.heap.size w w2) := ⟨H1.out.1.later q2, H1.out.2.trans (q2.mono H1.out.2.size)⟩
    clear q2 H1
    go_wp2_with (refine wpList_storeF rfl _ _ rfl w.heap.size _ _ _ _ rfl rfl H2.out.1 (by kernel_rfl) ?_)
    refine bodyPost_ret (v := .agg #[.int .i64 f, .int .i64 0, .int .i64 0, .slice none 0 0]) (results_fs Tryz.results18 _ _ _ _ _ _ _ rfl H2.out.1) rfl (res_nil _ (below_row H2.out.2 (by omega) _))
  have HF : Hid (fsF n F = 0 ∧ opsT m G = 0 ∧ True) := ⟨h1, h2, trivial⟩
  have hgp := good_of_pairs (fsF_zero h1).1
  have HG : Hid (GoodP (listOf F n) ∧ (∀ i, i < m → opAt G i = 0) ∧ runP (listOf F n) G m = (R, v)) := ⟨hgp, (opsT_zero h2).2, hp⟩
  have hm40 := (opsT_zero h2).1
  clear h1 h2 hp hgp
  go_enter Tryz.func18, Tryz.ntmps18
  go_wp2_with fail
  refine (implFs_is _ B n F _ (H.out.1.later HB0.out.2) hn).mono ?_
  rintro e w1 ⟨rfl, q1⟩
  rw [HF.out.1]
  have H1 : Hid (FBk w1 w.heap.size ∧ Below w.heap.size w w1) := ⟨HB0.out.1.later q1, HB0.out.2.trans (q1.mono HB0.out.2.size)⟩
  clear q1
  go_wp2_with fail
  refine (opsFault_is _ B2 m G _ (H.out.2.later H1.out.2) hm).mono ?_
  rintro e w2 ⟨rfl, q2⟩
  rw [HF.out.2.1]
  have H2 : Hid (FBk w2 w.heap.size ∧ Below w.heap.size w w2) := ⟨H1.out.1.later q2, H1.out.2.trans (q2.mono H1.out.2.size)⟩
  clear q2 H1
  go_wp2_with fail
  refine (clonePairs_any n F _ B _ (H.out.1.later H2.out.2) hn).mono ?_
  rintro e w3 ⟨u0, rfl, hu0, q3⟩
  obtain ⟨uo, uc, rfl⟩ := hu0.form
  have HE0 : Hid (RnE w w.heap.size w3.heap.size (runP (listOf F n) G 0).1 0 (.slice uo n uc) (w3.alloc (.cells #[.int .i64 0, .int .i64 0, .int .i64 0, .slice uo n uc] 28))) := by
    have hl : (runP (listOf F n) G 0).1.length = n := listOf_length F n
    have hv : VwO w3 w2.heap.size (runP (listOf F n) G 0).1 (.slice uo n uc) := ⟨by rw [hl]; exact row_eqP (Own.row hu0).1 (fun p hp => (rowL_listOf hp).symm), by rw [hl]; exact (Own.row hu0).2⟩
    have hw2 := H2.out.1.lt
    refine ⟨(H2.out.1.later q3).later (below_alloc _ _), BlkF.new _ _ _ _ _ _, ?_, (H2.out.2.trans (q3.mono H2.out.2.size)).alloc (Nat.le_trans H2.out.2.size q3.size) _, Nat.lt_of_lt_of_le hw2 q3.size, Nat.le_refl _, fun k hl hk => by have := (hv.1.lt (by omega) k hk).2; omega⟩
    have h8 := hv.later (below_alloc w3 (.cells #[.int .i64 0, .int .i64 0, .int .i64 0, .slice uo n uc] 28))
    exact ⟨h8.1.mono (by omega), h8.2⟩
  have HLN : Hid ((runP (listOf F n) G 0).1.length = n) := listOf_length F n
  clear hu0 q3 H2
  go_wp2
  go_loopw [28] (fun i wr => ∃ (k : Nat) (u : Value), k ≤ m ∧ i = .int .i64 k ∧ Hid (RnE w w.heap.size w3.heap.size (runP (listOf F n) G k).1 (runP (listOf F n) G k).2 u wr)) (fun i _ => m - (intOf i).toNat)
  case atStart => exact ⟨0, _, Nat.zero_le _, rfl, HE0.out⟩
  case round =>
    obtain ⟨k, u, hk, rfl, HS⟩ := hrel
    clear HE0
    by_cases hlt : k < m
    case neg =>
      obtain rfl : k = m := by omega
      have HE := HS.out
      rw [HG.out.2.2] at HE
      have HE1 : Hid (RnE w w.heap.size w3.heap.size R v u wr) := HE
      obtain ⟨ao, cp, rfl⟩ := HE1.out.2.2.1.1.form
      obtain ⟨⟨c0, c1, c2, c3⟩, _⟩ := HE1.out.2.1
      clear HE HS
      go_wp2_with (refine wpList_storeF rfl _ _ rfl w.heap.size _ _ _ _ rfl rfl HE1.out.1 (by kernel_rfl) ?_)
      exact bodyPost_ret (v := .agg #[.int .i64 0, .int .i64 0, .int .i64 v, .slice ao R.length cp]) (results_fs Tryz.results18 _ _ _ _ _ _ _ rfl HE1.out.1) rfl (res_end HE1.out.2.2.1.1 HE1.out.2.2.1.2 HE1.out.2.2.2.1 (by omega) (Nat.lt_succ_self _) _)
    have HROW := H.out.2.later HS.out.2.2.2.1
    obtain ⟨g, o, rfl, _, hg, y0, y1, y2, y3, y4, y5⟩ := HROW.at6 hlt
    obtain ⟨n0, N0⟩ : ∃ x, G (k * 6) = x := ⟨_, rfl⟩
    rw [N0] at y0
    obtain ⟨n1, N1⟩ : ∃ x, G (k * 6 + 1) = x := ⟨_, rfl⟩
    rw [N1] at y1
    obtain ⟨n2, N2⟩ : ∃ x, G (k * 6 + 2) = x := ⟨_, rfl⟩
    rw [N2] at y2
    obtain ⟨n3, N3⟩ : ∃ x, G (k * 6 + 3) = x := ⟨_, rfl⟩
    rw [N3] at y3
    obtain ⟨n4, N4⟩ : ∃ x, G (k * 6 + 4) = x := ⟨_, rfl⟩
    rw [N4] at y4
    obtain ⟨n5, N5⟩ : ∃ x, G (k * 6 + 5) = x := ⟨_, rfl⟩
    rw [N5] at y5
    have hop : opF n0 n1 n2 n3 n4 n5 = 0 := by have := HG.out.2.1 k hlt; unfold opAt at this; rwa [N0, N1, N2, N3, N4, N5] at this
    obtain ⟨a, ha⟩ : ∃ a, applyP (runP (listOf F n) G k).1 n0 n1 n2 n3 n4 n5 = a := ⟨_, rfl⟩
    obtain ⟨r', v', R'⟩ := a
    have HA : Hid (opF n0 n1 n2 n3 n4 n5 = 0 ∧ applyP (runP (listOf F n) G k).1 n0 n1 n2 n3 n4 n5 = (r', v', R')) := ⟨hop, ha⟩
    have HST : Hid (runP (listOf F n) G (k + 1) = (R', if r' ≠ 0 then (runP (listOf F n) G k).2 + 1 else (runP (listOf F n) G k).2)) := by
      unfold Hid
      rw [runP]
      unfold apAt
      rw [N0, N1, N2, N3, N4, N5, ha]
    have HGk : Hid (GoodP (runP (listOf F n) G k).1) := run_good HG.out.1 (fun i hi => HG.out.2.1 i (by omega))
    have hcnt := run_cnt (listOf F n) G k
    generalize runP (listOf F n) G k = P at HS HA HST HGk hcnt
    obtain ⟨Rk, vk⟩ := P
    simp only at HS HA HST HGk hcnt
    have hrl := HGk.out.len
    obtain ⟨ko, kc, rfl⟩ := HS.out.2.2.1.1.form
    obtain ⟨⟨c0, c1, c2, c3⟩, _⟩ := HS.out.2.1
    have hbx := HS.out.2.1.lt
    have HS1 : Hid (RnE w w.heap.size w3.heap.size Rk vk (.slice ko Rk.length kc) (wr.alloc (opO n0 n1 n2 n3 n4 n5))) := HS.out.later (below_alloc _ _)
    clear N0 N1 N2 N3 N4 N5 hop ha HROW
    go_wp2_with fail
    refine (applyOp_is _ (w.heap.size + 1) Rk.length (rowL Rk) n0 n1 n2 n3 n4 n5 _ HS1.out.2.2.1.1 (by omega) (pairs_of_good HGk.out) HA.out.1 r' v' R' (by rw [listOf_rowL]; exact HA.out.2)).mono ?_
    rintro e w4 ⟨ao, cp, rfl, hrow, hfree, q4⟩
    have HS2 : Hid (RnE w w.heap.size w3.heap.size Rk vk (.slice ko Rk.length kc) w4 ∧ VwO w4 (w3.heap.size + 1) R' (.slice ao R'.length cp)) := by
      have hb := HS1.out.2.1.lt
      exact ⟨HS1.out.later q4, ⟨hrow.mono (by omega), hfree⟩⟩
    have hw34 : w3.heap.size < w4.heap.size := HS2.out.1.2.1.lt
    clear hrow hfree q4 HS1 HS c0 c1 c2 c3 y0 y1 y2 y3 y4 y5 hbx
    obtain ⟨⟨c0, c1, c2, c3⟩, f0, f1, f2, f3⟩ := HS2.out.1.2.1
    have HS3 : Hid (RnE w w.heap.size w3.heap.size R' vk (.slice ao R'.length cp) (w4.setCell ⟨w3.heap.size, 3, none⟩ (.slice ao R'.length cp))) := HS2.out.1.view HS2.out.2
    have hvk : 0 ≤ vk ∧ vk ≤ 100 := by omega
    obtain ⟨⟨s0, s1, s2, s3⟩, k0, k1, k2, k3⟩ := HS3.out.2.1
    by_cases hr : r' = 0
    · have dr : (r' != 0) = false := by simp [hr]
      have HS4 : Hid (RnE w w.heap.size w3.heap.size (runP (listOf F n) G (k + 1)).1 (runP (listOf F n) G (k + 1)).2 (.slice ao R'.length cp) ((w4.setCell ⟨w3.heap.size, 3, none⟩ (.slice ao R'.length cp)).alloc (.cells #[.int .i64 0, .int .i64 r', .int .i64 v', .slice ao R'.length cp] 28))) := by
        unfold Hid
        rw [HST.out, if_neg (fun q => q hr)]
        exact HS3.out.later (below_alloc _ _)
      clear hr HS2 HS3
      go_wp2
      go_roundw
      case rel => exact ⟨k + 1, .slice ao R'.length cp, by omega, by go_num, HS4.out⟩
      case measure => simp [intOf]; omega
    · have dr : (r' != 0) = true := bne_iff_ne.2 hr
      have HS4 : Hid (RnE w w.heap.size w3.heap.size (runP (listOf F n) G (k + 1)).1 (runP (listOf F n) G (k + 1)).2 (.slice ao R'.length cp) (((w4.setCell ⟨w3.heap.size, 3, none⟩ (.slice ao R'.length cp)).setCell ⟨w3.heap.size, 2, none⟩ (.int .i64 (vk + 1))).alloc (.cells #[.int .i64 0, .int .i64 r', .int .i64 v', .slice ao R'.length cp] 28))) := by
        unfold Hid
        rw [HST.out, if_pos hr]
        exact (HS3.out.count (vk + 1)).later (below_alloc _ _)
      clear hr HS2 HS3
      go_wp2
      go_roundw
      case rel => exact ⟨k + 1, .slice ao R'.length cp, by omega, by go_num, HS4.out⟩
      case measure => simp [intOf]; omega
end Go.Proofs.YtokaoiiibakkoaaGreat

namespace Go.Proofs.YtokaoiiibakkoaaGreat
open Go.RowKit

theorem below_drewA (X : World) : Below X.heap.size X X.drew := ⟨rfl, rfl, rfl, Nat.le_refl _, fun _ _ => rfl⟩
theorem nums_getD (F : Nat → Int) {N p : Nat} (hp : p < N) : (nums F N).getD p 0 = F p := by
  unfold nums
  rw [List.getD_eq_getElem?_getD, List.getElem?_eq_getElem (by simpa using hp)]
  simp
theorem VwO.row {X : World} {B g : Nat} {R : Prs} {u : Value} {cs : Array Value} (h : VwO X B R u) (h2 : ∀ k, 0 < R.length → u.ownBlock = some k → k ≠ g) : VwO (X.setRow g cs) B R u := h.keptG (by rw [size_setRow]; exact Nat.le_refl _) (fun k hl hk _ => heap_setRow _ _ _ _ (h2 k hl hk))
theorem RnE.row {w X : World} {rb b g : Nat} {R : Prs} {v : Int} {u : Value} {cs : Array Value} (h : RnE w rb b R v u X) (hg : b < g) (h2 : ∀ k, 0 < R.length → u.ownBlock = some k → k ≠ g) : RnE w rb b R v u (X.setRow g cs) := by
  obtain ⟨h1, h3, h4, h5, h6, h7, h8⟩ := h
  exact ⟨h1.kept (heap_setRow _ _ _ _ (by omega)), h3.kept (heap_setRow _ _ _ _ (by omega)), h4.row h2, below_row h5 (by omega) _, h6, h7, h8⟩
/-- Behind an operation: the run, the view that the operation left, the box of its answer. -/
def RnX (w : World) (rb b : Nat) (Rk R' : Prs) (vk r' v' : Int) (u : Value) (bx : Nat) (u' : Value) (X : World) : Prop := RnE w rb b Rk vk u X ∧ VwO X (b + 1) R' u' ∧ BlkF X bx (.int .i64 0) (.int .i64 r') (.int .i64 v') u' ∧ b < bx
/-- All but the store of an operation's answer: the run, the view, the box to be stored into. -/
def RnY (w : World) (rb b : Nat) (Rk R' : Prs) (vk : Int) (u : Value) (bx : Nat) (u' : Value) (X : World) : Prop := RnE w rb b Rk vk u X ∧ VwO X (b + 1) R' u' ∧ FBk X bx ∧ b < bx ∧ (∀ k, 0 < Rk.length → u.ownBlock = some k → k ≠ bx) ∧ ∀ k, 0 < R'.length → u'.ownBlock = some k → k ≠ bx
set_option maxRecDepth 100000 in
set_option maxHeartbeats 4000000 in
theorem specRunFs_is (y z : Value) (B B2 n m : Nat) (F G : Nat → Int) (c v : Int) (R : Prs) (w : World) (h : Row w B 2 n F y) (hz : Row w B2 6 m G z) (hn : n ≤ 1048576) (hm : m ≤ 1048576) (ha : RunAns n F m G c v R) :
    Calls Tryz.prog 16 #[y, z] w (ResFs w c 0 v R) := by
  obtain ⟨yo, yc, rfl⟩ := h.form
  obtain ⟨zo, zc, rfl⟩ := hz.form
  have H : Hid (Row w B 2 n F (.slice yo n yc) ∧ Row w B2 6 m G (.slice zo m zc)) := ⟨h, hz⟩
  have HB0 : Hid (FBk (w.alloc zeroFs) w.heap.size ∧ Below w.heap.size w (w.alloc zeroFs)) := ⟨FBk.new _ _ _ _ _, below_alloc _ _⟩
  obtain ⟨i0, hi, hz0, hz1, hz2⟩ := info_parts infoz_Pair
  clear h hz
  rcases ha with ⟨h1, rfl, rfl, rfl⟩ | ⟨h1, h2, rfl, rfl, rfl⟩ | ⟨h1, h2, rfl, hp⟩
  · obtain ⟨f, hf⟩ : ∃ f, fsF n F = f := ⟨_, rfl⟩
    have HF : Hid (fsF n F = f ∧ True) := ⟨hf, trivial⟩
    have dd : (f != 0) = true := bne_iff_ne.2 (by rw [← hf]; exact h1)
    rw [hf]
    clear h1 hf
    go_enter Tryz.func16, Tryz.ntmps16
    go_wp2_with fail
    refine (specFs_is _ B n F _ (H.out.1.later HB0.out.2) hn).mono ?_
    rintro e w1 ⟨rfl, q1⟩
    rw [HF.out.1]
    have H1 : Hid (FBk w1 w.heap.size ∧ Below w.heap.size w w1) := ⟨HB0.out.1.later q1, HB0.out.2.trans (q1.mono HB0.out.2.size)⟩
    clear q1
    go_wp2_with (refine wpList_storeF rfl _ _ rfl w.heap.size _ _ _ _ rfl rfl H1.out.1 (by kernel_rfl) ?_)
    refine bodyPost_ret (v := .agg #[.int .i64 f, .int .i64 0, .int .i64 0, .slice none 0 0]) (results_fs Tryz.results16 _ _ _ _ _ _ _ rfl H1.out.1) rfl (res_nil _ (below_row H1.out.2 (by omega) _))
  · have HF : Hid (fsF n F = 0 ∧ True) := ⟨h1, trivial⟩
    by_cases h40 : 40 < m
    · have d : decide ((m : Int) > 40) = true := decide_eq_true (by omega)
      have HQ : Hid (opsT m G = 2) := by unfold Hid opsT; rw [if_pos h40]
      rw [HQ.out]
      clear h1 h2 h40
      go_enter Tryz.func16, Tryz.ntmps16
      go_wp2_with fail
      refine (specFs_is _ B n F _ (H.out.1.later HB0.out.2) hn).mono ?_
      rintro e w1 ⟨rfl, q1⟩
      rw [HF.out.1]
      have H1 : Hid (FBk w1 w.heap.size ∧ Below w.heap.size w w1) := ⟨HB0.out.1.later q1, HB0.out.2.trans (q1.mono HB0.out.2.size)⟩
      clear q1
      go_wp2_with (refine wpList_storeF rfl _ _ rfl w.heap.size _ _ _ _ rfl rfl H1.out.1 (by kernel_rfl) ?_)
      refine bodyPost_ret (v := .agg #[.int .i64 2, .int .i64 0, .int .i64 0, .slice none 0 0]) (results_fs Tryz.results16 _ _ _ _ _ _ _ rfl H1.out.1) rfl (res_nil _ (below_row H1.out.2 (by omega) _))
    have d : decide ((m : Int) > 40) = false := decide_eq_false (by omega)
    obtain ⟨res, hres⟩ : ∃ res, opsF G m 0 = res := ⟨_, rfl⟩
    have hT : opsT m G = res := by unfold opsT; rw [if_neg h40, hres]
    rw [hT] at h2 ⊢
    have HR : Hid (opsF G m 0 = res ∧ res ≠ 0) := ⟨hres, h2⟩
    clear h1 h2 hT hres
    go_enter Tryz.func16, Tryz.ntmps16
    go_wp2_with fail
    refine (specFs_is _ B n F _ (H.out.1.later HB0.out.2) hn).mono ?_
    rintro e w1 ⟨rfl, q1⟩
    rw [HF.out.1]
    have H1 : Hid (FBk w1 w.heap.size ∧ Below w.heap.size w w1) := ⟨HB0.out.1.later q1, HB0.out.2.trans (q1.mono HB0.out.2.size)⟩
    clear q1
    go_wp2
    go_loopw [6] (fun i wr => ∃ k : Nat, k ≤ m ∧ i = .int .i64 k ∧ Hid (opsF G (m - k) k = res ∧ FBk wr w.heap.size ∧ Below w.heap.size w wr)) (fun i _ => m - (intOf i).toNat)
    case atStart => exact ⟨0, Nat.zero_le _, rfl, HR.out.1, H1.out.1, H1.out.2⟩
    case round =>
      obtain ⟨k, hk, rfl, HS⟩ := hrel
      by_cases hlt : k < m
      case neg =>
        exfalso
        have := HS.out.1
        rw [show m - k = 0 by omega] at this
        exact HR.out.2 this.symm
      have HROW := H.out.2.later HS.out.2.2
      obtain ⟨g, o, rfl, _, hg, y0, y1, y2, y3, y4, y5⟩ := HROW.at6 hlt
      obtain ⟨n0, N0⟩ : ∃ x, G (k * 6) = x := ⟨_, rfl⟩
      rw [N0] at y0
      obtain ⟨n1, N1⟩ : ∃ x, G (k * 6 + 1) = x := ⟨_, rfl⟩
      rw [N1] at y1
      obtain ⟨n2, N2⟩ : ∃ x, G (k * 6 + 2) = x := ⟨_, rfl⟩
      rw [N2] at y2
      obtain ⟨n3, N3⟩ : ∃ x, G (k * 6 + 3) = x := ⟨_, rfl⟩
      rw [N3] at y3
      obtain ⟨n4, N4⟩ : ∃ x, G (k * 6 + 4) = x := ⟨_, rfl⟩
      rw [N4] at y4
      obtain ⟨n5, N5⟩ : ∃ x, G (k * 6 + 5) = x := ⟨_, rfl⟩
      rw [N5] at y5
      obtain ⟨f, hf⟩ : ∃ f, opF n0 n1 n2 n3 n4 n5 = f := ⟨_, rfl⟩
      have HFQ : Hid (opF n0 n1 n2 n3 n4 n5 = f) := hf
      have hat : opAt G k = f := by unfold opAt; rw [N0, N1, N2, N3, N4, N5, hf]
      clear N0 N1 N2 N3 N4 N5 hf HROW
      by_cases h0 : f = 0
      · subst h0
        have HON : Hid (opsF G (m - (k + 1)) (k + 1) = res) := by
          have := HS.out.1
          rw [opsF_on (by omega) hat] at this
          rwa [show m - k - 1 = m - (k + 1) by omega] at this
        clear hat
        go_wp2_with fail
        refine (specFsOp_any n0 n1 n2 n3 n4 n5 _).mono ?_
        rintro e w3 ⟨rfl, q3⟩
        rw [HFQ.out]
        have HB2 : Hid (FBk w3 w.heap.size ∧ Below w.heap.size w w3) := ⟨HS.out.2.1.later q3, HS.out.2.2.trans (q3.mono HS.out.2.2.size)⟩
        clear q3 HS
        go_wp2
        go_roundw
        case rel => exact ⟨k + 1, by omega, by go_num, HON.out, HB2.out⟩
        case measure => simp [intOf]; omega
      · have HQ : Hid (res = f) := by
          have := HS.out.1
          rw [opsF_bad (by omega) hat h0] at this
          exact this.symm
        have df : (res != 0) = true := bne_iff_ne.2 (by rw [HQ.out]; exact h0)
        clear hat h0
        go_wp2_with fail
        refine (specFsOp_any n0 n1 n2 n3 n4 n5 _).mono ?_
        rintro e w3 ⟨rfl, q3⟩
        rw [HFQ.out, ← HQ.out]
        have HB2 : Hid (FBk w3 w.heap.size ∧ Below w.heap.size w w3) := ⟨HS.out.2.1.later q3, HS.out.2.2.trans (q3.mono HS.out.2.2.size)⟩
        clear q3 HS
        go_wp2_with (refine wpList_storeF rfl _ _ rfl w.heap.size _ _ _ _ rfl rfl HB2.out.1 (by kernel_rfl) ?_)
        refine bodyPost_ret (v := .agg #[.int .i64 res, .int .i64 0, .int .i64 0, .slice none 0 0]) (results_fs Tryz.results16 _ _ _ _ _ _ _ rfl HB2.out.1) rfl (res_nil _ (below_row HB2.out.2 (by omega) _))
  have HF : Hid (fsF n F = 0 ∧ True) := ⟨h1, trivial⟩
  have hgp := good_of_pairs (fsF_zero h1).1
  have hops := opsT_zero h2
  have HG : Hid (GoodP (listOf F n) ∧ (∀ i, i < m → opAt G i = 0) ∧ runP (listOf F n) G m = (R, v)) := ⟨hgp, hops.2, hp⟩
  have hm40 := hops.1
  have d : decide ((m : Int) > 40) = false := decide_eq_false (by omega)
  have HR : Hid (opsF G m 0 = 0) := by
    have := h2
    unfold opsT at this
    rwa [if_neg (by omega)] at this
  have hn200 : n ≤ 200 := by have := hgp.len; rwa [listOf_length] at this
  clear h1 h2 hp hgp hops
  obtain ⟨res, hres⟩ : ∃ res : Int, res = 0 := ⟨0, rfl⟩
  have HRZ : Hid (res = 0) := hres
  go_enter Tryz.func16, Tryz.ntmps16
  go_wp2_with fail
  refine (specFs_is _ B n F _ (H.out.1.later HB0.out.2) hn).mono ?_
  rintro e w1 ⟨rfl, q1⟩
  rw [HF.out.1]
  have H1 : Hid (FBk w1 w.heap.size ∧ Below w.heap.size w w1) := ⟨HB0.out.1.later q1, HB0.out.2.trans (q1.mono HB0.out.2.size)⟩
  clear q1
  go_wp2
  go_loopw [6] (fun i wr => ∃ k : Nat, k ≤ m ∧ i = .int .i64 k ∧ Hid (opsF G (m - k) k = res ∧ FBk wr w.heap.size ∧ Below w.heap.size w wr)) (fun i _ => m - (intOf i).toNat)
  case atStart => exact ⟨0, Nat.zero_le _, rfl, HR.out.trans hres.symm, H1.out.1, H1.out.2⟩
  case round =>
    obtain ⟨k, hk, rfl, HS⟩ := hrel
    clear hres H1
    by_cases hlt : k < m
    case pos =>
      have HROW := H.out.2.later HS.out.2.2
      obtain ⟨g, o, rfl, _, hg, y0, y1, y2, y3, y4, y5⟩ := HROW.at6 hlt
      obtain ⟨n0, N0⟩ : ∃ x, G (k * 6) = x := ⟨_, rfl⟩
      rw [N0] at y0
      obtain ⟨n1, N1⟩ : ∃ x, G (k * 6 + 1) = x := ⟨_, rfl⟩
      rw [N1] at y1
      obtain ⟨n2, N2⟩ : ∃ x, G (k * 6 + 2) = x := ⟨_, rfl⟩
      rw [N2] at y2
      obtain ⟨n3, N3⟩ : ∃ x, G (k * 6 + 3) = x := ⟨_, rfl⟩
      rw [N3] at y3
      obtain ⟨n4, N4⟩ : ∃ x, G (k * 6 + 4) = x := ⟨_, rfl⟩
      rw [N4] at y4
      obtain ⟨n5, N5⟩ : ∃ x, G (k * 6 + 5) = x := ⟨_, rfl⟩
      rw [N5] at y5
      obtain ⟨f, hf⟩ : ∃ f, opF n0 n1 n2 n3 n4 n5 = f := ⟨_, rfl⟩
      have HFQ : Hid (opF n0 n1 n2 n3 n4 n5 = f) := hf
      have hat : opAt G k = f := by unfold opAt; rw [N0, N1, N2, N3, N4, N5, hf]
      clear N0 N1 N2 N3 N4 N5 hf HROW
      have h0 : f = 0 := by rw [← hat]; exact HG.out.2.1 k hlt
      subst h0
      have HON : Hid (opsF G (m - (k + 1)) (k + 1) = res) := by
        have := HS.out.1
        rw [opsF_on (by omega) hat] at this
        rwa [show m - k - 1 = m - (k + 1) by omega] at this
      clear hat
      go_wp2_with fail
      refine (specFsOp_any n0 n1 n2 n3 n4 n5 _).mono ?_
      rintro e w3 ⟨rfl, q3⟩
      rw [HFQ.out]
      have HB2 : Hid (FBk w3 w.heap.size ∧ Below w.heap.size w w3) := ⟨HS.out.2.1.later q3, HS.out.2.2.trans (q3.mono HS.out.2.2.size)⟩
      clear q3 HS
      go_wp2
      go_roundw
      case rel => exact ⟨k + 1, by omega, by go_num, HON.out, HB2.out⟩
      case measure => simp [intOf]; omega
    obtain rfl : m = k := by omega
    have HB1 : Hid (FBk wr w.heap.size ∧ Below w.heap.size w wr) := HS.out.2
    have HO1 : Hid (OwnM (wr.alloc (.cells #[] 51)) wr.heap.size 51 2 (.slice (some ⟨wr.heap.size, 0, none⟩) 0 0) 0 [] ∧ Row (wr.alloc (.cells #[] 51)) B 2 n F (.slice yo n yc)) := ⟨OwnM.lit0 _ _ _ _ rfl, (H.out.1.later HS.out.2.2).alloc _⟩
    clear HS HR HRZ
    have hlw : w.heap.size < wr.heap.size := HB1.out.1.lt
    go_wp2_with (at_builtin; refine wpList_app 51 i0 (.agg #[.int .i64 0, .int .i64 0]) 2 16 rfl _ _ 26 rfl Tryz.underlying26 hi hz0 hz1 hz2 rfl (by omega) (by omega) _ wr.heap.size 0 [] (.slice (some ⟨wr.heap.size, 0, none⟩) 0 0) rfl HO1.out.1 B n F (.slice yo n yc) rfl HO1.out.2 (by omega) (by simp) ?_; intro uo uc w4 O4 G4; rw [List.nil_append, Nat.zero_add] at O4; rw [Nat.zero_add])
    have hw4 : w.heap.size < w4.heap.size := by have := G4.size; simp only [World.size_alloc] at this; omega
    have HE0 : Hid (RnE w w.heap.size w4.heap.size (runP (listOf F n) G 0).1 0 (.slice uo n uc) (w4.alloc (.cells #[.int .i64 0, .int .i64 0, .int .i64 0, .slice uo n uc] 28))) := by
      have hl : (runP (listOf F n) G 0).1.length = n := listOf_length F n
      have hr4 := OwnM.rowL O4
      have hv : VwO w4 wr.heap.size (runP (listOf F n) G 0).1 (.slice uo n uc) := by
        refine ⟨?_, by rw [hl]; exact hr4.2⟩
        rw [hl]
        exact row_eqP hr4.1 (fun p hp => by rw [nums_getD F hp]; exact (rowL_listOf hp).symm)
      have h8 := hv.later (below_alloc w4 (.cells #[.int .i64 0, .int .i64 0, .int .i64 0, .slice uo n uc] 28))
      have hfb : FBk w4 w.heap.size := (HB1.out.1.alloc (.cells #[] 51)).kept (G4.block _ (by simp; omega) (fun e => by have : w.heap.size = wr.heap.size := Option.some.inj e; omega))
      have hbw : Below w.heap.size w w4 := (HB1.out.2.alloc HB1.out.2.size (.cells #[] 51)).trans ⟨G4.os, G4.tape, G4.output, G4.size, fun k hk => G4.block k (by simp; omega) (fun e => by have : k = wr.heap.size := Option.some.inj e; omega)⟩
      exact ⟨hfb.alloc _, BlkF.new _ _ _ _ _ _, ⟨h8.1.mono (by omega), h8.2⟩, hbw.alloc (Nat.le_of_lt hw4) _, hw4, Nat.le_refl _, fun k hl' hk => by have := (hv.1.lt (by omega) k hk).2; omega⟩
    have HLN : Hid ((runP (listOf F n) G 0).1.length = n) := listOf_length F n
    clear O4 G4 HO1 HB1 hlw
    generalize hb8 : w4.heap.size = b8 at HE0 hw4
    go_wp2
    go_loopw [9] (fun i wr => ∃ (k : Nat) (u : Value), k ≤ m ∧ i = .int .i64 k ∧ Hid (RnE w w.heap.size b8 (runP (listOf F n) G k).1 (runP (listOf F n) G k).2 u wr)) (fun i _ => m - (intOf i).toNat)
    case atStart => exact ⟨0, _, Nat.zero_le _, rfl, HE0.out⟩
    case round =>
      obtain ⟨k, u, hk, rfl, HS⟩ := hrel
      clear HE0
      by_cases hlt : k < m
      case neg =>
        obtain rfl : k = m := by omega
        have HE := HS.out
        rw [HG.out.2.2] at HE
        have HE1 : Hid (RnE w w.heap.size b8 R v u wr) := HE
        obtain ⟨ao, cp, rfl⟩ := HE1.out.2.2.1.1.form
        obtain ⟨⟨c0, c1, c2, c3⟩, _⟩ := HE1.out.2.1
        clear HE HS
        go_wp2_with (refine wpList_storeF rfl _ _ rfl w.heap.size _ _ _ _ rfl rfl HE1.out.1 (by kernel_rfl) ?_)
        exact bodyPost_ret (v := .agg #[.int .i64 0, .int .i64 0, .int .i64 v, .slice ao R.length cp]) (results_fs Tryz.results16 _ _ _ _ _ _ _ rfl HE1.out.1) rfl (res_end HE1.out.2.2.1.1 HE1.out.2.2.1.2 HE1.out.2.2.2.1 (by omega) (Nat.lt_succ_self _) _)
      have HROW := H.out.2.later HS.out.2.2.2.1
      obtain ⟨g, o, rfl, _, hg, y0, y1, y2, y3, y4, y5⟩ := HROW.at6 hlt
      obtain ⟨n0, N0⟩ : ∃ x, G (k * 6) = x := ⟨_, rfl⟩
      rw [N0] at y0
      obtain ⟨n1, N1⟩ : ∃ x, G (k * 6 + 1) = x := ⟨_, rfl⟩
      rw [N1] at y1
      obtain ⟨n2, N2⟩ : ∃ x, G (k * 6 + 2) = x := ⟨_, rfl⟩
      rw [N2] at y2
      obtain ⟨n3, N3⟩ : ∃ x, G (k * 6 + 3) = x := ⟨_, rfl⟩
      rw [N3] at y3
      obtain ⟨n4, N4⟩ : ∃ x, G (k * 6 + 4) = x := ⟨_, rfl⟩
      rw [N4] at y4
      obtain ⟨n5, N5⟩ : ∃ x, G (k * 6 + 5) = x := ⟨_, rfl⟩
      rw [N5] at y5
      have hop : opF n0 n1 n2 n3 n4 n5 = 0 := by have := HG.out.2.1 k hlt; unfold opAt at this; rwa [N0, N1, N2, N3, N4, N5] at this
      obtain ⟨a, ha⟩ : ∃ a, applyP (runP (listOf F n) G k).1 n0 n1 n2 n3 n4 n5 = a := ⟨_, rfl⟩
      obtain ⟨r', v', R'⟩ := a
      have HA : Hid (opF n0 n1 n2 n3 n4 n5 = 0 ∧ applyP (runP (listOf F n) G k).1 n0 n1 n2 n3 n4 n5 = (r', v', R')) := ⟨hop, ha⟩
      have HST : Hid (runP (listOf F n) G (k + 1) = (R', if r' ≠ 0 then (runP (listOf F n) G k).2 + 1 else (runP (listOf F n) G k).2)) := by
        unfold Hid
        rw [runP]
        unfold apAt
        rw [N0, N1, N2, N3, N4, N5, ha]
      have HGk : Hid (GoodP (runP (listOf F n) G k).1) := run_good HG.out.1 (fun i hi => HG.out.2.1 i (by omega))
      have hcnt := run_cnt (listOf F n) G k
      generalize runP (listOf F n) G k = P at HS HA HST HGk hcnt
      obtain ⟨Rk, vk⟩ := P
      simp only at HS HA HST HGk hcnt
      have hrl := HGk.out.len
      obtain ⟨ko, kc, rfl⟩ := HS.out.2.2.1.1.form
      have HOB : Hid (Blk6O wr g (o + k * 6) (.int .i64 n0) (.int .i64 n1) (.int .i64 n2) (.int .i64 n3) (.int .i64 n4) (.int .i64 n5)) := ⟨⟨y0, y1, y2, y3, y4, y5⟩, trivial⟩
      have hob := op_bounds hop
      have HOBD : Hid ((0 ≤ n1 ∧ n1 ≤ 9) ∧ (0 ≤ n2 ∧ n2 ≤ 5) ∧ (0 ≤ n3 ∧ n3 ≤ 9) ∧ (0 ≤ n4 ∧ n4 ≤ 5)) := hob.2
      have hvk : 0 ≤ vk ∧ vk ≤ 100 := by omega
      clear N0 N1 N2 N3 N4 N5 hop ha hob y0 y1 y2 y3 y4 y5
      go_upto_region 16 with fail
      go_cut [10] (fun s wx => ∃ bx ao cp, s = .pointer (some ⟨bx, 0, none⟩) ∧ Hid (RnX w w.heap.size b8 Rk R' vk r' v' (.slice ko Rk.length kc) bx (.slice ao R'.length cp) wx))
      case first =>
        refine wp_region_held_drew (S := fun X => X.cell? ⟨b8, 3, none⟩ = some (.slice ko Rk.length kc)) (by kernel_rfl) HS.out.2.1.1.2.2.2 (fun hS => ?_)
        have HS1 : Hid (RnE w w.heap.size b8 Rk vk (.slice ko Rk.length kc) wr.drew ∧ Blk6O wr.drew g (o + k * 6) (.int .i64 n0) (.int .i64 n1) (.int .i64 n2) (.int .i64 n3) (.int .i64 n4) (.int .i64 n5)) := ⟨HS.out.later (below_drewA _), HOB.out.later (below_drewA _)⟩
        clear HS HOB HROW
        generalize wr.drew = z0 at hS HS1 ⊢
        refine tkH 0 ?_ hS (fun wx hx => ?_) ?_; rotate_left
        · go_simp; try with_reducible rfl
        refine tkH 1 ?_ hS (fun wx hx => ?_) ?_; rotate_left
        · go_simp; try with_reducible rfl
        refine tkH 2 ?_ hS (fun wx hx => ?_) ?_; rotate_left
        · go_simp; try with_reducible rfl
        refine tkH 3 ?_ hS (fun wx hx => ?_) ?_; rotate_left
        · go_simp; try with_reducible rfl
        refine tkH 4 ?_ hS (fun wx hx => ?_) ?_; rotate_left
        · go_simp; try with_reducible rfl
        refine wpAnyH_ready (rs := [5, 6]) (by kernel_rfl) (by simp) ?_
        refine AllReadyH.cons rfl (fun K hK => ?_) (AllReadyH.cons rfl (fun K hK => ?_) AllReadyH.nil)
        · go_simp
          go_wp2_with fail
          refine (l14Apply_is Rk _ g (o + k * 6) n0 n1 n2 n3 n4 n5 _ ⟨⟨HS1.out.1.2.2.1.1.mono (Nat.zero_le _), by omega⟩, HS1.out.2, HGk.out.vals, HOBD.out⟩ HA.out.1 HGk.out r' v' R' HA.out.2).mono ?_
          rintro e z1 ⟨ao, cp, rfl, hrow, hfree, q⟩
          have HY : Hid (RnE w w.heap.size b8 Rk vk (.slice ko Rk.length kc) z1 ∧ VwO z1 (b8 + 1) R' (.slice ao R'.length cp)) := ⟨HS1.out.1.later q, ⟨hrow.mono (by have := HS1.out.1.2.1.lt; omega), hfree⟩⟩
          have hS1 : z1.cell? ⟨b8, 3, none⟩ = some (.slice ko Rk.length kc) := HY.out.1.2.1.1.2.2.2
          clear hrow hfree q hS HS1
          go_wp2_with fail
          refine hK.out _ _ hS1 (fun hS => ?_)
          clear hK K
          clear hS1
          refine rdH 6 (fun K hK => ?_)
          go_simp
          have HX : Hid (RnY w w.heap.size b8 Rk R' vk (.slice ko Rk.length kc) z1.heap.size (.slice ao R'.length cp) (z1.alloc zeroFs)) := ⟨HY.out.1.later (below_alloc _ _), HY.out.2.later (below_alloc _ _), FBk.new _ _ _ _ _, HY.out.1.2.1.lt, fun k hl hk => by have := (HY.out.1.2.2.1.1.lt (by omega) k hk).2; omega, fun k hl hk => by have := (HY.out.2.1.lt (by omega) k hk).2; omega⟩
          have hS2 : (z1.alloc zeroFs).cell? ⟨b8, 3, none⟩ = some (.slice ko Rk.length kc) := HX.out.1.2.1.1.2.2.2
          clear hS HY
          refine hK.out _ _ hS2 (fun hS => ?_)
          clear hK K
          clear hS2
          generalize hbx : z1.heap.size = bx at HX
          generalize z1.alloc zeroFs = X5 at HX hS ⊢
          refine rdH 7 (fun K hK => ?_)
          refine step_storeF rfl _ _ rfl (bx) _ _ _ _ rfl rfl HX.out.2.2.1 (by kernel_rfl) ?_
          have HXX : Hid (RnX w w.heap.size b8 Rk R' vk r' v' (.slice ko Rk.length kc) (bx) (.slice ao R'.length cp) (X5.setRow (bx) #[.int .i64 0, .int .i64 r', .int .i64 v', .slice ao R'.length cp])) := ⟨HX.out.1.row HX.out.2.2.2.1 HX.out.2.2.2.2.1, HX.out.2.1.row HX.out.2.2.2.2.2, HX.out.2.2.1.blk _ _ _ _, HX.out.2.2.2.1⟩
          have hS9 : (X5.setRow (bx) #[.int .i64 0, .int .i64 r', .int .i64 v', .slice ao R'.length cp]).cell? ⟨b8, 3, none⟩ = some (.slice ko Rk.length kc) := HXX.out.1.2.1.1.2.2.2
          clear hS
          refine hK.out _ _ hS9 (fun hS => ?_)
          clear hK K
          clear hS9
          refine wpAnyH_done (by kernel_rfl) ?_ _
          go_simp
          go_wp2_with fail
          go_meet
          case rel => exact ⟨_, ao, cp, rfl, HXX⟩
        · go_simp
          have HX0 : Hid (RnE w w.heap.size b8 Rk vk (.slice ko Rk.length kc) (z0.alloc zeroFs) ∧ Blk6O (z0.alloc zeroFs) g (o + k * 6) (.int .i64 n0) (.int .i64 n1) (.int .i64 n2) (.int .i64 n3) (.int .i64 n4) (.int .i64 n5) ∧ FBk (z0.alloc zeroFs) z0.heap.size ∧ b8 < z0.heap.size ∧ (∀ k, 0 < Rk.length → (Value.slice ko Rk.length kc).ownBlock = some k → k ≠ z0.heap.size)) := ⟨HS1.out.1.later (below_alloc _ _), HS1.out.2.later (below_alloc _ _), FBk.new _ _ _ _ _, HS1.out.1.2.1.lt, fun k hl hk => by have := (HS1.out.1.2.2.1.1.lt (by omega) k hk).2; omega⟩
          have hS2 : (z0.alloc zeroFs).cell? ⟨b8, 3, none⟩ = some (.slice ko Rk.length kc) := HX0.out.1.2.1.1.2.2.2
          clear hS HS1
          refine hK.out _ _ hS2 (fun hS => ?_)
          clear hK K
          clear hS2
          generalize hbx : z0.heap.size = bx at HX0
          generalize z0.alloc zeroFs = X5 at HX0 hS ⊢
          refine rdH 5 (fun K hK => ?_)
          go_simp
          go_wp2_with fail
          refine (l14Apply_is Rk _ g (o + k * 6) n0 n1 n2 n3 n4 n5 _ ⟨⟨HX0.out.1.2.2.1.1.mono (Nat.zero_le _), by omega⟩, HX0.out.2.1, HGk.out.vals, HOBD.out⟩ HA.out.1 HGk.out r' v' R' HA.out.2).mono ?_
          rintro e z1 ⟨ao, cp, rfl, hrow, hfree, q⟩
          have HX : Hid (RnY w w.heap.size b8 Rk R' vk (.slice ko Rk.length kc) bx (.slice ao R'.length cp) z1) := ⟨HX0.out.1.later q, ⟨hrow.mono (by have := HX0.out.1.2.1.lt; omega), hfree⟩, HX0.out.2.2.1.later q, HX0.out.2.2.2.1, HX0.out.2.2.2.2, fun k hl hk => by have := (hrow.lt (by omega) k hk).1; have := HX0.out.2.2.1.lt; omega⟩
          have hS1 : z1.cell? ⟨b8, 3, none⟩ = some (.slice ko Rk.length kc) := HX.out.1.2.1.1.2.2.2
          clear hrow hfree q hS HX0
          go_wp2_with fail
          refine hK.out _ _ hS1 (fun hS => ?_)
          clear hK K
          clear hS1
          refine rdH 7 (fun K hK => ?_)
          refine step_storeF rfl _ _ rfl (bx) _ _ _ _ rfl rfl HX.out.2.2.1 (by kernel_rfl) ?_
          have HXX : Hid (RnX w w.heap.size b8 Rk R' vk r' v' (.slice ko Rk.length kc) (bx) (.slice ao R'.length cp) (z1.setRow (bx) #[.int .i64 0, .int .i64 r', .int .i64 v', .slice ao R'.length cp])) := ⟨HX.out.1.row HX.out.2.2.2.1 HX.out.2.2.2.2.1, HX.out.2.1.row HX.out.2.2.2.2.2, HX.out.2.2.1.blk _ _ _ _, HX.out.2.2.2.1⟩
          have hS9 : (z1.setRow (bx) #[.int .i64 0, .int .i64 r', .int .i64 v', .slice ao R'.length cp]).cell? ⟨b8, 3, none⟩ = some (.slice ko Rk.length kc) := HXX.out.1.2.1.1.2.2.2
          clear hS
          refine hK.out _ _ hS9 (fun hS => ?_)
          clear hK K
          clear hS9
          refine wpAnyH_done (by kernel_rfl) ?_ _
          go_simp
          go_wp2_with fail
          go_meet
          case rel => exact ⟨_, ao, cp, rfl, HXX⟩
      case rest =>
      obtain ⟨bx, ao, cp, rfl, HS2⟩ := hcut
      clear HS HOB HROW
      obtain ⟨⟨c0, c1, c2, c3⟩, f0, f1, f2, f3⟩ := HS2.out.1.2.1
      obtain ⟨⟨d0, d1, d2, d3⟩, _⟩ := HS2.out.2.2.1
      have HS3 : Hid (RnE w w.heap.size b8 R' vk (.slice ao R'.length cp) (wc.setCell ⟨b8, 3, none⟩ (.slice ao R'.length cp))) := HS2.out.1.view HS2.out.2.1
      have hne : b8 < bx := HS2.out.2.2.2
      have hbt : BlkF (wc.setCell ⟨b8, 3, none⟩ (.slice ao R'.length cp)) bx (.int .i64 0) (.int .i64 r') (.int .i64 v') (.slice ao R'.length cp) := HS2.out.2.2.1.kept (Below.heap_setCell wc ⟨b8, 3, none⟩ _ _ (by simp; omega))
      obtain ⟨⟨t0, t1, t2, t3⟩, _⟩ := hbt
      obtain ⟨⟨s0, s1, s2, s3⟩, k0, k1, k2, k3⟩ := HS3.out.2.1
      have hlx : b8 < wc.heap.size := HS2.out.1.2.1.lt
      have hlx4 : bx < wc.heap.size := HS2.out.2.2.1.lt
      by_cases hr : r' = 0
      · have dr : (r' != 0) = false := by simp [hr]
        have HS4 : Hid (RnE w w.heap.size b8 (runP (listOf F n) G (k + 1)).1 (runP (listOf F n) G (k + 1)).2 (.slice ao R'.length cp) (wc.setCell ⟨b8, 3, none⟩ (.slice ao R'.length cp))) := by
          unfold Hid
          rw [HST.out, if_neg (fun q => q hr)]
          exact HS3.out
        clear hr HS2 HS3
        go_wp2
        go_roundw
        case rel => exact ⟨k + 1, .slice ao R'.length cp, by omega, by go_num, HS4.out⟩
        case measure => simp [intOf]; omega
      · have dr : (r' != 0) = true := bne_iff_ne.2 hr
        have HS4 : Hid (RnE w w.heap.size b8 (runP (listOf F n) G (k + 1)).1 (runP (listOf F n) G (k + 1)).2 (.slice ao R'.length cp) ((wc.setCell ⟨b8, 3, none⟩ (.slice ao R'.length cp)).setCell ⟨b8, 2, none⟩ (.int .i64 (vk + 1)))) := by
          unfold Hid
          rw [HST.out, if_pos hr]
          exact HS3.out.count (vk + 1)
        clear hr HS2 HS3
        go_wp2
        go_roundw
        case rel => exact ⟨k + 1, .slice ao R'.length cp, by omega, by go_num, HS4.out⟩
        case measure => simp [intOf]; omega
end Go.Proofs.YtokaoiiibakkoaaGreat

namespace Go.Proofs.YtokaoiiibakkoaaGreat
open Go.RowKit

def ResQ (w : World) (c v : Int) (m : Nat) (G : Nat → Int) (e : Ending) (w' : World) : Prop := ∃ ao cp, e = .returned (.agg #[.int .i64 c, .int .i64 0, .int .i64 v, .slice ao m cp]) ∧ Row w' w.heap.size 2 m G (.slice ao m cp) ∧ Free w' (m * 2) (.slice ao m cp) ∧ Below w.heap.size w w'
/-- What the model answered (block W) and what the program answered (block G); nothing old has turned. -/
def EnvQ (w : World) (W : Nat) (c rv : Int) (vw : Value) (G : Nat) (vg : Value) (x : World) : Prop := Below w.heap.size w x ∧ BlkF x W (.int .i64 c) (.int .i64 0) (.int .i64 rv) vw ∧ BlkF x G (.int .i64 c) (.int .i64 0) (.int .i64 rv) vg
theorem EnvQ.later {w x x' : World} {W G : Nat} {c rv : Int} {vw vg : Value} (h : EnvQ w W c rv vw G vg x) (hb : Below x.heap.size x x') : EnvQ w W c rv vw G vg x' := ⟨h.1.trans (hb.mono h.1.size), h.2.1.later hb, h.2.2.later hb⟩
theorem BlkF.insideP {x x' : World} {b B E : Nat} {a0 a1 a2 a3 : Value} (h : BlkF x b a0 a1 a2 a3) (hw : Within B E x x') (ho : b < B ∨ E ≤ b) : BlkF x' b a0 a1 a2 a3 := h.kept (hw.block b h.lt ho)
theorem EnvQ.within {w x x' : World} {W G B E : Nat} {c rv : Int} {vw vg : Value} (h : EnvQ w W c rv vw G vg x) (hw : Within B E x x') (hL : w.heap.size ≤ B) (hW : W < B ∨ E ≤ W) (hG : G < B ∨ E ≤ G) : EnvQ w W c rv vw G vg x' :=
  ⟨hw.below h.1 hL, h.2.1.insideP hw hW, h.2.2.insideP hw hG⟩
set_option maxRecDepth 100000 in
set_option maxHeartbeats 4000000 in
theorem runFs_walk (v y : Value) (n ni : Nat) (F Fi : Nat → Int) (w : World) (h : Row w 0 2 n F v) (h' : Row w 0 6 ni Fi y) (hn : n ≤ 9223372036854775807) (hni : ni ≤ 9223372036854775807) :
    Calls Tryz.prog 4 #[v, y] w fun e w' => e = .returned (.bool true) ∧ Below w.heap.size w w' := by
  obtain ⟨ao, cp, rfl⟩ := h.form
  obtain ⟨bo, bp, rfl⟩ := h'.form
  have H : Hid (Row w 0 2 n F (.slice ao n cp)) := h
  have HJ : Hid (Row w 0 6 ni Fi (.slice bo ni bp)) := h'
  clear h h'
  by_cases hs : (1048576 : Int) < n
  · go_enter Tryz.func4, Tryz.ntmps4
    go_wp2_with fail
    refine (szPairS_no _ _ _ _ _ hs (by omega) (by omega) hn).mono ?_
    rintro e w1 ⟨rfl, rfl⟩
    go_wp2
    go_ret
    exact ⟨rfl, Below.refl _ _⟩
  have hb : n ≤ 1048576 := by omega
  have dz : decide ((1048576 : Int) - n < 0) = false := decide_eq_false (by omega)
  by_cases hs2 : (1048576 : Int) - n < ni
  · go_enter Tryz.func4, Tryz.ntmps4
    go_wp2_with fail
    refine (szPairS_ok _ _ _ _ _ (by omega) (by omega)).mono ?_
    rintro e w1 ⟨rfl, hw1⟩
    obtain rfl := hw1.symm
    clear hw1
    go_wp2_with fail
    refine (szFsOpS_no _ _ _ _ _ hs2 (by omega) (by omega) hni).mono ?_
    rintro e w1 ⟨rfl, rfl⟩
    go_wp2
    go_ret
    exact ⟨rfl, Below.refl _ _⟩
  have hbi : ni ≤ 1048576 := by omega
  have dz2 : decide ((1048576 : Int) - n - ni < 0) = false := decide_eq_false (by omega)
  have dk : decide ((1 : Int) + n * 2 + ni * 6 < 0) = false := decide_eq_false (by omega)
  obtain ⟨c, rv, RL, hans, hm0⟩ := RunAns.get n F ni Fi
  have hm : RL.length ≤ 1048576 := by omega
  clear hm0
  obtain ⟨G, hG⟩ : ∃ G, rowL RL = G := ⟨_, rfl⟩
  obtain ⟨m, hmm⟩ : ∃ m, RL.length = m := ⟨_, rfl⟩
  rw [hmm] at hm
  have HS : Hid (∀ yo yc zo zc x, Row x 0 2 n F (.slice yo n yc) → Row x 0 6 ni Fi (.slice zo ni zc) → Calls Tryz.prog 16 #[.slice yo n yc, .slice zo ni zc] x (ResQ x c rv m G)) := fun yo yc zo zc x q1 q2 => by rw [← hG, ← hmm]; exact specRunFs_is _ _ 0 0 n ni F Fi c rv RL x q1 q2 hb hbi hans
  have HI : Hid (∀ yo yc zo zc x, Row x 0 2 n F (.slice yo n yc) → Row x 0 6 ni Fi (.slice zo ni zc) → Calls Tryz.prog 18 #[.slice yo n yc, .slice zo ni zc] x (ResQ x c rv m G)) := fun yo yc zo zc x q1 q2 => by rw [← hG, ← hmm]; exact implRunFs_is _ _ 0 0 n ni F Fi c rv RL x q1 q2 hb hbi hans
  clear hans hG hmm
  have hnn : decide ((1 : Int) + m * 2 < 0) = false := decide_eq_false (by omega)
  go_enter Tryz.func4, Tryz.ntmps4
  go_wp2_with fail
  refine (szPairS_ok _ _ _ _ _ (by omega) (by omega)).mono ?_
  rintro e w1 ⟨rfl, hw1⟩
  obtain rfl := hw1.symm
  clear hw1
  go_wp2_with fail
  refine (szFsOpS_ok _ _ _ _ _ (by omega) (by omega)).mono ?_
  rintro e w1 ⟨rfl, hw1⟩
  obtain rfl := hw1.symm
  clear hw1 hs hs2 hn hni
  go_wp2_with fail
  refine (toPairS_cap _ 0 n F _ H.out hb).mono ?_
  rintro e w2a ⟨u2, rfl, r2, _, q2⟩
  have Q2a : Hid (Below w.heap.size w w2a) := q2
  have R2a : Hid (Row w2a 0 2 n F (.slice u2 n n)) := r2.mono (Nat.zero_le _)
  clear r2 q2
  go_wp2_with fail
  refine (toFsOpS_cap _ 0 ni Fi _ (HJ.out.later Q2a.out) hbi).mono ?_
  rintro e w2 ⟨u2i, rfl, r2, _, q2⟩
  have Q2 : Hid (Below w.heap.size w w2) := Q2a.out.trans (q2.mono Q2a.out.size)
  have R2 : Hid (Row w2 0 2 n F (.slice u2 n n) ∧ Row w2 0 6 ni Fi (.slice u2i ni ni)) := ⟨R2a.out.later q2, r2.mono (Nat.zero_le _)⟩
  clear r2 q2 R2a Q2a
  go_wp2_with fail
  refine (HS.out _ _ _ _ _ R2.out.1 R2.out.2).mono ?_
  rintro e w3 ⟨ow, pw, rfl, rw3, _, q3⟩
  have Q3 : Hid (Below w.heap.size w w3) := Q2.out.trans (q3.mono Q2.out.size)
  have P3 : Hid ((Below w.heap.size w (w3.alloc (.cells #[.int .i64 c, .int .i64 0, .int .i64 rv, .slice ow m pw] 28)) ∧ BlkF (w3.alloc (.cells #[.int .i64 c, .int .i64 0, .int .i64 rv, .slice ow m pw] 28)) w3.heap.size (.int .i64 c) (.int .i64 0) (.int .i64 rv) (.slice ow m pw)) ∧ Row (w3.alloc (.cells #[.int .i64 c, .int .i64 0, .int .i64 rv, .slice ow m pw] 28)) w.heap.size 2 m G (.slice ow m pw)) := ⟨⟨Q3.out.alloc Q3.out.size _, BlkF.new w3 _ _ _ _ _⟩, (rw3.mono Q2.out.size).alloc _⟩
  have LW : Hid (0 < m → ∀ k, (Value.slice ow m pw).ownBlock = some k → k < w3.heap.size) := fun h0 k hk => (rw3.lt h0 k hk).2
  have z3 : Hid (w.heap.size ≤ w3.heap.size) := Q3.out.size
  clear q3 Q2 R2 rw3 Q3
  go_wp2_with fail
  refine (toPairS_cap _ 0 n F _ (H.out.later P3.out.1.1) hb).mono ?_
  rintro e w4 ⟨uo4, rfl, r4, f4, q4⟩
  obtain ⟨u4, hu4⟩ : ∃ u, u = Value.slice uo4 n n := ⟨_, rfl⟩
  have HU4 : Hid (u4 = Value.slice uo4 n n) := hu4
  rw [← hu4] at r4 f4 ⊢
  clear hu4
  have P4 : Hid ((Below w.heap.size w w4 ∧ BlkF w4 w3.heap.size (.int .i64 c) (.int .i64 0) (.int .i64 rv) (.slice ow m pw)) ∧ Row w4 w.heap.size 2 m G (.slice ow m pw)) := ⟨⟨P3.out.1.1.trans (q4.mono P3.out.1.1.size), P3.out.1.2.later q4⟩, P3.out.2.later q4⟩
  have z4 : Hid (w3.heap.size + 1 ≤ w4.heap.size) := by have := q4.size; simp at this; unfold Hid; omega
  have R4 : Hid (Row w4 (w3.heap.size + 1) 2 n F u4 ∧ Free w4 (n * 2) u4) := ⟨by rw [World.size_alloc] at r4; exact r4, f4⟩
  have L4 : Hid (0 < n → ∀ k, u4.ownBlock = some k → w3.heap.size + 1 ≤ k ∧ k < w4.heap.size) := fun h0 k hk => R4.out.1.lt h0 k hk
  clear r4 f4 q4 P3
  go_wp2_with fail
  refine (toFsOpS_cap _ 0 ni Fi _ (HJ.out.later P4.out.1.1) hbi).mono ?_
  rintro e wB ⟨uoB, rfl, rB, fB, qB⟩
  obtain ⟨uB, huB⟩ : ∃ u, u = Value.slice uoB ni ni := ⟨_, rfl⟩
  have HUB : Hid (uB = Value.slice uoB ni ni) := huB
  rw [← huB] at rB fB ⊢
  clear huB
  have PB : Hid ((Below w.heap.size w wB ∧ BlkF wB w3.heap.size (.int .i64 c) (.int .i64 0) (.int .i64 rv) (.slice ow m pw)) ∧ Row wB w.heap.size 2 m G (.slice ow m pw)) := ⟨⟨P4.out.1.1.trans (qB.mono P4.out.1.1.size), P4.out.1.2.later qB⟩, P4.out.2.later qB⟩
  have zB : Hid (w4.heap.size ≤ wB.heap.size) := qB.size
  have RB : Hid ((Row wB (w3.heap.size + 1) 2 n F u4 ∧ Free wB (n * 2) u4) ∧ Row wB w4.heap.size 6 ni Fi uB ∧ Free wB (ni * 6) uB) := ⟨⟨R4.out.1.later qB, R4.out.2.ofRow R4.out.1 qB⟩, rB, fB⟩
  have LB : Hid (0 < ni → ∀ k, uB.ownBlock = some k → w4.heap.size ≤ k ∧ k < wB.heap.size) := fun h0 k hk => RB.out.2.1.lt h0 k hk
  clear rB fB qB P4 R4
  go_wp2_with fail
  have HI4 : Calls Tryz.prog 18 #[u4, uB] wB (ResQ wB c rv m G) := by
    have := HI.out uo4 n uoB ni wB (by rw [← HU4.out]; exact RB.out.1.1.mono (Nat.zero_le _)) (by rw [← HUB.out]; exact RB.out.2.1.mono (Nat.zero_le _))
    rwa [← HU4.out, ← HUB.out] at this
  refine HI4.mono ?_
  clear HI4 HU4 HUB
  rintro e w5 ⟨og, pg, rfl, rg5, fg5, q5⟩
  have z5 : Hid (wB.heap.size ≤ w5.heap.size) := q5.size
  have Q6 : Hid (EnvQ w w3.heap.size c rv (.slice ow m pw) w5.heap.size (.slice og m pg) (w5.alloc (.cells #[.int .i64 c, .int .i64 0, .int .i64 rv, .slice og m pg] 28))) := ⟨(PB.out.1.1.trans (q5.mono PB.out.1.1.size)).alloc (Nat.le_trans PB.out.1.1.size q5.size) _, (PB.out.1.2.later q5).alloc _, BlkF.new w5 _ _ _ _ _⟩
  have R6 : Hid (Row (w5.alloc (.cells #[.int .i64 c, .int .i64 0, .int .i64 rv, .slice og m pg] 28)) w.heap.size 2 m G (.slice ow m pw)) := (PB.out.2.later q5).alloc _
  have G6 : Hid (Row (w5.alloc (.cells #[.int .i64 c, .int .i64 0, .int .i64 rv, .slice og m pg] 28)) wB.heap.size 2 m G (.slice og m pg) ∧ Free (w5.alloc (.cells #[.int .i64 c, .int .i64 0, .int .i64 rv, .slice og m pg] 28)) (m * 2) (.slice og m pg)) := ⟨rg5.alloc _, fg5.ofRow rg5 (below_alloc _ _)⟩
  have LG : Hid (0 < m → ∀ k, (Value.slice og m pg).ownBlock = some k → wB.heap.size ≤ k ∧ k < w5.heap.size) := fun h0 k hk => rg5.lt h0 k hk
  have S6 : Hid ((Row (w5.alloc (.cells #[.int .i64 c, .int .i64 0, .int .i64 rv, .slice og m pg] 28)) (w3.heap.size + 1) 2 n F u4 ∧ Free (w5.alloc (.cells #[.int .i64 c, .int .i64 0, .int .i64 rv, .slice og m pg] 28)) (n * 2) u4) ∧ Row (w5.alloc (.cells #[.int .i64 c, .int .i64 0, .int .i64 rv, .slice og m pg] 28)) w4.heap.size 6 ni Fi uB ∧ Free (w5.alloc (.cells #[.int .i64 c, .int .i64 0, .int .i64 rv, .slice og m pg] 28)) (ni * 6) uB) := ⟨⟨(RB.out.1.1.later q5).alloc _, (RB.out.1.2.ofRow RB.out.1.1 q5).ofRow (RB.out.1.1.later q5) (below_alloc _ _)⟩, (RB.out.2.1.later q5).alloc _, (RB.out.2.2.ofRow RB.out.2.1 q5).ofRow (RB.out.2.1.later q5) (below_alloc _ _)⟩
  obtain ⟨⟨t0, t1, t2, t3⟩, _⟩ := PB.out.1.2.later q5
  have hl := (PB.out.1.2.later q5).lt
  clear q5 rg5 fg5 PB RB
  go_wp2_with fail
  refine (eqFsResult_same c 0 rv m _ _ _ _ _ _ G _ G6.out.1 R6.out hm).mono ?_
  rintro e w6 ⟨rfl, q6⟩
  have Q : Hid (EnvQ w w3.heap.size c rv (.slice ow m pw) w5.heap.size (.slice og m pg) w6) := Q6.out.later q6
  have RR : Hid (Row w6 w.heap.size 2 m G (.slice ow m pw)) := R6.out.later q6
  have GG : Hid (Row w6 wB.heap.size 2 m G (.slice og m pg) ∧ Free w6 (m * 2) (.slice og m pg)) := ⟨G6.out.1.later q6, G6.out.2.ofRow G6.out.1 q6⟩
  have SS : Hid ((Row w6 (w3.heap.size + 1) 2 n F u4 ∧ Free w6 (n * 2) u4) ∧ Row w6 w4.heap.size 6 ni Fi uB ∧ Free w6 (ni * 6) uB) := ⟨⟨S6.out.1.1.later q6, S6.out.1.2.ofRow S6.out.1.1 q6⟩, S6.out.2.1.later q6, S6.out.2.2.ofRow S6.out.2.1 q6⟩
  clear q6 Q6 R6 G6 S6 t0 t1 t2 t3 hl
  go_wp2_with fail
  refine (toPairS_any _ 0 n F _ (H.out.later Q.out.1) hb).mono ?_
  rintro e w7 ⟨u7, rfl, r7, _, q7⟩
  have Q7 : Hid (EnvQ w w3.heap.size c rv (.slice ow m pw) w5.heap.size (.slice og m pg) w7) := Q.out.later q7
  have RR7 : Hid (Row w7 w.heap.size 2 m G (.slice ow m pw)) := RR.out.later q7
  have GG7 : Hid (Row w7 wB.heap.size 2 m G (.slice og m pg) ∧ Free w7 (m * 2) (.slice og m pg)) := ⟨GG.out.1.later q7, GG.out.2.ofRow GG.out.1 q7⟩
  have SS7 : Hid (((Row w7 (w3.heap.size + 1) 2 n F u4 ∧ Free w7 (n * 2) u4) ∧ Row w7 w4.heap.size 6 ni Fi uB ∧ Free w7 (ni * 6) uB) ∧ Row w7 0 2 n F u7) := ⟨⟨⟨SS.out.1.1.later q7, SS.out.1.2.ofRow SS.out.1.1 q7⟩, SS.out.2.1.later q7, SS.out.2.2.ofRow SS.out.2.1 q7⟩, r7.mono (Nat.zero_le _)⟩
  clear r7 q7 Q RR GG SS
  go_wp2_with fail
  refine (eqPairS_same _ _ _ 0 n F _ SS7.out.1.1.1 SS7.out.2 hb).mono ?_
  rintro e w8a ⟨rfl, q8⟩
  have Q8a : Hid (EnvQ w w3.heap.size c rv (.slice ow m pw) w5.heap.size (.slice og m pg) w8a) := Q7.out.later q8
  have RR8a : Hid (Row w8a w.heap.size 2 m G (.slice ow m pw)) := RR7.out.later q8
  have GG8a : Hid (Row w8a wB.heap.size 2 m G (.slice og m pg) ∧ Free w8a (m * 2) (.slice og m pg)) := ⟨GG7.out.1.later q8, GG7.out.2.ofRow GG7.out.1 q8⟩
  have SS8a : Hid ((Row w8a (w3.heap.size + 1) 2 n F u4 ∧ Free w8a (n * 2) u4) ∧ Row w8a w4.heap.size 6 ni Fi uB ∧ Free w8a (ni * 6) uB) := ⟨⟨SS7.out.1.1.1.later q8, SS7.out.1.1.2.ofRow SS7.out.1.1.1 q8⟩, SS7.out.1.2.1.later q8, SS7.out.1.2.2.ofRow SS7.out.1.2.1 q8⟩
  clear q8 Q7 RR7 GG7 SS7
  go_wp2_with fail
  refine (toFsOpS_any _ 0 ni Fi _ (HJ.out.later Q8a.out.1) hbi).mono ?_
  rintro e w7b ⟨u7, rfl, r7, _, q7⟩
  have Q7 : Hid (EnvQ w w3.heap.size c rv (.slice ow m pw) w5.heap.size (.slice og m pg) w7b) := Q8a.out.later q7
  have RR7 : Hid (Row w7b w.heap.size 2 m G (.slice ow m pw)) := RR8a.out.later q7
  have GG7 : Hid (Row w7b wB.heap.size 2 m G (.slice og m pg) ∧ Free w7b (m * 2) (.slice og m pg)) := ⟨GG8a.out.1.later q7, GG8a.out.2.ofRow GG8a.out.1 q7⟩
  have SS7 : Hid (((Row w7b (w3.heap.size + 1) 2 n F u4 ∧ Free w7b (n * 2) u4) ∧ Row w7b w4.heap.size 6 ni Fi uB ∧ Free w7b (ni * 6) uB) ∧ Row w7b 0 6 ni Fi u7) := ⟨⟨⟨SS8a.out.1.1.later q7, SS8a.out.1.2.ofRow SS8a.out.1.1 q7⟩, SS8a.out.2.1.later q7, SS8a.out.2.2.ofRow SS8a.out.2.1 q7⟩, r7.mono (Nat.zero_le _)⟩
  clear r7 q7 Q8a RR8a GG8a SS8a
  go_wp2_with fail
  refine (eqFsOpS_same _ _ _ 0 ni Fi _ SS7.out.1.2.1 SS7.out.2 hbi).mono ?_
  rintro e w8 ⟨rfl, q8⟩
  have Q8 : Hid (EnvQ w w3.heap.size c rv (.slice ow m pw) w5.heap.size (.slice og m pg) w8) := Q7.out.later q8
  have RR8 : Hid (Row w8 w.heap.size 2 m G (.slice ow m pw)) := RR7.out.later q8
  have GG8 : Hid (Row w8 wB.heap.size 2 m G (.slice og m pg) ∧ Free w8 (m * 2) (.slice og m pg)) := ⟨GG7.out.1.later q8, GG7.out.2.ofRow GG7.out.1 q8⟩
  have SS8 : Hid ((Row w8 (w3.heap.size + 1) 2 n F u4 ∧ Free w8 (n * 2) u4) ∧ Row w8 w4.heap.size 6 ni Fi uB ∧ Free w8 (ni * 6) uB) := ⟨⟨SS7.out.1.1.1.later q8, SS7.out.1.1.2.ofRow SS7.out.1.1.1 q8⟩, SS7.out.1.2.1.later q8, SS7.out.1.2.2.ofRow SS7.out.1.2.1 q8⟩
  clear q8 Q7 RR7 GG7 SS7
  go_wp2_with fail
  refine (markPairS_turn _ _ n F 1 _ SS8.out.1.1 SS8.out.1.2 hb (by omega) (by omega)).mono ?_
  rintro e w9a ⟨rfl, _, _, g9⟩
  have W9 : Within (w3.heap.size + 1) w4.heap.size w8 w9a := Within.of g9 (turn_off L4.out)
  have Q9a : Hid (EnvQ w w3.heap.size c rv (.slice ow m pw) w5.heap.size (.slice og m pg) w9a) := Q8.out.within W9 (by have := z3.out; omega) (Or.inl (by omega)) (Or.inr (by have := z5.out; have := zB.out; omega))
  have RR9a : Hid (Row w9a w.heap.size 2 m G (.slice ow m pw)) := RR8.out.within W9 (fun h0 k hk => Or.inl (by have := LW.out h0 k hk; omega))
  have GG9a : Hid (Row w9a wB.heap.size 2 m G (.slice og m pg) ∧ Free w9a (m * 2) (.slice og m pg)) := ⟨GG8.out.1.within W9 (fun h0 k hk => Or.inr (by have := (LG.out h0 k hk).1; have := zB.out; omega)), GG8.out.2.within GG8.out.1 W9 (fun h0 k hk => Or.inr (by have := (LG.out h0 k hk).1; have := zB.out; omega))⟩
  have SS9a : Hid (Row w9a w4.heap.size 6 ni Fi uB ∧ Free w9a (ni * 6) uB) := ⟨SS8.out.2.1.within W9 (fun h0 k hk => Or.inr (LB.out h0 k hk).1), SS8.out.2.2.within SS8.out.2.1 W9 (fun h0 k hk => Or.inr (LB.out h0 k hk).1)⟩
  clear W9 g9 Q8 RR8 GG8 SS8
  go_wp2_with fail
  refine (markFsOpS_turn _ _ ni Fi (1 + n * 2) _ SS9a.out.1 SS9a.out.2 hbi (by omega) (by omega)).mono ?_
  rintro e w9 ⟨rfl, _, _, g9⟩
  have W9 : Within w4.heap.size wB.heap.size w9a w9 := Within.of g9 (turn_off LB.out)
  have Q9 : Hid (EnvQ w w3.heap.size c rv (.slice ow m pw) w5.heap.size (.slice og m pg) w9) := Q9a.out.within W9 (by have := z3.out; have := z4.out; omega) (Or.inl (by have := z4.out; omega)) (Or.inr z5.out)
  have RR9 : Hid (Row w9 w.heap.size 2 m G (.slice ow m pw)) := RR9a.out.within W9 (fun h0 k hk => Or.inl (by have := LW.out h0 k hk; have := z4.out; omega))
  have GG9 : Hid (Row w9 wB.heap.size 2 m G (.slice og m pg) ∧ Free w9 (m * 2) (.slice og m pg)) := ⟨GG9a.out.1.within W9 (fun h0 k hk => Or.inr (LG.out h0 k hk).1), GG9a.out.2.within GG9a.out.1 W9 (fun h0 k hk => Or.inr (LG.out h0 k hk).1)⟩
  clear W9 g9 Q9a RR9a GG9a SS9a
  obtain ⟨_, ⟨⟨t0, t1, t2, t3⟩, _⟩, ⟨g0, g1, g2, g3⟩, _⟩ := Q9.out
  go_wp2_with fail
  refine (eqFsResult_same c 0 rv m _ _ _ _ _ _ G _ GG9.out.1 RR9.out hm).mono ?_
  rintro e w10 ⟨rfl, q10⟩
  have Q : Hid (EnvQ w w3.heap.size c rv (.slice ow m pw) w5.heap.size (.slice og m pg) w10) := Q9.out.later q10
  have RR : Hid (Row w10 w.heap.size 2 m G (.slice ow m pw)) := RR9.out.later q10
  have GG : Hid (Row w10 wB.heap.size 2 m G (.slice og m pg) ∧ Free w10 (m * 2) (.slice og m pg)) := ⟨GG9.out.1.later q10, GG9.out.2.ofRow GG9.out.1 q10⟩
  clear q10 Q9 RR9 GG9 t0 t1 t2 t3 g0 g1 g2 g3
  obtain ⟨_, _, ⟨g0, g1, g2, g3⟩, _⟩ := Q.out
  go_wp2_with fail
  refine (markFsResult_any c 0 rv m _ _ _ G _ GG.out.1 GG.out.2 hm).mono ?_
  rintro e w11 ⟨rfl, m11, g11⟩
  have W11 : Within wB.heap.size w5.heap.size w10 w11 := Within.of g11 (turn_off LG.out)
  have Q11 : Hid (EnvQ w w3.heap.size c rv (.slice ow m pw) w5.heap.size (.slice og m pg) w11) := Q.out.within W11 (by have := z3.out; have := z4.out; have := zB.out; omega) (Or.inl (by have := z4.out; have := zB.out; omega)) (Or.inr (Nat.le_refl _))
  have RR11 : Hid (Row w11 w.heap.size 2 m G (.slice ow m pw)) := RR.out.within W11 (fun h0 k hk => Or.inl (by have := LW.out h0 k hk; have := z4.out; have := zB.out; omega))
  have M11 : Hid (Row w11 wB.heap.size 2 m (fun p => 1 + (p : Nat)) (.slice og m pg)) := m11
  clear m11 g11 W11 Q RR GG g0 g1 g2 g3
  obtain ⟨_, _, ⟨g0, g1, g2, g3⟩, _⟩ := Q11.out
  go_wp2_with fail
  refine (heldFsResult_any c 0 rv m _ _ _ _ M11.out hm).mono ?_
  rintro e w12 ⟨rfl, q12⟩
  have Q12 : Hid (EnvQ w w3.heap.size c rv (.slice ow m pw) w5.heap.size (.slice og m pg) w12) := Q11.out.later q12
  have RR12 : Hid (Row w12 w.heap.size 2 m G (.slice ow m pw)) := RR11.out.later q12
  have M12 : Hid (Row w12 wB.heap.size 2 m (fun p => 1 + (p : Nat)) (.slice og m pg)) := M11.out.later q12
  clear q12 Q11 RR11 M11 g0 g1 g2 g3
  go_wp2_with fail
  refine (toPairS_cap _ 0 n F _ (H.out.later Q12.out.1) hb).mono ?_
  rintro e w13 ⟨u13, rfl, r13, _, q13⟩
  have R13 : Hid (Row w13 0 2 n F (.slice u13 n n)) := r13.mono (Nat.zero_le _)
  have Q13 : Hid (EnvQ w w3.heap.size c rv (.slice ow m pw) w5.heap.size (.slice og m pg) w13) := Q12.out.later q13
  have RR13 : Hid (Row w13 w.heap.size 2 m G (.slice ow m pw)) := RR12.out.later q13
  have M13 : Hid (Row w13 wB.heap.size 2 m (fun p => 1 + (p : Nat)) (.slice og m pg)) := M12.out.later q13
  clear r13 q13 Q12 RR12 M12
  go_wp2_with fail
  refine (toFsOpS_cap _ 0 ni Fi _ (HJ.out.later Q13.out.1) hbi).mono ?_
  rintro e wD ⟨uD, rfl, rD, _, qD⟩
  have RD : Hid (Row wD 0 2 n F (.slice u13 n n) ∧ Row wD 0 6 ni Fi (.slice uD ni ni)) := ⟨R13.out.later qD, rD.mono (Nat.zero_le _)⟩
  have QD : Hid (EnvQ w w3.heap.size c rv (.slice ow m pw) w5.heap.size (.slice og m pg) wD) := Q13.out.later qD
  have RRD : Hid (Row wD w.heap.size 2 m G (.slice ow m pw)) := RR13.out.later qD
  have MD : Hid (Row wD wB.heap.size 2 m (fun p => 1 + (p : Nat)) (.slice og m pg)) := M13.out.later qD
  clear rD qD Q13 RR13 M13 R13
  go_wp2_with fail
  refine (HI.out _ _ _ _ _ RD.out.1 RD.out.2).mono ?_
  rintro e w14 ⟨oh, ph, rfl, rh, _, q14⟩
  have Q14 : Hid (EnvQ w w3.heap.size c rv (.slice ow m pw) w5.heap.size (.slice og m pg) w14) := QD.out.later q14
  have Q15 : Hid (EnvQ w w3.heap.size c rv (.slice ow m pw) w5.heap.size (.slice og m pg) (w14.alloc (.cells #[.int .i64 c, .int .i64 0, .int .i64 rv, .slice oh m ph] 28))) := Q14.out.later (below_alloc _ _)
  have RR15 : Hid (Row (w14.alloc (.cells #[.int .i64 c, .int .i64 0, .int .i64 rv, .slice oh m ph] 28)) w.heap.size 2 m G (.slice ow m pw)) := (RRD.out.later q14).alloc _
  have H15 : Hid (Row (w14.alloc (.cells #[.int .i64 c, .int .i64 0, .int .i64 rv, .slice oh m ph] 28)) 0 2 m G (.slice oh m ph)) := (rh.mono (Nat.zero_le _)).alloc _
  have M15 : Hid (Row (w14.alloc (.cells #[.int .i64 c, .int .i64 0, .int .i64 rv, .slice oh m ph] 28)) wB.heap.size 2 m (fun p => 1 + (p : Nat)) (.slice og m pg)) := (MD.out.later q14).alloc _
  obtain ⟨_, ⟨⟨t0, t1, t2, t3⟩, _⟩, _⟩ := Q14.out
  have hl := Q14.out.2.1.lt
  clear q14 rh QD RRD MD RD Q14
  go_wp2_with fail
  refine (eqFsResult_same c 0 rv m _ _ _ _ _ _ G _ H15.out RR15.out hm).mono ?_
  rintro e w16 ⟨rfl, q16⟩
  have Q16 : Hid (EnvQ w w3.heap.size c rv (.slice ow m pw) w5.heap.size (.slice og m pg) w16) := Q15.out.later q16
  have M16 : Hid (Row w16 wB.heap.size 2 m (fun p => 1 + (p : Nat)) (.slice og m pg)) := M15.out.later q16
  clear q16 Q15 RR15 H15 M15 t0 t1 t2 t3 hl
  obtain ⟨_, _, ⟨g0, g1, g2, g3⟩, _⟩ := Q16.out
  go_wp2_with fail
  refine (heldFsResult_any c 0 rv m _ _ _ _ M16.out hm).mono ?_
  rintro e w17 ⟨rfl, q17⟩
  have Q17 : Hid (EnvQ w w3.heap.size c rv (.slice ow m pw) w5.heap.size (.slice og m pg) w17) := Q16.out.later q17
  clear q17 Q16 M16 g0 g1 g2 g3
  go_wp2
  go_ret
  exact ⟨rfl, Q17.out.1⟩
end Go.Proofs.YtokaoiiibakkoaaGreat

