/-
  Own text, merged of TreK, ApyB, ApyC, ApyD, FopA, RopA, TreL, DrawA, DrawB, DrawC, DrawT, PaiN, PaiO, PaiS, PaiP, WhoA, WhoB, WhoC, WhoD, RnfA, WldE, PlnB.
-/
import Derived.Test.YtnchaccgenfhoaaGreatPk6
namespace Go.Proofs.YtnchaccgenfhoaaGreat
open Go.RowKit

set_option maxRecDepth 100000 in
set_option maxHeartbeats 2000000 in
theorem implFs_is (y : Value) (B n : Nat) (F : Nat → Int) (w : World) (h : Row w B 2 n F y) (hn : n ≤ 1048576) :
    Calls Tryz.prog 10 #[y] w fun e w' => e = .returned (.int .i64 (fsF n F)) ∧ Below w.heap.size w w' := by
  have H : Hid (Row w B 2 n F y) := h
  clear h
  by_cases h1 : pairsF F n 0 = 0
  case neg =>
    obtain ⟨f, hf⟩ : ∃ f, pairsF F n 0 = f := ⟨_, rfl⟩
    have HF : Hid (pairsF F n 0 = f) := hf
    have HQ : Hid (fsF n F = f) := (fsF_bad h1).trans hf
    have dd : (f != 0) = true := bne_iff_ne.2 (by rw [← hf]; exact h1)
    rw [HQ.out]
    clear h1 hf
    go_enter Tryz.func10, Tryz.ntmps10
    go_wp2_with fail
    refine (implPairs_any _ B n F _ H.out hn).mono ?_
    rintro e w1 ⟨rfl, q1⟩
    rw [HF.out]
    have HB : Hid (Below w.heap.size w w1) := q1
    clear q1
    go_wp2
    go_ret
    exact ⟨rfl, HB.out⟩
  have HF : Hid (pairsF F n 0 = 0) := h1
  obtain ⟨q, hq⟩ : ∃ q, wholeB (listOf F n) = q := ⟨_, rfl⟩
  have HW : Hid (wholeB (listOf F n) = q) := hq
  have HQ : Hid (fsF n F = if q = true then 0 else 1) := by
    cases q with
    | true => exact fsF_ok h1 hq
    | false => exact fsF_no h1 hq
  have hn2 := (pairs_rise h1).2
  rw [HQ.out]
  clear h1 hq
  go_enter Tryz.func10, Tryz.ntmps10
  go_wp2_with fail
  refine (implPairs_any _ B n F _ H.out hn).mono ?_
  rintro e w1 ⟨rfl, q1⟩
  rw [HF.out]
  have HB : Hid (Below w.heap.size w w1) := q1
  clear q1
  go_wp2_with fail
  refine (hangingIn_is (listOf F n) _ B _ (row_list (H.out.later HB.out)) (pairs_rise HF.out).1 (by rw [listOf_length]; omega) (pairs_keys HF.out)).mono ?_
  rintro e w2 ⟨b, rb, mb, lv, rfl, hl, ho, hrb, q2⟩
  have HH : Hid (Hung w2 b rb mb (listOf F n) [] (.slice none 0 0) lv ∧ w1.heap.size ≤ mb ∧ w1.heap.size ≤ b) := ⟨Hung.new hl ho, by have := hl.2.2.2.2; omega, by have := hl.2.2.2.2; omega⟩
  have HB2 : Hid (Below w.heap.size w w2 ∧ w1.heap.size ≤ w2.heap.size) := ⟨HB.out.trans (q2.mono HB.out.size), q2.size⟩
  clear hl ho hrb q2
  go_wp2_with fail
  refine (isWhole_is (listOf F n) b rb mb [] (.slice none 0 0) lv _ HH.out.1 (pairs_rise HF.out).1 (by rw [listOf_length]; omega) (lookF_val (pairs_vals HF.out))).mono ?_
  rintro e w3 ⟨rfl, ys, vy, hg, hk⟩
  have HB3 : Hid (Below w.heap.size w w3) := HB2.out.1.trans (hk.toBelow HB2.out.1.size (Nat.le_trans HB.out.size HH.out.2.2) (Nat.le_trans HB.out.size HH.out.2.1) (fun k hk => by cases hk))
  rw [HW.out]
  clear hg hk HH HB HB2
  cases q with
  | true =>
    go_wp2
    go_ret
    exact ⟨rfl, HB3.out⟩
  | false =>
    go_wp2
    go_ret
    exact ⟨rfl, HB3.out⟩
end Go.Proofs.YtnchaccgenfhoaaGreat

namespace Go.Proofs.YtnchaccgenfhoaaGreat
open Go.RowKit

theorem kI_ok {a : Int} (h : 0 ≤ a ∧ a ≤ 9) : faultOf (kI a) = 0 := faultOf_ok (by unfold kI; omega)
theorem kB_ok {a : Int} (h : 0 ≤ a ∧ a ≤ 9) : faultOf (kB a) = 0 := faultOf_ok (by unfold kB; omega)
theorem appsF_of {G : Nat → Int} : ∀ {m k : Nat}, (∀ j, j < m → appF (G ((k + j) * 3)) (G ((k + j) * 3 + 1)) (G ((k + j) * 3 + 2)) = 0) → appsF G m k = 0
  | 0, _, _ => rfl
  | m + 1, k, h => by
    rw [appsF, if_neg (by have := h 0 (Nat.succ_pos _); simpa using this)]
    exact appsF_of fun j hj => by
      have := h (j + 1) (by omega)
      rwa [show k + (j + 1) = k + 1 + j by omega] at this
/-- What is written, and how many: items without a fault. -/
def ItemsOk (m : Nat) (W : List Int) : Prop := appliedF m (fun p => W.getD p 0) = 0 ∧ W.length = m * 3
theorem items0 : ItemsOk 0 [] := ⟨rfl, rfl⟩
theorem items1 {a0 a1 a2 : Int} (h0 : appF a0 a1 a2 = 0) : ItemsOk 1 [a0, a1, a2] := by
  refine ⟨?_, rfl⟩
  unfold appliedF
  rw [if_neg (by omega)]
  exact appsF_of fun j hj => by
    match j, hj with
    | 0, _ => exact h0
theorem items2 {a0 a1 a2 b0 b1 b2 : Int} (h0 : appF a0 a1 a2 = 0) (h1 : appF b0 b1 b2 = 0) : ItemsOk 2 [a0, a1, a2, b0, b1, b2] := by
  refine ⟨?_, rfl⟩
  unfold appliedF
  rw [if_neg (by omega)]
  exact appsF_of fun j hj => by
    match j, hj with
    | 0, _ => exact h0
    | 1, _ => exact h1
theorem items3 {a0 a1 a2 b0 b1 b2 c0 c1 c2 : Int} (h0 : appF a0 a1 a2 = 0) (h1 : appF b0 b1 b2 = 0) (h2 : appF c0 c1 c2 = 0) : ItemsOk 3 [a0, a1, a2, b0, b1, b2, c0, c1, c2] := by
  refine ⟨?_, rfl⟩
  unfold appliedF
  rw [if_neg (by omega)]
  exact appsF_of fun j hj => by
    match j, hj with
    | 0, _ => exact h0
    | 1, _ => exact h1
    | 2, _ => exact h2
theorem op_value {kd d n td tn vv : Int} (h : opF kd d n td tn vv = 0) : 0 ≤ vv ∧ vv ≤ 9999 := by
  unfold opF at h
  cases h1 : suitsB kd td tn vv with
  | false => rw [h1] at h; simp at h
  | true =>
    cases h2 : boundsB d n td tn vv with
    | false => rw [h1, h2] at h; simp at h
    | true =>
      have b := of_decide_eq_true h2
      exact b.2.2.2.2
/-- Whatever an operation finds: with a reply nothing is written; what is written has no fault. -/
theorem reply_items {L : Prs} (hv : ∀ k, 0 ≤ (lookF L k).2 ∧ (lookF L k).2 ≤ 9999) {kd d n td tn vv : Int} (ho : opF kd d n td tn vv = 0) :
    ItemsOk (replyP L kd d n td tn vv).2.2.2.1 (replyP L kd d n td tn vv).2.2.2.2 ∧ ((replyP L kd d n td tn vv).1 ≠ 0 → (replyP L kd d n td tn vv).2.2.2.1 = 0) ∧ (0 ≤ (replyP L kd d n td tn vv).2.1 ∧ (replyP L kd d n td tn vv).2.1 ≤ 9999) := by
  obtain ⟨hkd, hd, hn, htd, htn⟩ := op_bounds ho
  have hvv := op_value ho
  have hc : 0 ≤ minC (lookF L (kE d n)).2 ∧ minC (lookF L (kE d n)).2 ≤ 9 := minC_in (hv _).1
  have hcv := hv (kI (minC (lookF L (kE d n)).2))
  have hbv := hv (kB (minC (lookF L (kE d n)).2))
  have h0v := hv 0
  have e0 : faultOf (0 : Int) = 0 := by decide
  unfold replyP
  split
  · split
    · split
      · exact ⟨items0, fun _ => rfl, by simp only; omega⟩
      · unfold makeP
        split
        · rename_i hnx
          exact ⟨items3 (appF_ok e0 (by omega) (by omega)) (appF_ok (kI_ok (by omega)) (by omega) (by split <;> omega)) (appF_ok (kE_ok hd hn) (by omega) (by omega)), fun h => absurd rfl h, by simp only; omega⟩
        · exact ⟨items0, fun _ => rfl, by simp only; omega⟩
    · split
      · unfold childP
        generalize minC (lookF L (kE d n)).2 = c at hc hcv hbv ⊢
        generalize (lookF L (kI c)).2 = cv at hcv ⊢
        split
        · unfold removeP
          split
          · split
            · exact ⟨items2 (appF_ok (kE_ok hd hn) (by omega) (by omega)) (appF_ok (kI_ok hc) (by omega) (by omega)), fun h => absurd rfl h, by simp only; omega⟩
            · exact ⟨items0, fun _ => rfl, by simp only; omega⟩
          · split
            · exact ⟨items2 (appF_ok (kE_ok hd hn) (by omega) (by omega)) (appF_ok (kI_ok hc) (by omega) (by omega)), fun h => absurd rfl h, by simp only; omega⟩
            · exact ⟨items3 (appF_ok (kE_ok hd hn) (by omega) (by omega)) (appF_ok (kI_ok hc) (by omega) (by omega)) (appF_ok (kB_ok hc) (by omega) (by omega)), fun h => absurd rfl h, by simp only; omega⟩
        · split
          · unfold moveP
            split
            · exact ⟨items0, fun _ => rfl, by simp only; omega⟩
            · split
              · exact ⟨items2 (appF_ok (kE_ok hd hn) (by omega) (by omega)) (appF_ok (kE_ok htd htn) (by omega) (by omega)), fun h => absurd rfl h, by simp only; omega⟩
              · exact ⟨items0, fun _ => rfl, by simp only; omega⟩
          · split
            · unfold linkP
              split
              · exact ⟨items0, fun _ => rfl, by simp only; omega⟩
              · split
                · split
                  · exact ⟨items0, fun _ => rfl, by simp only; omega⟩
                  · exact ⟨items2 (appF_ok (kI_ok hc) (by omega) (by omega)) (appF_ok (kE_ok htd htn) (by omega) (by omega)), fun h => absurd rfl h, by simp only; omega⟩
                · exact ⟨items0, fun _ => rfl, by simp only; omega⟩
            · split
              · exact ⟨items0, fun h => absurd rfl h, by simp only; omega⟩
              · split
                · exact ⟨items0, fun _ => rfl, by simp only; omega⟩
                · split
                  · exact ⟨items1 (appF_ok (kB_ok hc) (by omega) (by omega)), fun h => absurd rfl h, by simp only; omega⟩
                  · exact ⟨items0, fun _ => rfl, by simp only; omega⟩
      · exact ⟨items0, fun _ => rfl, by simp only; omega⟩
  · exact ⟨items0, fun _ => rfl, by simp only; omega⟩
/-- A list of pairs that has no fault. -/
def GoodP (L : Prs) : Prop := Rises L ∧ ∀ e ∈ L, faultOf e.1 = 0 ∧ 0 ≤ e.2 ∧ e.2 ≤ 9999
theorem good_of_pairs {F : Nat → Int} {n : Nat} (h : pairsF F n 0 = 0) : GoodP (listOf F n) := by
  refine ⟨(pairs_rise h).1, fun e he => ⟨?_, pairs_vals h e he⟩⟩
  unfold listOf at he
  obtain ⟨k, hk, rfl⟩ := List.mem_map.1 he
  have := pairsF_all h k (List.mem_range.1 hk)
  rw [Nat.zero_add] at this
  exact (pairF_zero this).1
theorem pairsF_of {F : Nat → Int} : ∀ {m k : Nat}, (∀ j, j < m → pairF F (k + j) = 0) → pairsF F m k = 0
  | 0, _, _ => rfl
  | m + 1, k, h => by
    rw [pairsF, if_neg (by have := h 0 (Nat.succ_pos _); simpa using this)]
    exact pairsF_of fun j hj => by
      have := h (j + 1) (by omega)
      rwa [show k + (j + 1) = k + 1 + j by omega] at this
theorem pairs_of_good {L : Prs} (h : GoodP L) : pairsF (rowL L) L.length 0 = 0 := by
  refine pairsF_of fun j hj => ?_
  rw [Nat.zero_add]
  have hm : L.getD j (0, 0) ∈ L := by
    rw [List.getD_eq_getElem?_getD, List.getElem?_eq_getElem hj]
    exact List.getElem_mem hj
  have he := h.2 _ hm
  refine pairF_ok (rowL_key L j) (rowL_val L j) rfl he.1 he.2 (fun q => ?_)
  have hr := List.pairwise_iff_getElem.1 h.1 (j - 1) j (by omega) hj (by omega)
  rw [rowL_key] at q
  rw [List.getD_eq_getElem?_getD, List.getElem?_eq_getElem hj, List.getD_eq_getElem?_getD, List.getElem?_eq_getElem (show j - 1 < L.length by omega)] at q
  simp only [Option.getD_some] at q
  omega
theorem listOf_rowL (L : Prs) : listOf (rowL L) L.length = L := by
  apply List.ext_getElem
  · rw [listOf_length]
  · intro i h1 h2
    have := listOf_get (F := rowL L) h2
    rw [List.getD_eq_getElem?_getD, List.getElem?_eq_getElem h1, Option.getD_some, rowL_key, rowL_val, List.getD_eq_getElem?_getD, List.getElem?_eq_getElem h2] at this
    simpa using this
theorem GoodP.step {L : Prs} (h : GoodP L) {k kd v : Int} (hi : appF k kd v = 0) : GoodP (stepA L k kd v) := by
  have h3 := appF_zero hi
  refine ⟨stepA_rises h.1 k kd v, fun e he => ?_⟩
  unfold stepA at he
  split at he
  · rcases putPr_mem he with rfl | q
    · exact ⟨h3.1, h3.2.2⟩
    · exact h.2 e q
  · split at he
    · exact h.2 e (List.mem_filter.1 he).1
    · exact h.2 e he
theorem GoodP.apply {L : Prs} (h : GoodP L) {G : Nat → Int} : ∀ {m : Nat}, (∀ i, i < m → appF (G (i * 3)) (G (i * 3 + 1)) (G (i * 3 + 2)) = 0) → GoodP (applyN L G m)
  | 0, _ => h
  | m + 1, hi => (GoodP.apply h (m := m) (fun i him => hi i (by omega))).step (hi m (Nat.lt_succ_self _))
theorem ItemsOk.all {m : Nat} {W : List Int} (h : ItemsOk m W) : ∀ i, i < m → appF (W.getD (i * 3) 0) (W.getD (i * 3 + 1) 0) (W.getD (i * 3 + 2) 0) = 0 := fun i hi => by
  have := appsF_all (appliedF_zero h.1).2.1 i hi
  rwa [Nat.zero_add] at this
theorem GoodP.vals {L : Prs} (h : GoodP L) : ∀ k, 0 ≤ (lookF L k).2 ∧ (lookF L k).2 ≤ 9999 := lookF_val fun e he => (h.2 e he).2
theorem GoodP.len {L : Prs} (h : GoodP L) : L.length ≤ 200 := by
  have := (pairs_rise (pairs_of_good h)).2
  exact this
/-- What an operation comes to: its reply, its value, the view behind it. -/
def applyP (L : Prs) (kd d n td tn vv : Int) : Int × Int × Prs :=
  ((replyP L kd d n td tn vv).1, (replyP L kd d n td tn vv).2.1, applyN L (fun p => (replyP L kd d n td tn vv).2.2.2.2.getD p 0) (replyP L kd d n td tn vv).2.2.2.1)
theorem GoodP.applyOp {L : Prs} (h : GoodP L) {kd d n td tn vv : Int} (ho : opF kd d n td tn vv = 0) : GoodP (applyP L kd d n td tn vv).2.2 :=
  h.apply ((reply_items h.vals ho).1.all)
end Go.Proofs.YtnchaccgenfhoaaGreat

namespace Go.Proofs.YtnchaccgenfhoaaGreat
open Go.RowKit

abbrev zeroFs : Obj := .cells #[.int .i64 0, .int .i64 0, .int .i64 0, .slice none 0 0] 30
theorem nums_selfA {l : List Int} {N : Nat} (h : l.length = N) : nums (fun p => l.getD p 0) N = l := by
  subst h
  unfold nums
  apply List.ext_getElem
  · simp
  · intro i h1 h2
    simp only [List.getElem_map, List.getElem_range]
    rw [List.getD_eq_getElem?_getD, List.getElem?_eq_getElem h2]
    rfl
theorem nums_rowL (L : Prs) : nums (rowL L) (L.length * 2) = flatL L := by
  have := nums_selfA (l := flatL L) (flatL_length L)
  rw [← this]
  unfold nums
  exact List.map_congr_left fun p _ => (flatL_get L p).symm
theorem own_flat {w : World} {B : Nat} {v : Value} {L : Prs} (h : OwnM w B 61 2 v L.length (flatL L)) : Row w B 2 L.length (rowL L) v ∧ Free w (L.length * 2) v := flat_row h
/-- What stands in the last region: the plan's box, the answer's box. -/
def ApS (X : World) (pb rb : Nat) (r v : Int) (vr vw : Value) : Prop := BlkP X pb (.int .i64 0) (.int .i64 r) (.int .i64 v) vr vw ∧ FBk X rb
theorem ApS.later {X X' : World} {pb rb : Nat} {r v : Int} {vr vw : Value} (h : ApS X pb rb r v vr vw) (hb : Below X.heap.size X X') : ApS X' pb rb r v vr vw := ⟨h.1.later hb, h.2.later hb⟩
theorem ApS.grown {X X' : World} {pb rb : Nat} {r v : Int} {vr vw u : Value} (h : ApS X pb rb r v vr vw) (hg : X.grownBy X' u.ownBlock) (h1 : ∀ k, u.ownBlock = some k → pb < k ∧ rb < k) : ApS X' pb rb r v vr vw :=
  ⟨h.1.kept (hg.block pb h.1.lt (fun e => by have := (h1 pb e.symm).1; omega)), h.2.kept (hg.block rb h.2.lt (fun e => by have := (h1 rb e.symm).2; omega))⟩
theorem ApS.row {X : World} {pb rb : Nat} {r v : Int} {vr vw : Value} (h : ApS X pb rb r v vr vw) (hne : pb ≠ rb) (a0 a1 a2 a3 : Value) : ApS (X.setRow rb #[a0, a1, a2, a3]) pb rb r v vr vw := by
  refine ⟨h.1.kept (heap_setRow _ _ _ _ hne), ?_⟩
  obtain ⟨old, hg, hs⟩ := h.2
  exact ⟨#[a0, a1, a2, a3], by simp [World.setRow, Array.getElem?_modify, hg], rfl⟩
theorem Own.blockT {w : World} {B : Nat} {e : TypeId} {m n : Nat} {F : Nat → Int} {v : Value} (h : Own w B e m n F v) : ∀ k, v.ownBlock = some k → B ≤ k ∧ k < w.heap.size := own_in h
/-- Behind the store of the answer. -/
theorem own_end {w z1 : World} {B : Nat} {c r v : Int} {R : Prs} {ao : Option Addr} {cp : Nat} (h : Row z1 B 2 R.length (rowL R) (.slice ao R.length cp) ∧ Free z1 (R.length * 2) (.slice ao R.length cp) ∧ Below w.heap.size w z1 ∧ ∀ k, (Value.slice ao R.length cp).ownBlock = some k → B ≤ k) (hB : w.heap.size < B) (cs : Array Value) :
    ResFs w c r v R (.returned (.agg #[.int .i64 c, .int .i64 r, .int .i64 v, .slice ao R.length cp])) (z1.setRow w.heap.size cs) := by
  obtain ⟨h1, h2, h3, h4⟩ := h
  have ks : ∀ k, (Value.slice ao R.length cp).ownBlock = some k → (z1.setRow w.heap.size cs).heap[k]? = z1.heap[k]? := fun k hk => heap_setRow _ _ _ _ (by have := h4 k hk; omega)
  refine ⟨ao, cp, rfl, (h1.kept (by rw [size_setRow]; exact Nat.le_refl _) (fun k hk _ => ks k hk)).mono (Nat.le_of_lt hB), ?_, below_row h3 (Nat.le_refl _) _⟩
  intro g o n c e p hp
  have h5 := h2 g o n c e p hp
  have hg : (Value.slice ao R.length cp).ownBlock = some g := by rw [e]; rfl
  exact (World.frozen?_of_block (w := z1) (a := ⟨g, o + p, none⟩) (ks g hg)).trans h5
set_option maxRecDepth 100000 in
set_option maxHeartbeats 4000000 in
theorem l14Apply_is (L : Prs) (y : Value) (bo oo : Nat) (kd d n td tn vv : Int) (w : World) (hc : Ctx w L y bo oo kd d n td tn vv) (ho : opF kd d n td tn vv = 0) (hL : GoodP L) (r v : Int) (R : Prs) (hp : applyP L kd d n td tn vv = (r, v, R)) :
    Calls Tryz.prog 26 #[y, .pointer (some ⟨bo, oo, none⟩)] w (ResFs w 0 r v R) := by
  obtain ⟨q, hq⟩ : ∃ q, replyP L kd d n td tn vv = q := ⟨_, rfl⟩
  obtain ⟨r', v', ys, m, W⟩ := q
  have hit := reply_items hL.vals ho
  unfold applyP at hp
  rw [hq] at hp hit
  simp only [Prod.mk.injEq] at hp
  obtain ⟨rfl, rfl, hR⟩ := hp
  obtain ⟨hit1, hit2, hit3⟩ := hit
  simp only at hit1 hit2 hit3
  have hl := hL.len
  have hm := (appliedF_zero hit1.1).1
  have HY : Hid (Row w 0 2 L.length (rowL L) y) := hc.1.1
  have HIT : Hid (ItemsOk m W ∧ (r' ≠ 0 → m = 0) ∧ applyN L (fun p => W.getD p 0) m = R) := ⟨hit1, hit2, hR⟩
  have HC : Hid (Ctx (w.alloc zeroFs) L y bo oo kd d n td tn vv) := ⟨⟨hc.1.1.alloc _, hc.1.2⟩, hc.2.1.alloc _, hc.2.2⟩
  have HK : Hid ((1 ≤ kd ∧ kd ≤ 8) ∧ replyP L kd d n td tn vv = (r', v', ys, m, W)) := ⟨(op_bounds ho).1, hq⟩
  have HFw : Hid (FBk (w.alloc zeroFs) w.heap.size) := FBk.new _ _ _ _ _
  obtain ⟨yo, yc, rfl⟩ := hc.1.1.form
  obtain ⟨i0, hi, hz0, hz1, hz2⟩ := info_parts infoz_Pair
  clear hc ho hq hR hit1 hit2 hit3
  go_enter Tryz.func26, Tryz.ntmps26
  go_wp2_with fail
  refine (l13Compile_is L _ bo oo kd d n td tn vv _ HC.out HK.out.1 r' v' ys m W HK.out.2).mono ?_
  rintro e w1 ⟨vr, vw, rfl, hA, q1⟩
  obtain ⟨⟨a1, a2, rfl⟩, ⟨a3, a4, rfl⟩⟩ := PlanAt.form hA
  have q1' : Below (w.heap.size + 1) (w.alloc zeroFs) w1 := by have := q1; rwa [World.size_alloc] at this
  have hlt1 : w.heap.size < w1.heap.size := by have := q1'.size; rw [World.size_alloc] at this; omega
  have HPB : Hid (PBk (w1.alloc zeroPl) w1.heap.size) := PBk.new _ _ _ _ _ _
  have H1 : Hid (PlanAt (w1.alloc zeroPl) (w.heap.size + 1) ys m W (.slice a1 ys.length a2) (.slice a3 m a4) ∧ Below w.heap.size w (w1.alloc zeroPl) ∧ FBk (w1.alloc zeroPl) w.heap.size) := by
    have hA' := hA
    rw [World.size_alloc] at hA'
    exact ⟨PlanAt.alloc hA' _, ((below_alloc w _).trans (q1'.mono (Nat.le_succ _))).alloc (Nat.le_of_lt hlt1) _, (HFw.out.kept (q1'.block _ (Nat.lt_succ_self _))).alloc _⟩
  have hlo1 : ∀ k, (Value.slice a1 ys.length a2).ownBlock = some k → k ≠ w1.heap.size := fun k hk => by have := (hA.1.lt k hk).2; omega
  have hlo2 : ∀ k, (Value.slice a3 m a4).ownBlock = some k → k ≠ w1.heap.size := fun k hk => by have := (OwnM.block hA.2.1 k hk).2; omega
  have H2 : Hid (BlkP ((w1.alloc zeroPl).setRow w1.heap.size #[.int .i64 0, .int .i64 r', .int .i64 v', .slice a1 ys.length a2, .slice a3 m a4]) w1.heap.size (.int .i64 0) (.int .i64 r') (.int .i64 v') (.slice a1 ys.length a2) (.slice a3 m a4) ∧ PlanAt ((w1.alloc zeroPl).setRow w1.heap.size #[.int .i64 0, .int .i64 r', .int .i64 v', .slice a1 ys.length a2, .slice a3 m a4]) (w.heap.size + 1) ys m W (.slice a1 ys.length a2) (.slice a3 m a4) ∧ Below w.heap.size w ((w1.alloc zeroPl).setRow w1.heap.size #[.int .i64 0, .int .i64 r', .int .i64 v', .slice a1 ys.length a2, .slice a3 m a4]) ∧ FBk ((w1.alloc zeroPl).setRow w1.heap.size #[.int .i64 0, .int .i64 r', .int .i64 v', .slice a1 ys.length a2, .slice a3 m a4]) w.heap.size) :=
    ⟨HPB.out.blk _ _ _ _ _, plan_kept H1.out.1 hlo1 hlo2, below_row H1.out.2.1 (Nat.le_of_lt hlt1) _, H1.out.2.2.kept (heap_setRow _ _ _ _ (Nat.ne_of_lt hlt1))⟩
  have HNE : Hid (w1.heap.size ≠ w.heap.size) := Nat.ne_of_gt hlt1
  clear hA q1 q1' hlo1 hlo2 HC HK HFw
  by_cases hr0 : r' = 0
  · have dr : (r' != 0) = false := by simp [hr0]
    subst hr0
    have hkd : ∀ i, i < m → 1 ≤ W.getD (i * 3 + 1) 0 ∧ W.getD (i * 3 + 1) 0 ≤ 3 := (appliedF_zero HIT.out.1.1).2.2
    have HKD : Hid (∀ i, i < m → 1 ≤ W.getD (i * 3 + 1) 0 ∧ W.getD (i * 3 + 1) 0 ≤ 3) := hkd
    clear hkd
    go_wp2_with (refine wpList_storeP rfl _ _ rfl w1.heap.size _ _ _ _ _ rfl rfl HPB.out (by kernel_rfl) ?_; clear HPB H1; generalize (w1.alloc zeroPl).setRow w1.heap.size #[.int .i64 0, .int .i64 0, .int .i64 v', .slice a1 ys.length a2, .slice a3 m a4] = X2 at H2 ⊢; obtain ⟨⟨c0, c1, c2, c3, c4⟩, _⟩ := H2.out.1)
    go_upto_region 4 with fail
    refine wp_region_held_drew (S := fun X => ApS X w1.heap.size w.heap.size 0 v' (.slice a1 ys.length a2) (.slice a3 m a4)) (by kernel_rfl) ⟨H2.out.1, H2.out.2.2.2⟩ (fun hS => ?_)
    have H3 : Hid (PlanAt X2.drew (w.heap.size + 1) ys m W (.slice a1 ys.length a2) (.slice a3 m a4) ∧ Below w.heap.size w X2.drew) := ⟨H2.out.2.1, H2.out.2.2.1.drew⟩
    clear H2 c0 c1 c2 c3 c4
    generalize X2.drew = z0 at hS H3 ⊢
    refine tkH 0 ?_ hS (fun wx hx => ?_) ?_; rotate_left
    · obtain ⟨⟨⟨hx0, hx1, hx2, hx3, hx4⟩, _⟩, _⟩ := hx; go_simp; try with_reducible rfl
    refine tkH 1 ?_ hS (fun wx hx => ?_) ?_; rotate_left
    · obtain ⟨⟨⟨hx0, hx1, hx2, hx3, hx4⟩, _⟩, _⟩ := hx; go_simp; try with_reducible rfl
    refine tkH 2 ?_ hS (fun wx hx => ?_) ?_; rotate_left
    · obtain ⟨⟨⟨hx0, hx1, hx2, hx3, hx4⟩, _⟩, _⟩ := hx; go_simp; try with_reducible rfl
    refine tkH 3 ?_ hS (fun wx hx => ?_) ?_; rotate_left
    · obtain ⟨⟨⟨hx0, hx1, hx2, hx3, hx4⟩, _⟩, _⟩ := hx; go_simp; try with_reducible rfl
    refine tkH 4 ?_ hS (fun wx hx => ?_) ?_; rotate_left
    · obtain ⟨⟨⟨hx0, hx1, hx2, hx3, hx4⟩, _⟩, _⟩ := hx; go_simp; try with_reducible rfl
    refine rdH 5 (fun K hK => ?_)
    go_simp
    go_wp2_with fail
    refine (l11Apply_any L (fun p => W.getD p 0) m _ _ 0 (w.heap.size + 1) _ (HY.out.later H3.out.2) H3.out.1.rows.1 (by omega) hm HKD.out).mono ?_
    rintro e z1 ⟨ao, cp, rfl, ho, q⟩
    rw [HIT.out.2.2] at ho
    have HRR : (applyN L (fun p => W.getD p 0) m).length = R.length := by rw [HIT.out.2.2]
    rw [HRR]
    have hS1 := hS.later q
    have HO : Hid (Row z1 z0.heap.size 2 R.length (rowL R) (.slice ao R.length cp) ∧ Free z1 (R.length * 2) (.slice ao R.length cp) ∧ Below w.heap.size w z1 ∧ ∀ k, (Value.slice ao R.length cp).ownBlock = some k → z0.heap.size ≤ k) := ⟨ho.row.1, ho.row.2, H3.out.2.trans (q.mono H3.out.2.size), fun k hk => (Own.blockT ho k hk).1⟩
    have HZ0 : Hid (w.heap.size < z0.heap.size) := hS.2.lt
    clear q ho hS HRR H3
    go_wp2_with fail
    refine hK.out _ _ hS1 (fun hS => ?_)
    clear hK K
    clear hS1
    refine tkH 6 ?_ hS (fun wx hx => ?_) ?_; rotate_left
    · obtain ⟨⟨⟨hx0, hx1, hx2, hx3, hx4⟩, _⟩, _⟩ := hx; go_simp; try with_reducible rfl
    refine rdH 7 (fun K hK => ?_)
    refine step_storeF rfl _ _ rfl w.heap.size _ _ _ _ rfl rfl hS.2 (by kernel_rfl) ?_
    have hS9 := hS.row HNE.out (.int .i64 0) (.int .i64 0) (.int .i64 v') (.slice ao R.length cp)
    have HFB : Hid (FBk z1 w.heap.size) := hS.2
    clear hS
    refine hK.out _ _ hS9 (fun hS => ?_)
    clear hK K
    clear hS9
    refine wpAnyH_done (by kernel_rfl) ?_ _
    go_simp
    go_wp2_with fail
    refine bodyPost_ret (v := .agg #[.int .i64 0, .int .i64 0, .int .i64 v', .slice ao R.length cp]) (results_fs Tryz.results26 _ _ _ _ _ _ _ rfl HFB.out) rfl ?_
    exact own_end HO.out HZ0.out _
  · have dr : (r' != 0) = true := bne_iff_ne.2 hr0
    have hm0 := HIT.out.2.1 hr0
    subst hm0
    have HRL : Hid (L = R) := HIT.out.2.2
    clear hr0
    go_wp2_with (refine wpList_storeP rfl _ _ rfl w1.heap.size _ _ _ _ _ rfl rfl HPB.out (by kernel_rfl) ?_; clear HPB H1; generalize (w1.alloc zeroPl).setRow w1.heap.size #[.int .i64 0, .int .i64 r', .int .i64 v', .slice a1 ys.length a2, .slice a3 0 a4] = X2 at H2 ⊢; obtain ⟨⟨c0, c1, c2, c3, c4⟩, _⟩ := H2.out.1)
    go_upto_region 3 with fail
    refine wp_region_held_drew (S := fun X => ApS X w1.heap.size w.heap.size r' v' (.slice a1 ys.length a2) (.slice a3 0 a4)) (by kernel_rfl) ⟨H2.out.1, H2.out.2.2.2⟩ (fun hS => ?_)
    have H3 : Hid (Below w.heap.size w X2.drew) := H2.out.2.2.1.drew
    clear H2 c0 c1 c2 c3 c4
    generalize X2.drew = z0 at hS H3 ⊢
    refine tkH 0 ?_ hS (fun wx hx => ?_) ?_; rotate_left
    · obtain ⟨⟨⟨hx0, hx1, hx2, hx3, hx4⟩, _⟩, _⟩ := hx; go_simp; try with_reducible rfl
    refine tkH 1 ?_ hS (fun wx hx => ?_) ?_; rotate_left
    · obtain ⟨⟨⟨hx0, hx1, hx2, hx3, hx4⟩, _⟩, _⟩ := hx; go_simp; try with_reducible rfl
    refine tkH 2 ?_ hS (fun wx hx => ?_) ?_; rotate_left
    · obtain ⟨⟨⟨hx0, hx1, hx2, hx3, hx4⟩, _⟩, _⟩ := hx; go_simp; try with_reducible rfl
    refine tkH 3 ?_ hS (fun wx hx => ?_) ?_; rotate_left
    · obtain ⟨⟨⟨hx0, hx1, hx2, hx3, hx4⟩, _⟩, _⟩ := hx; go_simp; try with_reducible rfl
    refine tkH 5 ?_ hS (fun wx hx => ?_) ?_; rotate_left
    · obtain ⟨⟨⟨hx0, hx1, hx2, hx3, hx4⟩, _⟩, _⟩ := hx; go_simp; try with_reducible rfl
    refine rdH 4 (fun K hK => ?_)
    go_simp
    have hS1 := hS.later (below_alloc z0 (.cells #[] 61))
    have HZ0 : Hid (w.heap.size < z0.heap.size ∧ w1.heap.size < z0.heap.size) := ⟨hS.2.lt, hS.1.lt⟩
    have HO1 : Hid (OwnM (z0.alloc (.cells #[] 61)) z0.heap.size 61 2 (.slice (some ⟨z0.heap.size, 0, none⟩) 0 0) 0 []) := OwnM.lit0 _ _ _ _ rfl
    have HY1 : Hid (Row (z0.alloc (.cells #[] 61)) 0 2 L.length (rowL L) (.slice yo L.length yc) ∧ Below w.heap.size w (z0.alloc (.cells #[] 61))) := ⟨(HY.out.later H3.out).alloc _, H3.out.alloc H3.out.size _⟩
    clear hS
    refine hK.out _ _ hS1 (fun hS => ?_)
    clear hK K
    clear hS1
    refine rdH 6 (fun K hK => ?_)
    refine step_app 61 i0 (.agg #[.int .i64 0, .int .i64 0]) 2 16 (by rfl) _ _ 24 (by rfl) Tryz.underlying24 hi hz0 hz1 hz2 rfl (by omega) (by omega) _ z0.heap.size 0 [] (.slice (some ⟨z0.heap.size, 0, none⟩) 0 0) (by rfl) HO1.out 0 L.length (rowL L) (.slice yo L.length yc) (by rfl) HY1.out.1 (by omega) (by simp) ?_
    intro ao cp z1 O2 G2
    have hS2 := hS.grown G2 (fun k hk => by have : z0.heap.size = k := Option.some.inj hk; have := HZ0.out; omega)
    rw [List.nil_append, nums_rowL, Nat.zero_add] at O2
    have HO : Hid (Row z1 z0.heap.size 2 R.length (rowL R) (.slice ao R.length cp) ∧ Free z1 (R.length * 2) (.slice ao R.length cp) ∧ Below w.heap.size w z1 ∧ ∀ k, (Value.slice ao R.length cp).ownBlock = some k → z0.heap.size ≤ k) := by
      rw [← HRL.out]
      exact ⟨(own_flat O2).1, (own_flat O2).2, HY1.out.2.trans ⟨G2.os, G2.tape, G2.output, G2.size, fun k hk => G2.block k (by have := HY1.out.2.size; omega) (fun e => by have : k = z0.heap.size := Option.some.inj e; have := HZ0.out; omega)⟩, fun k hk => (OwnM.block O2 k hk).1⟩
    have hLR : L.length = R.length := by rw [HRL.out]
    rw [Nat.zero_add, hLR]
    clear O2 G2 hS HO1 HY1
    refine hK.out _ _ hS2 (fun hS => ?_)
    clear hK K
    clear hS2
    refine tkH 7 ?_ hS (fun wx hx => ?_) ?_; rotate_left
    · obtain ⟨⟨⟨hx0, hx1, hx2, hx3, hx4⟩, _⟩, _⟩ := hx; go_simp; try with_reducible rfl
    refine rdH 8 (fun K hK => ?_)
    refine step_storeF rfl _ _ rfl w.heap.size _ _ _ _ rfl rfl hS.2 (by kernel_rfl) ?_
    have hS9 := hS.row HNE.out (.int .i64 0) (.int .i64 r') (.int .i64 v') (.slice ao R.length cp)
    have HFB : Hid (FBk z1 w.heap.size) := hS.2
    clear hS
    refine hK.out _ _ hS9 (fun hS => ?_)
    clear hK K
    clear hS9
    refine wpAnyH_done (by kernel_rfl) ?_ _
    go_simp
    go_wp2_with fail
    refine bodyPost_ret (v := .agg #[.int .i64 0, .int .i64 r', .int .i64 v', .slice ao R.length cp]) (results_fs Tryz.results26 _ _ _ _ _ _ _ rfl HFB.out) rfl ?_
    exact own_end HO.out HZ0.out.1 _
end Go.Proofs.YtnchaccgenfhoaaGreat

namespace Go.Proofs.YtnchaccgenfhoaaGreat
open Go.RowKit

theorem res_end {w z1 : World} {B rb : Nat} {c r v : Int} {R : Prs} {ao : Option Addr} {cp : Nat} (h1 : Row z1 B 2 R.length (rowL R) (.slice ao R.length cp)) (h2 : Free z1 (R.length * 2) (.slice ao R.length cp)) (h3 : Below w.heap.size w z1) (hrb : w.heap.size ≤ rb) (hB : rb < B) (cs : Array Value) :
    ResFs w c r v R (.returned (.agg #[.int .i64 c, .int .i64 r, .int .i64 v, .slice ao R.length cp])) (z1.setRow rb cs) := by
  refine ⟨ao, cp, rfl, ?_, ?_, below_row h3 hrb _⟩
  · by_cases hn : R.length = 0
    · exact ⟨_, _, rfl, fun q => by omega⟩
    · have ks : ∀ k, (Value.slice ao R.length cp).ownBlock = some k → (z1.setRow rb cs).heap[k]? = z1.heap[k]? := fun k hk => heap_setRow _ _ _ _ (by have := (h1.lt (by omega) k hk).1; omega)
      exact (h1.kept (by rw [size_setRow]; exact Nat.le_refl _) (fun k hk _ => ks k hk)).mono (by omega)
  · intro g o n q e p hp
    have hn : 0 < R.length := by omega
    have hg : (Value.slice ao R.length cp).ownBlock = some g := by rw [e]; rfl
    have hgb : g ≠ rb := by have := (h1.lt hn g hg).1; omega
    exact (World.frozen?_of_block (w := z1) (a := ⟨g, o + p, none⟩) (heap_setRow _ _ _ _ hgb)).trans (h2 g o n q e p hp)
theorem res_nil {w w' : World} (c : Int) (hb : Below w.heap.size w w') : ResFs w c 0 0 [] (.returned (.agg #[.int .i64 c, .int .i64 0, .int .i64 0, .slice none 0 0])) w' :=
  ⟨none, 0, rfl, ⟨_, _, rfl, fun q => by cases q⟩, fun g o n q e p hp => absurd hp (Nat.not_lt_zero _), hb⟩
/-- Boxes of an operation and of an answer. -/
def Bxf (w : World) (kd d nm td tn vv : Int) (X : World) : Prop := Blk6 X w.heap.size (.int .i64 kd) (.int .i64 d) (.int .i64 nm) (.int .i64 td) (.int .i64 tn) (.int .i64 vv) ∧ FBk X (w.heap.size + 1)
theorem Bxf.later {w X X' : World} {kd d nm td tn vv : Int} (h : Bxf w kd d nm td tn vv X) (hb : Below X.heap.size X X') : Bxf w kd d nm td tn vv X' := ⟨h.1.later hb, h.2.later hb⟩
theorem Bxf.new (w : World) (kd d nm td tn vv : Int) : Bxf w kd d nm td tn vv ((w.alloc (opO kd d nm td tn vv)).alloc zeroFs) := by
  refine ⟨(Blk6.new w _ _ _ _ _ _ _).alloc _, ?_⟩
  have := FBk.new (w.alloc (opO kd d nm td tn vv)) (.int .i64 0) (.int .i64 0) (.int .i64 0) (.slice none 0 0)
  rwa [World.size_alloc] at this
theorem field_pairsR (c : Int) (ao : Option Addr) (n cp : Nat) (w : World) : (Instr.field 84 (.agg #[.int .i64 c, .slice ao n cp]) 1).run Tryz.prog w = .ok (.slice ao n cp) w := by kernel_rfl
set_option maxRecDepth 100000 in
set_option maxHeartbeats 4000000 in
theorem applyOp_is (y : Value) (B n : Nat) (F : Nat → Int) (kd d nm td tn vv : Int) (w : World) (h : Row w B 2 n F y) (hn : n ≤ 1048576) (hg : pairsF F n 0 = 0) (ho : opF kd d nm td tn vv = 0) (r v : Int) (R : Prs) (hp : applyP (listOf F n) kd d nm td tn vv = (r, v, R)) :
    Calls Tryz.prog 23 #[y, .agg #[.int .i64 kd, .int .i64 d, .int .i64 nm, .int .i64 td, .int .i64 tn, .int .i64 vv]] w (ResFs w 0 r v R) := by
  obtain ⟨q, hq⟩ : ∃ q, replyP (listOf F n) kd d nm td tn vv = q := ⟨_, rfl⟩
  obtain ⟨r', v', ys, m, W⟩ := q
  have hL := good_of_pairs hg
  have hit := reply_items hL.vals ho
  unfold applyP at hp
  rw [hq] at hp hit
  simp only [Prod.mk.injEq] at hp
  obtain ⟨rfl, rfl, hR⟩ := hp
  obtain ⟨hit1, hit2, hit3⟩ := hit
  simp only at hit1 hit2 hit3
  have hm := (appliedF_zero hit1.1).1
  have H : Hid (Row w B 2 n F y) := h
  have HIT : Hid (pairsF F n 0 = 0 ∧ appliedF m (fun p => W.getD p 0) = 0 ∧ applyN (listOf F n) (fun p => W.getD p 0) m = R) := ⟨hg, hit1.1, hR⟩
  have HCA : Hid (CompAns n F kd d nm td tn vv 0 (r', v', ys, m, W)) := Or.inr (Or.inr ⟨hg, ho, rfl, hq.symm⟩)
  have HB0 : Hid (Bxf w kd d nm td tn vv ((w.alloc (opO kd d nm td tn vv)).alloc zeroFs) ∧ Below w.heap.size w ((w.alloc (opO kd d nm td tn vv)).alloc zeroFs)) := ⟨Bxf.new _ _ _ _ _ _ _, (below_alloc _ _).alloc (by simp) _⟩
  obtain ⟨yo, yc, rfl⟩ := h.form
  have fp := fun c ao n cp w => field_pairsR c ao n cp w
  clear h hg ho hq hR hit1 hit2 hit3 hL
  obtain ⟨⟨b0, b1, b2, b3, b4, b5⟩, _⟩ := HB0.out.1.1
  go_enter Tryz.func23, Tryz.ntmps23
  go_wp2_with fail
  refine (implCompile_is _ B n F kd d nm td tn vv 0 (r', v', ys, m, W) _ (H.out.later HB0.out.2) hn HCA.out).mono ?_
  rintro e w1 ⟨vr, vw, rfl, hA, q1⟩
  obtain ⟨⟨a1, a2, rfl⟩, ⟨a3, a4, rfl⟩⟩ := PlanAt.form hA
  have hA' : PlanAt w1 (w.heap.size + 2) ys m W (.slice a1 ys.length a2) (.slice a3 m a4) := by
    have := hA
    simp only [World.size_alloc] at this
    exact this
  have HPB : Hid (PBk (w1.alloc zeroPl) w1.heap.size) := PBk.new _ _ _ _ _ _
  have hS1 := HB0.out.1.later q1
  have hlt1 : w.heap.size + 1 < w1.heap.size := hS1.2.lt
  have hlo1 : ∀ k, (Value.slice a1 ys.length a2).ownBlock = some k → k ≠ w1.heap.size := fun k hk => by have := (hA'.1.lt k hk).2; omega
  have hlo2 : ∀ k, (Value.slice a3 m a4).ownBlock = some k → k ≠ w1.heap.size := fun k hk => by have := (OwnM.block hA'.2.1 k hk).2; omega
  have H2 : Hid (BlkP ((w1.alloc zeroPl).setRow w1.heap.size #[.int .i64 0, .int .i64 r', .int .i64 v', .slice a1 ys.length a2, .slice a3 m a4]) w1.heap.size (.int .i64 0) (.int .i64 r') (.int .i64 v') (.slice a1 ys.length a2) (.slice a3 m a4) ∧ PlanAt ((w1.alloc zeroPl).setRow w1.heap.size #[.int .i64 0, .int .i64 r', .int .i64 v', .slice a1 ys.length a2, .slice a3 m a4]) (w.heap.size + 2) ys m W (.slice a1 ys.length a2) (.slice a3 m a4) ∧ Below w.heap.size w ((w1.alloc zeroPl).setRow w1.heap.size #[.int .i64 0, .int .i64 r', .int .i64 v', .slice a1 ys.length a2, .slice a3 m a4]) ∧ FBk ((w1.alloc zeroPl).setRow w1.heap.size #[.int .i64 0, .int .i64 r', .int .i64 v', .slice a1 ys.length a2, .slice a3 m a4]) (w.heap.size + 1)) :=
    ⟨HPB.out.blk _ _ _ _ _, plan_kept (PlanAt.alloc (w := w1) hA' _) hlo1 hlo2, below_row ((HB0.out.2.trans (q1.mono HB0.out.2.size)).alloc (by omega) _) (by omega) _, (hS1.2.alloc _).kept (heap_setRow _ _ _ _ (by omega))⟩
  have HNE : Hid (w1.heap.size ≠ w.heap.size + 1) := by unfold Hid; omega
  clear hA hA' q1 hS1 hlo1 hlo2 HCA b0 b1 b2 b3 b4 b5
  go_wp2_with (refine wpList_storeP rfl _ _ rfl w1.heap.size _ _ _ _ _ rfl rfl HPB.out (by kernel_rfl) ?_; clear HPB HB0; generalize (w1.alloc zeroPl).setRow w1.heap.size #[.int .i64 0, .int .i64 r', .int .i64 v', .slice a1 ys.length a2, .slice a3 m a4] = X2 at H2 ⊢)
  refine wp_region_held_drew (S := fun X => ApS X w1.heap.size (w.heap.size + 1) r' v' (.slice a1 ys.length a2) (.slice a3 m a4)) (by kernel_rfl) ⟨H2.out.1, H2.out.2.2.2⟩ (fun hS => ?_)
  have H3 : Hid (PlanAt X2.drew (w.heap.size + 2) ys m W (.slice a1 ys.length a2) (.slice a3 m a4) ∧ Below w.heap.size w X2.drew) := ⟨H2.out.2.1, H2.out.2.2.1.drew⟩
  clear H2
  generalize X2.drew = z0 at hS H3 ⊢
  refine tkH 0 ?_ hS (fun wx hx => ?_) ?_; rotate_left
  · obtain ⟨⟨⟨hx0, hx1, hx2, hx3, hx4⟩, _⟩, _⟩ := hx; go_simp; try with_reducible rfl
  refine tkH 1 ?_ hS (fun wx hx => ?_) ?_; rotate_left
  · obtain ⟨⟨⟨hx0, hx1, hx2, hx3, hx4⟩, _⟩, _⟩ := hx; go_simp; try with_reducible rfl
  refine tkH 2 ?_ hS (fun wx hx => ?_) ?_; rotate_left
  · obtain ⟨⟨⟨hx0, hx1, hx2, hx3, hx4⟩, _⟩, _⟩ := hx; go_simp; try with_reducible rfl
  refine tkH 3 ?_ hS (fun wx hx => ?_) ?_; rotate_left
  · obtain ⟨⟨⟨hx0, hx1, hx2, hx3, hx4⟩, _⟩, _⟩ := hx; go_simp; try with_reducible rfl
  refine tkH 4 ?_ hS (fun wx hx => ?_) ?_; rotate_left
  · obtain ⟨⟨⟨hx0, hx1, hx2, hx3, hx4⟩, _⟩, _⟩ := hx; go_simp; try with_reducible rfl
  refine tkH 5 ?_ hS (fun wx hx => ?_) ?_; rotate_left
  · obtain ⟨⟨⟨hx0, hx1, hx2, hx3, hx4⟩, _⟩, _⟩ := hx; go_simp; try with_reducible rfl
  refine tkH 6 ?_ hS (fun wx hx => ?_) ?_; rotate_left
  · obtain ⟨⟨⟨hx0, hx1, hx2, hx3, hx4⟩, _⟩, _⟩ := hx; go_simp; try with_reducible rfl
  refine rdH 7 (fun K hK => ?_)
  go_simp
  go_wp2_with fail
  refine (implApply_is _ _ B (w.heap.size + 2) n m F (fun p => W.getD p 0) 0 R _ (H.out.later H3.out.2) H3.out.1.rows.1 hn (by omega) (Or.inr (Or.inr ⟨HIT.out.1, HIT.out.2.1, rfl, HIT.out.2.2.symm⟩))).mono ?_
  rintro e z1 ⟨ao, cp, rfl, hrow, hfree, q⟩
  have hS1 := hS.later q
  have HO : Hid (Row z1 z0.heap.size 2 R.length (rowL R) (.slice ao R.length cp) ∧ Free z1 (R.length * 2) (.slice ao R.length cp) ∧ Below w.heap.size w z1) := ⟨hrow, hfree, H3.out.2.trans (q.mono H3.out.2.size)⟩
  have HZ0 : Hid (w.heap.size + 1 < z0.heap.size) := hS.2.lt
  clear q hrow hfree hS H3
  go_wp2_with fail
  refine hK.out _ _ hS1 (fun hS => ?_)
  clear hK K
  clear hS1
  refine tkH 8 ?_ hS (fun wx hx => ?_) ?_; rotate_left
  · obtain ⟨⟨⟨hx0, hx1, hx2, hx3, hx4⟩, _⟩, _⟩ := hx; go_simp; try with_reducible rfl
  refine tkH 9 ?_ hS (fun wx hx => ?_) ?_; rotate_left
  · obtain ⟨⟨⟨hx0, hx1, hx2, hx3, hx4⟩, _⟩, _⟩ := hx; go_simp; try with_reducible rfl
  refine rdH 10 (fun K hK => ?_)
  refine step_storeF rfl _ _ rfl (w.heap.size + 1) _ _ _ _ rfl rfl hS.2 (by kernel_rfl) ?_
  have hS9 := hS.row HNE.out (.int .i64 0) (.int .i64 r') (.int .i64 v') (.slice ao R.length cp)
  have HFB : Hid (FBk z1 (w.heap.size + 1)) := hS.2
  clear hS
  refine hK.out _ _ hS9 (fun hS => ?_)
  clear hK K
  clear hS9
  refine wpAnyH_done (by kernel_rfl) ?_ _
  go_simp
  go_wp2_with fail
  refine bodyPost_ret (v := .agg #[.int .i64 0, .int .i64 r', .int .i64 v', .slice ao R.length cp]) (results_fs Tryz.results23 _ _ _ _ _ _ _ rfl HFB.out) rfl ?_
  exact res_end HO.out.1 HO.out.2.1 HO.out.2.2 (by omega) HZ0.out _
end Go.Proofs.YtnchaccgenfhoaaGreat

namespace Go.Proofs.YtnchaccgenfhoaaGreat
open Go.RowKit

theorem Row.at6 {w : World} {B n : Nat} {F : Nat → Int} {ao : Option Addr} {cp : Nat} (h : Row w B 6 n F (.slice ao n cp)) {k : Nat} (hk : k < n) :
    ∃ g o, ao = some ⟨g, o, none⟩ ∧ B ≤ g ∧ g < w.heap.size ∧ w.cell? ⟨g, o + k * 6, none⟩ = some (.int .i64 (F (k * 6))) ∧ w.cell? ⟨g, o + k * 6 + 1, none⟩ = some (.int .i64 (F (k * 6 + 1))) ∧ w.cell? ⟨g, o + k * 6 + 2, none⟩ = some (.int .i64 (F (k * 6 + 2))) ∧ w.cell? ⟨g, o + k * 6 + 3, none⟩ = some (.int .i64 (F (k * 6 + 3))) ∧ w.cell? ⟨g, o + k * 6 + 4, none⟩ = some (.int .i64 (F (k * 6 + 4))) ∧ w.cell? ⟨g, o + k * 6 + 5, none⟩ = some (.int .i64 (F (k * 6 + 5))) := by
  obtain ⟨g, o, ha, hB, hg, hc⟩ := h.at hk
  exact ⟨g, o, ha, hB, hg, hc 0 (by omega), hc 1 (by omega), hc 2 (by omega), hc 3 (by omega), hc 4 (by omega), hc 5 (by omega)⟩
theorem info_FsOpA : (Tryz.prog.info? 26).map (fun i => (i.zero, i.size, i.bytes)) = some (some (.agg #[.int .i64 0, .int .i64 0, .int .i64 0, .int .i64 0, .int .i64 0, .int .i64 0]), 6, 48) := by kernel_rfl
end Go.Proofs.YtnchaccgenfhoaaGreat

namespace Go.Proofs.YtnchaccgenfhoaaGreat
open Go.RowKit

/-- The fault of the operation at a place. -/
def opAt (G : Nat → Int) (i : Nat) : Int := opF (G (i * 6)) (G (i * 6 + 1)) (G (i * 6 + 2)) (G (i * 6 + 3)) (G (i * 6 + 4)) (G (i * 6 + 5))
def opsF (G : Nat → Int) : Nat → Nat → Int
  | 0, _ => 0
  | m + 1, k => if opAt G k ≠ 0 then opAt G k else opsF G m (k + 1)
theorem opsF_bad {G : Nat → Int} {m k : Nat} {f : Int} (hm : 0 < m) (h : opAt G k = f) (h0 : f ≠ 0) : opsF G m k = f := by
  cases m with
  | zero => exact absurd hm (Nat.lt_irrefl 0)
  | succ m => rw [opsF, if_pos (by rw [h]; exact h0), h]
theorem opsF_on {G : Nat → Int} {m k : Nat} (hm : 0 < m) (h : opAt G k = 0) : opsF G m k = opsF G (m - 1) (k + 1) := by
  cases m with
  | zero => exact absurd hm (Nat.lt_irrefl 0)
  | succ m => rw [opsF, if_neg (fun q => q h)]; rfl
theorem opsF_all {G : Nat → Int} : ∀ {m k : Nat}, opsF G m k = 0 → ∀ j, j < m → opAt G (k + j) = 0
  | 0, _, _, j, hj => absurd hj (Nat.not_lt_zero j)
  | m + 1, k, h, j, hj => by
    rw [opsF] at h
    by_cases h0 : opAt G k = 0
    · rw [if_neg (fun q => q h0)] at h
      cases j with
      | zero => exact h0
      | succ j =>
        have := opsF_all h j (by omega)
        rwa [show k + 1 + j = k + (j + 1) by omega] at this
    · rw [if_pos h0] at h
      exact absurd h h0
/-- The fault of a list of operations. -/
def opsT (m : Nat) (G : Nat → Int) : Int := if 40 < m then 2 else opsF G m 0
theorem opsT_zero {m : Nat} {G : Nat → Int} (h : opsT m G = 0) : m ≤ 40 ∧ ∀ i, i < m → opAt G i = 0 := by
  unfold opsT at h
  by_cases h1 : 40 < m
  · rw [if_pos h1] at h; cases h
  · rw [if_neg h1] at h
    refine ⟨by omega, fun i hi => ?_⟩
    have := opsF_all h i hi
    rwa [Nat.zero_add] at this
/-- What the operations come to, one behind the other: the view, and how many came to nothing. -/
def apAt (L : Prs) (G : Nat → Int) (i : Nat) : Int × Int × Prs := applyP L (G (i * 6)) (G (i * 6 + 1)) (G (i * 6 + 2)) (G (i * 6 + 3)) (G (i * 6 + 4)) (G (i * 6 + 5))
def runP (L : Prs) (G : Nat → Int) : Nat → Prs × Int
  | 0 => (L, 0)
  | i + 1 => ((apAt (runP L G i).1 G i).2.2, if (apAt (runP L G i).1 G i).1 ≠ 0 then (runP L G i).2 + 1 else (runP L G i).2)
theorem run_good {L : Prs} (h : GoodP L) {G : Nat → Int} : ∀ {m : Nat}, (∀ i, i < m → opAt G i = 0) → GoodP (runP L G m).1
  | 0, _ => h
  | m + 1, ho => (run_good h (m := m) (fun i hi => ho i (by omega))).applyOp (ho m (Nat.lt_succ_self _))
theorem run_cnt (L : Prs) (G : Nat → Int) : ∀ m : Nat, 0 ≤ (runP L G m).2 ∧ (runP L G m).2 ≤ m
  | 0 => ⟨Int.le_refl _, by simp [runP]⟩
  | m + 1 => by
    have := run_cnt L G m
    rw [runP]
    simp only
    split <;> omega
/-- What RunFs answers. -/
def RunAns (n : Nat) (F : Nat → Int) (m : Nat) (G : Nat → Int) (c v : Int) (R : Prs) : Prop :=
  (fsF n F ≠ 0 ∧ c = fsF n F ∧ v = 0 ∧ R = []) ∨ (fsF n F = 0 ∧ opsT m G ≠ 0 ∧ c = opsT m G ∧ v = 0 ∧ R = []) ∨ (fsF n F = 0 ∧ opsT m G = 0 ∧ c = 0 ∧ runP (listOf F n) G m = (R, v))
theorem RunAns.get (n : Nat) (F : Nat → Int) (m : Nat) (G : Nat → Int) : ∃ c v R, RunAns n F m G c v R ∧ R.length ≤ 200 := by
  by_cases h : fsF n F = 0
  · by_cases h2 : opsT m G = 0
    · exact ⟨0, _, _, Or.inr (Or.inr ⟨h, h2, rfl, rfl⟩), (run_good (good_of_pairs (fsF_zero h).1) (opsT_zero h2).2).len⟩
    · exact ⟨_, 0, [], Or.inr (Or.inl ⟨h, h2, rfl, rfl, rfl⟩), by simp⟩
  · exact ⟨_, 0, [], Or.inl ⟨h, rfl, rfl, rfl⟩, by simp⟩
set_option maxRecDepth 100000 in
set_option maxHeartbeats 4000000 in
theorem opsFault_is (y : Value) (B m : Nat) (G : Nat → Int) (w : World) (h : Row w B 6 m G y) (hm : m ≤ 1048576) :
    Calls Tryz.prog 45 #[y] w fun e w' => e = .returned (.int .i64 (opsT m G)) ∧ Below w.heap.size w w' := by
  obtain ⟨ao, cp, rfl⟩ := h.form
  have H : Hid (Row w B 6 m G (.slice ao m cp)) := h
  clear h
  obtain ⟨res, hres⟩ : ∃ res, opsT m G = res := ⟨_, rfl⟩
  have HR : Hid (opsT m G = res) := hres
  rw [hres]
  clear hres
  by_cases h40 : 40 < m
  · have d : decide ((m : Int) > 40) = true := decide_eq_true (by omega)
    have HQ : Hid (res = 2) := HR.out.symm.trans (by unfold opsT; rw [if_pos h40])
    clear HR h40
    go_enter Tryz.func45, Tryz.ntmps45
    go_wp2
    go_ret
    exact ⟨by rw [HQ.out]; rfl, Below.refl _ _⟩
  have d : decide ((m : Int) > 40) = false := decide_eq_false (by omega)
  have HF : Hid (opsF G m 0 = res) := by
    have := HR.out
    unfold opsT at this
    rwa [if_neg h40] at this
  clear HR
  go_enter Tryz.func45, Tryz.ntmps45
  go_wp2
  go_loopw [11] (fun i wr => ∃ k : Nat, k ≤ m ∧ i = .int .i64 k ∧ Hid (opsF G (m - k) k = res ∧ Below w.heap.size w wr)) (fun i _ => m - (intOf i).toNat)
  case atStart => exact ⟨0, Nat.zero_le _, rfl, HF.out, Below.refl _ _⟩
  case round =>
    obtain ⟨k, hk, rfl, HS⟩ := hrel
    by_cases hlt : k < m
    case neg =>
      obtain rfl : k = m := by omega
      have HQ : Hid (res = 0) := by
        have := HS.out.1
        rw [Nat.sub_self] at this
        exact this.symm
      go_wp2
      go_ret
      exact ⟨by rw [HQ.out]; rfl, HS.out.2⟩
    have HROW := H.out.later HS.out.2
    obtain ⟨g, o, rfl, _, hg, y0, y1, y2, y3, y4, y5⟩ := HROW.at6 hlt
    obtain ⟨n0, N0⟩ : ∃ x, G (k * 6) = x := ⟨_, rfl⟩
    rw [N0] at y0
    obtain ⟨n1, N1⟩ : ∃ x, G (k * 6 + 1) = x := ⟨_, rfl⟩
    rw [N1] at y1
    obtain ⟨n2, N2⟩ : ∃ x, G (k * 6 + 2) = x := ⟨_, rfl⟩
    rw [N2] at y2
    obtain ⟨n3, N3⟩ : ∃ x, G (k * 6 + 3) = x := ⟨_, rfl⟩
    rw [N3] at y3
    obtain ⟨n4, N4⟩ : ∃ x, G (k * 6 + 4) = x := ⟨_, rfl⟩
    rw [N4] at y4
    obtain ⟨n5, N5⟩ : ∃ x, G (k * 6 + 5) = x := ⟨_, rfl⟩
    rw [N5] at y5
    obtain ⟨f, hf⟩ : ∃ f, opF n0 n1 n2 n3 n4 n5 = f := ⟨_, rfl⟩
    have HFQ : Hid (opF n0 n1 n2 n3 n4 n5 = f) := hf
    have hat : opAt G k = f := by unfold opAt; rw [N0, N1, N2, N3, N4, N5, hf]
    clear N0 N1 N2 N3 N4 N5 hf HROW
    by_cases h0 : f = 0
    · subst h0
      have HON : Hid (opsF G (m - (k + 1)) (k + 1) = res) := by
        have := HS.out.1
        rw [opsF_on (by omega) hat] at this
        rwa [show m - k - 1 = m - (k + 1) by omega] at this
      have HB1 : Hid (Below w.heap.size w (wr.alloc (opO n0 n1 n2 n3 n4 n5))) := HS.out.2.alloc HS.out.2.size _
      clear hat
      go_wp2_with fail
      refine (implFsOp_any n0 n1 n2 n3 n4 n5 _).mono ?_
      rintro e w1 ⟨rfl, q1⟩
      rw [HFQ.out]
      have HB2 : Hid (Below w.heap.size w w1) := HB1.out.trans (q1.mono HB1.out.size)
      clear q1 HB1 HS
      go_wp2
      go_roundw
      case rel => exact ⟨k + 1, by omega, by go_num, HON.out, HB2.out⟩
      case measure => simp [intOf]; omega
    · have HQ : Hid (res = f) := by
        have := HS.out.1
        rw [opsF_bad (by omega) hat h0] at this
        exact this.symm
      have df : (f != 0) = true := bne_iff_ne.2 h0
      have HB1 : Hid (Below w.heap.size w (wr.alloc (opO n0 n1 n2 n3 n4 n5))) := HS.out.2.alloc HS.out.2.size _
      clear hat h0
      go_wp2_with fail
      refine (implFsOp_any n0 n1 n2 n3 n4 n5 _).mono ?_
      rintro e w1 ⟨rfl, q1⟩
      rw [HFQ.out]
      have HB2 : Hid (Below w.heap.size w w1) := HB1.out.trans (q1.mono HB1.out.size)
      clear q1 HB1 HS
      go_wp2
      go_ret
      exact ⟨by rw [HQ.out]; rfl, HB2.out⟩
end Go.Proofs.YtnchaccgenfhoaaGreat

namespace Go.Proofs.YtnchaccgenfhoaaGreat
open Go.RowKit

theorem look_mem {L : Prs} {k : Int} (h : (lookF L k).1 = true) : (k, (lookF L k).2) ∈ L := by
  unfold lookF at h ⊢
  split
  · rename_i e he
    have h1 := List.mem_of_find?_eq_some he
    have h2 := List.find?_some he
    have h3 : e.1 = k := by simpa using h2
    rw [← h3]
    exact h1
  · rename_i he
    rw [he] at h
    cases h
theorem parts_entry {d i : Int} (hd : 0 ≤ d ∧ d ≤ 9) (hi : 0 ≤ i ∧ i ≤ 5) : partK (kE d i) = 2 ∧ partA (kE d i) = d := by
  have hf := kE_ok hd hi
  rcases parts_ways (kE d i) with ⟨h, _⟩ | ⟨h1, _⟩ | ⟨h1, h2, _⟩ | ⟨_, _, _, _, e1, e2, _⟩ | ⟨h1, _⟩
  · exact absurd hf h
  · unfold kE at h1; omega
  · unfold kE at h2; omega
  · exact ⟨e1, by rw [e2]; unfold kE; omega⟩
  · unfold kE at h1; omega
theorem linkN_filter (a : Int) : ∀ L : Prs, linkN L a = (L.filter fun e => partK e.1 == 2 && e.2 == a).length
  | [] => rfl
  | e :: t => by
    have ih := linkN_filter a t
    unfold linkN toL at ih ⊢
    rw [lnkL, List.filter_append, List.length_append, ih]
    by_cases h : partK e.1 = 2
    · rw [if_pos h]
      by_cases h2 : e.2 = a
      · simp [h, h2]; omega
      · simp [h2]
    · rw [if_neg h]
      simp [h]
theorem all_of {L : Prs} {p : Int × Int → Bool} (h : (L.all fun e => !(p e)) = true) {e : Int × Int} (he : e ∈ L) : p e = false := by
  have := List.all_eq_true.1 h e he
  simpa using this
def pw (c : Int) : Nat := 6 * 2 ^ (9 - c).toNat
end Go.Proofs.YtnchaccgenfhoaaGreat

namespace Go.Proofs.YtnchaccgenfhoaaGreat
open Go.RowKit

/-- A source at block b: the bytes that it draws from, and how often it drew. -/
structure Src (w : World) (b : Nat) (o : Option Addr) (len cap : Nat) (at' : Int) : Prop where
  code : w.cell? ⟨b, 0, none⟩ = some (.slice o len cap)
  count : w.cell? ⟨b, 1, none⟩ = some (.int .i64 at')
  live : w.frozen? ⟨b, 1, none⟩ = false
  pos : 0 ≤ at'
  bytes : ∀ j, j < len → ∃ (g off : Nat) (n : Int), o = some ⟨g, off, none⟩ ∧ g ≠ b ∧ w.cell? ⟨g, off + j, none⟩ = some (.int .u8 n) ∧ 0 ≤ n ∧ n < 256

theorem Src.next {w : World} {b : Nat} {o : Option Addr} {len cap : Nat} {a : Int} (h : Src w b o len cap a) : Src (w.setCell ⟨b, 1, none⟩ (.int .i64 (a + 1))) b o len cap (a + 1) where
  code := (World.cell?_setCell_other _ _ _ _ (by simp)).trans h.code
  count := World.cell?_setCell_same _ _ _ h.count
  live := (World.frozen?_setCell _ _ _ _).trans h.live
  pos := by have := h.pos; omega
  bytes := fun j hj => by
    obtain ⟨g, off, n, e1, e2, e3, e4⟩ := h.bytes j hj
    exact ⟨g, off, n, e1, e2, (World.cell?_setCell_other _ _ _ _ (fun e => e2 (congrArg Addr.block e).symm)).trans e3, e4⟩
theorem Src.drewN {w : World} {b : Nat} {o : Option Addr} {len cap : Nat} {a : Int} (h : Src w b o len cap a) (n : Nat) : Src (w.drewN n) b o len cap a := ⟨h.code, h.count, h.live, h.pos, h.bytes⟩
/-- The world but for block b is as it was. -/
def But (b : Nat) (w w' : World) : Prop := w.grownBy w' (some b)
theorem But.next (w : World) (b : Nat) (v : Value) : But b w (w.setCell ⟨b, 1, none⟩ v) :=
  ⟨rfl, rfl, rfl, by simp [World.setCell], fun k _ hk => Below.heap_setCell w ⟨b, 1, none⟩ v k (fun e => hk (by simp [e]))⟩

set_option maxHeartbeats 400000 in
theorem l1Next_less (w : World) (b : Nat) (o : Option Addr) (len cap : Nat) (a n : Int) (h : Src w b o len cap a) (ha : a ≤ 1000000) (hn : n < 1) :
    Calls Tryz.prog 42 #[.pointer (some ⟨b, 0, none⟩), .int .i64 n] w fun e w' => e = .returned (.int .i64 0) ∧ w' = w.setCell ⟨b, 1, none⟩ (.int .i64 (a + 1)) := by
  have h1 := h.count
  have h2 := h.live
  have h3 := h.pos
  clear h
  go_enter Tryz.func42, Tryz.ntmps42
  go_wp2
  go_ret
  exact ⟨rfl, rfl⟩
set_option maxHeartbeats 400000 in
theorem l1Next_none (w : World) (b : Nat) (o : Option Addr) (cap : Nat) (a n : Int) (h : Src w b o 0 cap a) (ha : a ≤ 1000000) (hn : 1 ≤ n) :
    Calls Tryz.prog 42 #[.pointer (some ⟨b, 0, none⟩), .int .i64 n] w fun e w' => e = .returned (.int .i64 ((a * 7) % n)) ∧ w' = w.setCell ⟨b, 1, none⟩ (.int .i64 (a + 1)) := by
  have g0 := h.next.code
  have g1 := h.next.count
  have h1 := h.count
  have h2 := h.live
  have h3 := h.pos
  clear h
  go_enter Tryz.func42, Tryz.ntmps42
  go_wp2
  go_ret
  exact ⟨rfl, rfl⟩
set_option maxHeartbeats 400000 in
theorem l1Next_some (w : World) (b g off : Nat) (len cap : Nat) (a n x : Int) (h : Src w b (some ⟨g, off, none⟩) len cap a) (ha : a ≤ 1000000) (hl : 0 < len) (hl2 : len ≤ 1048576) (hn : 1 ≤ n) (hn2 : n ≤ 200)
    (hc : w.cell? ⟨g, off + (a % len).toNat, none⟩ = some (.int .u8 x)) (hg : g ≠ b) (x0 : 0 ≤ x) (x1 : x < 256) :
    Calls Tryz.prog 42 #[.pointer (some ⟨b, 0, none⟩), .int .i64 n] w fun e w' => e = .returned (.int .i64 ((x + a / len * 37) % n)) ∧ ∃ m, w' = (w.setCell ⟨b, 1, none⟩ (.int .i64 (a + 1))).drewN m := by
  have g0 := h.next.code
  have g1 := h.next.count
  have gc : (w.setCell ⟨b, 1, none⟩ (.int .i64 (a + 1))).cell? ⟨g, off + (a % len).toNat, none⟩ = some (.int .u8 x) := (World.cell?_setCell_other _ _ _ _ (fun e => hg (congrArg Addr.block e).symm)).trans hc
  have h1 := h.count
  have h2 := h.live
  have h3 := h.pos
  clear h hc
  have q0 : 0 ≤ a / len := Int.ediv_nonneg h3 (by omega)
  have q1 : a / len ≤ a := Int.ediv_le_self _ h3
  have r0 : 0 ≤ a % len := Int.emod_nonneg _ (by omega)
  have r1 : a % len < len := Int.emod_lt_of_pos _ (by omega)
  have hl0 : ((len : Int) == 0) = false := beq_eq_false_iff_ne.2 (by omega)
  go_enter Tryz.func42, Tryz.ntmps42
  go_wp2
  go_quiet (fail)
  go_wp2
  go_ret
  exact ⟨rfl, _, rfl⟩
set_option maxHeartbeats 400000 in
theorem l1Next_big (w : World) (b g off : Nat) (len cap : Nat) (a n x y : Int) (h : Src w b (some ⟨g, off, none⟩) len cap a) (ha : a ≤ 1000000) (hl : 0 < len) (hl2 : len ≤ 1048576) (hn : 200 < n)
    (hc : w.cell? ⟨g, off + (a % len).toNat, none⟩ = some (.int .u8 x)) (hd : w.cell? ⟨g, off + ((a + 1) % len).toNat, none⟩ = some (.int .u8 y)) (hg : g ≠ b) (x0 : 0 ≤ x) (x1 : x < 256) (y0 : 0 ≤ y) (y1 : y < 256) :
    Calls Tryz.prog 42 #[.pointer (some ⟨b, 0, none⟩), .int .i64 n] w fun e w' => e = .returned (.int .i64 (((x + a / len * 37) * 251 + y * 13 + a) % n)) ∧ ∃ m, w' = (w.setCell ⟨b, 1, none⟩ (.int .i64 (a + 1))).drewN m := by
  have g0 := h.next.code
  have g1 := h.next.count
  have gc : (w.setCell ⟨b, 1, none⟩ (.int .i64 (a + 1))).cell? ⟨g, off + (a % len).toNat, none⟩ = some (.int .u8 x) := (World.cell?_setCell_other _ _ _ _ (fun e => hg (congrArg Addr.block e).symm)).trans hc
  have gd : (w.setCell ⟨b, 1, none⟩ (.int .i64 (a + 1))).cell? ⟨g, off + ((a + 1) % len).toNat, none⟩ = some (.int .u8 y) := (World.cell?_setCell_other _ _ _ _ (fun e => hg (congrArg Addr.block e).symm)).trans hd
  have h1 := h.count
  have h2 := h.live
  have h3 := h.pos
  clear h hc hd
  have q0 : 0 ≤ a / len := Int.ediv_nonneg h3 (by omega)
  have q1 : a / len ≤ a := Int.ediv_le_self _ h3
  have r0 : 0 ≤ a % len := Int.emod_nonneg _ (by omega)
  have r1 : a % len < len := Int.emod_lt_of_pos _ (by omega)
  have s0 : 0 ≤ (a + 1) % len := Int.emod_nonneg _ (by omega)
  have s1 : (a + 1) % len < len := Int.emod_lt_of_pos _ (by omega)
  have hl0 : ((len : Int) == 0) = false := beq_eq_false_iff_ne.2 (by omega)
  go_enter Tryz.func42, Tryz.ntmps42
  go_wp2
  go_quiet (fail)
  go_wp2
  go_quiet (fail)
  go_wp2
  go_ret
  exact ⟨rfl, _, rfl⟩

theorem But.drewN {b : Nat} {w w' : World} (h : But b w w') (n : Nat) : But b w (w'.drewN n) := ⟨h.os, h.tape, h.output, h.size, h.block⟩
/-- Whatever it draws from: a number in its bounds; its count goes on by one; all else stays. -/
theorem l1Next_any (w : World) (b : Nat) (o : Option Addr) (len cap : Nat) (a n : Int) (h : Src w b o len cap a) (ha : a ≤ 1000000) (hl : len ≤ 1048576) :
    Calls Tryz.prog 42 #[.pointer (some ⟨b, 0, none⟩), .int .i64 n] w fun e w' => ∃ r : Int, e = .returned (.int .i64 r) ∧ 0 ≤ r ∧ (1 ≤ n → r < n) ∧ Src w' b o len cap (a + 1) ∧ But b w w' := by
  by_cases hn : n < 1
  · exact (l1Next_less w b o len cap a n h ha hn).mono fun e w' ⟨he, hw⟩ => ⟨0, he, Int.le_refl _, fun h1 => by omega, hw ▸ h.next, hw ▸ But.next _ _ _⟩
  by_cases h0 : len = 0
  · subst h0
    exact (l1Next_none w b o cap a n h ha (by omega)).mono fun e w' ⟨he, hw⟩ => ⟨_, he, Int.emod_nonneg _ (by omega), fun _ => Int.emod_lt_of_pos _ (by omega), hw ▸ h.next, hw ▸ But.next _ _ _⟩
  · have h3 := h.pos
    have r0 : 0 ≤ a % len := Int.emod_nonneg _ (by omega)
    have r1 : a % len < len := Int.emod_lt_of_pos _ (by omega)
    have s0 : 0 ≤ (a + 1) % len := Int.emod_nonneg _ (by omega)
    have s1 : (a + 1) % len < len := Int.emod_lt_of_pos _ (by omega)
    obtain ⟨g, off, x, rfl, hg, hx, x0, x1⟩ := h.bytes (a % len).toNat (by omega)
    obtain ⟨g', off', y, he', hg', hy, y0, y1⟩ := h.bytes ((a + 1) % len).toNat (by omega)
    simp only [Option.some.injEq, Addr.mk.injEq, and_true] at he'
    obtain ⟨rfl, rfl⟩ := he'
    by_cases h2 : 200 < n
    · exact (l1Next_big w b g off len cap a n x y h ha (by omega) hl h2 hx hy hg x0 x1 y0 y1).mono fun e w' ⟨he, m, hw⟩ => ⟨_, he, Int.emod_nonneg _ (by omega), fun _ => Int.emod_lt_of_pos _ (by omega), hw ▸ h.next.drewN m, hw ▸ (But.next _ _ _).drewN m⟩
    · exact (l1Next_some w b g off len cap a n x h ha (by omega) hl (by omega) (by omega) hx hg x0 x1).mono fun e w' ⟨he, m, hw⟩ => ⟨_, he, Int.emod_nonneg _ (by omega), fun _ => Int.emod_lt_of_pos _ (by omega), hw ▸ h.next.drewN m, hw ▸ (But.next _ _ _).drewN m⟩
end Go.Proofs.YtnchaccgenfhoaaGreat

namespace Go.Proofs.YtnchaccgenfhoaaGreat
open Go.RowKit

theorem lt_of_cell {w : World} {b off : Nat} {v : Value} (h : w.cell? ⟨b, off, none⟩ = some v) : b < w.heap.size := World.block_lt_of_cell? w ⟨b, off, none⟩ h
theorem Src.lt {w : World} {b : Nat} {o : Option Addr} {len cap : Nat} {a : Int} (h : Src w b o len cap a) : b < w.heap.size := lt_of_cell h.code
theorem Src.later {w w' : World} {b : Nat} {o : Option Addr} {len cap : Nat} {a : Int} (h : Src w b o len cap a) (hb : Below w.heap.size w w') : Src w' b o len cap a where
  code := (hb.cell (p := ⟨b, 0, none⟩) h.lt).trans h.code
  count := (hb.cell (p := ⟨b, 1, none⟩) h.lt).trans h.count
  live := (hb.frozen (p := ⟨b, 1, none⟩) h.lt).trans h.live
  pos := h.pos
  bytes := fun j hj => by
    obtain ⟨g, off, n, e1, e2, e3, e4⟩ := h.bytes j hj
    exact ⟨g, off, n, e1, e2, (hb.cell (p := ⟨g, off + j, none⟩) (lt_of_cell e3)).trans e3, e4⟩
theorem Src.alloc {w : World} {b : Nat} {o : Option Addr} {len cap : Nat} {a : Int} (h : Src w b o len cap a) (x : Obj) : Src (w.alloc x) b o len cap a := h.later ((Below.refl _ _).alloc (Nat.le_refl _) _)
theorem But.refl (b : Nat) (w : World) : But b w w := ⟨rfl, rfl, rfl, Nat.le_refl _, fun _ _ _ => rfl⟩
theorem But.trans {b : Nat} {a c d : World} (h : But b a c) (k : But b c d) : But b a d := grown_trans h k
theorem But.alloc {b : Nat} {a c : World} (h : But b a c) (x : Obj) : But b a (c.alloc x) := grown_trans h (grown_refl_alloc x _)
theorem But.below {b : Nat} {a c d : World} (h : But b a c) (k : Below c.heap.size c d) : But b a d := grown_trans h ⟨k.os, k.tape, k.output, k.size, fun i hi _ => k.block i hi⟩
theorem But.cell {b : Nat} {w w' : World} (h : But b w w') {g off : Nat} {v : Value} (hc : w.cell? ⟨g, off, none⟩ = some v) (hg : g ≠ b) : w'.cell? ⟨g, off, none⟩ = some v := World.grownBy.cell h (a := ⟨g, off, none⟩) hc (by simp; exact hg)
theorem But.frozen {b : Nat} {w w' : World} (h : But b w w') {g off : Nat} (hl : g < w.heap.size) (hg : g ≠ b) : w'.frozen? ⟨g, off, none⟩ = w.frozen? ⟨g, off, none⟩ := World.frozen?_of_block (w := w) (h.block g hl (by simp; exact hg))
theorem But.ints {b B : Nat} {w w' : World} {v : Value} {xs : List Int} (h : But b w w') (hI : Ints w B v xs) (hb : b < B) : Ints w' B v xs := hI.grown h (fun k hk e => by have := (hI.lt k hk).1; simp at e; omega)
/-- What the source drew leaves all that was there ahead of it as it was. -/
theorem Below.but {B b : Nat} {a w w' : World} (h : Below B a w) (k : But b w w') (hB : B ≤ w.heap.size) (hb : B ≤ b) : Below B a w' := h.grown k hB (fun j e => by simp at e; omega)

/-- The bytes that come in. -/
def Code (w : World) (o : Option Addr) (len : Nat) : Prop := ∀ j, j < len → ∃ (g off : Nat) (n : Int), o = some ⟨g, off, none⟩ ∧ w.cell? ⟨g, off + j, none⟩ = some (.int .u8 n) ∧ 0 ≤ n ∧ n < 256
theorem Code.later {w w' : World} {o : Option Addr} {len : Nat} (h : Code w o len) (hb : Below w.heap.size w w') : Code w' o len := fun j hj => by
  obtain ⟨g, off, n, e1, e3, e4⟩ := h j hj
  exact ⟨g, off, n, e1, (hb.cell (p := ⟨g, off + j, none⟩) (lt_of_cell e3)).trans e3, e4⟩
set_option maxHeartbeats 400000 in
theorem l1Source_any (w : World) (o : Option Addr) (len cap : Nat) (h : Code w o len) :
    Calls Tryz.prog 40 #[.slice o len cap] w fun e w' => e = .returned (.pointer (some ⟨w.heap.size, 0, none⟩)) ∧ Src w' w.heap.size o len cap 0 ∧ Below w.heap.size w w' ∧ w'.heap.size = w.heap.size + 1 := by
  have HS : Hid (Src (w.alloc (.cells #[.slice o len cap, .int .i64 0] 117)) w.heap.size o len cap 0) := {
    code := World.cell?_alloc_mark w _ _ _ 0
    count := World.cell?_alloc_mark w _ _ _ 1
    live := by simp
    pos := Int.le_refl _
    bytes := fun j hj => by
      obtain ⟨g, off, n, e1, e3, e4⟩ := h j hj
      have hl := lt_of_cell e3
      exact ⟨g, off, n, e1, by omega, (World.cell?_alloc_lt _ _ _ hl).trans e3, e4⟩ }
  clear h
  go_enter Tryz.func40, Tryz.ntmps40
  go_wp2
  go_ret
  exact ⟨rfl, HS.out, (Below.refl _ _).alloc (Nat.le_refl _) _, by simp⟩

set_option maxHeartbeats 400000 in
theorem l1Pick_any (w : World) (b : Nat) (o : Option Addr) (len cap : Nat) (a : Int) (v : Value) (B : Nat) (xs : List Int) (h : Src w b o len cap a) (ha : a ≤ 1000000) (hl : len ≤ 1048576)
    (hI : Ints w B v xs) (hB : b < B) (hx : 0 < xs.length) (hx2 : xs.length ≤ 1000) :
    Calls Tryz.prog 78 #[.pointer (some ⟨b, 0, none⟩), v] w fun e w' => ∃ r : Int, e = .returned (.int .i64 r) ∧ r ∈ xs ∧ Src w' b o len cap (a + 1) ∧ But b w w' := by
  obtain ⟨ao, cp, rfl⟩ := hI.form
  have HN : Hid (Calls Tryz.prog 42 #[.pointer (some ⟨b, 0, none⟩), .int .i64 xs.length] w fun e w' => ∃ r : Int, e = .returned (.int .i64 r) ∧ 0 ≤ r ∧ (1 ≤ (xs.length : Int) → r < xs.length) ∧ Src w' b o len cap (a + 1) ∧ But b w w') := l1Next_any w b o len cap a xs.length h ha hl
  have HI : Hid (Ints w B (.slice ao xs.length cp) xs) := hI
  clear h hI
  go_enter Tryz.func78, Tryz.ntmps78
  go_wp2_with fail
  refine HN.out.mono ?_
  rintro e w1 ⟨r, rfl, r0, r1, hS, hT⟩
  have r1' : r < xs.length := r1 (by omega)
  clear r1
  have I1 : Ints w1 B (.slice ao xs.length cp) xs := hT.ints HI.out hB
  obtain ⟨k, rfl⟩ := Int.eq_ofNat_of_zero_le r0
  have hk : k < xs.length := by omega
  obtain ⟨g, rfl, _, hc, _⟩ := I1.at hk
  have HR : Hid (xs[k] ∈ xs ∧ Src w1 b o len cap (a + 1) ∧ But b w w1) := ⟨List.getElem_mem hk, hS, hT⟩
  clear hS hT I1
  go_wp2
  go_ret
  exact ⟨_, rfl, HR.out⟩
end Go.Proofs.YtnchaccgenfhoaaGreat

namespace Go.Proofs.YtnchaccgenfhoaaGreat
open Go.RowKit

set_option maxHeartbeats 1000000 in
theorem l1Key_any (w : World) (b : Nat) (o : Option Addr) (len cap : Nat) (a : Int) (h : Src w b o len cap a) (ha : a ≤ 900000) (hl : len ≤ 1048576) :
    Calls Tryz.prog 77 #[.pointer (some ⟨b, 0, none⟩)] w fun e w' => ∃ r : Int, e = .returned (.int .i64 r) ∧ faultOf r = 0 ∧ Src w' b o len cap (a + 5) ∧ But b w w' := by
  have H0 : Hid (Src w b o len cap a) := h
  have hp := h.pos
  clear h
  go_enter Tryz.func77, Tryz.ntmps77
  go_wp2_with fail
  refine (l1Next_any _ b o len cap a 4 H0.out (by omega) hl).mono ?_
  rintro e w1 ⟨r, rfl, r0, r1, hS, hT⟩
  have r4 : r < 4 := r1 (by omega)
  have H1 : Hid (Src w1 b o len cap (a + 1) ∧ But b w w1) := ⟨hS, hT⟩
  clear r1 hS hT
  go_wp2_with fail
  refine (l1Next_any _ b o len cap (a + 1) 3 H1.out.1 (by omega) hl).mono ?_
  rintro e w2 ⟨s, rfl, s0, s1, hS, hT⟩
  have s3 : s < 3 := s1 (by omega)
  have H2 : Hid (Src w2 b o len cap (a + 1 + 1) ∧ But b w w2) := ⟨hS, H1.out.2.trans hT⟩
  clear s1 hS hT H1
  go_wp2_with fail
  refine (l1Next_any _ b o len cap (a + 1 + 1) 3 H2.out.1 (by omega) hl).mono ?_
  rintro e w3 ⟨t, rfl, t0, t1, hS, hT⟩
  have t3 : t < 3 := t1 (by omega)
  have H3 : Hid (Src w3 b o len cap (a + 1 + 1 + 1) ∧ But b w w3) := ⟨hS, H2.out.2.trans hT⟩
  clear t1 hS hT H2
  go_wp2_with fail
  refine (l1Next_any _ b o len cap (a + 1 + 1 + 1) 3 H3.out.1 (by omega) hl).mono ?_
  rintro e w4 ⟨u, rfl, u0, u1, hS, hT⟩
  have u3 : u < 3 := u1 (by omega)
  have H4 : Hid (Src w4 b o len cap (a + 1 + 1 + 1 + 1) ∧ But b w w4) := ⟨hS, H3.out.2.trans hT⟩
  clear u1 hS hT H3
  go_wp2_with fail
  have hI : Ints (w4.alloc (.cells #[.int .i64 0, .int .i64 (10 + r), .int .i64 (20 + 10 * s + t), .int .i64 (180 + u)] 2)) w4.heap.size (.slice (some ⟨w4.heap.size, 0, none⟩) 4 4) [0, 10 + r, 20 + 10 * s + t, 180 + u] := World.ownsRow_lit w4 #[.int .i64 0, .int .i64 (10 + r), .int .i64 (20 + 10 * s + t), .int .i64 (180 + u)] 4 (Nat.le_refl _) (by decide) rfl
  refine (l1Pick_any _ b o len cap (a + 1 + 1 + 1 + 1) _ w4.heap.size [0, 10 + r, 20 + 10 * s + t, 180 + u] (H4.out.1.alloc _) (by omega) hl hI H4.out.1.lt (by simp) (by simp)).mono ?_
  rintro e w5 ⟨k, rfl, hk, hS, hT⟩
  have HR : Hid (faultOf k = 0 ∧ Src w5 b o len cap (a + 5) ∧ But b w w5) := by
    refine ⟨?_, ?_, (H4.out.2.alloc _).trans hT⟩
    · simp only [List.mem_cons, List.not_mem_nil, or_false] at hk
      apply faultOf_ok
      omega
    · have e5 : a + 1 + 1 + 1 + 1 + 1 = a + 5 := by omega
      rw [e5] at hS; exact hS
  clear hk hS hT hI H4
  go_wp2
  go_ret
  exact ⟨_, rfl, HR.out⟩
end Go.Proofs.YtnchaccgenfhoaaGreat

namespace Go.Proofs.YtnchaccgenfhoaaGreat
open Go.RowKit

theorem Src.keepT {w X X' : World} {b : Nat} {o : Option Addr} {len cap : Nat} {a a0 : Int} (h0 : Src w b o len cap a0) (h : Src X b o len cap a) (hT : But b w X) {row : Option Nat} (gr : X.grownBy X' row) (hr : ∀ r, row = some r → w.heap.size ≤ r) : Src X' b o len cap a ∧ But b w X' := by
  have hb := h0.lt
  have hbX : b < X.heap.size := Nat.lt_of_lt_of_le hb hT.size
  have kb : X'.heap[b]? = X.heap[b]? := gr.block b hbX (fun e => by have := hr b e.symm; omega)
  have hB : But b w X' := ⟨gr.os.trans hT.os, gr.tape.trans hT.tape, gr.output.trans hT.output, Nat.le_trans hT.size gr.size, fun i hi hne => (gr.block i (Nat.lt_of_lt_of_le hi hT.size) (fun e => by have := hr i e.symm; omega)).trans (hT.block i hi hne)⟩
  refine ⟨⟨(World.cell?_of_block (w := X) (a := ⟨b, 0, none⟩) kb).trans h.code, (World.cell?_of_block (w := X) (a := ⟨b, 1, none⟩) kb).trans h.count, (World.frozen?_of_block (w := X) (a := ⟨b, 1, none⟩) kb).trans h.live, h.pos, fun j hj => ?_⟩, hB⟩
  obtain ⟨g, off, n, e1, e2, e3, e4⟩ := h0.bytes j hj
  exact ⟨g, off, n, e1, e2, hB.cell e3 e2, e4⟩
theorem OwnM.but {w w' : World} {b B : Nat} {e : TypeId} {m n : Nat} {v : Value} {L : List Int} (h : OwnM w B e m v n L) (hT : But b w w') (hb : b < B) : OwnM w' B e m v n L :=
  h.keptB (fun k hk => hT.block k (h.block k hk).2 (fun e' => by have := Option.some.inj e'; have := (h.block k hk).1; omega))
/-- A row under way while the source is drawn from. -/
structure Draw (w : World) (b : Nat) (o : Option Addr) (len cap : Nat) (e : TypeId) (m n : Nat) (v : Value) (a : Int) (x : World) : Prop where
  own : ∃ L, OwnM x w.heap.size e m v n L
  src : Src x b o len cap a
  but : But b w x
theorem Blk3.but {x x' : World} {b c : Nat} {a0 a1 a2 : Value} (h : Blk3 x c a0 a1 a2) (hT : But b x x') (hc : c ≠ b) : Blk3 x' c a0 a1 a2 := h.kept (hT.block c h.lt (fun e => hc (Option.some.inj e)))
theorem But.setNew {b : Nat} {w x : World} (h : But b w x) {c : Nat} (hc : w.heap.size ≤ c) (off : Nat) (v : Value) : But b w (x.setCell ⟨c, off, none⟩ v) :=
  ⟨h.os, h.tape, h.output, by simpa [World.setCell] using h.size, fun k hk hne => (Below.heap_setCell x ⟨c, off, none⟩ v k (by simp; omega)).trans (h.block k hk hne)⟩
theorem Src.setNew {w x : World} {b : Nat} {o : Option Addr} {len cap : Nat} {a a0 : Int} (h0 : Src w b o len cap a0) (h : Src x b o len cap a) (hT : But b w x) {c : Nat} (hc : w.heap.size ≤ c) (off : Nat) (v : Value) : Src (x.setCell ⟨c, off, none⟩ v) b o len cap a :=
  (Src.keepT (X' := x.setCell ⟨c, off, none⟩ v) h0 h hT (row := some c) ⟨rfl, rfl, rfl, by simp [World.setCell], fun k _ hne => Below.heap_setCell x ⟨c, off, none⟩ v k (fun e => hne (by rw [e]))⟩ (fun r e => by have := Option.some.inj e; omega)).1
theorem Row.turnedC {w w' : World} {b B m n : Nat} {F : Nat → Int} {v : Value} (h : Row w B m n F v) (hT : But b w w') (hb : b < B) : Row w' B m n F v := by
  rcases Nat.eq_zero_or_pos n with e | e
  · subst e
    obtain ⟨ao, cp, rfl, _⟩ := h
    exact ⟨ao, cp, rfl, fun q => absurd q (Nat.lt_irrefl 0)⟩
  · exact h.kept hT.size (fun k hk hlt => hT.block k hlt (fun e' => by have := Option.some.inj e'; have := (h.lt e k hk).1; omega))
end Go.Proofs.YtnchaccgenfhoaaGreat

namespace Go.Proofs.YtnchaccgenfhoaaGreat
open Go.RowKit

theorem own_but {w w' : World} {b B m n : Nat} {e : TypeId} {v : Value} {F : Nat → Int} (h : Own w B e m n F v) (hT : But b w w') (hb : b < B) : Own w' B e m n F v :=
  own_kept h (fun k hk => hT.block k (own_in h k hk).2 (fun q => by have := (own_in h k hk).1; cases q; omega))
structure DrP (w : World) (b : Nat) (o : Option Addr) (len cap : Nat) (L : Prs) (v : Value) (a : Int) (x : World) : Prop where
  own : Own x w.heap.size 61 2 L.length (rowL L) v
  src : Src x b o len cap a
  but : But b w x
set_option maxRecDepth 100000 in
set_option maxHeartbeats 2000000 in
theorem l11Right_any (w : World) (b : Nat) (o : Option Addr) (len cap : Nat) (a : Int) (h : Src w b o len cap a) (ha : a ≤ 500000) (hl : len ≤ 1048576) :
    Calls Tryz.prog 99 #[.pointer (some ⟨b, 0, none⟩)] w fun e w' => ∃ (L : Prs) (ao : Option Addr) (cp : Nat) (a1 : Int), e = .returned (.slice ao L.length cp) ∧ L.length ≤ 8 ∧ a1 ≤ a + 80 ∧ DrP w b o len cap L (.slice ao L.length cp) a1 w' := by
  have H : Hid (Src w b o len cap a) := h
  have hbl := h.lt
  clear h
  have D0 : Hid (DrP w b o len cap [] (.slice (some ⟨w.heap.size, 0, none⟩) 0 0) a (w.alloc (.cells #[] 61))) := ⟨ownM_own (L := []) (OwnM.lit0 _ _ _ _ rfl), H.out.alloc _, (But.refl _ _).alloc _⟩
  go_enter Tryz.func99, Tryz.ntmps99
  go_wp2_with fail
  refine (l1Next_any _ b o len cap a 8 D0.out.src (by omega) hl).mono ?_
  rintro e w1 ⟨r, rfl, p0, p1, hS1, hT1⟩
  have p2 : r < 8 := p1 (by omega)
  obtain ⟨k0, rfl⟩ : ∃ k : Nat, r = k := ⟨r.toNat, by omega⟩
  have D1 : Hid (DrP w b o len cap [] (.slice (some ⟨w.heap.size, 0, none⟩) 0 0) (a + 1) w1) := ⟨own_but D0.out.own hT1 hbl, hS1, D0.out.but.trans hT1⟩
  clear hS1 hT1 D0 p0 p1
  go_wp2
  go_loopw [3, 4] (fun v k wr => ∃ (L : Prs) (z : Nat) (ao : Option Addr) (cp : Nat) (a1 : Int), v = .slice ao L.length cp ∧ k = .int .i64 z ∧ L.length + z ≤ 8 ∧ a1 + 8 * z ≤ a + 80 ∧ Hid (DrP w b o len cap L (.slice ao L.length cp) a1 wr)) (fun _ k _ => (intOf k).toNat)
  case atStart => exact ⟨[], k0, _, _, a + 1, rfl, rfl, by simp; omega, by omega, D1⟩
  case round =>
    clear D1
    obtain ⟨L, z, ao, cp, a1, rfl, rfl, hnz, haz, HD⟩ := hrel
    by_cases hz : 0 < z
    case neg =>
      obtain rfl : z = 0 := by omega
      go_wp2
      go_ret
      exact ⟨L, ao, cp, a1, rfl, by omega, by omega, HD.out⟩
    have dz : decide (0 < z) = true := decide_eq_true hz
    have hwz : IntKind.i64.wrap ((z : Int) - 1) = ((z - 1 : Nat) : Int) := by simp [IntKind.wrap, IntKind.bits, IntKind.signed]; omega
    go_wp2_with fail
    refine (l1Key_any _ b o len cap a1 HD.out.src (by omega) hl).mono ?_
    rintro e w2 ⟨x0, rfl, _, hS2, hT2⟩
    have D2 : Hid (DrP w b o len cap L (.slice ao L.length cp) (a1 + 5) w2) := ⟨own_but HD.out.own hT2 hbl, hS2, HD.out.but.trans hT2⟩
    clear hS2 hT2 HD
    go_wp2_with fail
    refine (l1Next_any _ b o len cap (a1 + 5) 99 D2.out.src (by omega) hl).mono ?_
    rintro e w3 ⟨x1, rfl, _, _, hS3, hT3⟩
    have D3 : Hid (DrP w b o len cap L (.slice ao L.length cp) (a1 + 5 + 1) w3) := ⟨own_but D2.out.own hT3 hbl, hS3, D2.out.but.trans hT3⟩
    clear hS3 hT3 D2
    go_wp2_with fail
    refine (l11Set_any L _ w.heap.size x0 x1 true _ D3.out.own.row.1 (by omega)).mono ?_
    rintro e w4 ⟨ao4, cp4, rfl, o4, q4⟩
    have D4 : Hid (DrP w b o len cap (setS L x0 x1 true) (.slice ao4 (setS L x0 x1 true).length cp4) (a1 + 5 + 1) w4) := ⟨o4.mono D3.out.but.size, D3.out.src.later q4, D3.out.but.below q4⟩
    have hln : (setS L x0 x1 true).length ≤ L.length + 1 := by rw [setS_put]; exact putPr_len L x0 x1
    clear o4 q4 D3
    obtain ⟨M, hM⟩ : ∃ M, setS L x0 x1 true = M := ⟨_, rfl⟩
    rw [hM] at D4 hln
    rw [hM]
    clear hM
    go_wp2
    go_roundw
    case rel => exact ⟨M, z - 1, ao4, cp4, a1 + 5 + 1, rfl, by go_num, by omega, by omega, D4⟩
    case measure => simp [intOf]; omega
/-- Pairs that were drawn: whatever they are. -/
structure DrQ (w : World) (b : Nat) (o : Option Addr) (len cap : Nat) (n : Nat) (v : Value) (a : Int) (x : World) : Prop where
  row : ∃ F, Row x w.heap.size 2 n F v
  src : Src x b o len cap a
  but : But b w x
theorem row_set1 {w : World} {B n g o cp : Nat} {F : Nat → Int} (h : Row w B 2 n F (.slice (some ⟨g, o, none⟩) n cp)) (u : Int) : Row (w.setCell ⟨g, o + 1, none⟩ (.int .i64 u)) B 2 n (fun p => if p = 1 then u else F p) (.slice (some ⟨g, o, none⟩) n cp) := by
  obtain ⟨ao, cp', hv, hr⟩ := h
  refine ⟨_, _, rfl, fun hn => ?_⟩
  obtain ⟨g', o', h1, h2, h3, h4⟩ := hr hn
  simp only [Value.slice.injEq] at hv
  obtain ⟨rfl, _, rfl⟩ := hv
  simp only [Option.some.injEq, Addr.mk.injEq] at h1
  obtain ⟨rfl, rfl, _⟩ := h1
  refine ⟨g, o, rfl, h2, by simpa using h3, fun p hp => ?_⟩
  by_cases q : p = 1
  · subst q
    rw [show (fun p => if p = 1 then u else F p) 1 = u from if_pos rfl]
    exact World.cell?_setCell_same _ _ _ (u := .int .i64 (F 1)) (h4 1 hp)
  · rw [show (fun p => if p = 1 then u else F p) p = F p from if_neg q]
    exact (World.cell?_setCell_other _ _ _ _ (fun e => q (by have := congrArg Addr.off e; simp at this; omega))).trans (h4 p hp)
set_option maxRecDepth 100000 in
set_option maxHeartbeats 2000000 in
theorem l11Bent_any (w : World) (b : Nat) (o : Option Addr) (len cap : Nat) (a : Int) (h : Src w b o len cap a) (ha : a ≤ 400000) (hl : len ≤ 1048576) :
    Calls Tryz.prog 75 #[.pointer (some ⟨b, 0, none⟩)] w fun e w' => ∃ (n : Nat) (ao : Option Addr) (cp : Nat) (a1 : Int), e = .returned (.slice ao n cp) ∧ n ≤ 9 ∧ a1 ≤ a + 90 ∧ DrQ w b o len cap n (.slice ao n cp) a1 w' := by
  have H : Hid (Src w b o len cap a) := h
  have hbl := h.lt
  clear h
  obtain ⟨i0, hi, iz0, iz1, iz2⟩ := info_parts infoz_Pair
  go_enter Tryz.func75, Tryz.ntmps75
  go_wp2_with fail
  refine (l11Right_any _ b o len cap a H.out (by omega) hl).mono ?_
  rintro e w1 ⟨L, ao, cp, a1, rfl, hL, ha1, D1⟩
  have D1 : Hid (DrP w b o len cap L (.slice ao L.length cp) a1 w1) := D1
  obtain ⟨N, hN⟩ : ∃ N, L.length = N := ⟨_, rfl⟩
  have HN : Hid (L.length = N) := hN
  have hpos := D1.out.src.pos
  rw [hN] at hL
  rw [hN]
  go_wp2_with fail
  refine (l1Next_any _ b o len cap a1 10 D1.out.src (by omega) hl).mono ?_
  rintro e w2 ⟨q, rfl, q0, q1, hS2, hT2⟩
  have D2 : Hid (Own w2 w.heap.size 61 2 N (rowL L) (.slice ao N cp) ∧ Src w2 b o len cap (a1 + 1) ∧ But b w w2) := by
    have := own_but D1.out.own hT2 hbl
    rw [hN] at this
    exact ⟨this, hS2, D1.out.but.trans hT2⟩
  have hz2 : w.heap.size ≤ w2.heap.size := D2.out.2.2.size
  clear hS2 hT2 D1 q1 hN
  by_cases h0 : q = 0
  · subst h0
    have hIx0 : Hid (Ints (w2.alloc (.cells #[.int .i64 189, .int .i64 5, .int .i64 0] 2)) w2.heap.size (.slice (some ⟨w2.heap.size, 0, none⟩) 3 3) [189, 5, 0]) := World.ownsRow_lit w2 #[.int .i64 189, .int .i64 5, .int .i64 0] 3 (Nat.le_refl _) (by decide) rfl
    go_wp2_with fail
    refine (l1Pick_any _ b o len cap (a1 + 1) _ w2.heap.size [189, 5, 0] (D2.out.2.1.alloc _) (by omega) hl hIx0.out D2.out.2.1.lt (by simp) (by simp)).mono ?_
    rintro e w3 ⟨x0, rfl, _, hSx0, hTx0⟩
    have D3 : Hid (Own w3 w.heap.size 61 2 N (rowL L) (.slice ao N cp) ∧ Src w3 b o len cap (a1 + 1 + 1) ∧ But b w w3) := ⟨own_but (D2.out.1.alloc _) hTx0 hbl, hSx0, (D2.out.2.2.alloc _).trans hTx0⟩
    clear hSx0 hTx0 D2 hIx0
    have hIx1 : Hid (Ints (w3.alloc (.cells #[.int .i64 5, .int .i64 (-1), .int .i64 10000] 2)) w3.heap.size (.slice (some ⟨w3.heap.size, 0, none⟩) 3 3) [5, -1, 10000]) := World.ownsRow_lit w3 #[.int .i64 5, .int .i64 (-1), .int .i64 10000] 3 (Nat.le_refl _) (by decide) rfl
    go_wp2_with fail
    refine (l1Pick_any _ b o len cap (a1 + 1 + 1) _ w3.heap.size [5, -1, 10000] (D3.out.2.1.alloc _) (by omega) hl hIx1.out D3.out.2.1.lt (by simp) (by simp)).mono ?_
    rintro e w4 ⟨x1, rfl, _, hSx1, hTx1⟩
    have D4 : Hid (Own w4 w.heap.size 61 2 N (rowL L) (.slice ao N cp) ∧ Src w4 b o len cap (a1 + 1 + 1 + 1) ∧ But b w w4) := ⟨own_but (D3.out.1.alloc _) hTx1 hbl, hSx1, (D3.out.2.2.alloc _).trans hTx1⟩
    have hz4 : w.heap.size ≤ w4.heap.size := D4.out.2.2.size
    have OM : Hid (OwnM w4 w.heap.size 61 2 (.slice ao N cp) N (flatL L)) := by
      have := own_ownP (L := L) (by rw [HN.out]; exact D4.out.1)
      rwa [HN.out] at this
    clear hSx1 hTx1 D3 hIx1
    go_wp2_with (at_builtin; refine wpList_app 61 i0 (.agg #[.int .i64 0, .int .i64 0]) 2 16 rfl _ _ 24 rfl Tryz.underlying24 hi iz0 iz1 iz2 rfl (by omega) (by omega) _ w.heap.size N (flatL L) (.slice ao N cp) rfl (OM.out.later (below_alloc _ _)) 0 1 (fun p => [x0, x1].getD p 0) (.slice (some ⟨w4.heap.size, 0, none⟩) 1 1) rfl (row_lit2 w4 x0 x1 61) (by omega) (by simp; omega) ?_; intro ao5 cp5 w5 O5 G5)
    have K5 := Src.keepT H.out (D4.out.2.1.alloc (.cells #[.int .i64 x0, .int .i64 x1] 61)) (D4.out.2.2.alloc _) G5 (fun r e => (OM.out.block r e).1)
    have HQ : Hid (DrQ w b o len cap (N + 1) (.slice ao5 (N + 1) cp5) (a1 + 1 + 1 + 1) w5) := by
      have e1 : (flatL L ++ nums (fun p => [x0, x1].getD p 0) (1 * 2)).length = (N + 1) * 2 := by rw [List.length_append, flatL_length, HN.out, nums_length]; omega
      exact ⟨⟨_, (O5.own e1).row.1⟩, K5.1, K5.2⟩
    clear O5 G5 K5 OM
    go_wp2
    go_ret
    exact ⟨N + 1, ao5, cp5, a1 + 1 + 1 + 1, rfl, by omega, by omega, HQ.out⟩
  have d0 : (q == 0) = false := beq_eq_false_iff_ne.2 h0
  by_cases h1 : q = 1
  · subst h1
    by_cases hN0 : 0 < N
    · have dN : decide ((N : Int) > 0) = true := decide_eq_true (by omega)
      have HR2 : Hid (Row w2 w.heap.size 2 N (rowL L) (.slice ao N cp)) := D2.out.1.row.1
      obtain ⟨g, oo, hao, hgB, hg, y0, y1⟩ := HR2.out.at2 hN0
      subst hao
      have fr : w2.frozen? ⟨g, oo + 1, none⟩ = false := by
        rcases D2.out.1.parts with ⟨_, e0⟩ | ⟨g', c', e0, _, _, _, hbk, _⟩
        · omega
        · simp only [Value.slice.injEq, Option.some.injEq, Addr.mk.injEq] at e0
          obtain ⟨⟨rfl, _⟩, _⟩ := e0
          exact hbk.frozen _
      simp only [Nat.zero_mul, Nat.add_zero] at y0 y1
      have HQ : Hid (DrQ w b o len cap N (.slice (some ⟨g, oo, none⟩) N cp) (a1 + 1) (w2.setCell ⟨g, oo + 1, none⟩ (.int .i64 (-1)))) := ⟨⟨_, row_set1 HR2.out (-1)⟩, Src.setNew H.out D2.out.2.1 D2.out.2.2 hgB _ _, But.setNew D2.out.2.2 hgB _ _⟩
      clear D2 HR2
      go_wp2
      go_ret
      exact ⟨N, _, cp, a1 + 1, rfl, by omega, by omega, HQ.out⟩
    · obtain rfl : N = 0 := by omega
      go_wp2
      go_ret
      exact ⟨0, ao, cp, a1 + 1, rfl, by omega, by omega, ⟨_, D2.out.1.row.1⟩, D2.out.2.1, D2.out.2.2⟩
  have d1 : (q == 1) = false := beq_eq_false_iff_ne.2 h1
  go_wp2
  go_ret
  exact ⟨N, ao, cp, a1 + 1, rfl, by omega, by omega, ⟨_, D2.out.1.row.1⟩, D2.out.2.1, D2.out.2.2⟩
end Go.Proofs.YtnchaccgenfhoaaGreat

namespace Go.Proofs.YtnchaccgenfhoaaGreat
open Go.RowKit

theorem but_below {w w1 x : World} (h : Below w.heap.size w w1) (hT : But w.heap.size w1 x) : Below w.heap.size w x :=
  ⟨hT.os.trans h.os, hT.tape.trans h.tape, hT.output.trans h.output, Nat.le_trans h.size hT.size, fun i hi => (hT.block i (Nat.lt_of_lt_of_le hi h.size) (fun e => by cases e; omega)).trans (h.block i hi)⟩
end Go.Proofs.YtnchaccgenfhoaaGreat

namespace Go.Proofs.YtnchaccgenfhoaaGreat
open Go.RowKit

/-- Two rows are alike. -/
def AlikeP (m n : Nat) (F : Nat → Int) (n' : Nat) (G : Nat → Int) : Prop := n = n' ∧ ∀ p, p < n * m → F p = G p
/-- Of the first k elements all numbers are alike. -/
def UptoP (N : Nat) (F G : Nat → Int) : Prop := ∀ p, p < N → F p = G p
theorem neqPair (x0 x1 y0 y1 : Int) (r : Bool) (hr : decide (x0 = y0 ∧ x1 = y1) = r) (w : World) : (binOp .neq 61 (.agg #[.int .i64 x0, .int .i64 x1]) (.agg #[.int .i64 y0, .int .i64 y1])).run Tryz.prog w = .ok (.bool (!r)) w := by
  have hS : Tryz.prog.underlying 61 = some (.struct (Tryz.prog.fieldsOf 61)) := by kernel_rfl
  have hp : Tryz.prog.stoodInHeld 61 = false := by kernel_rfl
  have u2 := Tryz.underlying2
  have a2 := Tryz.isAgg2
  have z2 := Tryz.sizeOf2
  rw [run_neq_struct, show (10000 : Nat) = 9999 + 1 from rfl, run_equalIn_agg w 9999 _ _ _ hS hp]
  simp only [Program.fieldsOf, Tryz.underlying61]
  subst hr
  go_simp
  by_cases h0 : x0 = y0 <;> by_cases h1 : x1 = y1 <;> simp [h0, h1]

theorem uptoPair {k : Nat} {F G : Nat → Int} (hU : Hid (UptoP (k * 2) F G)) (he : F (k * 2) = G (k * 2) ∧ F (k * 2 + 1) = G (k * 2 + 1)) : UptoP ((k + 1) * 2) F G := fun p hp => by
        rcases Nat.lt_or_ge p (k * 2) with h | h
        · exact hU.out p h
        · obtain rfl | rfl : p = k * 2 ∨ p = k * 2 + 1 := by omega
          · exact he.1
          · exact he.2

set_option maxHeartbeats 1000000 in
theorem equalPair_any (va vb : Value) (Ba Bb n n' : Nat) (F G : Nat → Int) (r : Bool) (w : World) (ha : Row w Ba 2 n F va) (hb : Row w Bb 2 n' G vb) (hn : n ≤ 1048576) (hn' : n' ≤ 1048576) (hr : r = true ↔ AlikeP 2 n F n' G) :
    Calls Tryz.prog 30 #[va, vb] w fun e w' => e = .returned (.bool r) ∧ ∃ q, w' = w.drewN q := by
  obtain ⟨ao, ca, rfl⟩ := ha.form
  obtain ⟨bo, cb, rfl⟩ := hb.form
  have HA : Hid (Row w Ba 2 n F (.slice ao n ca)) := ha
  have HB : Hid (Row w Bb 2 n' G (.slice bo n' cb)) := hb
  have HR : Hid (r = true ↔ AlikeP 2 n F n' G) := hr
  clear ha hb hr
  have hgd : Tryz.prog.eqGuardType Tryz.prog.depth 61 = false := by kernel_rfl
  by_cases hne : n = n'
  case neg =>
    have E : Hid (r = false) := by
      cases r with
      | false => rfl
      | true => exact absurd (HR.out.1 rfl).1 hne
    have d : ((n : Int) != (n' : Int)) = true := bne_iff_ne.2 (by omega)
    clear hne hn hn' hgd HA HB HR
    go_enter Tryz.func30, Tryz.ntmps30
    go_wp2
    go_ret
    exact ⟨by rw [E.out]; rfl, 0, rfl⟩
  subst hne
  go_enter Tryz.func30, Tryz.ntmps30
  go_wp2
  go_loopw [13] (fun i wr => ∃ k q : Nat, k ≤ n ∧ i = .int .i64 k ∧ Hid (UptoP (k * 2) F G) ∧ wr = w.drewN q) (fun i _ => n - (intOf i).toNat)
  case atStart => exact ⟨0, 0, Nat.zero_le _, rfl, fun p hp => absurd hp (by omega), rfl⟩
  case round =>
    obtain ⟨k, q, hk, rfl, hU, rfl⟩ := hrel
    by_cases hlt : k < n
    · obtain ⟨g, o, rfl, _, hg, c0, c1⟩ := HA.out.at2 hlt
      obtain ⟨g', o', rfl, _, hg', d0, d1⟩ := HB.out.at2 hlt
      by_cases he : F (k * 2) = G (k * 2) ∧ F (k * 2 + 1) = G (k * 2 + 1)
      · have hq := neqPair (F (k * 2)) (F (k * 2 + 1)) (G (k * 2)) (G (k * 2 + 1)) true (decide_eq_true he)
        have hU2 : Hid (UptoP ((k + 1) * 2) F G) := uptoPair hU he
        clear he hU
        go_wp2
        go_quiet (fail)
        go_wp2
        go_roundw
        case rel => exact ⟨k + 1, _, by omega, by go_num, hU2, rfl⟩
        case measure => simp [intOf]; omega
      · have hq := neqPair (F (k * 2)) (F (k * 2 + 1)) (G (k * 2)) (G (k * 2 + 1)) false (decide_eq_false he)
        have E : Hid (r = false) := by
          cases r with
          | false => rfl
          | true =>
            have h := (HR.out.1 rfl).2
            exact absurd ⟨h _ (by omega), h _ (by omega)⟩ he
        clear he hU
        go_wp2
        go_quiet (fail)
        go_wp2
        go_ret
        exact ⟨by rw [E.out]; rfl, _, World.drewN_drewN _ _ _⟩
    · obtain rfl : k = n := by omega
      have E : Hid (r = true) := HR.out.2 ⟨rfl, hU.out⟩
      clear hU
      go_wp2
      go_ret
      exact ⟨by rw [E.out]; rfl, _, rfl⟩

theorem implSamePairs_any (va vb : Value) (Ba Bb n n' : Nat) (F G : Nat → Int) (r : Bool) (w : World) (ha : Row w Ba 2 n F va) (hb : Row w Bb 2 n' G vb) (hn : n ≤ 1048576) (hn' : n' ≤ 1048576) (hr : r = true ↔ AlikeP 2 n F n' G) :
    Calls Tryz.prog 11 #[va, vb] w fun e w' => e = .returned (.bool r) ∧ ∃ q, w' = w.drewN q := by
  have H : Hid (Row w Ba 2 n F va ∧ Row w Bb 2 n' G vb ∧ (r = true ↔ AlikeP 2 n F n' G)) := ⟨ha, hb, hr⟩
  clear ha hb hr
  go_enter Tryz.func11, Tryz.ntmps11
  go_wp2_with fail
  refine (equalPair_any _ _ _ _ _ _ _ _ r _ H.out.1 H.out.2.1 hn hn' H.out.2.2).mono ?_
  rintro e w1 ⟨rfl, q, rfl⟩
  go_wp2
  go_ret
  exact ⟨rfl, q, rfl⟩
end Go.Proofs.YtnchaccgenfhoaaGreat

namespace Go.Proofs.YtnchaccgenfhoaaGreat
open Go.RowKit

theorem lookF_cons (e : Int × Int) (t : Prs) (k : Int) : lookF (e :: t) k = if e.1 = k then (true, e.2) else lookF t k := by
  unfold lookF
  by_cases h : e.1 = k
  · rw [List.find?_cons_of_pos (by simpa using h), if_pos h]
  · rw [List.find?_cons_of_neg (by simpa using h), if_neg h]
theorem look_gone (L : Prs) (k key : Int) : lookF (gonePr L k) key = if key = k then (false, 0) else lookF L key := by
  induction L with
  | nil => simp [gonePr, lookF]
  | cons e t ih =>
    unfold gonePr at ih ⊢
    by_cases h : e.1 = k
    · rw [List.filter_cons_of_neg (by simp [h]), ih, lookF_cons]
      by_cases hk : key = k
      · rw [if_pos hk, if_pos hk]
      · rw [if_neg hk, if_neg hk, if_neg (by omega)]
    · rw [List.filter_cons_of_pos (by simp [h]), lookF_cons, ih, lookF_cons]
      by_cases hk : key = k
      · rw [if_pos hk, if_pos hk, if_neg (by omega)]
      · rw [if_neg hk, if_neg hk]
theorem look_put (L : Prs) (k v key : Int) : lookF (putPr L k v) key = if key = k then (true, v) else lookF L key := by
  induction L with
  | nil =>
    rw [putPr, lookF_cons]
    by_cases hk : key = k
    · rw [if_pos hk, if_pos hk.symm]
    · rw [if_neg hk, if_neg (fun q => hk q.symm)]
  | cons e t ih =>
    rw [putPr]
    split
    · rw [lookF_cons, look_gone]
      by_cases hk : key = k
      · subst hk
        simp
      · rw [if_neg hk, if_neg (fun q => hk q.symm), if_neg hk]
    · rw [lookF_cons, ih, lookF_cons]
      by_cases hk : key = k
      · rw [if_pos hk, if_pos hk, if_neg (by omega)]
      · rw [if_neg hk, if_neg hk]
theorem lwBigP_is (o : Option Addr) (len cap : Nat) (r : Bool) (w : World) (h : decide ((1048576 : Int) < (len : Int)) = r) :
    Calls Tryz.prog 6 #[.slice o len cap] w fun e w' => e = .returned (.bool r) ∧ w' = w := by
  go_enter Tryz.func6, Tryz.ntmps6
  go_wp2
  go_ret
  exact ⟨by first | rfl | (rw [← h]; rfl), rfl⟩
end Go.Proofs.YtnchaccgenfhoaaGreat

namespace Go.Proofs.YtnchaccgenfhoaaGreat

/-- A view hangs together: f, what is read of it; c, how many entries lead to an inode. -/
structure Whole (f : Int → Bool × Int) (c : Int → Nat) : Prop where
  nx : (f 0).1 = true ∧ 1 ≤ (f 0).2 ∧ (f 0).2 ≤ 10
  root : f (kI 0) = (true, 1000)
  ino : ∀ a, 0 ≤ a → a ≤ 9 → (f (kI a)).1 = true → a < (f 0).2 ∧ ((f (kI a)).2 = 1000 ∨ (0 < c a ∧ (f (kI a)).2 = 2000 + c a))
  dir : ∀ a, 0 ≤ a → a ≤ 9 → f (kI a) = (true, 1000) → (a ≠ 0 → c a = 1) ∧ (a = 0 → c a = 0)
  bytes : ∀ a, 0 ≤ a → a ≤ 9 → (f (kB a)).1 = true → (f (kI a)).1 = true ∧ 0 < c a ∧ (f (kI a)).2 = 2000 + c a
  ent : ∀ d n v, 0 ≤ d → d ≤ 9 → 0 ≤ n → n ≤ 5 → f (kE d n) = (true, v) → (0 ≤ v ∧ v ≤ 9) ∧ (f (kI v)).1 = true ∧ f (kI d) = (true, 1000) ∧ (f (kI v) = (true, 1000) → d < v)
/-- Entries are counted. -/
def Counts (f : Int → Bool × Int) (c : Int → Nat) : Prop := ∀ a, 0 < c a ↔ ∃ d n, 0 ≤ d ∧ d ≤ 9 ∧ 0 ≤ n ∧ n ≤ 5 ∧ f (kE d n) = (true, a)
theorem pair_of {x : Bool × Int} {b : Bool} {v : Int} (h1 : x.1 = b) (h2 : x.2 = v) : x = (b, v) := by cases x; simp_all
theorem Whole.make {f f' : Int → Bool × Int} {c c' : Int → Nat} (h : Whole f c) (hc : Counts f c) {d n N vI : Int} (hd0 : 0 ≤ d) (hd9 : d ≤ 9) (hd : f (kI d) = (true, 1000)) (hN : (f 0).2 = N) (hN9 : N ≤ 9) (hv : vI = 2001 ∨ vI = 1000)
    (f0 : f' 0 = (true, N + 1)) (fI : ∀ a, 0 ≤ a → a ≤ 9 → f' (kI a) = if a = N then (true, vI) else f (kI a)) (fB : ∀ a, 0 ≤ a → a ≤ 9 → f' (kB a) = f (kB a))
    (fE : ∀ x y, 0 ≤ x → x ≤ 9 → 0 ≤ y → y ≤ 5 → f' (kE x y) = if x = d ∧ y = n then (true, N) else f (kE x y)) (fc : ∀ a, c' a = c a + if a = N then 1 else 0) : Whole f' c' := by
  obtain ⟨hn1, hn2, hn3⟩ := h.nx
  rw [hN] at hn2 hn3
  have hIN : ¬ (f (kI N)).1 = true := fun q => by have := (h.ino N (by omega) (by omega) q).1; omega
  have hcN : c N = 0 := by
    by_cases q : 0 < c N
    · obtain ⟨x, y, q1, q2, q3, q4, q5⟩ := (hc N).1 q
      exact absurd (h.ent x y N q1 q2 q3 q4 q5).2.1 hIN
    · omega
  have hdN : d ≠ N := fun q => hIN (by rw [← q, hd])
  refine ⟨by rw [f0]; exact ⟨rfl, by show 1 ≤ N + 1; omega, by show N + 1 ≤ 10; omega⟩, ?_, ?_, ?_, ?_, ?_⟩
  · rw [fI 0 (by omega) (by omega), if_neg (by omega)]; exact h.root
  · intro a h0 h9 q
    rw [fI a h0 h9] at q ⊢
    rw [f0, fc a]
    by_cases e : a = N
    · rw [if_pos e, if_pos e, e, hcN]
      refine ⟨by show N < N + 1; omega, ?_⟩
      show vI = 1000 ∨ (0 < 0 + 1 ∧ vI = 2000 + ((0 + 1 : Nat) : Int))
      rcases hv with rfl | rfl
      · exact Or.inr ⟨by omega, by omega⟩
      · exact Or.inl rfl
    · rw [if_neg e] at q ⊢
      rw [if_neg e]
      obtain ⟨q1, q2⟩ := h.ino a h0 h9 q
      rw [hN] at q1
      exact ⟨by show a < N + 1; omega, q2⟩
  · intro a h0 h9 q
    rw [fI a h0 h9] at q
    rw [fc a]
    by_cases e : a = N
    · rw [if_pos e, e, hcN]
      exact ⟨fun _ => rfl, fun q0 => by omega⟩
    · rw [if_neg e] at q ⊢
      exact h.dir a h0 h9 q
  · intro a h0 h9 q
    rw [fB a h0 h9] at q
    rw [fI a h0 h9, fc a]
    have e : a ≠ N := fun e => hIN (by rw [← e]; exact (h.bytes a h0 h9 q).1)
    rw [if_neg e, if_neg e]
    exact h.bytes a h0 h9 q
  · intro x y v q1 q2 q3 q4 q
    rw [fE x y q1 q2 q3 q4] at q
    rw [fI x q1 q2]
    by_cases e : x = d ∧ y = n
    · rw [if_pos e] at q
      obtain rfl : N = v := by simpa using q
      rw [fI N (by omega) (by omega), if_pos rfl, e.1, if_neg hdN]
      refine ⟨⟨by omega, by omega⟩, rfl, hd, fun _ => ?_⟩
      have := (h.ino d hd0 hd9 (by rw [hd])).1
      omega
    · rw [if_neg e] at q
      obtain ⟨w1, w2, w3, w4⟩ := h.ent x y v q1 q2 q3 q4 q
      have ev : v ≠ N := fun e => hIN (by rw [← e]; exact w2)
      have ex : x ≠ N := fun e => hIN (by rw [← e, w3])
      rw [fI v w1.1 w1.2, if_neg ev, if_neg ex]
      exact ⟨w1, w2, w3, w4⟩
/-- An entry that leads to an inode goes, and with it the inode (and its bytes). -/
theorem Whole.gone {f f' : Int → Bool × Int} {c c' : Int → Nat} (h : Whole f c) (hc' : Counts f' c') {d n v : Int} (hne : v ≠ 0)
    (hone : c v = 1) (hemp : ∀ y, 0 ≤ y → y ≤ 5 → f (kI v) = (true, 1000) → (f (kE v y)).1 = false)
    (f0 : f' 0 = f 0) (fI : ∀ a, 0 ≤ a → a ≤ 9 → f' (kI a) = if a = v then (false, 0) else f (kI a)) (fB : ∀ a, 0 ≤ a → a ≤ 9 → (f' (kB a)).1 = true → a ≠ v ∧ f' (kB a) = f (kB a))
    (fE : ∀ x y, 0 ≤ x → x ≤ 9 → 0 ≤ y → y ≤ 5 → f' (kE x y) = if x = d ∧ y = n then (false, 0) else f (kE x y)) (fc : ∀ a, c a = c' a + if a = v then 1 else 0) : Whole f' c' := by
  have hcv : c' v = 0 := by have := fc v; rw [if_pos rfl] at this; omega
  have hca : ∀ a, a ≠ v → c' a = c a := fun a e => by have := fc a; rw [if_neg e] at this; omega
  refine ⟨by rw [f0]; exact h.nx, ?_, ?_, ?_, ?_, ?_⟩
  · rw [fI 0 (by omega) (by omega), if_neg (by omega)]; exact h.root
  · intro a h0 h9 q
    rw [fI a h0 h9] at q ⊢
    rw [f0]
    by_cases e : a = v
    · rw [if_pos e] at q; cases q
    · rw [if_neg e] at q ⊢
      rw [hca a e]
      exact h.ino a h0 h9 q
  · intro a h0 h9 q
    rw [fI a h0 h9] at q
    by_cases e : a = v
    · rw [if_pos e] at q; cases q
    · rw [if_neg e] at q
      rw [hca a e]
      exact h.dir a h0 h9 q
  · intro a h0 h9 q
    obtain ⟨e, q1⟩ := fB a h0 h9 q
    rw [q1] at q
    rw [fI a h0 h9, if_neg e, hca a e]
    exact h.bytes a h0 h9 q
  · intro x y z q1 q2 q3 q4 q
    have hz : z ≠ v := fun e => by
      have := (hc' z).2 ⟨x, y, q1, q2, q3, q4, q⟩
      rw [e, hcv] at this
      omega
    rw [fE x y q1 q2 q3 q4] at q
    by_cases e : x = d ∧ y = n
    · rw [if_pos e] at q; cases q
    · rw [if_neg e] at q
      obtain ⟨w1, w2, w3, w4⟩ := h.ent x y z q1 q2 q3 q4 q
      have ex : x ≠ v := fun e => by
        have := hemp y q3 q4 (by rw [← e]; exact w3)
        rw [← e, q] at this
        cases this
      rw [fI z w1.1 w1.2, if_neg hz, fI x q1 q2, if_neg ex]
      exact ⟨w1, w2, w3, w4⟩
/-- A file's links turn: one entry comes or goes, its inode says so. -/
theorem Whole.links {f f' : Int → Bool × Int} {c c' : Int → Nat} (h : Whole f c) {v : Int} (hv0 : 0 ≤ v) (hv9 : v ≤ 9) (hin : (f (kI v)).1 = true) (hfile : (f (kI v)).2 ≠ 1000) (hcv : 0 < c' v)
    (f0 : f' 0 = f 0) (fI : ∀ a, 0 ≤ a → a ≤ 9 → f' (kI a) = if a = v then (true, 2000 + (c' v : Int)) else f (kI a)) (fB : ∀ a, 0 ≤ a → a ≤ 9 → f' (kB a) = f (kB a))
    (fE : ∀ x y z, 0 ≤ x → x ≤ 9 → 0 ≤ y → y ≤ 5 → f' (kE x y) = (true, z) → f (kE x y) = (true, z) ∨ (z = v ∧ f (kI x) = (true, 1000))) (fc : ∀ a, a ≠ v → c' a = c a) : Whole f' c' := by
  have hnd : ∀ k : Nat, (2000 + (k : Int)) ≠ 1000 := fun k => by omega
  refine ⟨by rw [f0]; exact h.nx, ?_, ?_, ?_, ?_, ?_⟩
  · have e : (0 : Int) ≠ v := fun e => hfile (by rw [← e, h.root])
    rw [fI 0 (by omega) (by omega), if_neg e]; exact h.root
  · intro a h0 h9 q
    rw [fI a h0 h9] at q ⊢
    rw [f0]
    by_cases e : a = v
    · rw [if_pos e, e]
      exact ⟨(h.ino v hv0 hv9 hin).1, Or.inr ⟨hcv, rfl⟩⟩
    · rw [if_neg e] at q ⊢
      rw [fc a e]
      exact h.ino a h0 h9 q
  · intro a h0 h9 q
    rw [fI a h0 h9] at q
    by_cases e : a = v
    · rw [if_pos e] at q
      exact absurd (by simpa using q) (hnd (c' v))
    · rw [if_neg e] at q
      rw [fc a e]
      exact h.dir a h0 h9 q
  · intro a h0 h9 q
    rw [fB a h0 h9] at q
    rw [fI a h0 h9]
    by_cases e : a = v
    · rw [if_pos e, e]
      exact ⟨rfl, hcv, rfl⟩
    · rw [if_neg e, fc a e]
      exact h.bytes a h0 h9 q
  · intro x y z q1 q2 q3 q4 q
    have hx : ∀ w, f (kI w) = (true, 1000) → w ≠ v := fun w q e => hfile (by rw [← e, q])
    rcases fE x y z q1 q2 q3 q4 q with q | ⟨rfl, q⟩
    · obtain ⟨w1, w2, w3, w4⟩ := h.ent x y z q1 q2 q3 q4 q
      rw [fI x q1 q2, if_neg (hx x w3), fI z w1.1 w1.2]
      by_cases e : z = v
      · rw [if_pos e]
        exact ⟨w1, rfl, w3, fun q => absurd (by simpa using q) (hnd (c' v))⟩
      · rw [if_neg e]
        exact ⟨w1, w2, w3, w4⟩
    · rw [fI x q1 q2, if_neg (hx x q), fI z hv0 hv9, if_pos rfl]
      exact ⟨⟨hv0, hv9⟩, rfl, q, fun q => absurd (by simpa using q) (hnd _)⟩
/-- Inodes stay; entries are where directories are. -/
theorem Whole.moved {f f' : Int → Bool × Int} {c c' : Int → Nat} (h : Whole f c) (f0 : f' 0 = f 0) (fI : ∀ a, 0 ≤ a → a ≤ 9 → f' (kI a) = f (kI a)) (fB : ∀ a, 0 ≤ a → a ≤ 9 → (f' (kB a)).1 = true → f' (kB a) = f (kB a) ∨ ((f (kI a)).1 = true ∧ 0 < c a ∧ (f (kI a)).2 = 2000 + c a))
    (fE : ∀ x y z, 0 ≤ x → x ≤ 9 → 0 ≤ y → y ≤ 5 → f' (kE x y) = (true, z) → f (kE x y) = (true, z) ∨ ((0 ≤ z ∧ z ≤ 9) ∧ (f (kI z)).1 = true ∧ f (kI x) = (true, 1000) ∧ (f (kI z) = (true, 1000) → x < z))) (fc : ∀ a, c' a = c a) : Whole f' c' := by
  refine ⟨by rw [f0]; exact h.nx, by rw [fI 0 (by omega) (by omega)]; exact h.root, ?_, ?_, ?_, ?_⟩
  · intro a h0 h9 q
    rw [fI a h0 h9] at q ⊢
    rw [f0, fc]
    exact h.ino a h0 h9 q
  · intro a h0 h9 q
    rw [fI a h0 h9] at q
    rw [fc]
    exact h.dir a h0 h9 q
  · intro a h0 h9 q
    rw [fI a h0 h9, fc]
    rcases fB a h0 h9 q with e | e
    · rw [e] at q
      exact h.bytes a h0 h9 q
    · exact e
  · intro x y z q1 q2 q3 q4 q
    have : (0 ≤ z ∧ z ≤ 9) ∧ (f (kI z)).1 = true ∧ f (kI x) = (true, 1000) ∧ (f (kI z) = (true, 1000) → x < z) := by
      rcases fE x y z q1 q2 q3 q4 q with e | e
      · exact h.ent x y z q1 q2 q3 q4 e
      · exact e
    rw [fI x q1 q2, fI z this.1.1 this.1.2]
    exact this
end Go.Proofs.YtnchaccgenfhoaaGreat

namespace Go.Proofs.YtnchaccgenfhoaaGreat

theorem key_entry {k : Int} (h : partK k = 2) : ∃ d n, (0 ≤ d ∧ d ≤ 9) ∧ (0 ≤ n ∧ n ≤ 5) ∧ k = kE d n ∧ partA k = d := by
  have hf : faultOf k = 0 := by
    apply Classical.byContradiction
    intro q
    rw [(parts_bad q).1] at h
    omega
  obtain ⟨e1, e2, _⟩ := parts_ok hf
  rw [h] at e1
  rw [← e1, if_pos rfl] at e2
  have h2 := fault_zero hf
  have h3 : 20 ≤ k ∧ k < 180 := by
    unfold kindAt at e1
    split at e1
    · omega
    · split at e1
      · omega
      · split at e1
        · omega
        · omega
  refine ⟨(k - 20) / 10, k % 10, by omega, by omega, by unfold kE; omega, e2⟩
theorem mem_look {L : Prs} (hr : Rises L) {e : Int × Int} (he : e ∈ L) : lookF L e.1 = (true, e.2) := by
  induction L with
  | nil => cases he
  | cons x t ih =>
    obtain ⟨h1, h2⟩ := List.pairwise_cons.1 hr
    rw [lookF_cons]
    rcases List.mem_cons.1 he with rfl | ht
    · rw [if_pos rfl]
    · have := h1 e ht
      rw [if_neg (by omega)]
      exact ih h2 ht
theorem linkN_cons (e : Int × Int) (t : Prs) (a : Int) : linkN (e :: t) a = linkN t a + if partK e.1 = 2 ∧ e.2 = a then 1 else 0 := by
  rw [linkN_filter, linkN_filter, List.filter_cons]
  by_cases h : partK e.1 = 2 ∧ e.2 = a
  · rw [if_pos h, if_pos (by simp [h.1, h.2])]; rfl
  · rw [if_neg h, if_neg (by simpa using h)]; rfl
theorem gone_none {L : Prs} {k : Int} (h : ∀ e ∈ L, e.1 ≠ k) : gonePr L k = L := by
  unfold gonePr
  exact List.filter_eq_self.2 fun e he => by simpa using h e he
theorem linkN_gone {L : Prs} (hr : Rises L) (k a : Int) : linkN L a = linkN (gonePr L k) a + if partK k = 2 ∧ lookF L k = (true, a) then 1 else 0 := by
  induction L with
  | nil => simp [gonePr, lookF]
  | cons e t ih =>
    obtain ⟨h1, h2⟩ := List.pairwise_cons.1 hr
    rw [linkN_cons, lookF_cons]
    by_cases hk : e.1 = k
    · have hg : gonePr (e :: t) k = t := by
        have : gonePr (e :: t) k = gonePr t k := by simp [gonePr, hk]
        rw [this]
        exact gone_none fun x hx => by have := h1 x hx; omega
      rw [hg, if_pos hk, hk]
      by_cases q : partK k = 2 ∧ e.2 = a
      · rw [if_pos q, if_pos ⟨q.1, by rw [q.2]⟩]
      · rw [if_neg q, if_neg (fun z => q ⟨z.1, by simpa using z.2⟩)]
    · have hg : gonePr (e :: t) k = e :: gonePr t k := by simp [gonePr, hk]
      rw [hg, if_neg hk, linkN_cons, ih h2]
      omega
theorem linkN_put (L : Prs) (k v a : Int) : linkN (putPr L k v) a = linkN (gonePr L k) a + if partK k = 2 ∧ v = a then 1 else 0 := by
  induction L with
  | nil =>
    rw [putPr, linkN_cons]; rfl
  | cons e t ih =>
    rw [putPr]
    split
    · rw [linkN_cons]
    · rename_i hk
      have hg : gonePr (e :: t) k = e :: gonePr t k := by
        have : e.1 ≠ k := by omega
        simp [gonePr, this]
      rw [hg, linkN_cons, linkN_cons, ih]
      omega
theorem counts_of {L : Prs} (hg : GoodP L) : Counts (lookF L) (linkN L) := by
  intro a
  rw [linkN_filter]
  constructor
  · intro h
    obtain ⟨e, he⟩ := List.exists_mem_of_length_pos h
    obtain ⟨h1, h2⟩ := List.mem_filter.1 he
    rw [Bool.and_eq_true, beq_iff_eq, beq_iff_eq] at h2
    obtain ⟨d, n, hd, hn, hk, _⟩ := key_entry h2.1
    exact ⟨d, n, hd.1, hd.2, hn.1, hn.2, by rw [← hk, mem_look hg.1 h1, h2.2]⟩
  · rintro ⟨d, n, h1, h2, h3, h4, h5⟩
    have hm := look_mem (L := L) (k := kE d n) (by rw [h5])
    rw [h5] at hm
    refine List.length_pos_of_mem (List.mem_filter.2 ⟨hm, ?_⟩)
    rw [(parts_entry ⟨h1, h2⟩ ⟨h3, h4⟩).1]
    simp
theorem dirE_iff {L : Prs} {a : Int} : dirB L a = true ↔ lookF L (kI a) = (true, 1000) := by
  unfold dirB
  rw [beq_iff_eq]
  constructor
  · intro h
    refine pair_of ?_ h
    cases q : (lookF L (kI a)).1 with
    | true => rfl
    | false => rw [lookF_zero q] at h; omega
  · intro h; rw [h]
theorem ino1 (r : Bool) (z nx a : Int) (c : Nat) : (!(r && (decide (a ≥ nx) || (!dirV r z && !fileV r z c)))) = true ↔ (r = true → a < nx ∧ (z = 1000 ∨ (0 < c ∧ z = 2000 + (c : Int)))) := by
  cases r
  · simp
  · simp only [dirV, fileV, Bool.true_and, Bool.not_eq_true', Bool.or_eq_false_iff, decide_eq_false_iff_not, forall_const, Bool.and_eq_false_iff, Bool.not_eq_false', beq_iff_eq, Bool.and_eq_true, decide_eq_true_eq]
    constructor
    · rintro ⟨h1, h2⟩
      exact ⟨by omega, by omega⟩
    · rintro ⟨h1, h2⟩
      exact ⟨by omega, by omega⟩
theorem ino2 (r : Bool) (z a : Int) (c : Nat) : (!(dirV r z && ((a != 0 && (c : Int) != 1) || (a == 0 && (c : Int) != 0)))) = true ↔ ((r, z) = (true, (1000 : Int)) → (a ≠ 0 → c = 1) ∧ (a = 0 → c = 0)) := by
  cases r
  · simp [dirV]
  · simp only [dirV, Bool.true_and, Bool.not_eq_true', Bool.and_eq_false_iff, beq_eq_false_iff_ne, Bool.or_eq_false_iff, bne_eq_false_iff_eq, ne_eq, Prod.mk.injEq, true_and]
    constructor
    · intro h hz
      rcases h with h | ⟨h1, h2⟩
      · exact absurd hz h
      · exact ⟨fun q => by rcases h1 with h1 | h1 <;> omega, fun q => by rcases h2 with h2 | h2 <;> omega⟩
    · intro h
      by_cases hz : z = 1000
      · obtain ⟨h1, h2⟩ := h hz
        refine Or.inr ⟨?_, ?_⟩
        · by_cases q : a = 0
          · exact Or.inl q
          · exact Or.inr (by have := h1 q; omega)
        · by_cases q : a = 0
          · exact Or.inr (by have := h2 q; omega)
          · exact Or.inl q
      · exact Or.inl hz
theorem ino3 (r s : Bool) (z : Int) (c : Nat) : (!(s && !fileV r z c)) = true ↔ (s = true → r = true ∧ 0 < c ∧ z = 2000 + (c : Int)) := by
  cases s
  · simp
  · cases r
    · simp [fileV]
    · simp only [fileV, Bool.true_and, Bool.not_not, Bool.and_eq_true, decide_eq_true_eq, beq_iff_eq, forall_const]
      constructor
      · rintro ⟨h1, h2⟩
        exact ⟨trivial, by omega, by omega⟩
      · rintro ⟨_, h1, h2⟩
        exact ⟨by omega, by omega⟩
theorem ino4 (L : Prs) (r : Bool) (z a : Int) : (L.all fun e => !(badE L r (dirV r z) a e)) = true ↔ ∀ e ∈ L, partK e.1 = 2 → e.2 = a → r = true ∧ dirB L (partA e.1) = true ∧ ((r, z) = (true, (1000 : Int)) → partA e.1 < a) := by
  rw [List.all_eq_true]
  refine forall_congr' fun e => forall_congr' fun _ => ?_
  unfold badE
  by_cases h1 : partK e.1 = 2
  · by_cases h2 : e.2 = a
    · rw [beq_iff_eq.2 h1, beq_iff_eq.2 h2]
      cases r
      · simp [h1, h2]
      · cases hd : dirB L (partA e.1)
        · simp [h1, h2]
        · simp only [dirV, Bool.true_and, Bool.not_true, Bool.false_or, Bool.not_eq_true', Bool.and_eq_false_iff, beq_eq_false_iff_ne, decide_eq_false_iff_not, h1, h2, forall_const, true_and, Prod.mk.injEq]
          constructor
          · intro h hz
            rcases h with h | h
            · exact absurd hz h
            · omega
          · intro h
            by_cases hz : z = 1000
            · exact Or.inr (by have := h hz; omega)
            · exact Or.inl hz
    · have : (e.2 == a) = false := beq_eq_false_iff_ne.2 h2
      simp [this, h2]
  · have : (partK e.1 == 2) = false := beq_eq_false_iff_ne.2 h1
    simp [this, h1]
theorem inode_iff {L : Prs} {nx a : Int} : inodeB L nx a = true ↔
    (((lookF L (kI a)).1 = true → a < nx ∧ ((lookF L (kI a)).2 = 1000 ∨ (0 < linkN L a ∧ (lookF L (kI a)).2 = 2000 + (linkN L a : Int)))) ∧
     (lookF L (kI a) = (true, 1000) → (a ≠ 0 → linkN L a = 1) ∧ (a = 0 → linkN L a = 0)) ∧
     ((lookF L (kB a)).1 = true → (lookF L (kI a)).1 = true ∧ 0 < linkN L a ∧ (lookF L (kI a)).2 = 2000 + (linkN L a : Int)) ∧
     ∀ e ∈ L, partK e.1 = 2 → e.2 = a → (lookF L (kI a)).1 = true ∧ dirB L (partA e.1) = true ∧ (lookF L (kI a) = (true, 1000) → partA e.1 < a)) := by
  unfold inodeB inodeV
  rw [Bool.and_eq_true, Bool.and_eq_true, Bool.and_eq_true, ino1, ino2, ino3, ino4]
theorem whole_iff {L : Prs} (hg : GoodP L) : wholeB L = true ↔ Whole (lookF L) (linkN L) := by
  unfold wholeB
  rw [Bool.and_eq_true, Bool.and_eq_true, Bool.and_eq_true, Bool.and_eq_true, decide_eq_true_eq, dirE_iff]
  constructor
  · rintro ⟨h1, h2, h3, h4, h5⟩
    have hi : ∀ a, 0 ≤ a → a ≤ 9 → inodeB L (lookF L 0).2 a = true := fun a h0 h9 => by
      have := List.all_eq_true.1 h4 a.toNat (List.mem_range.2 (by omega))
      rwa [Int.toNat_of_nonneg h0] at this
    refine ⟨⟨h1, h2.1, h2.2⟩, h3, fun a h0 h9 => (inode_iff.1 (hi a h0 h9)).1, fun a h0 h9 => (inode_iff.1 (hi a h0 h9)).2.1, fun a h0 h9 => (inode_iff.1 (hi a h0 h9)).2.2.1, ?_⟩
    intro d n v d0 d9 n0 n5 q
    have hm := look_mem (L := L) (k := kE d n) (by rw [q])
    rw [q] at hm
    have hp := parts_entry (d := d) (i := n) ⟨d0, d9⟩ ⟨n0, n5⟩
    have hv : 0 ≤ v ∧ v ≤ 9 := by
      have := all_of h5 hm
      unfold noInode at this
      rw [hp.1] at this
      simpa using this
    have := (inode_iff.1 (hi v hv.1 hv.2)).2.2.2 _ hm hp.1 rfl
    rw [hp.2, dirE_iff] at this
    exact ⟨hv, this.1, this.2.1, this.2.2⟩
  · intro h
    have hen : ∀ e ∈ L, partK e.1 = 2 → (0 ≤ e.2 ∧ e.2 ≤ 9) ∧ (lookF L (kI e.2)).1 = true ∧ lookF L (kI (partA e.1)) = (true, 1000) ∧ (lookF L (kI e.2) = (true, 1000) → partA e.1 < e.2) := by
      intro e he hk
      obtain ⟨d, n, hd, hn, hk2, hk3⟩ := key_entry hk
      have := mem_look hg.1 he
      rw [hk2] at this
      rw [hk3]
      exact h.ent d n e.2 hd.1 hd.2 hn.1 hn.2 this
    refine ⟨h.nx.1, h.nx.2, h.root, ?_, ?_⟩
    · rw [List.all_eq_true]
      intro a ha
      have ha' := List.mem_range.1 ha
      refine inode_iff.2 ⟨h.ino a (by omega) (by omega), h.dir a (by omega) (by omega), h.bytes a (by omega) (by omega), ?_⟩
      intro e he hk q
      obtain ⟨_, w2, w3, w4⟩ := hen e he hk
      rw [q] at w2 w4
      exact ⟨w2, dirE_iff.2 w3, w4⟩
    · rw [List.all_eq_true]
      intro e he
      unfold noInode
      by_cases hk : partK e.1 = 2
      · have := (hen e he hk).1
        simp [hk, this.1, this.2]
      · simp [hk]
end Go.Proofs.YtnchaccgenfhoaaGreat

namespace Go.Proofs.YtnchaccgenfhoaaGreat

theorem part_kI {a : Int} (h0 : 0 ≤ a) (h9 : a ≤ 9) : partK (kI a) ≠ 2 := by
  rcases parts_ways (kI a) with ⟨_, e, _⟩ | ⟨_, _, e, _⟩ | ⟨_, _, _, e, _⟩ | ⟨h1, h2, _⟩ | ⟨_, _, _, e, _⟩
  · omega
  · omega
  · omega
  · unfold kI at h1; omega
  · omega
theorem part_kB {a : Int} (h0 : 0 ≤ a) (h9 : a ≤ 9) : partK (kB a) ≠ 2 := by
  rcases parts_ways (kB a) with ⟨_, e, _⟩ | ⟨_, _, e, _⟩ | ⟨_, _, _, e, _⟩ | ⟨h1, h2, _⟩ | ⟨_, _, _, e, _⟩
  · omega
  · omega
  · omega
  · unfold kB at h2; omega
  · omega
theorem part_0 : partK 0 ≠ 2 := by
  rcases parts_ways 0 with ⟨_, e, _⟩ | ⟨_, _, e, _⟩ | ⟨_, _, _, e, _⟩ | ⟨h1, h2, _⟩ | ⟨_, _, _, e, _⟩ <;> omega
theorem link_goneO {L : Prs} (hr : Rises L) {k : Int} (hk : partK k ≠ 2) (a : Int) : linkN (gonePr L k) a = linkN L a := by
  rw [linkN_gone hr k a, if_neg (fun q => hk q.1)]; omega
theorem link_putO {L : Prs} (hr : Rises L) {k : Int} (hk : partK k ≠ 2) (v a : Int) : linkN (putPr L k v) a = linkN L a := by
  rw [linkN_put, if_neg (fun q => hk q.1), link_goneO hr hk]; omega
theorem link_new {L : Prs} (hr : Rises L) {k : Int} (hk : partK k = 2) (hl : (lookF L k).1 = false) (v a : Int) : linkN (putPr L k v) a = linkN L a + if a = v then 1 else 0 := by
  have h0 := linkN_gone hr k a
  rw [if_neg (fun q => by rw [q.2] at hl; cases hl)] at h0
  rw [linkN_put, h0]
  by_cases e : a = v
  · rw [if_pos e, if_pos ⟨hk, e.symm⟩]
  · rw [if_neg e, if_neg (fun q => e q.2.symm)]
theorem link_old {L : Prs} (hr : Rises L) {k v : Int} (hk : partK k = 2) (hl : lookF L k = (true, v)) (a : Int) : linkN L a = linkN (gonePr L k) a + if a = v then 1 else 0 := by
  rw [linkN_gone hr k a]
  by_cases e : a = v
  · rw [if_pos e, if_pos ⟨hk, by rw [hl, e]⟩]
  · rw [if_neg e, if_neg (fun q => e (by have := q.2; rw [hl] at this; simpa using this.symm))]
section
variable {L : Prs} {d n : Int}
theorem whole_make (hg : GoodP L) (h : Whole (lookF L) (linkN L)) (hd0 : 0 ≤ d) (hd9 : d ≤ 9) (hn0 : 0 ≤ n) (hn5 : n ≤ 5) (hd : lookF L (kI d) = (true, 1000)) (he : (lookF L (kE d n)).1 = false) (hN : 1 ≤ (lookF L 0).2 ∧ (lookF L 0).2 ≤ 9) {vI : Int} (hv : vI = 2001 ∨ vI = 1000) :
    Whole (lookF (putPr (putPr (putPr L 0 ((lookF L 0).2 + 1)) (kI (lookF L 0).2) vI) (kE d n) (lookF L 0).2)) (linkN (putPr (putPr (putPr L 0 ((lookF L 0).2 + 1)) (kI (lookF L 0).2) vI) (kE d n) (lookF L 0).2)) := by
  obtain ⟨N, hNN⟩ : ∃ N, (lookF L 0).2 = N := ⟨_, rfl⟩
  rw [hNN] at hN ⊢
  have r1 := putPr_rises hg.1 0 (N + 1)
  have r2 := putPr_rises r1 (kI N) vI
  refine h.make (counts_of hg) hd0 hd9 hd hNN hN.2 hv (n := n) ?_ ?_ ?_ ?_ ?_
  · rw [look_put, if_neg (by unfold kE; omega), look_put, if_neg (by unfold kI; omega), look_put, if_pos rfl]
  · intro a h0 h9
    rw [look_put, if_neg (by unfold kE kI; omega), look_put, look_put]
    by_cases e : a = N
    · rw [if_pos e, if_pos (by rw [e])]
    · rw [if_neg e, if_neg (by unfold kI; omega), if_neg (by unfold kI; omega)]
  · intro a h0 h9
    rw [look_put, if_neg (by unfold kE kB; omega), look_put, if_neg (by unfold kI kB; omega), look_put, if_neg (by unfold kB; omega)]
  · intro x y x0 x9 y0 y5
    rw [look_put, look_put, look_put]
    by_cases e : x = d ∧ y = n
    · rw [if_pos e, if_pos (by rw [e.1, e.2])]
    · rw [if_neg e, if_neg (by unfold kE; omega), if_neg (by unfold kE kI; omega), if_neg (by unfold kE; omega)]
  · intro a
    rw [link_new r2 (parts_entry ⟨hd0, hd9⟩ ⟨hn0, hn5⟩).1 (by rw [look_put, if_neg (by unfold kE kI; omega), look_put, if_neg (by unfold kE; omega)]; exact he), link_putO r1 (part_kI (by omega) (by omega)), link_putO hg.1 part_0]
theorem kE_ne {x y : Int} (y0 : 0 ≤ y) (y5 : y ≤ 5) (hn0 : 0 ≤ n) (hn5 : n ≤ 5) (e : ¬ (x = d ∧ y = n)) : kE x y ≠ kE d n := by unfold kE; omega
/-- An entry goes, and its inode. -/
theorem whole_rmdir (hg : GoodP L) (h : Whole (lookF L) (linkN L)) (hd0 : 0 ≤ d) (hd9 : d ≤ 9) (hn0 : 0 ≤ n) (hn5 : n ≤ 5) {v : Int} (he : lookF L (kE d n) = (true, v)) (hv : lookF L (kI v) = (true, 1000)) (hemp : ∀ y, 0 ≤ y → y ≤ 5 → (lookF L (kE v y)).1 = false)
    (hg' : GoodP (gonePr (gonePr L (kE d n)) (kI v))) : Whole (lookF (gonePr (gonePr L (kE d n)) (kI v))) (linkN (gonePr (gonePr L (kE d n)) (kI v))) := by
  obtain ⟨hvv, _, _, _⟩ := h.ent d n v hd0 hd9 hn0 hn5 he
  have hpos : 0 < linkN L v := (counts_of hg v).2 ⟨d, n, hd0, hd9, hn0, hn5, he⟩
  have hdv := h.dir v hvv.1 hvv.2 hv
  have hne : v ≠ 0 := fun e => by have := hdv.2 e; omega
  have r1 := gonePr_rises hg.1 (kE d n)
  refine h.gone (counts_of hg') (d := d) (n := n) hne (hdv.1 hne) (fun y y0 y5 _ => hemp y y0 y5) ?_ ?_ ?_ ?_ ?_
  · rw [look_gone, if_neg (by unfold kI; omega), look_gone, if_neg (by unfold kE; omega)]
  · intro a h0 h9
    rw [look_gone, look_gone]
    by_cases e : a = v
    · rw [if_pos e, if_pos (by rw [e])]
    · rw [if_neg e, if_neg (by unfold kI; omega), if_neg (by unfold kI kE; omega)]
  · intro a h0 h9 q
    rw [look_gone, if_neg (by unfold kI kB; omega), look_gone, if_neg (by unfold kE kB; omega)] at q ⊢
    refine ⟨fun e => ?_, rfl⟩
    have := (h.bytes a h0 h9 q).2.2
    rw [e, hv] at this
    simp at this
    omega
  · intro x y x0 x9 y0 y5
    rw [look_gone, if_neg (by unfold kI kE; omega), look_gone]
    by_cases e : x = d ∧ y = n
    · rw [if_pos e, if_pos (by rw [e.1, e.2])]
    · rw [if_neg e, if_neg (kE_ne y0 y5 hn0 hn5 e)]
  · intro a
    rw [link_goneO r1 (part_kI hvv.1 hvv.2)]
    exact link_old hg.1 (parts_entry ⟨hd0, hd9⟩ ⟨hn0, hn5⟩).1 he a
theorem whole_rmfile (hg : GoodP L) (h : Whole (lookF L) (linkN L)) (hd0 : 0 ≤ d) (hd9 : d ≤ 9) (hn0 : 0 ≤ n) (hn5 : n ≤ 5) {v : Int} (he : lookF L (kE d n) = (true, v)) (hv : (lookF L (kI v)).2 ≠ 1000) (h1 : (lookF L (kI v)).2 ≤ 2001)
    (hg' : GoodP (gonePr (gonePr (gonePr L (kE d n)) (kI v)) (kB v))) : Whole (lookF (gonePr (gonePr (gonePr L (kE d n)) (kI v)) (kB v))) (linkN (gonePr (gonePr (gonePr L (kE d n)) (kI v)) (kB v))) := by
  obtain ⟨hvv, hin, _, _⟩ := h.ent d n v hd0 hd9 hn0 hn5 he
  have hfile := (h.ino v hvv.1 hvv.2 hin).2
  have hne : v ≠ 0 := fun e => hv (by rw [e, h.root])
  have r1 := gonePr_rises hg.1 (kE d n)
  have r2 := gonePr_rises r1 (kI v)
  refine h.gone (counts_of hg') (d := d) (n := n) hne (by omega) (fun y y0 y5 q => absurd (by rw [q]) hv) ?_ ?_ ?_ ?_ ?_
  · rw [look_gone, if_neg (by unfold kB; omega), look_gone, if_neg (by unfold kI; omega), look_gone, if_neg (by unfold kE; omega)]
  · intro a h0 h9
    rw [look_gone, if_neg (by unfold kB kI; omega), look_gone, look_gone]
    by_cases e : a = v
    · rw [if_pos e, if_pos (by rw [e])]
    · rw [if_neg e, if_neg (by unfold kI; omega), if_neg (by unfold kI kE; omega)]
  · intro a h0 h9 q
    rw [look_gone] at q ⊢
    by_cases e : a = v
    · rw [if_pos (by rw [e])] at q; cases q
    · rw [if_neg (by unfold kB; omega), look_gone, if_neg (by unfold kI kB; omega), look_gone, if_neg (by unfold kE kB; omega)]
      exact ⟨e, rfl⟩
  · intro x y x0 x9 y0 y5
    rw [look_gone, if_neg (by unfold kB kE; omega), look_gone, if_neg (by unfold kI kE; omega), look_gone]
    by_cases e : x = d ∧ y = n
    · rw [if_pos e, if_pos (by rw [e.1, e.2])]
    · rw [if_neg e, if_neg (kE_ne y0 y5 hn0 hn5 e)]
  · intro a
    rw [link_goneO r2 (part_kB hvv.1 hvv.2), link_goneO r1 (part_kI hvv.1 hvv.2)]
    exact link_old hg.1 (parts_entry ⟨hd0, hd9⟩ ⟨hn0, hn5⟩).1 he a
theorem whole_unlink (hg : GoodP L) (h : Whole (lookF L) (linkN L)) (hd0 : 0 ≤ d) (hd9 : d ≤ 9) (hn0 : 0 ≤ n) (hn5 : n ≤ 5) {v : Int} (he : lookF L (kE d n) = (true, v)) (h1 : 2001 < (lookF L (kI v)).2) :
    Whole (lookF (putPr (gonePr L (kE d n)) (kI v) ((lookF L (kI v)).2 - 1))) (linkN (putPr (gonePr L (kE d n)) (kI v) ((lookF L (kI v)).2 - 1))) := by
  obtain ⟨hvv, hin, _, _⟩ := h.ent d n v hd0 hd9 hn0 hn5 he
  have hfile := (h.ino v hvv.1 hvv.2 hin).2
  have r1 := gonePr_rises hg.1 (kE d n)
  have hold := link_old hg.1 (parts_entry ⟨hd0, hd9⟩ ⟨hn0, hn5⟩).1 he
  have hv0 := hold v
  rw [if_pos rfl] at hv0
  have hc : ∀ a, linkN (putPr (gonePr L (kE d n)) (kI v) ((lookF L (kI v)).2 - 1)) a = linkN (gonePr L (kE d n)) a := fun a => link_putO r1 (part_kI hvv.1 hvv.2) _ a
  refine h.links hvv.1 hvv.2 hin (by omega) (by rw [hc]; omega) ?_ ?_ ?_ ?_ ?_
  · rw [look_put, if_neg (by unfold kI; omega), look_gone, if_neg (by unfold kE; omega)]
  · intro a h0 h9
    rw [look_put, look_gone, hc]
    by_cases e : a = v
    · rw [if_pos e, if_pos (by rw [e])]
      refine pair_of rfl ?_
      show (lookF L (kI v)).2 - 1 = _
      omega
    · rw [if_neg e, if_neg (by unfold kI; omega), if_neg (by unfold kI kE; omega)]
  · intro a h0 h9
    rw [look_put, if_neg (by unfold kI kB; omega), look_gone, if_neg (by unfold kE kB; omega)]
  · intro x y z x0 x9 y0 y5 q
    rw [look_put, if_neg (by unfold kI kE; omega), look_gone] at q
    by_cases e : x = d ∧ y = n
    · rw [if_pos (by rw [e.1, e.2])] at q; cases q
    · rw [if_neg (kE_ne y0 y5 hn0 hn5 e)] at q
      exact Or.inl q
  · intro a ha
    rw [hc]
    have := hold a
    rw [if_neg ha] at this
    omega
theorem whole_link (hg : GoodP L) (h : Whole (lookF L) (linkN L)) {td tn : Int} (hd0 : 0 ≤ d) (hd9 : d ≤ 9) (hn0 : 0 ≤ n) (hn5 : n ≤ 5) (ht0 : 0 ≤ td) (ht9 : td ≤ 9) (hm0 : 0 ≤ tn) (hm5 : tn ≤ 5) {v : Int} (he : lookF L (kE d n) = (true, v)) (hv : (lookF L (kI v)).2 ≠ 1000) (ht : lookF L (kI td) = (true, 1000)) (hte : (lookF L (kE td tn)).1 = false) :
    Whole (lookF (putPr (putPr L (kI v) ((lookF L (kI v)).2 + 1)) (kE td tn) v)) (linkN (putPr (putPr L (kI v) ((lookF L (kI v)).2 + 1)) (kE td tn) v)) := by
  obtain ⟨hvv, hin, _, _⟩ := h.ent d n v hd0 hd9 hn0 hn5 he
  have hfile := (h.ino v hvv.1 hvv.2 hin).2
  have r1 := putPr_rises hg.1 (kI v) ((lookF L (kI v)).2 + 1)
  have hc : ∀ a, linkN (putPr (putPr L (kI v) ((lookF L (kI v)).2 + 1)) (kE td tn) v) a = linkN L a + if a = v then 1 else 0 := fun a => by
    rw [link_new r1 (parts_entry ⟨ht0, ht9⟩ ⟨hm0, hm5⟩).1 (by rw [look_put, if_neg (by unfold kE kI; omega)]; exact hte), link_putO hg.1 (part_kI hvv.1 hvv.2)]
  have hcv := hc v
  rw [if_pos rfl] at hcv
  refine h.links hvv.1 hvv.2 hin hv (by omega) ?_ ?_ ?_ ?_ ?_
  · rw [look_put, if_neg (by unfold kE; omega), look_put, if_neg (by unfold kI; omega)]
  · intro a h0 h9
    rw [look_put, if_neg (by unfold kE kI; omega), look_put]
    by_cases e : a = v
    · rw [if_pos e, if_pos (by rw [e]), hcv]
      refine pair_of rfl ?_
      show (lookF L (kI v)).2 + 1 = _
      omega
    · rw [if_neg e, if_neg (by unfold kI; omega)]
  · intro a h0 h9
    rw [look_put, if_neg (by unfold kE kB; omega), look_put, if_neg (by unfold kI kB; omega)]
  · intro x y z x0 x9 y0 y5 q
    rw [look_put, look_put] at q
    by_cases e : x = td ∧ y = tn
    · rw [if_pos (by rw [e.1, e.2])] at q
      exact Or.inr ⟨by simpa using q.symm, by rw [e.1]; exact ht⟩
    · rw [if_neg (kE_ne y0 y5 hm0 hm5 e), if_neg (by unfold kE kI; omega)] at q
      exact Or.inl q
  · intro a ha
    rw [hc, if_neg ha]; rfl
theorem whole_move (hg : GoodP L) (h : Whole (lookF L) (linkN L)) {td tn : Int} (hd0 : 0 ≤ d) (hd9 : d ≤ 9) (hn0 : 0 ≤ n) (hn5 : n ≤ 5) (ht0 : 0 ≤ td) (ht9 : td ≤ 9) (hm0 : 0 ≤ tn) (hm5 : tn ≤ 5) {v : Int} (he : lookF L (kE d n) = (true, v)) (hv : (lookF L (kI v)).2 = 1000 → td = d) (ht : lookF L (kI td) = (true, 1000)) (hte : (lookF L (kE td tn)).1 = false) :
    Whole (lookF (putPr (gonePr L (kE d n)) (kE td tn) v)) (linkN (putPr (gonePr L (kE d n)) (kE td tn) v)) := by
  have hw := h.ent d n v hd0 hd9 hn0 hn5 he
  have hne : kE td tn ≠ kE d n := fun q => by rw [q, he] at hte; cases hte
  have r1 := gonePr_rises hg.1 (kE d n)
  refine h.moved ?_ ?_ ?_ ?_ ?_
  · rw [look_put, if_neg (by unfold kE; omega), look_gone, if_neg (by unfold kE; omega)]
  · intro a h0 h9
    rw [look_put, if_neg (by unfold kE kI; omega), look_gone, if_neg (by unfold kE kI; omega)]
  · intro a h0 h9 _
    rw [look_put, if_neg (by unfold kE kB; omega), look_gone, if_neg (by unfold kE kB; omega)]
    exact Or.inl rfl
  · intro x y z x0 x9 y0 y5 q
    rw [look_put, look_gone] at q
    by_cases e : x = td ∧ y = tn
    · rw [if_pos (by rw [e.1, e.2])] at q
      obtain rfl : v = z := by simpa using q
      rw [e.1]
      exact Or.inr ⟨hw.1, hw.2.1, ht, fun q => by rw [hv (by rw [q])]; exact hw.2.2.2 q⟩
    · rw [if_neg (kE_ne y0 y5 hm0 hm5 e)] at q
      by_cases e2 : x = d ∧ y = n
      · rw [if_pos (by rw [e2.1, e2.2])] at q; cases q
      · rw [if_neg (kE_ne y0 y5 hn0 hn5 e2)] at q
        exact Or.inl q
  · intro a
    rw [link_new r1 (parts_entry ⟨ht0, ht9⟩ ⟨hm0, hm5⟩).1 (by rw [look_gone, if_neg hne]; exact hte)]
    exact (link_old hg.1 (parts_entry ⟨hd0, hd9⟩ ⟨hn0, hn5⟩).1 he a).symm
theorem whole_write (hg : GoodP L) (h : Whole (lookF L) (linkN L)) (hd0 : 0 ≤ d) (hd9 : d ≤ 9) (hn0 : 0 ≤ n) (hn5 : n ≤ 5) {v z : Int} (he : lookF L (kE d n) = (true, v)) (hv : (lookF L (kI v)).2 ≠ 1000) :
    Whole (lookF (putPr L (kB v) z)) (linkN (putPr L (kB v) z)) := by
  obtain ⟨hvv, hin, _, _⟩ := h.ent d n v hd0 hd9 hn0 hn5 he
  have hfile := (h.ino v hvv.1 hvv.2 hin).2
  refine h.moved ?_ ?_ ?_ ?_ (fun a => link_putO hg.1 (part_kB hvv.1 hvv.2) _ a)
  · rw [look_put, if_neg (by unfold kB; omega)]
  · intro a h0 h9
    rw [look_put, if_neg (by unfold kB kI; omega)]
  · intro a h0 h9 _
    rw [look_put]
    by_cases e : a = v
    · rw [e]
      exact Or.inr ⟨hin, by omega, by omega⟩
    · rw [if_neg (by unfold kB; omega)]
      exact Or.inl rfl
  · intro x y w x0 x9 y0 y5 q
    rw [look_put, if_neg (by unfold kB kE; omega)] at q
    exact Or.inl q
end
end Go.Proofs.YtnchaccgenfhoaaGreat

namespace Go.Proofs.YtnchaccgenfhoaaGreat

theorem emptyP_all {L : Prs} {c : Int} : ∀ (j : Nat) (i : Int) (xs : List Int), (emptyP L c j i xs).1 = true → ∀ y, i ≤ y → y < i + j → (lookF L (kE c y)).1 = false
  | 0, i, xs, _, y, h1, h2 => by omega
  | j + 1, i, xs, h, y, h1, h2 => by
    unfold emptyP at h
    split at h
    · cases h
    · rename_i q
      by_cases e : y = i
      · rw [e]
        cases w : (lookF L (kE c i)).1 with
        | true => exact absurd w q
        | false => rfl
      · exact emptyP_all j (i + 1) _ h y (by omega) (by omega)
theorem ap_ppp (L : Prs) (a b c d e f : Int) : applyN L (fun q => [a, 1, b, c, 1, d, e, 1, f].getD q 0) 3 = putPr (putPr (putPr L a b) c d) e f := by simp [applyN, stepA]
theorem ap_gg (L : Prs) (a c : Int) : applyN L (fun q => [a, 2, 0, c, 2, 0].getD q 0) 2 = gonePr (gonePr L a) c := by simp [applyN, stepA]
theorem ap_ggg (L : Prs) (a c e : Int) : applyN L (fun q => [a, 2, 0, c, 2, 0, e, 2, 0].getD q 0) 3 = gonePr (gonePr (gonePr L a) c) e := by simp [applyN, stepA]
theorem ap_gp (L : Prs) (a c d : Int) : applyN L (fun q => [a, 2, 0, c, 1, d].getD q 0) 2 = putPr (gonePr L a) c d := by simp [applyN, stepA]
theorem ap_pp (L : Prs) (a b c d : Int) : applyN L (fun q => [a, 1, b, c, 1, d].getD q 0) 2 = putPr (putPr L a b) c d := by simp [applyN, stepA]
theorem ap_p (L : Prs) (a b : Int) : applyN L (fun q => [a, 1, b].getD q 0) 1 = putPr L a b := by simp [applyN, stepA]
theorem applyP_view {L : Prs} {kd d n td tn vv : Int} {p : PRf} (h : replyP L kd d n td tn vv = p) : (applyP L kd d n td tn vv).2.2 = applyN L (fun q => p.2.2.2.2.getD q 0) p.2.2.2.1 := by unfold applyP; rw [h]
theorem look_false {L : Prs} {k : Int} (h : ¬ (lookF L k).1 = true) : (lookF L k).1 = false := by
  cases q : (lookF L k).1 with
  | true => exact absurd q h
  | false => rfl
theorem target_ok {L : Prs} {td tn : Int} {xs : List Int} (h : (targetP L td tn xs).1 = 0) : lookF L (kI td) = (true, 1000) ∧ (lookF L (kE td tn)).1 = false := by
  unfold targetP at h
  split at h
  · rename_i q
    refine ⟨dirE_iff.1 q, ?_⟩
    split at h
    · exact absurd h (by show ¬ (6 : Int) = 0; decide)
    · rename_i w
      exact look_false w
  · exact absurd h (by show ¬ (9 : Int) = 0; decide)
/-- Whatever an operation does: a whole view stays whole. -/
theorem whole_apply {L : Prs} (hg : GoodP L) (h : Whole (lookF L) (linkN L)) {kd d n td tn vv : Int} (ho : opF kd d n td tn vv = 0) : Whole (lookF (applyP L kd d n td tn vv).2.2) (linkN (applyP L kd d n td tn vv).2.2) := by
  obtain ⟨hkd, hd, hn, htd, htn⟩ := op_bounds ho
  have hga := hg.applyOp ho
  obtain ⟨p, hp⟩ : ∃ p, replyP L kd d n td tn vv = p := ⟨_, rfl⟩
  rw [applyP_view hp] at hga ⊢
  unfold replyP at hp
  split at hp
  case isFalse => subst hp; exact h
  rename_i hdir
  have hdd := dirE_iff.1 hdir
  split at hp
  · split at hp
    · subst hp; exact h
    · rename_i he
      unfold makeP at hp
      split at hp
      · rename_i hN
        subst hp
        simp only at hga ⊢
        rw [ap_ppp]
        exact whole_make hg h hd.1 hd.2 hn.1 hn.2 hdd (look_false he) hN (by split <;> omega)
      · subst hp; exact h
  split at hp
  case isFalse => subst hp; exact h
  rename_i hop he
  have hel : lookF L (kE d n) = (true, (lookF L (kE d n)).2) := pair_of he rfl
  obtain ⟨v, hv⟩ : ∃ v, (lookF L (kE d n)).2 = v := ⟨_, rfl⟩
  rw [hv] at hel hp
  have hvv := h.ent d n v hd.1 hd.2 hn.1 hn.2 hel
  have hm : minC v = v := by unfold minC; split <;> omega
  unfold childP at hp
  rw [hm] at hp
  split at hp
  · unfold removeP at hp
    split at hp
    · rename_i hdv
      split at hp
      · rename_i hem
        subst hp
        simp only at hga ⊢
        rw [ap_gg] at hga ⊢
        exact whole_rmdir hg h hd.1 hd.2 hn.1 hn.2 hel (pair_of hvv.2.1 hdv) (fun y y0 y5 => emptyP_all 6 0 _ hem y y0 (by omega)) hga
      · subst hp; exact h
    · rename_i hdv
      split at hp
      · rename_i h1
        subst hp
        simp only at hga ⊢
        rw [ap_gp]
        exact whole_unlink hg h hd.1 hd.2 hn.1 hn.2 hel h1
      · rename_i h1
        subst hp
        simp only at hga ⊢
        rw [ap_ggg] at hga ⊢
        exact whole_rmfile hg h hd.1 hd.2 hn.1 hn.2 hel hdv (by omega) hga
  split at hp
  · unfold moveP at hp
    split at hp
    · subst hp; exact h
    · rename_i hmv
      split at hp
      · rename_i ht
        subst hp
        simp only at hga ⊢
        rw [ap_gp]
        have h2 := target_ok ht
        exact whole_move hg h hd.1 hd.2 hn.1 hn.2 htd.1 htd.2 htn.1 htn.2 hel (fun q => Classical.byContradiction fun w => hmv ⟨q, w⟩) h2.1 h2.2
      · subst hp; exact h
  split at hp
  · unfold linkP at hp
    split at hp
    · subst hp; exact h
    · rename_i hdv
      split at hp
      · rename_i ht
        split at hp
        · subst hp; exact h
        · subst hp
          simp only at hga ⊢
          rw [ap_pp]
          have h2 := target_ok ht
          exact whole_link hg h hd.1 hd.2 hn.1 hn.2 htd.1 htd.2 htn.1 htn.2 hel hdv h2.1 h2.2
      · subst hp; exact h
  split at hp
  · subst hp; exact h
  split at hp
  · subst hp; exact h
  rename_i hdv
  split at hp
  · subst hp
    simp only at hga ⊢
    rw [ap_p]
    exact whole_write hg h hd.1 hd.2 hn.1 hn.2 hel hdv
  · subst hp; exact h
theorem wholeB_apply {L : Prs} (hg : GoodP L) (h : wholeB L = true) {kd d n td tn vv : Int} (ho : opF kd d n td tn vv = 0) : wholeB (applyP L kd d n td tn vv).2.2 = true :=
  (whole_iff (hg.applyOp ho)).2 (whole_apply hg ((whole_iff hg).1 h) ho)
end Go.Proofs.YtnchaccgenfhoaaGreat

namespace Go.Proofs.YtnchaccgenfhoaaGreat

theorem apAt_shift (L : Prs) (G : Nat → Int) (a i : Nat) : apAt L (fun p => G (a * 6 + p)) i = apAt L G (a + i) := by
  unfold apAt
  simp only [show ∀ j, a * 6 + (i * 6 + j) = (a + i) * 6 + j from fun j => by omega, show a * 6 + i * 6 = (a + i) * 6 by omega]
theorem opAt_shift (G : Nat → Int) (a i : Nat) : opAt (fun p => G (a * 6 + p)) i = opAt G (a + i) := by
  unfold opAt
  simp only [show ∀ j, a * 6 + (i * 6 + j) = (a + i) * 6 + j from fun j => by omega, show a * 6 + i * 6 = (a + i) * 6 by omega]
theorem run_split (L : Prs) (G : Nat → Int) (a : Nat) : ∀ b : Nat, runP L G (a + b) = ((runP (runP L G a).1 (fun p => G (a * 6 + p)) b).1, (runP L G a).2 + (runP (runP L G a).1 (fun p => G (a * 6 + p)) b).2)
  | 0 => by simp [runP]
  | b + 1 => by
    rw [show a + (b + 1) = (a + b) + 1 by omega, runP, runP, run_split L G a b, apAt_shift]
    simp only
    split <;> simp [Int.add_assoc]
theorem run_whole {L : Prs} (h : GoodP L) (hw : wholeB L = true) {G : Nat → Int} : ∀ {m : Nat}, (∀ i, i < m → opAt G i = 0) → wholeB (runP L G m).1 = true
  | 0, _ => hw
  | m + 1, ho => wholeB_apply (run_good h (m := m) (fun i hi => ho i (by omega))) (run_whole h hw (m := m) (fun i hi => ho i (by omega))) (ho m (Nat.lt_succ_self _))
theorem opsF_of {G : Nat → Int} : ∀ {m k : Nat}, (∀ j, j < m → opAt G (k + j) = 0) → opsF G m k = 0
  | 0, _, _ => rfl
  | m + 1, k, h => by
    have h0 : opAt G k = 0 := h 0 (by omega)
    rw [opsF_on (by omega) h0]
    exact opsF_of (m := m) (k := k + 1) (fun j hj => by rw [show k + 1 + j = k + (j + 1) by omega]; exact h (j + 1) (by omega))
theorem opsT_of {m : Nat} {G : Nat → Int} (hm : m ≤ 40) (h : ∀ i, i < m → opAt G i = 0) : opsT m G = 0 := by
  unfold opsT
  rw [if_neg (by omega)]
  exact opsF_of (fun j hj => by rw [Nat.zero_add]; exact h j hj)
theorem fs_of_whole' {R : Prs} (hg : GoodP R) (h : wholeB R = true) : fsF R.length (rowL R) = 0 := fsF_ok (pairs_of_good hg) (by rw [listOf_rowL]; exact h)
theorem run_parts {m k cut : Nat} {V G : Nat → Int} {v : Int} {R : Prs} (h : RunAns m V k G 0 v R) (hc : cut ≤ k) :
    ∃ (v1 : Int) (R1 : Prs) (v2 : Int), RunAns m V cut G 0 v1 R1 ∧ RunAns R1.length (rowL R1) (k - cut) (fun p => G (cut * 6 + p)) 0 v2 R ∧ v1 + v2 = v ∧ R1.length ≤ 200 ∧ R.length ≤ 200 ∧ fsF R.length (rowL R) = 0 ∧ (0 ≤ v1 ∧ v1 ≤ 40) ∧ (0 ≤ v2 ∧ v2 ≤ 40) := by
  obtain ⟨h1, h2, h3⟩ : fsF m V = 0 ∧ opsT k G = 0 ∧ runP (listOf V m) G k = (R, v) := by
    rcases h with ⟨q, q', _⟩ | ⟨_, q, q', _⟩ | ⟨q1, q2, _, q3⟩
    · exact absurd q'.symm q
    · exact absurd q'.symm q
    · exact ⟨q1, q2, q3⟩
  have hg := good_of_pairs (fsF_zero h1).1
  have hw := (fsF_zero h1).2
  obtain ⟨hk, ho⟩ := opsT_zero h2
  have hs := run_split (listOf V m) G cut (k - cut)
  rw [show cut + (k - cut) = k by omega, h3] at hs
  have hg1 := run_good hg (G := G) (m := cut) (fun i hi => ho i (by omega))
  have hw1 := run_whole hg hw (G := G) (m := cut) (fun i hi => ho i (by omega))
  have hc1 := run_cnt (listOf V m) G cut
  obtain ⟨⟨R1, v1⟩, hR1⟩ : ∃ x, runP (listOf V m) G cut = x := ⟨_, rfl⟩
  rw [hR1] at hs hg1 hw1 hc1
  simp only at hs hg1 hw1 hc1
  have hc2 := run_cnt R1 (fun p => G (cut * 6 + p)) (k - cut)
  obtain ⟨⟨R2, v2⟩, hR2⟩ : ∃ x, runP R1 (fun p => G (cut * 6 + p)) (k - cut) = x := ⟨_, rfl⟩
  rw [hR2] at hs hc2
  simp only [Prod.mk.injEq] at hs hc2
  have hgR := run_good hg (G := G) (m := k) (fun i hi => ho i hi)
  have hwR := run_whole hg hw (G := G) (m := k) (fun i hi => ho i hi)
  rw [h3] at hgR hwR
  refine ⟨v1, R1, v2, Or.inr (Or.inr ⟨h1, opsT_of (by omega) (fun i hi => ho i (by omega)), rfl, hR1⟩), Or.inr (Or.inr ⟨fs_of_whole' hg1 hw1, opsT_of (by omega) (fun i hi => by rw [opAt_shift]; exact ho _ (by omega)), rfl, by rw [listOf_rowL, hR2, hs.1]⟩), hs.2.symm, hg1.len, hgR.len, fs_of_whole' hgR hwR, ⟨hc1.1, by omega⟩, ⟨hc2.1, by omega⟩⟩
end Go.Proofs.YtnchaccgenfhoaaGreat

namespace Go.Proofs.YtnchaccgenfhoaaGreat
open Go.RowKit

theorem setCell_otherE {x : World} {b i j : Nat} {u v : Value} (hn : i ≠ j) (h : x.cell? ⟨b, i, none⟩ = some u) : (x.setCell ⟨b, j, none⟩ v).cell? ⟨b, i, none⟩ = some u := (World.cell?_setCell_other _ _ _ _ (fun e => hn (congrArg Addr.off e).symm)).trans h
theorem Blk6.put34 {x : World} {b : Nat} {a0 a1 a2 a3 a4 a5 : Value} (h : Blk6 x b a0 a1 a2 a3 a4 a5) (c3 c4 : Value) : Blk6 ((x.setCell ⟨b, 3, none⟩ c3).setCell ⟨b, 4, none⟩ c4) b a0 a1 a2 c3 c4 a5 := by
  obtain ⟨⟨h0, h1, h2, h3, h4, h5⟩, f0, f1, f2, f3, f4, f5⟩ := h
  refine ⟨⟨?_, ?_, ?_, ?_, ?_, ?_⟩, by simpa using f0, by simpa using f1, by simpa using f2, by simpa using f3, by simpa using f4, by simpa using f5⟩
  · exact setCell_otherE (by decide) (setCell_otherE (by decide) h0)
  · exact setCell_otherE (by decide) (setCell_otherE (by decide) h1)
  · exact setCell_otherE (by decide) (setCell_otherE (by decide) h2)
  · exact setCell_otherE (by decide) (World.cell?_setCell_same _ _ _ h3)
  · exact World.cell?_setCell_same _ _ _ (setCell_otherE (by decide) h4)
  · exact setCell_otherE (by decide) (setCell_otherE (by decide) h5)
theorem Blk6.putAll {x : World} {b : Nat} {a0 a1 a2 a3 a4 a5 : Value} (h : Blk6 x b a0 a1 a2 a3 a4 a5) (c0 c1 c2 c3 c4 c5 : Value) : Blk6 ((((((x.setCell ⟨b, 0, none⟩ c0).setCell ⟨b, 1, none⟩ c1).setCell ⟨b, 2, none⟩ c2).setCell ⟨b, 3, none⟩ c3).setCell ⟨b, 4, none⟩ c4).setCell ⟨b, 5, none⟩ c5) b c0 c1 c2 c3 c4 c5 := by
  obtain ⟨⟨h0, h1, h2, h3, h4, h5⟩, f0, f1, f2, f3, f4, f5⟩ := h
  refine ⟨⟨?_, ?_, ?_, ?_, ?_, ?_⟩, by simpa using f0, by simpa using f1, by simpa using f2, by simpa using f3, by simpa using f4, by simpa using f5⟩
  · exact setCell_otherE (by decide) (setCell_otherE (by decide) (setCell_otherE (by decide) (setCell_otherE (by decide) (setCell_otherE (by decide) (World.cell?_setCell_same _ _ _ h0)))))
  · exact setCell_otherE (by decide) (setCell_otherE (by decide) (setCell_otherE (by decide) (setCell_otherE (by decide) (World.cell?_setCell_same _ _ _ (setCell_otherE (by decide) h1)))))
  · exact setCell_otherE (by decide) (setCell_otherE (by decide) (setCell_otherE (by decide) (World.cell?_setCell_same _ _ _ (setCell_otherE (by decide) (setCell_otherE (by decide) h2)))))
  · exact setCell_otherE (by decide) (setCell_otherE (by decide) (World.cell?_setCell_same _ _ _ (setCell_otherE (by decide) (setCell_otherE (by decide) (setCell_otherE (by decide) h3)))))
  · exact setCell_otherE (by decide) (World.cell?_setCell_same _ _ _ (setCell_otherE (by decide) (setCell_otherE (by decide) (setCell_otherE (by decide) (setCell_otherE (by decide) h4)))))
  · exact World.cell?_setCell_same _ _ _ (setCell_otherE (by decide) (setCell_otherE (by decide) (setCell_otherE (by decide) (setCell_otherE (by decide) (setCell_otherE (by decide) h5)))))

end Go.Proofs.YtnchaccgenfhoaaGreat

namespace Go.Proofs.YtnchaccgenfhoaaGreat
open Go.RowKit

/-- An operation that was drawn: it suits, and nothing in it is great. -/
def DrawnO (kd d n td tn v : Int) : Prop := (1 ≤ kd ∧ kd ≤ 8) ∧ (0 ≤ d ∧ d ≤ 2) ∧ (0 ≤ n ∧ n ≤ 2) ∧ ((kd = 4 ∨ kd = 5) ∧ (0 ≤ td ∧ td ≤ 2) ∧ (0 ≤ tn ∧ tn ≤ 3) ∨ td = 0 ∧ tn = 0) ∧ (kd = 6 ∧ (0 ≤ v ∧ v ≤ 98) ∨ v = 0)
def zeroO : Obj := .cells #[.int .i64 0, .int .i64 0, .int .i64 0, .int .i64 0, .int .i64 0, .int .i64 0] 26
structure DrO (w : World) (b : Nat) (o : Option Addr) (len cap : Nat) (a : Int) (x : World) : Prop where
  src : Src x b o len cap a
  but : But b w x
  res : Blk6 x w.heap.size (.int .i64 0) (.int .i64 0) (.int .i64 0) (.int .i64 0) (.int .i64 0) (.int .i64 0)
theorem DrO.alloc {w x : World} {b : Nat} {o : Option Addr} {len cap : Nat} {a : Int} (h : DrO w b o len cap a x) (ob : Obj) : DrO w b o len cap a (x.alloc ob) := ⟨h.src.alloc _, h.but.alloc _, h.res.alloc _⟩
theorem DrO.step {w x x' : World} {b : Nat} {o : Option Addr} {len cap : Nat} {a a' : Int} (h : DrO w b o len cap a x) (hb : b < w.heap.size) (hS : Src x' b o len cap a') (hT : But b x x') : DrO w b o len cap a' x' :=
  ⟨hS, h.but.trans hT, h.res.kept (hT.block _ h.res.lt (fun e => by have := Option.some.inj e; omega))⟩
def pickA : Array Value := #[.int .i64 1, .int .i64 1, .int .i64 2, .int .i64 2, .int .i64 3, .int .i64 4, .int .i64 5, .int .i64 6, .int .i64 6, .int .i64 7, .int .i64 8]
def pickB : Array Value := #[.int .i64 0, .int .i64 0, .int .i64 1, .int .i64 2]
theorem intsA (x : World) : Ints (x.alloc (.cells #[.int .i64 1, .int .i64 1, .int .i64 2, .int .i64 2, .int .i64 3, .int .i64 4, .int .i64 5, .int .i64 6, .int .i64 6, .int .i64 7, .int .i64 8] 2)) x.heap.size (.slice (some ⟨x.heap.size, 0, none⟩) 11 11) [1, 1, 2, 2, 3, 4, 5, 6, 6, 7, 8] := World.ownsRow_lit x pickA 11 (Nat.le_refl _) (by decide) rfl
theorem intsB (x : World) : Ints (x.alloc (.cells #[.int .i64 0, .int .i64 0, .int .i64 1, .int .i64 2] 2)) x.heap.size (.slice (some ⟨x.heap.size, 0, none⟩) 4 4) [0, 0, 1, 2] := World.ownsRow_lit x pickB 4 (Nat.le_refl _) (by decide) rfl
theorem memB {r : Int} (h : r ∈ [(0 : Int), 0, 1, 2]) : 0 ≤ r ∧ r ≤ 2 := by
  simp only [List.mem_cons, List.not_mem_nil, or_false] at h
  omega
theorem memA {r : Int} (h : r ∈ [(1 : Int), 1, 2, 2, 3, 4, 5, 6, 6, 7, 8]) : 1 ≤ r ∧ r ≤ 8 := by
  simp only [List.mem_cons, List.not_mem_nil, or_false] at h
  omega
/-- Behind the build: the operation's box. -/
structure DrB (w : World) (b : Nat) (o : Option Addr) (len cap : Nat) (g : Nat) (kd d n td tn v : Int) (a : Int) (x : World) : Prop where
  dr : DrO w b o len cap a x
  box : Blk6 x g (.int .i64 kd) (.int .i64 d) (.int .i64 n) (.int .i64 td) (.int .i64 tn) (.int .i64 v)
  lt : w.heap.size < g
theorem DrB.step {w x x' : World} {b : Nat} {o : Option Addr} {len cap g : Nat} {kd d n td tn v a a' : Int} (h : DrB w b o len cap g kd d n td tn v a x) (hb : b < w.heap.size) (hS : Src x' b o len cap a') (hT : But b x x') : DrB w b o len cap g kd d n td tn v a' x' :=
  ⟨h.dr.step hb hS hT, h.box.kept (hT.block _ h.box.lt (fun e => by have := Option.some.inj e; have := h.lt; omega)), h.lt⟩
theorem DrB.alloc {w x : World} {b : Nat} {o : Option Addr} {len cap g : Nat} {kd d n td tn v a : Int} (h : DrB w b o len cap g kd d n td tn v a x) (ob : Obj) : DrB w b o len cap g kd d n td tn v a (x.alloc ob) := ⟨h.dr.alloc _, h.box.alloc _, h.lt⟩
theorem But.setO {b : Nat} {w x : World} (h : But b w x) {c : Nat} (hc : w.heap.size ≤ c) (off : Nat) (v : Value) : But b w (x.setCell ⟨c, off, none⟩ v) :=
  ⟨h.os, h.tape, h.output, by simpa [World.setCell] using h.size, fun k hk hne => (Below.heap_setCell x ⟨c, off, none⟩ v k (by simp; omega)).trans (h.block k hk hne)⟩
theorem Src.setO {x : World} {b : Nat} {o : Option Addr} {len cap : Nat} {a : Int} (h : Src x b o len cap a) {w : World} {a0 : Int} (h0 : Src w b o len cap a0) (hT : But b w x) {c : Nat} (hc : w.heap.size ≤ c) (off : Nat) (v : Value) : Src (x.setCell ⟨c, off, none⟩ v) b o len cap a := by
  have hb := h0.lt
  have kb : (x.setCell ⟨c, off, none⟩ v).heap[b]? = x.heap[b]? := Below.heap_setCell x ⟨c, off, none⟩ v b (by simp; omega)
  refine ⟨(World.cell?_of_block (w := x) (a := ⟨b, 0, none⟩) kb).trans h.code, (World.cell?_of_block (w := x) (a := ⟨b, 1, none⟩) kb).trans h.count, (World.frozen?_of_block (w := x) (a := ⟨b, 1, none⟩) kb).trans h.live, h.pos, fun j hj => ?_⟩
  obtain ⟨g, off', n, e1, e2, e3, e4⟩ := h0.bytes j hj
  exact ⟨g, off', n, e1, e2, (hT.setO hc off v).cell e3 e2, e4⟩
theorem DrO.set {w x : World} {b : Nat} {o : Option Addr} {len cap : Nat} {a : Int} (h : DrO w b o len cap a x) {a0 : Int} (h0 : Src w b o len cap a0) {c : Nat} (hc : w.heap.size < c) (off : Nat) (v : Value) : DrO w b o len cap a (x.setCell ⟨c, off, none⟩ v) :=
  ⟨h.src.setO h0 h.but (by omega) off v, h.but.setO (by omega) off v, h.res.kept (Below.heap_setCell x ⟨c, off, none⟩ v _ (by simp; omega))⟩
theorem DrB.put34 {w x : World} {b : Nat} {o : Option Addr} {len cap g : Nat} {kd d n td tn v a : Int} (h : DrB w b o len cap g kd d n td tn v a x) {a0 : Int} (h0 : Src w b o len cap a0) (u : Int) (j : Nat) (hj : j = 3 ∨ j = 4 ∨ j = 5) :
    DrB w b o len cap g kd d n (if j = 3 then u else td) (if j = 4 then u else tn) (if j = 5 then u else v) a (x.setCell ⟨g, j, none⟩ (.int .i64 u)) := by
  refine ⟨h.dr.set h0 h.lt _ _, ?_, h.lt⟩
  obtain ⟨⟨c0, c1, c2, c3, c4, c5⟩, f0, f1, f2, f3, f4, f5⟩ := h.box
  rcases hj with rfl | rfl | rfl
  · refine ⟨⟨?_, ?_, ?_, ?_, ?_, ?_⟩, by simpa using f0, by simpa using f1, by simpa using f2, by simpa using f3, by simpa using f4, by simpa using f5⟩
    · exact setCell_otherE (by decide) c0
    · exact setCell_otherE (by decide) c1
    · exact setCell_otherE (by decide) c2
    · exact World.cell?_setCell_same _ _ _ c3
    · exact setCell_otherE (by decide) c4
    · exact setCell_otherE (by decide) c5
  · refine ⟨⟨?_, ?_, ?_, ?_, ?_, ?_⟩, by simpa using f0, by simpa using f1, by simpa using f2, by simpa using f3, by simpa using f4, by simpa using f5⟩
    · exact setCell_otherE (by decide) c0
    · exact setCell_otherE (by decide) c1
    · exact setCell_otherE (by decide) c2
    · exact setCell_otherE (by decide) c3
    · exact World.cell?_setCell_same _ _ _ c4
    · exact setCell_otherE (by decide) c5
  · refine ⟨⟨?_, ?_, ?_, ?_, ?_, ?_⟩, by simpa using f0, by simpa using f1, by simpa using f2, by simpa using f3, by simpa using f4, by simpa using f5⟩
    · exact setCell_otherE (by decide) c0
    · exact setCell_otherE (by decide) c1
    · exact setCell_otherE (by decide) c2
    · exact setCell_otherE (by decide) c3
    · exact setCell_otherE (by decide) c4
    · exact World.cell?_setCell_same _ _ _ c5
end Go.Proofs.YtnchaccgenfhoaaGreat

