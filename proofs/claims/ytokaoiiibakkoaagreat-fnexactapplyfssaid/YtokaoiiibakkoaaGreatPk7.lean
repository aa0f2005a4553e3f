/-
  Own text, merged of TreK, ApyB, ApyC, ApyD, FsB, ApyE.
-/
import Derived.Test.YtokaoiiibakkoaaGreatPk6
namespace Go.Proofs.YtokaoiiibakkoaaGreat
open Go.RowKit

set_option maxRecDepth 100000 in
set_option maxHeartbeats 2000000 in
theorem implFs_is (y : Value) (B n : Nat) (F : Nat → Int) (w : World) (h : Row w B 2 n F y) (hn : n ≤ 1048576) :
    Calls Tryz.prog 25 #[y] w fun e w' => e = .returned (.int .i64 (fsF n F)) ∧ Below w.heap.size w w' := by
  have H : Hid (Row w B 2 n F y) := h
  clear h
  by_cases h1 : pairsF F n 0 = 0
  case neg =>
    obtain ⟨f, hf⟩ : ∃ f, pairsF F n 0 = f := ⟨_, rfl⟩
    have HF : Hid (pairsF F n 0 = f) := hf
    have HQ : Hid (fsF n F = f) := (fsF_bad h1).trans hf
    have dd : (f != 0) = true := bne_iff_ne.2 (by rw [← hf]; exact h1)
    rw [HQ.out]
    clear h1 hf
    go_enter Tryz.func25, Tryz.ntmps25
    go_wp2_with fail
    refine (implPairs_any _ B n F _ H.out hn).mono ?_
    rintro e w1 ⟨rfl, q1⟩
    rw [HF.out]
    have HB : Hid (Below w.heap.size w w1) := q1
    clear q1
    go_wp2
    go_ret
    exact ⟨rfl, HB.out⟩
  have HF : Hid (pairsF F n 0 = 0) := h1
  obtain ⟨q, hq⟩ : ∃ q, wholeB (listOf F n) = q := ⟨_, rfl⟩
  have HW : Hid (wholeB (listOf F n) = q) := hq
  have HQ : Hid (fsF n F = if q = true then 0 else 1) := by
    cases q with
    | true => exact fsF_ok h1 hq
    | false => exact fsF_no h1 hq
  have hn2 := (pairs_rise h1).2
  rw [HQ.out]
  clear h1 hq
  go_enter Tryz.func25, Tryz.ntmps25
  go_wp2_with fail
  refine (implPairs_any _ B n F _ H.out hn).mono ?_
  rintro e w1 ⟨rfl, q1⟩
  rw [HF.out]
  have HB : Hid (Below w.heap.size w w1) := q1
  clear q1
  go_wp2_with fail
  refine (hangingIn_is (listOf F n) _ B _ (row_list (H.out.later HB.out)) (pairs_rise HF.out).1 (by rw [listOf_length]; omega) (pairs_keys HF.out)).mono ?_
  rintro e w2 ⟨b, rb, mb, lv, rfl, hl, ho, hrb, q2⟩
  have HH : Hid (Hung w2 b rb mb (listOf F n) [] (.slice none 0 0) lv ∧ w1.heap.size ≤ mb ∧ w1.heap.size ≤ b) := ⟨Hung.new hl ho, by have := hl.2.2.2.2; omega, by have := hl.2.2.2.2; omega⟩
  have HB2 : Hid (Below w.heap.size w w2 ∧ w1.heap.size ≤ w2.heap.size) := ⟨HB.out.trans (q2.mono HB.out.size), q2.size⟩
  clear hl ho hrb q2
  go_wp2_with fail
  refine (isWhole_is (listOf F n) b rb mb [] (.slice none 0 0) lv _ HH.out.1 (pairs_rise HF.out).1 (by rw [listOf_length]; omega) (lookF_val (pairs_vals HF.out))).mono ?_
  rintro e w3 ⟨rfl, ys, vy, hg, hk⟩
  have HB3 : Hid (Below w.heap.size w w3) := HB2.out.1.trans (hk.toBelow HB2.out.1.size (Nat.le_trans HB.out.size HH.out.2.2) (Nat.le_trans HB.out.size HH.out.2.1) (fun k hk => by cases hk))
  rw [HW.out]
  clear hg hk HH HB HB2
  cases q with
  | true =>
    go_wp2
    go_ret
    exact ⟨rfl, HB3.out⟩
  | false =>
    go_wp2
    go_ret
    exact ⟨rfl, HB3.out⟩
end Go.Proofs.YtokaoiiibakkoaaGreat

namespace Go.Proofs.YtokaoiiibakkoaaGreat
open Go.RowKit

theorem kI_ok {a : Int} (h : 0 ≤ a ∧ a ≤ 9) : faultOf (kI a) = 0 := faultOf_ok (by unfold kI; omega)
theorem kB_ok {a : Int} (h : 0 ≤ a ∧ a ≤ 9) : faultOf (kB a) = 0 := faultOf_ok (by unfold kB; omega)
theorem appsF_of {G : Nat → Int} : ∀ {m k : Nat}, (∀ j, j < m → appF (G ((k + j) * 3)) (G ((k + j) * 3 + 1)) (G ((k + j) * 3 + 2)) = 0) → appsF G m k = 0
  | 0, _, _ => rfl
  | m + 1, k, h => by
    rw [appsF, if_neg (by have := h 0 (Nat.succ_pos _); simpa using this)]
    exact appsF_of fun j hj => by
      have := h (j + 1) (by omega)
      rwa [show k + (j + 1) = k + 1 + j by omega] at this
/-- What is written, and how many: items without a fault. -/
def ItemsOk (m : Nat) (W : List Int) : Prop := appliedF m (fun p => W.getD p 0) = 0 ∧ W.length = m * 3
theorem items0 : ItemsOk 0 [] := ⟨rfl, rfl⟩
theorem items1 {a0 a1 a2 : Int} (h0 : appF a0 a1 a2 = 0) : ItemsOk 1 [a0, a1, a2] := by
  refine ⟨?_, rfl⟩
  unfold appliedF
  rw [if_neg (by omega)]
  exact appsF_of fun j hj => by
    match j, hj with
    | 0, _ => exact h0
theorem items2 {a0 a1 a2 b0 b1 b2 : Int} (h0 : appF a0 a1 a2 = 0) (h1 : appF b0 b1 b2 = 0) : ItemsOk 2 [a0, a1, a2, b0, b1, b2] := by
  refine ⟨?_, rfl⟩
  unfold appliedF
  rw [if_neg (by omega)]
  exact appsF_of fun j hj => by
    match j, hj with
    | 0, _ => exact h0
    | 1, _ => exact h1
theorem items3 {a0 a1 a2 b0 b1 b2 c0 c1 c2 : Int} (h0 : appF a0 a1 a2 = 0) (h1 : appF b0 b1 b2 = 0) (h2 : appF c0 c1 c2 = 0) : ItemsOk 3 [a0, a1, a2, b0, b1, b2, c0, c1, c2] := by
  refine ⟨?_, rfl⟩
  unfold appliedF
  rw [if_neg (by omega)]
  exact appsF_of fun j hj => by
    match j, hj with
    | 0, _ => exact h0
    | 1, _ => exact h1
    | 2, _ => exact h2
theorem op_value {kd d n td tn vv : Int} (h : opF kd d n td tn vv = 0) : 0 ≤ vv ∧ vv ≤ 9999 := by
  unfold opF at h
  cases h1 : suitsB kd td tn vv with
  | false => rw [h1] at h; simp at h
  | true =>
    cases h2 : boundsB d n td tn vv with
    | false => rw [h1, h2] at h; simp at h
    | true =>
      have b := of_decide_eq_true h2
      exact b.2.2.2.2
/-- Whatever an operation finds: with a reply nothing is written; what is written has no fault. -/
theorem reply_items {L : Prs} (hv : ∀ k, 0 ≤ (lookF L k).2 ∧ (lookF L k).2 ≤ 9999) {kd d n td tn vv : Int} (ho : opF kd d n td tn vv = 0) :
    ItemsOk (replyP L kd d n td tn vv).2.2.2.1 (replyP L kd d n td tn vv).2.2.2.2 ∧ ((replyP L kd d n td tn vv).1 ≠ 0 → (replyP L kd d n td tn vv).2.2.2.1 = 0) ∧ (0 ≤ (replyP L kd d n td tn vv).2.1 ∧ (replyP L kd d n td tn vv).2.1 ≤ 9999) := by
  obtain ⟨hkd, hd, hn, htd, htn⟩ := op_bounds ho
  have hvv := op_value ho
  have hc : 0 ≤ minC (lookF L (kE d n)).2 ∧ minC (lookF L (kE d n)).2 ≤ 9 := minC_in (hv _).1
  have hcv := hv (kI (minC (lookF L (kE d n)).2))
  have hbv := hv (kB (minC (lookF L (kE d n)).2))
  have h0v := hv 0
  have e0 : faultOf (0 : Int) = 0 := by decide
  unfold replyP
  split
  · split
    · split
      · exact ⟨items0, fun _ => rfl, by simp only; omega⟩
      · unfold makeP
        split
        · rename_i hnx
          exact ⟨items3 (appF_ok e0 (by omega) (by omega)) (appF_ok (kI_ok (by omega)) (by omega) (by split <;> omega)) (appF_ok (kE_ok hd hn) (by omega) (by omega)), fun h => absurd rfl h, by simp only; omega⟩
        · exact ⟨items0, fun _ => rfl, by simp only; omega⟩
    · split
      · unfold childP
        generalize minC (lookF L (kE d n)).2 = c at hc hcv hbv ⊢
        generalize (lookF L (kI c)).2 = cv at hcv ⊢
        split
        · unfold removeP
          split
          · split
            · exact ⟨items2 (appF_ok (kE_ok hd hn) (by omega) (by omega)) (appF_ok (kI_ok hc) (by omega) (by omega)), fun h => absurd rfl h, by simp only; omega⟩
            · exact ⟨items0, fun _ => rfl, by simp only; omega⟩
          · split
            · exact ⟨items2 (appF_ok (kE_ok hd hn) (by omega) (by omega)) (appF_ok (kI_ok hc) (by omega) (by omega)), fun h => absurd rfl h, by simp only; omega⟩
            · exact ⟨items3 (appF_ok (kE_ok hd hn) (by omega) (by omega)) (appF_ok (kI_ok hc) (by omega) (by omega)) (appF_ok (kB_ok hc) (by omega) (by omega)), fun h => absurd rfl h, by simp only; omega⟩
        · split
          · unfold moveP
            split
            · exact ⟨items0, fun _ => rfl, by simp only; omega⟩
            · split
              · exact ⟨items2 (appF_ok (kE_ok hd hn) (by omega) (by omega)) (appF_ok (kE_ok htd htn) (by omega) (by omega)), fun h => absurd rfl h, by simp only; omega⟩
              · exact ⟨items0, fun _ => rfl, by simp only; omega⟩
          · split
            · unfold linkP
              split
              · exact ⟨items0, fun _ => rfl, by simp only; omega⟩
              · split
                · split
                  · exact ⟨items0, fun _ => rfl, by simp only; omega⟩
                  · exact ⟨items2 (appF_ok (kI_ok hc) (by omega) (by omega)) (appF_ok (kE_ok htd htn) (by omega) (by omega)), fun h => absurd rfl h, by simp only; omega⟩
                · exact ⟨items0, fun _ => rfl, by simp only; omega⟩
            · split
              · exact ⟨items0, fun h => absurd rfl h, by simp only; omega⟩
              · split
                · exact ⟨items0, fun _ => rfl, by simp only; omega⟩
                · split
                  · exact ⟨items1 (appF_ok (kB_ok hc) (by omega) (by omega)), fun h => absurd rfl h, by simp only; omega⟩
                  · exact ⟨items0, fun _ => rfl, by simp only; omega⟩
      · exact ⟨items0, fun _ => rfl, by simp only; omega⟩
  · exact ⟨items0, fun _ => rfl, by simp only; omega⟩
/-- A list of pairs that has no fault. -/
def GoodP (L : Prs) : Prop := Rises L ∧ ∀ e ∈ L, faultOf e.1 = 0 ∧ 0 ≤ e.2 ∧ e.2 ≤ 9999
theorem good_of_pairs {F : Nat → Int} {n : Nat} (h : pairsF F n 0 = 0) : GoodP (listOf F n) := by
  refine ⟨(pairs_rise h).1, fun e he => ⟨?_, pairs_vals h e he⟩⟩
  unfold listOf at he
  obtain ⟨k, hk, rfl⟩ := List.mem_map.1 he
  have := pairsF_all h k (List.mem_range.1 hk)
  rw [Nat.zero_add] at this
  exact (pairF_zero this).1
theorem pairsF_of {F : Nat → Int} : ∀ {m k : Nat}, (∀ j, j < m → pairF F (k + j) = 0) → pairsF F m k = 0
  | 0, _, _ => rfl
  | m + 1, k, h => by
    rw [pairsF, if_neg (by have := h 0 (Nat.succ_pos _); simpa using this)]
    exact pairsF_of fun j hj => by
      have := h (j + 1) (by omega)
      rwa [show k + (j + 1) = k + 1 + j by omega] at this
theorem pairs_of_good {L : Prs} (h : GoodP L) : pairsF (rowL L) L.length 0 = 0 := by
  refine pairsF_of fun j hj => ?_
  rw [Nat.zero_add]
  have hm : L.getD j (0, 0) ∈ L := by
    rw [List.getD_eq_getElem?_getD, List.getElem?_eq_getElem hj]
    exact List.getElem_mem hj
  have he := h.2 _ hm
  refine pairF_ok (rowL_key L j) (rowL_val L j) rfl he.1 he.2 (fun q => ?_)
  have hr := List.pairwise_iff_getElem.1 h.1 (j - 1) j (by omega) hj (by omega)
  rw [rowL_key] at q
  rw [List.getD_eq_getElem?_getD, List.getElem?_eq_getElem hj, List.getD_eq_getElem?_getD, List.getElem?_eq_getElem (show j - 1 < L.length by omega)] at q
  simp only [Option.getD_some] at q
  omega
theorem GoodP.step {L : Prs} (h : GoodP L) {k kd v : Int} (hi : appF k kd v = 0) : GoodP (stepA L k kd v) := by
  have h3 := appF_zero hi
  refine ⟨stepA_rises h.1 k kd v, fun e he => ?_⟩
  unfold stepA at he
  split at he
  · rcases putPr_mem he with rfl | q
    · exact ⟨h3.1, h3.2.2⟩
    · exact h.2 e q
  · split at he
    · exact h.2 e (List.mem_filter.1 he).1
    · exact h.2 e he
theorem GoodP.apply {L : Prs} (h : GoodP L) {G : Nat → Int} : ∀ {m : Nat}, (∀ i, i < m → appF (G (i * 3)) (G (i * 3 + 1)) (G (i * 3 + 2)) = 0) → GoodP (applyN L G m)
  | 0, _ => h
  | m + 1, hi => (GoodP.apply h (m := m) (fun i him => hi i (by omega))).step (hi m (Nat.lt_succ_self _))
theorem ItemsOk.all {m : Nat} {W : List Int} (h : ItemsOk m W) : ∀ i, i < m → appF (W.getD (i * 3) 0) (W.getD (i * 3 + 1) 0) (W.getD (i * 3 + 2) 0) = 0 := fun i hi => by
  have := appsF_all (appliedF_zero h.1).2.1 i hi
  rwa [Nat.zero_add] at this
theorem GoodP.vals {L : Prs} (h : GoodP L) : ∀ k, 0 ≤ (lookF L k).2 ∧ (lookF L k).2 ≤ 9999 := lookF_val fun e he => (h.2 e he).2
theorem GoodP.len {L : Prs} (h : GoodP L) : L.length ≤ 200 := by
  have := (pairs_rise (pairs_of_good h)).2
  exact this
/-- What an operation comes to: its reply, its value, the view behind it. -/
def applyP (L : Prs) (kd d n td tn vv : Int) : Int × Int × Prs :=
  ((replyP L kd d n td tn vv).1, (replyP L kd d n td tn vv).2.1, applyN L (fun p => (replyP L kd d n td tn vv).2.2.2.2.getD p 0) (replyP L kd d n td tn vv).2.2.2.1)
theorem GoodP.applyOp {L : Prs} (h : GoodP L) {kd d n td tn vv : Int} (ho : opF kd d n td tn vv = 0) : GoodP (applyP L kd d n td tn vv).2.2 :=
  h.apply ((reply_items h.vals ho).1.all)
end Go.Proofs.YtokaoiiibakkoaaGreat

namespace Go.Proofs.YtokaoiiibakkoaaGreat
open Go.RowKit

abbrev zeroFs : Obj := .cells #[.int .i64 0, .int .i64 0, .int .i64 0, .slice none 0 0] 28
theorem nums_selfA {l : List Int} {N : Nat} (h : l.length = N) : nums (fun p => l.getD p 0) N = l := by
  subst h
  unfold nums
  apply List.ext_getElem
  · simp
  · intro i h1 h2
    simp only [List.getElem_map, List.getElem_range]
    rw [List.getD_eq_getElem?_getD, List.getElem?_eq_getElem h2]
    rfl
theorem nums_rowL (L : Prs) : nums (rowL L) (L.length * 2) = flatL L := by
  have := nums_selfA (l := flatL L) (flatL_length L)
  rw [← this]
  unfold nums
  exact List.map_congr_left fun p _ => (flatL_get L p).symm
theorem own_flat {w : World} {B : Nat} {v : Value} {L : Prs} (h : OwnM w B 51 2 v L.length (flatL L)) : Row w B 2 L.length (rowL L) v ∧ Free w (L.length * 2) v := flat_row h
/-- What stands in the last region: the plan's box, the answer's box. -/
def ApS (X : World) (pb rb : Nat) (r v : Int) (vr vw : Value) : Prop := BlkP X pb (.int .i64 0) (.int .i64 r) (.int .i64 v) vr vw ∧ FBk X rb
theorem ApS.later {X X' : World} {pb rb : Nat} {r v : Int} {vr vw : Value} (h : ApS X pb rb r v vr vw) (hb : Below X.heap.size X X') : ApS X' pb rb r v vr vw := ⟨h.1.later hb, h.2.later hb⟩
theorem ApS.grown {X X' : World} {pb rb : Nat} {r v : Int} {vr vw u : Value} (h : ApS X pb rb r v vr vw) (hg : X.grownBy X' u.ownBlock) (h1 : ∀ k, u.ownBlock = some k → pb < k ∧ rb < k) : ApS X' pb rb r v vr vw :=
  ⟨h.1.kept (hg.block pb h.1.lt (fun e => by have := (h1 pb e.symm).1; omega)), h.2.kept (hg.block rb h.2.lt (fun e => by have := (h1 rb e.symm).2; omega))⟩
theorem ApS.row {X : World} {pb rb : Nat} {r v : Int} {vr vw : Value} (h : ApS X pb rb r v vr vw) (hne : pb ≠ rb) (a0 a1 a2 a3 : Value) : ApS (X.setRow rb #[a0, a1, a2, a3]) pb rb r v vr vw := by
  refine ⟨h.1.kept (heap_setRow _ _ _ _ hne), ?_⟩
  obtain ⟨old, hg, hs⟩ := h.2
  exact ⟨#[a0, a1, a2, a3], by simp [World.setRow, Array.getElem?_modify, hg], rfl⟩
theorem Own.blockT {w : World} {B : Nat} {e : TypeId} {m n : Nat} {F : Nat → Int} {v : Value} (h : Own w B e m n F v) : ∀ k, v.ownBlock = some k → B ≤ k ∧ k < w.heap.size := own_in h
/-- Behind the store of the answer. -/
theorem own_end {w z1 : World} {B : Nat} {c r v : Int} {R : Prs} {ao : Option Addr} {cp : Nat} (h : Row z1 B 2 R.length (rowL R) (.slice ao R.length cp) ∧ Free z1 (R.length * 2) (.slice ao R.length cp) ∧ Below w.heap.size w z1 ∧ ∀ k, (Value.slice ao R.length cp).ownBlock = some k → B ≤ k) (hB : w.heap.size < B) (cs : Array Value) :
    ResFs w c r v R (.returned (.agg #[.int .i64 c, .int .i64 r, .int .i64 v, .slice ao R.length cp])) (z1.setRow w.heap.size cs) := by
  obtain ⟨h1, h2, h3, h4⟩ := h
  have ks : ∀ k, (Value.slice ao R.length cp).ownBlock = some k → (z1.setRow w.heap.size cs).heap[k]? = z1.heap[k]? := fun k hk => heap_setRow _ _ _ _ (by have := h4 k hk; omega)
  refine ⟨ao, cp, rfl, (h1.kept (by rw [size_setRow]; exact Nat.le_refl _) (fun k hk _ => ks k hk)).mono (Nat.le_of_lt hB), ?_, below_row h3 (Nat.le_refl _) _⟩
  intro g o n c e p hp
  have h5 := h2 g o n c e p hp
  have hg : (Value.slice ao R.length cp).ownBlock = some g := by rw [e]; rfl
  exact (World.frozen?_of_block (w := z1) (a := ⟨g, o + p, none⟩) (ks g hg)).trans h5
set_option maxRecDepth 100000 in
set_option maxHeartbeats 4000000 in
theorem l14Apply_is (L : Prs) (y : Value) (bo : Nat) (kd d n td tn vv : Int) (w : World) (hc : Ctx w L y bo kd d n td tn vv) (ho : opF kd d n td tn vv = 0) (hL : GoodP L) (r v : Int) (R : Prs) (hp : applyP L kd d n td tn vv = (r, v, R)) :
    Calls Tryz.prog 23 #[y, .pointer (some ⟨bo, 0, none⟩)] w (ResFs w 0 r v R) := by
  obtain ⟨q, hq⟩ : ∃ q, replyP L kd d n td tn vv = q := ⟨_, rfl⟩
  obtain ⟨r', v', ys, m, W⟩ := q
  have hit := reply_items hL.vals ho
  unfold applyP at hp
  rw [hq] at hp hit
  simp only [Prod.mk.injEq] at hp
  obtain ⟨rfl, rfl, hR⟩ := hp
  obtain ⟨hit1, hit2, hit3⟩ := hit
  simp only at hit1 hit2 hit3
  have hl := hL.len
  have hm := (appliedF_zero hit1.1).1
  have HY : Hid (Row w 0 2 L.length (rowL L) y) := hc.1.1
  have HIT : Hid (ItemsOk m W ∧ (r' ≠ 0 → m = 0) ∧ applyN L (fun p => W.getD p 0) m = R) := ⟨hit1, hit2, hR⟩
  have HC : Hid (Ctx (w.alloc zeroFs) L y bo kd d n td tn vv) := ⟨⟨hc.1.1.alloc _, hc.1.2⟩, hc.2.1.alloc _, hc.2.2⟩
  have HK : Hid ((1 ≤ kd ∧ kd ≤ 8) ∧ replyP L kd d n td tn vv = (r', v', ys, m, W)) := ⟨(op_bounds ho).1, hq⟩
  have HFw : Hid (FBk (w.alloc zeroFs) w.heap.size) := FBk.new _ _ _ _ _
  obtain ⟨yo, yc, rfl⟩ := hc.1.1.form
  obtain ⟨i0, hi, hz0, hz1, hz2⟩ := info_parts infoz_Pair
  clear hc ho hq hR hit1 hit2 hit3
  go_enter Tryz.func23, Tryz.ntmps23
  go_wp2_with fail
  refine (l13Compile_is L _ bo kd d n td tn vv _ HC.out HK.out.1 r' v' ys m W HK.out.2).mono ?_
  rintro e w1 ⟨vr, vw, rfl, hA, q1⟩
  obtain ⟨⟨a1, a2, rfl⟩, ⟨a3, a4, rfl⟩⟩ := PlanAt.form hA
  have q1' : Below (w.heap.size + 1) (w.alloc zeroFs) w1 := by have := q1; rwa [World.size_alloc] at this
  have hlt1 : w.heap.size < w1.heap.size := by have := q1'.size; rw [World.size_alloc] at this; omega
  have HPB : Hid (PBk (w1.alloc zeroPl) w1.heap.size) := PBk.new _ _ _ _ _ _
  have H1 : Hid (PlanAt (w1.alloc zeroPl) (w.heap.size + 1) ys m W (.slice a1 ys.length a2) (.slice a3 m a4) ∧ Below w.heap.size w (w1.alloc zeroPl) ∧ FBk (w1.alloc zeroPl) w.heap.size) := by
    have hA' := hA
    rw [World.size_alloc] at hA'
    exact ⟨PlanAt.alloc hA' _, ((below_alloc w _).trans (q1'.mono (Nat.le_succ _))).alloc (Nat.le_of_lt hlt1) _, (HFw.out.kept (q1'.block _ (Nat.lt_succ_self _))).alloc _⟩
  have hlo1 : ∀ k, (Value.slice a1 ys.length a2).ownBlock = some k → k ≠ w1.heap.size := fun k hk => by have := (hA.1.lt k hk).2; omega
  have hlo2 : ∀ k, (Value.slice a3 m a4).ownBlock = some k → k ≠ w1.heap.size := fun k hk => by have := (OwnM.block hA.2.1 k hk).2; omega
  have H2 : Hid (BlkP ((w1.alloc zeroPl).setRow w1.heap.size #[.int .i64 0, .int .i64 r', .int .i64 v', .slice a1 ys.length a2, .slice a3 m a4]) w1.heap.size (.int .i64 0) (.int .i64 r') (.int .i64 v') (.slice a1 ys.length a2) (.slice a3 m a4) ∧ PlanAt ((w1.alloc zeroPl).setRow w1.heap.size #[.int .i64 0, .int .i64 r', .int .i64 v', .slice a1 ys.length a2, .slice a3 m a4]) (w.heap.size + 1) ys m W (.slice a1 ys.length a2) (.slice a3 m a4) ∧ Below w.heap.size w ((w1.alloc zeroPl).setRow w1.heap.size #[.int .i64 0, .int .i64 r', .int .i64 v', .slice a1 ys.length a2, .slice a3 m a4]) ∧ FBk ((w1.alloc zeroPl).setRow w1.heap.size #[.int .i64 0, .int .i64 r', .int .i64 v', .slice a1 ys.length a2, .slice a3 m a4]) w.heap.size) :=
    ⟨HPB.out.blk _ _ _ _ _, plan_kept H1.out.1 hlo1 hlo2, below_row H1.out.2.1 (Nat.le_of_lt hlt1) _, H1.out.2.2.kept (heap_setRow _ _ _ _ (Nat.ne_of_lt hlt1))⟩
  have HNE : Hid (w1.heap.size ≠ w.heap.size) := Nat.ne_of_gt hlt1
  clear hA q1 q1' hlo1 hlo2 HC HK HFw
  by_cases hr0 : r' = 0
  · have dr : (r' != 0) = false := by simp [hr0]
    subst hr0
    have hkd : ∀ i, i < m → 1 ≤ W.getD (i * 3 + 1) 0 ∧ W.getD (i * 3 + 1) 0 ≤ 3 := (appliedF_zero HIT.out.1.1).2.2
    have HKD : Hid (∀ i, i < m → 1 ≤ W.getD (i * 3 + 1) 0 ∧ W.getD (i * 3 + 1) 0 ≤ 3) := hkd
    clear hkd
    go_wp2_with (refine wpList_storeP rfl _ _ rfl w1.heap.size _ _ _ _ _ rfl rfl HPB.out (by kernel_rfl) ?_; clear HPB H1; generalize (w1.alloc zeroPl).setRow w1.heap.size #[.int .i64 0, .int .i64 0, .int .i64 v', .slice a1 ys.length a2, .slice a3 m a4] = X2 at H2 ⊢; obtain ⟨⟨c0, c1, c2, c3, c4⟩, _⟩ := H2.out.1)
    go_upto_region 4 with fail
    refine wp_region_held_drew (S := fun X => ApS X w1.heap.size w.heap.size 0 v' (.slice a1 ys.length a2) (.slice a3 m a4)) (by kernel_rfl) ⟨H2.out.1, H2.out.2.2.2⟩ (fun hS => ?_)
    have H3 : Hid (PlanAt X2.drew (w.heap.size + 1) ys m W (.slice a1 ys.length a2) (.slice a3 m a4) ∧ Below w.heap.size w X2.drew) := ⟨H2.out.2.1, H2.out.2.2.1.drew⟩
    clear H2 c0 c1 c2 c3 c4
    generalize X2.drew = z0 at hS H3 ⊢
    refine tkH 0 ?_ hS (fun wx hx => ?_) ?_; rotate_left
    · obtain ⟨⟨⟨hx0, hx1, hx2, hx3, hx4⟩, _⟩, _⟩ := hx; go_simp; try with_reducible rfl
    refine tkH 1 ?_ hS (fun wx hx => ?_) ?_; rotate_left
    · obtain ⟨⟨⟨hx0, hx1, hx2, hx3, hx4⟩, _⟩, _⟩ := hx; go_simp; try with_reducible rfl
    refine tkH 2 ?_ hS (fun wx hx => ?_) ?_; rotate_left
    · obtain ⟨⟨⟨hx0, hx1, hx2, hx3, hx4⟩, _⟩, _⟩ := hx; go_simp; try with_reducible rfl
    refine tkH 3 ?_ hS (fun wx hx => ?_) ?_; rotate_left
    · obtain ⟨⟨⟨hx0, hx1, hx2, hx3, hx4⟩, _⟩, _⟩ := hx; go_simp; try with_reducible rfl
    refine tkH 4 ?_ hS (fun wx hx => ?_) ?_; rotate_left
    · obtain ⟨⟨⟨hx0, hx1, hx2, hx3, hx4⟩, _⟩, _⟩ := hx; go_simp; try with_reducible rfl
    refine rdH 5 (fun K hK => ?_)
    go_simp
    go_wp2_with fail
    refine (l11Apply_any L (fun p => W.getD p 0) m _ _ 0 (w.heap.size + 1) _ (HY.out.later H3.out.2) H3.out.1.rows.1 (by omega) hm HKD.out).mono ?_
    rintro e z1 ⟨ao, cp, rfl, ho, q⟩
    rw [HIT.out.2.2] at ho
    have HRR : (applyN L (fun p => W.getD p 0) m).length = R.length := by rw [HIT.out.2.2]
    rw [HRR]
    have hS1 := hS.later q
    have HO : Hid (Row z1 z0.heap.size 2 R.length (rowL R) (.slice ao R.length cp) ∧ Free z1 (R.length * 2) (.slice ao R.length cp) ∧ Below w.heap.size w z1 ∧ ∀ k, (Value.slice ao R.length cp).ownBlock = some k → z0.heap.size ≤ k) := ⟨ho.row.1, ho.row.2, H3.out.2.trans (q.mono H3.out.2.size), fun k hk => (Own.blockT ho k hk).1⟩
    have HZ0 : Hid (w.heap.size < z0.heap.size) := hS.2.lt
    clear q ho hS HRR H3
    go_wp2_with fail
    refine hK.out _ _ hS1 (fun hS => ?_)
    clear hK K
    clear hS1
    refine tkH 6 ?_ hS (fun wx hx => ?_) ?_; rotate_left
    · obtain ⟨⟨⟨hx0, hx1, hx2, hx3, hx4⟩, _⟩, _⟩ := hx; go_simp; try with_reducible rfl
    refine rdH 7 (fun K hK => ?_)
    refine step_storeF rfl _ _ rfl w.heap.size _ _ _ _ rfl rfl hS.2 (by kernel_rfl) ?_
    have hS9 := hS.row HNE.out (.int .i64 0) (.int .i64 0) (.int .i64 v') (.slice ao R.length cp)
    have HFB : Hid (FBk z1 w.heap.size) := hS.2
    clear hS
    refine hK.out _ _ hS9 (fun hS => ?_)
    clear hK K
    clear hS9
    refine wpAnyH_done (by kernel_rfl) ?_ _
    go_simp
    go_wp2_with fail
    refine bodyPost_ret (v := .agg #[.int .i64 0, .int .i64 0, .int .i64 v', .slice ao R.length cp]) (results_fs Tryz.results23 _ _ _ _ _ _ _ rfl HFB.out) rfl ?_
    exact own_end HO.out HZ0.out _
  · have dr : (r' != 0) = true := bne_iff_ne.2 hr0
    have hm0 := HIT.out.2.1 hr0
    subst hm0
    have HRL : Hid (L = R) := HIT.out.2.2
    clear hr0
    go_wp2_with (refine wpList_storeP rfl _ _ rfl w1.heap.size _ _ _ _ _ rfl rfl HPB.out (by kernel_rfl) ?_; clear HPB H1; generalize (w1.alloc zeroPl).setRow w1.heap.size #[.int .i64 0, .int .i64 r', .int .i64 v', .slice a1 ys.length a2, .slice a3 0 a4] = X2 at H2 ⊢; obtain ⟨⟨c0, c1, c2, c3, c4⟩, _⟩ := H2.out.1)
    go_upto_region 3 with fail
    refine wp_region_held_drew (S := fun X => ApS X w1.heap.size w.heap.size r' v' (.slice a1 ys.length a2) (.slice a3 0 a4)) (by kernel_rfl) ⟨H2.out.1, H2.out.2.2.2⟩ (fun hS => ?_)
    have H3 : Hid (Below w.heap.size w X2.drew) := H2.out.2.2.1.drew
    clear H2 c0 c1 c2 c3 c4
    generalize X2.drew = z0 at hS H3 ⊢
    refine tkH 0 ?_ hS (fun wx hx => ?_) ?_; rotate_left
    · obtain ⟨⟨⟨hx0, hx1, hx2, hx3, hx4⟩, _⟩, _⟩ := hx; go_simp; try with_reducible rfl
    refine tkH 1 ?_ hS (fun wx hx => ?_) ?_; rotate_left
    · obtain ⟨⟨⟨hx0, hx1, hx2, hx3, hx4⟩, _⟩, _⟩ := hx; go_simp; try with_reducible rfl
    refine tkH 2 ?_ hS (fun wx hx => ?_) ?_; rotate_left
    · obtain ⟨⟨⟨hx0, hx1, hx2, hx3, hx4⟩, _⟩, _⟩ := hx; go_simp; try with_reducible rfl
    refine tkH 3 ?_ hS (fun wx hx => ?_) ?_; rotate_left
    · obtain ⟨⟨⟨hx0, hx1, hx2, hx3, hx4⟩, _⟩, _⟩ := hx; go_simp; try with_reducible rfl
    refine tkH 5 ?_ hS (fun wx hx => ?_) ?_; rotate_left
    · obtain ⟨⟨⟨hx0, hx1, hx2, hx3, hx4⟩, _⟩, _⟩ := hx; go_simp; try with_reducible rfl
    refine rdH 4 (fun K hK => ?_)
    go_simp
    have hS1 := hS.later (below_alloc z0 (.cells #[] 51))
    have HZ0 : Hid (w.heap.size < z0.heap.size ∧ w1.heap.size < z0.heap.size) := ⟨hS.2.lt, hS.1.lt⟩
    have HO1 : Hid (OwnM (z0.alloc (.cells #[] 51)) z0.heap.size 51 2 (.slice (some ⟨z0.heap.size, 0, none⟩) 0 0) 0 []) := OwnM.lit0 _ _ _ _ rfl
    have HY1 : Hid (Row (z0.alloc (.cells #[] 51)) 0 2 L.length (rowL L) (.slice yo L.length yc) ∧ Below w.heap.size w (z0.alloc (.cells #[] 51))) := ⟨(HY.out.later H3.out).alloc _, H3.out.alloc H3.out.size _⟩
    clear hS
    refine hK.out _ _ hS1 (fun hS => ?_)
    clear hK K
    clear hS1
    refine rdH 6 (fun K hK => ?_)
    refine step_app 51 i0 (.agg #[.int .i64 0, .int .i64 0]) 2 16 (by rfl) _ _ 26 (by rfl) Tryz.underlying26 hi hz0 hz1 hz2 rfl (by omega) (by omega) _ z0.heap.size 0 [] (.slice (some ⟨z0.heap.size, 0, none⟩) 0 0) (by rfl) HO1.out 0 L.length (rowL L) (.slice yo L.length yc) (by rfl) HY1.out.1 (by omega) (by simp) ?_
    intro ao cp z1 O2 G2
    have hS2 := hS.grown G2 (fun k hk => by have : z0.heap.size = k := Option.some.inj hk; have := HZ0.out; omega)
    rw [List.nil_append, nums_rowL, Nat.zero_add] at O2
    have HO : Hid (Row z1 z0.heap.size 2 R.length (rowL R) (.slice ao R.length cp) ∧ Free z1 (R.length * 2) (.slice ao R.length cp) ∧ Below w.heap.size w z1 ∧ ∀ k, (Value.slice ao R.length cp).ownBlock = some k → z0.heap.size ≤ k) := by
      rw [← HRL.out]
      exact ⟨(own_flat O2).1, (own_flat O2).2, HY1.out.2.trans ⟨G2.os, G2.tape, G2.output, G2.size, fun k hk => G2.block k (by have := HY1.out.2.size; omega) (fun e => by have : k = z0.heap.size := Option.some.inj e; have := HZ0.out; omega)⟩, fun k hk => (OwnM.block O2 k hk).1⟩
    have hLR : L.length = R.length := by rw [HRL.out]
    rw [Nat.zero_add, hLR]
    clear O2 G2 hS HO1 HY1
    refine hK.out _ _ hS2 (fun hS => ?_)
    clear hK K
    clear hS2
    refine tkH 7 ?_ hS (fun wx hx => ?_) ?_; rotate_left
    · obtain ⟨⟨⟨hx0, hx1, hx2, hx3, hx4⟩, _⟩, _⟩ := hx; go_simp; try with_reducible rfl
    refine rdH 8 (fun K hK => ?_)
    refine step_storeF rfl _ _ rfl w.heap.size _ _ _ _ rfl rfl hS.2 (by kernel_rfl) ?_
    have hS9 := hS.row HNE.out (.int .i64 0) (.int .i64 r') (.int .i64 v') (.slice ao R.length cp)
    have HFB : Hid (FBk z1 w.heap.size) := hS.2
    clear hS
    refine hK.out _ _ hS9 (fun hS => ?_)
    clear hK K
    clear hS9
    refine wpAnyH_done (by kernel_rfl) ?_ _
    go_simp
    go_wp2_with fail
    refine bodyPost_ret (v := .agg #[.int .i64 0, .int .i64 r', .int .i64 v', .slice ao R.length cp]) (results_fs Tryz.results23 _ _ _ _ _ _ _ rfl HFB.out) rfl ?_
    exact own_end HO.out HZ0.out.1 _
end Go.Proofs.YtokaoiiibakkoaaGreat

namespace Go.Proofs.YtokaoiiibakkoaaGreat
open Go.RowKit

theorem res_end {w z1 : World} {B rb : Nat} {c r v : Int} {R : Prs} {ao : Option Addr} {cp : Nat} (h1 : Row z1 B 2 R.length (rowL R) (.slice ao R.length cp)) (h2 : Free z1 (R.length * 2) (.slice ao R.length cp)) (h3 : Below w.heap.size w z1) (hrb : w.heap.size ≤ rb) (hB : rb < B) (cs : Array Value) :
    ResFs w c r v R (.returned (.agg #[.int .i64 c, .int .i64 r, .int .i64 v, .slice ao R.length cp])) (z1.setRow rb cs) := by
  refine ⟨ao, cp, rfl, ?_, ?_, below_row h3 hrb _⟩
  · by_cases hn : R.length = 0
    · exact ⟨_, _, rfl, fun q => by omega⟩
    · have ks : ∀ k, (Value.slice ao R.length cp).ownBlock = some k → (z1.setRow rb cs).heap[k]? = z1.heap[k]? := fun k hk => heap_setRow _ _ _ _ (by have := (h1.lt (by omega) k hk).1; omega)
      exact (h1.kept (by rw [size_setRow]; exact Nat.le_refl _) (fun k hk _ => ks k hk)).mono (by omega)
  · intro g o n q e p hp
    have hn : 0 < R.length := by omega
    have hg : (Value.slice ao R.length cp).ownBlock = some g := by rw [e]; rfl
    have hgb : g ≠ rb := by have := (h1.lt hn g hg).1; omega
    exact (World.frozen?_of_block (w := z1) (a := ⟨g, o + p, none⟩) (heap_setRow _ _ _ _ hgb)).trans (h2 g o n q e p hp)
theorem res_nil {w w' : World} (c : Int) (hb : Below w.heap.size w w') : ResFs w c 0 0 [] (.returned (.agg #[.int .i64 c, .int .i64 0, .int .i64 0, .slice none 0 0])) w' :=
  ⟨none, 0, rfl, ⟨_, _, rfl, fun q => by cases q⟩, fun g o n q e p hp => absurd hp (Nat.not_lt_zero _), hb⟩
/-- Boxes of an operation and of an answer. -/
def Bxf (w : World) (kd d nm td tn vv : Int) (X : World) : Prop := Blk6 X w.heap.size (.int .i64 kd) (.int .i64 d) (.int .i64 nm) (.int .i64 td) (.int .i64 tn) (.int .i64 vv) ∧ FBk X (w.heap.size + 1)
theorem Bxf.later {w X X' : World} {kd d nm td tn vv : Int} (h : Bxf w kd d nm td tn vv X) (hb : Below X.heap.size X X') : Bxf w kd d nm td tn vv X' := ⟨h.1.later hb, h.2.later hb⟩
theorem Bxf.new (w : World) (kd d nm td tn vv : Int) : Bxf w kd d nm td tn vv ((w.alloc (opO kd d nm td tn vv)).alloc zeroFs) := by
  refine ⟨(Blk6.new w _ _ _ _ _ _ _).alloc _, ?_⟩
  have := FBk.new (w.alloc (opO kd d nm td tn vv)) (.int .i64 0) (.int .i64 0) (.int .i64 0) (.slice none 0 0)
  rwa [World.size_alloc] at this
theorem field_pairsR (c : Int) (ao : Option Addr) (n cp : Nat) (w : World) : (Instr.field 81 (.agg #[.int .i64 c, .slice ao n cp]) 1).run Tryz.prog w = .ok (.slice ao n cp) w := by kernel_rfl
set_option maxRecDepth 100000 in
set_option maxHeartbeats 4000000 in
theorem applyOp_is (y : Value) (B n : Nat) (F : Nat → Int) (kd d nm td tn vv : Int) (w : World) (h : Row w B 2 n F y) (hn : n ≤ 1048576) (hg : pairsF F n 0 = 0) (ho : opF kd d nm td tn vv = 0) (r v : Int) (R : Prs) (hp : applyP (listOf F n) kd d nm td tn vv = (r, v, R)) :
    Calls Tryz.prog 27 #[y, .agg #[.int .i64 kd, .int .i64 d, .int .i64 nm, .int .i64 td, .int .i64 tn, .int .i64 vv]] w (ResFs w 0 r v R) := by
  obtain ⟨q, hq⟩ : ∃ q, replyP (listOf F n) kd d nm td tn vv = q := ⟨_, rfl⟩
  obtain ⟨r', v', ys, m, W⟩ := q
  have hL := good_of_pairs hg
  have hit := reply_items hL.vals ho
  unfold applyP at hp
  rw [hq] at hp hit
  simp only [Prod.mk.injEq] at hp
  obtain ⟨rfl, rfl, hR⟩ := hp
  obtain ⟨hit1, hit2, hit3⟩ := hit
  simp only at hit1 hit2 hit3
  have hm := (appliedF_zero hit1.1).1
  have H : Hid (Row w B 2 n F y) := h
  have HIT : Hid (pairsF F n 0 = 0 ∧ appliedF m (fun p => W.getD p 0) = 0 ∧ applyN (listOf F n) (fun p => W.getD p 0) m = R) := ⟨hg, hit1.1, hR⟩
  have HCA : Hid (CompAns n F kd d nm td tn vv 0 (r', v', ys, m, W)) := Or.inr (Or.inr ⟨hg, ho, rfl, hq.symm⟩)
  have HB0 : Hid (Bxf w kd d nm td tn vv ((w.alloc (opO kd d nm td tn vv)).alloc zeroFs) ∧ Below w.heap.size w ((w.alloc (opO kd d nm td tn vv)).alloc zeroFs)) := ⟨Bxf.new _ _ _ _ _ _ _, (below_alloc _ _).alloc (by simp) _⟩
  obtain ⟨yo, yc, rfl⟩ := h.form
  have fp := fun c ao n cp w => field_pairsR c ao n cp w
  clear h hg ho hq hR hit1 hit2 hit3 hL
  obtain ⟨⟨b0, b1, b2, b3, b4, b5⟩, _⟩ := HB0.out.1.1
  go_enter Tryz.func27, Tryz.ntmps27
  go_wp2_with fail
  refine (implCompile_is _ B n F kd d nm td tn vv 0 (r', v', ys, m, W) _ (H.out.later HB0.out.2) hn HCA.out).mono ?_
  rintro e w1 ⟨vr, vw, rfl, hA, q1⟩
  obtain ⟨⟨a1, a2, rfl⟩, ⟨a3, a4, rfl⟩⟩ := PlanAt.form hA
  have hA' : PlanAt w1 (w.heap.size + 2) ys m W (.slice a1 ys.length a2) (.slice a3 m a4) := by
    have := hA
    simp only [World.size_alloc] at this
    exact this
  have HPB : Hid (PBk (w1.alloc zeroPl) w1.heap.size) := PBk.new _ _ _ _ _ _
  have hS1 := HB0.out.1.later q1
  have hlt1 : w.heap.size + 1 < w1.heap.size := hS1.2.lt
  have hlo1 : ∀ k, (Value.slice a1 ys.length a2).ownBlock = some k → k ≠ w1.heap.size := fun k hk => by have := (hA'.1.lt k hk).2; omega
  have hlo2 : ∀ k, (Value.slice a3 m a4).ownBlock = some k → k ≠ w1.heap.size := fun k hk => by have := (OwnM.block hA'.2.1 k hk).2; omega
  have H2 : Hid (BlkP ((w1.alloc zeroPl).setRow w1.heap.size #[.int .i64 0, .int .i64 r', .int .i64 v', .slice a1 ys.length a2, .slice a3 m a4]) w1.heap.size (.int .i64 0) (.int .i64 r') (.int .i64 v') (.slice a1 ys.length a2) (.slice a3 m a4) ∧ PlanAt ((w1.alloc zeroPl).setRow w1.heap.size #[.int .i64 0, .int .i64 r', .int .i64 v', .slice a1 ys.length a2, .slice a3 m a4]) (w.heap.size + 2) ys m W (.slice a1 ys.length a2) (.slice a3 m a4) ∧ Below w.heap.size w ((w1.alloc zeroPl).setRow w1.heap.size #[.int .i64 0, .int .i64 r', .int .i64 v', .slice a1 ys.length a2, .slice a3 m a4]) ∧ FBk ((w1.alloc zeroPl).setRow w1.heap.size #[.int .i64 0, .int .i64 r', .int .i64 v', .slice a1 ys.length a2, .slice a3 m a4]) (w.heap.size + 1)) :=
    ⟨HPB.out.blk _ _ _ _ _, plan_kept (PlanAt.alloc (w := w1) hA' _) hlo1 hlo2, below_row ((HB0.out.2.trans (q1.mono HB0.out.2.size)).alloc (by omega) _) (by omega) _, (hS1.2.alloc _).kept (heap_setRow _ _ _ _ (by omega))⟩
  have HNE : Hid (w1.heap.size ≠ w.heap.size + 1) := by unfold Hid; omega
  clear hA hA' q1 hS1 hlo1 hlo2 HCA b0 b1 b2 b3 b4 b5
  go_wp2_with (refine wpList_storeP rfl _ _ rfl w1.heap.size _ _ _ _ _ rfl rfl HPB.out (by kernel_rfl) ?_; clear HPB HB0; generalize (w1.alloc zeroPl).setRow w1.heap.size #[.int .i64 0, .int .i64 r', .int .i64 v', .slice a1 ys.length a2, .slice a3 m a4] = X2 at H2 ⊢)
  refine wp_region_held_drew (S := fun X => ApS X w1.heap.size (w.heap.size + 1) r' v' (.slice a1 ys.length a2) (.slice a3 m a4)) (by kernel_rfl) ⟨H2.out.1, H2.out.2.2.2⟩ (fun hS => ?_)
  have H3 : Hid (PlanAt X2.drew (w.heap.size + 2) ys m W (.slice a1 ys.length a2) (.slice a3 m a4) ∧ Below w.heap.size w X2.drew) := ⟨H2.out.2.1, H2.out.2.2.1.drew⟩
  clear H2
  generalize X2.drew = z0 at hS H3 ⊢
  refine tkH 0 ?_ hS (fun wx hx => ?_) ?_; rotate_left
  · obtain ⟨⟨⟨hx0, hx1, hx2, hx3, hx4⟩, _⟩, _⟩ := hx; go_simp; try with_reducible rfl
  refine tkH 1 ?_ hS (fun wx hx => ?_) ?_; rotate_left
  · obtain ⟨⟨⟨hx0, hx1, hx2, hx3, hx4⟩, _⟩, _⟩ := hx; go_simp; try with_reducible rfl
  refine tkH 2 ?_ hS (fun wx hx => ?_) ?_; rotate_left
  · obtain ⟨⟨⟨hx0, hx1, hx2, hx3, hx4⟩, _⟩, _⟩ := hx; go_simp; try with_reducible rfl
  refine tkH 3 ?_ hS (fun wx hx => ?_) ?_; rotate_left
  · obtain ⟨⟨⟨hx0, hx1, hx2, hx3, hx4⟩, _⟩, _⟩ := hx; go_simp; try with_reducible rfl
  refine tkH 4 ?_ hS (fun wx hx => ?_) ?_; rotate_left
  · obtain ⟨⟨⟨hx0, hx1, hx2, hx3, hx4⟩, _⟩, _⟩ := hx; go_simp; try with_reducible rfl
  refine tkH 5 ?_ hS (fun wx hx => ?_) ?_; rotate_left
  · obtain ⟨⟨⟨hx0, hx1, hx2, hx3, hx4⟩, _⟩, _⟩ := hx; go_simp; try with_reducible rfl
  refine tkH 6 ?_ hS (fun wx hx => ?_) ?_; rotate_left
  · obtain ⟨⟨⟨hx0, hx1, hx2, hx3, hx4⟩, _⟩, _⟩ := hx; go_simp; try with_reducible rfl
  refine rdH 7 (fun K hK => ?_)
  go_simp
  go_wp2_with fail
  refine (implApply_is _ _ B (w.heap.size + 2) n m F (fun p => W.getD p 0) 0 R _ (H.out.later H3.out.2) H3.out.1.rows.1 hn (by omega) (Or.inr (Or.inr ⟨HIT.out.1, HIT.out.2.1, rfl, HIT.out.2.2.symm⟩))).mono ?_
  rintro e z1 ⟨ao, cp, rfl, hrow, hfree, q⟩
  have hS1 := hS.later q
  have HO : Hid (Row z1 z0.heap.size 2 R.length (rowL R) (.slice ao R.length cp) ∧ Free z1 (R.length * 2) (.slice ao R.length cp) ∧ Below w.heap.size w z1) := ⟨hrow, hfree, H3.out.2.trans (q.mono H3.out.2.size)⟩
  have HZ0 : Hid (w.heap.size + 1 < z0.heap.size) := hS.2.lt
  clear q hrow hfree hS H3
  go_wp2_with fail
  refine hK.out _ _ hS1 (fun hS => ?_)
  clear hK K
  clear hS1
  refine tkH 8 ?_ hS (fun wx hx => ?_) ?_; rotate_left
  · obtain ⟨⟨⟨hx0, hx1, hx2, hx3, hx4⟩, _⟩, _⟩ := hx; go_simp; try with_reducible rfl
  refine tkH 9 ?_ hS (fun wx hx => ?_) ?_; rotate_left
  · obtain ⟨⟨⟨hx0, hx1, hx2, hx3, hx4⟩, _⟩, _⟩ := hx; go_simp; try with_reducible rfl
  refine rdH 10 (fun K hK => ?_)
  refine step_storeF rfl _ _ rfl (w.heap.size + 1) _ _ _ _ rfl rfl hS.2 (by kernel_rfl) ?_
  have hS9 := hS.row HNE.out (.int .i64 0) (.int .i64 r') (.int .i64 v') (.slice ao R.length cp)
  have HFB : Hid (FBk z1 (w.heap.size + 1)) := hS.2
  clear hS
  refine hK.out _ _ hS9 (fun hS => ?_)
  clear hK K
  clear hS9
  refine wpAnyH_done (by kernel_rfl) ?_ _
  go_simp
  go_wp2_with fail
  refine bodyPost_ret (v := .agg #[.int .i64 0, .int .i64 r', .int .i64 v', .slice ao R.length cp]) (results_fs Tryz.results27 _ _ _ _ _ _ _ rfl HFB.out) rfl ?_
  exact res_end HO.out.1 HO.out.2.1 HO.out.2.2 (by omega) HZ0.out _
/-- What ApplyFs answers. -/
def ApAns (n : Nat) (F : Nat → Int) (kd d nm td tn vv c r v : Int) (R : Prs) : Prop :=
  (fsF n F ≠ 0 ∧ c = fsF n F ∧ r = 0 ∧ v = 0 ∧ R = []) ∨ (fsF n F = 0 ∧ opF kd d nm td tn vv ≠ 0 ∧ c = opF kd d nm td tn vv ∧ r = 0 ∧ v = 0 ∧ R = []) ∨ (fsF n F = 0 ∧ opF kd d nm td tn vv = 0 ∧ c = 0 ∧ applyP (listOf F n) kd d nm td tn vv = (r, v, R))
theorem ApAns.get (n : Nat) (F : Nat → Int) (kd d nm td tn vv : Int) : ∃ c r v R, ApAns n F kd d nm td tn vv c r v R ∧ R.length ≤ 200 := by
  by_cases h : fsF n F = 0
  · by_cases h2 : opF kd d nm td tn vv = 0
    · exact ⟨0, _, _, _, Or.inr (Or.inr ⟨h, h2, rfl, rfl⟩), ((good_of_pairs (fsF_zero h).1).applyOp h2).len⟩
    · exact ⟨_, 0, 0, [], Or.inr (Or.inl ⟨h, h2, rfl, rfl, rfl, rfl⟩), by simp⟩
  · exact ⟨_, 0, 0, [], Or.inl ⟨h, rfl, rfl, rfl, rfl⟩, by simp⟩
set_option maxRecDepth 100000 in
set_option maxHeartbeats 4000000 in
theorem specApplyFs_is (y : Value) (B n : Nat) (F : Nat → Int) (kd d nm td tn vv c r v : Int) (R : Prs) (w : World) (h : Row w B 2 n F y) (hn : n ≤ 1048576) (ha : ApAns n F kd d nm td tn vv c r v R) :
    Calls Tryz.prog 6 #[y, .agg #[.int .i64 kd, .int .i64 d, .int .i64 nm, .int .i64 td, .int .i64 tn, .int .i64 vv]] w (ResFs w c r v R) := by
  have H : Hid (Row w B 2 n F y) := h
  have HB0 : Hid (Bxf w kd d nm td tn vv ((w.alloc (opO kd d nm td tn vv)).alloc zeroFs) ∧ Below w.heap.size w ((w.alloc (opO kd d nm td tn vv)).alloc zeroFs)) := ⟨Bxf.new _ _ _ _ _ _ _, (below_alloc _ _).alloc (by simp) _⟩
  clear h
  rcases ha with ⟨h1, rfl, rfl, rfl, rfl⟩ | ⟨h1, h2, rfl, rfl, rfl, rfl⟩ | ⟨h1, h2, rfl, hp⟩
  · obtain ⟨f, hf⟩ : ∃ f, fsF n F = f := ⟨_, rfl⟩
    have HF : Hid (fsF n F = f ∧ True) := ⟨hf, trivial⟩
    have dd : (f != 0) = true := bne_iff_ne.2 (by rw [← hf]; exact h1)
    rw [hf]
    clear h1 hf
    go_enter Tryz.func6, Tryz.ntmps6
    go_wp2_with fail
    refine (specFs_is _ B n F _ (H.out.later HB0.out.2) hn).mono ?_
    rintro e w1 ⟨rfl, q1⟩
    rw [HF.out.1]
    have H1 : Hid (Bxf w kd d nm td tn vv w1 ∧ Below w.heap.size w w1) := ⟨HB0.out.1.later q1, HB0.out.2.trans (q1.mono HB0.out.2.size)⟩
    clear q1
    go_wp2_with (refine wpList_storeF rfl _ _ rfl (w.heap.size + 1) _ _ _ _ rfl rfl H1.out.1.2 (by kernel_rfl) ?_)
    refine bodyPost_ret (v := .agg #[.int .i64 f, .int .i64 0, .int .i64 0, .slice none 0 0]) (results_fs Tryz.results6 _ _ _ _ _ _ _ rfl H1.out.1.2) rfl (res_nil _ (below_row H1.out.2 (by omega) _))
  · obtain ⟨f, hf⟩ : ∃ f, opF kd d nm td tn vv = f := ⟨_, rfl⟩
    have HF : Hid (fsF n F = 0 ∧ opF kd d nm td tn vv = f ∧ True) := ⟨h1, hf, trivial⟩
    have dd : (f != 0) = true := bne_iff_ne.2 (by rw [← hf]; exact h2)
    rw [hf]
    clear h1 h2 hf
    go_enter Tryz.func6, Tryz.ntmps6
    go_wp2_with fail
    refine (specFs_is _ B n F _ (H.out.later HB0.out.2) hn).mono ?_
    rintro e w1 ⟨rfl, q1⟩
    rw [HF.out.1]
    have H1 : Hid (Bxf w kd d nm td tn vv w1 ∧ Below w.heap.size w w1) := ⟨HB0.out.1.later q1, HB0.out.2.trans (q1.mono HB0.out.2.size)⟩
    clear q1
    obtain ⟨⟨b0, b1, b2, b3, b4, b5⟩, _⟩ := H1.out.1.1
    go_wp2_with fail
    refine (specFsOp_any kd d nm td tn vv _).mono ?_
    rintro e w2 ⟨rfl, q2⟩
    rw [HF.out.2.1]
    have H2 : Hid (Bxf w kd d nm td tn vv w2 ∧ Below w.heap.size w w2) := ⟨H1.out.1.later q2, H1.out.2.trans (q2.mono H1.out.2.size)⟩
    clear q2 H1 b0 b1 b2 b3 b4 b5
    go_wp2_with (refine wpList_storeF rfl _ _ rfl (w.heap.size + 1) _ _ _ _ rfl rfl H2.out.1.2 (by kernel_rfl) ?_)
    refine bodyPost_ret (v := .agg #[.int .i64 f, .int .i64 0, .int .i64 0, .slice none 0 0]) (results_fs Tryz.results6 _ _ _ _ _ _ _ rfl H2.out.1.2) rfl (res_nil _ (below_row H2.out.2 (by omega) _))
  have HF : Hid (fsF n F = 0 ∧ opF kd d nm td tn vv = 0 ∧ True) := ⟨h1, h2, trivial⟩
  go_enter Tryz.func6, Tryz.ntmps6
  go_wp2_with fail
  refine (specFs_is _ B n F _ (H.out.later HB0.out.2) hn).mono ?_
  rintro e w1 ⟨rfl, q1⟩
  rw [HF.out.1]
  have H1 : Hid (Bxf w kd d nm td tn vv w1 ∧ Below w.heap.size w w1) := ⟨HB0.out.1.later q1, HB0.out.2.trans (q1.mono HB0.out.2.size)⟩
  clear q1
  obtain ⟨⟨b0, b1, b2, b3, b4, b5⟩, _⟩ := H1.out.1.1
  go_wp2_with fail
  refine (specFsOp_any kd d nm td tn vv _).mono ?_
  rintro e w2 ⟨rfl, q2⟩
  rw [HF.out.2.1]
  have H2 : Hid (Bxf w kd d nm td tn vv w2 ∧ Below w.heap.size w w2) := ⟨H1.out.1.later q2, H1.out.2.trans (q2.mono H1.out.2.size)⟩
  clear q2 H1 b0 b1 b2 b3 b4 b5
  have hob := op_bounds h2
  have hgp := good_of_pairs (fsF_zero h1).1
  have HCX : Hid (Ctx w2 (listOf F n) y w.heap.size kd d nm td tn vv) := ⟨⟨(row_list (H.out.later H2.out.2)).mono (Nat.zero_le _), by have := hgp.len; omega⟩, H2.out.1.1, hgp.vals, hob.2.1, hob.2.2.1, hob.2.2.2.1, hob.2.2.2.2⟩
  have HG : Hid (GoodP (listOf F n) ∧ opF kd d nm td tn vv = 0 ∧ applyP (listOf F n) kd d nm td tn vv = (r, v, R)) := ⟨hgp, h2, hp⟩
  clear hob hgp h1 h2 hp
  go_wp2_with fail
  refine (l14Apply_is (listOf F n) y w.heap.size kd d nm td tn vv _ HCX.out HG.out.2.1 HG.out.1 r v R HG.out.2.2).mono ?_
  rintro e w3 ⟨ao, cp, rfl, hrow, hfree, q3⟩
  clear HCX
  have H4 : Hid (FBk w3 (w.heap.size + 1) ∧ Below w.heap.size w w3 ∧ Row w3 w2.heap.size 2 R.length (rowL R) (.slice ao R.length cp) ∧ Free w3 (R.length * 2) (.slice ao R.length cp) ∧ w.heap.size + 1 < w2.heap.size) := ⟨H2.out.1.2.later q3, H2.out.2.trans (q3.mono H2.out.2.size), hrow, hfree, H2.out.1.2.lt⟩
  clear hrow hfree q3 H2
  go_wp2_with (refine wpList_storeF rfl _ _ rfl (w.heap.size + 1) _ _ _ _ rfl rfl H4.out.1 (by kernel_rfl) ?_)
  exact bodyPost_ret (v := .agg #[.int .i64 0, .int .i64 r, .int .i64 v, .slice ao R.length cp]) (results_fs Tryz.results6 _ _ _ _ _ _ _ rfl H4.out.1) rfl (res_end H4.out.2.2.1 H4.out.2.2.2.1 H4.out.2.1 (by omega) H4.out.2.2.2.2 _)
set_option maxRecDepth 100000 in
set_option maxHeartbeats 4000000 in
theorem implApplyFs_is (y : Value) (B n : Nat) (F : Nat → Int) (kd d nm td tn vv c r v : Int) (R : Prs) (w : World) (h : Row w B 2 n F y) (hn : n ≤ 1048576) (ha : ApAns n F kd d nm td tn vv c r v R) :
    Calls Tryz.prog 9 #[y, .agg #[.int .i64 kd, .int .i64 d, .int .i64 nm, .int .i64 td, .int .i64 tn, .int .i64 vv]] w (ResFs w c r v R) := by
  have H : Hid (Row w B 2 n F y) := h
  have HB0 : Hid (Bxf w kd d nm td tn vv ((w.alloc (opO kd d nm td tn vv)).alloc zeroFs) ∧ Below w.heap.size w ((w.alloc (opO kd d nm td tn vv)).alloc zeroFs)) := ⟨Bxf.new _ _ _ _ _ _ _, (below_alloc _ _).alloc (by simp) _⟩
  clear h
  rcases ha with ⟨h1, rfl, rfl, rfl, rfl⟩ | ⟨h1, h2, rfl, rfl, rfl, rfl⟩ | ⟨h1, h2, rfl, hp⟩
  · obtain ⟨f, hf⟩ : ∃ f, fsF n F = f := ⟨_, rfl⟩
    have HF : Hid (fsF n F = f ∧ True) := ⟨hf, trivial⟩
    have dd : (f != 0) = true := bne_iff_ne.2 (by rw [← hf]; exact h1)
    rw [hf]
    clear h1 hf
    go_enter Tryz.func9, Tryz.ntmps9
    go_wp2_with fail
    refine (implFs_is _ B n F _ (H.out.later HB0.out.2) hn).mono ?_
    rintro e w1 ⟨rfl, q1⟩
    rw [HF.out.1]
    have H1 : Hid (Bxf w kd d nm td tn vv w1 ∧ Below w.heap.size w w1) := ⟨HB0.out.1.later q1, HB0.out.2.trans (q1.mono HB0.out.2.size)⟩
    clear q1
    go_wp2_with (refine wpList_storeF rfl _ _ rfl (w.heap.size + 1) _ _ _ _ rfl rfl H1.out.1.2 (by kernel_rfl) ?_)
    refine bodyPost_ret (v := .agg #[.int .i64 f, .int .i64 0, .int .i64 0, .slice none 0 0]) (results_fs Tryz.results9 _ _ _ _ _ _ _ rfl H1.out.1.2) rfl (res_nil _ (below_row H1.out.2 (by omega) _))
  · obtain ⟨f, hf⟩ : ∃ f, opF kd d nm td tn vv = f := ⟨_, rfl⟩
    have HF : Hid (fsF n F = 0 ∧ opF kd d nm td tn vv = f ∧ True) := ⟨h1, hf, trivial⟩
    have dd : (f != 0) = true := bne_iff_ne.2 (by rw [← hf]; exact h2)
    rw [hf]
    clear h1 h2 hf
    go_enter Tryz.func9, Tryz.ntmps9
    go_wp2_with fail
    refine (implFs_is _ B n F _ (H.out.later HB0.out.2) hn).mono ?_
    rintro e w1 ⟨rfl, q1⟩
    rw [HF.out.1]
    have H1 : Hid (Bxf w kd d nm td tn vv w1 ∧ Below w.heap.size w w1) := ⟨HB0.out.1.later q1, HB0.out.2.trans (q1.mono HB0.out.2.size)⟩
    clear q1
    obtain ⟨⟨b0, b1, b2, b3, b4, b5⟩, _⟩ := H1.out.1.1
    go_wp2_with fail
    refine (implFsOp_any kd d nm td tn vv _).mono ?_
    rintro e w2 ⟨rfl, q2⟩
    rw [HF.out.2.1]
    have H2 : Hid (Bxf w kd d nm td tn vv w2 ∧ Below w.heap.size w w2) := ⟨H1.out.1.later q2, H1.out.2.trans (q2.mono H1.out.2.size)⟩
    clear q2 H1 b0 b1 b2 b3 b4 b5
    go_wp2_with (refine wpList_storeF rfl _ _ rfl (w.heap.size + 1) _ _ _ _ rfl rfl H2.out.1.2 (by kernel_rfl) ?_)
    refine bodyPost_ret (v := .agg #[.int .i64 f, .int .i64 0, .int .i64 0, .slice none 0 0]) (results_fs Tryz.results9 _ _ _ _ _ _ _ rfl H2.out.1.2) rfl (res_nil _ (below_row H2.out.2 (by omega) _))
  have HF : Hid (fsF n F = 0 ∧ opF kd d nm td tn vv = 0 ∧ True) := ⟨h1, h2, trivial⟩
  go_enter Tryz.func9, Tryz.ntmps9
  go_wp2_with fail
  refine (implFs_is _ B n F _ (H.out.later HB0.out.2) hn).mono ?_
  rintro e w1 ⟨rfl, q1⟩
  rw [HF.out.1]
  have H1 : Hid (Bxf w kd d nm td tn vv w1 ∧ Below w.heap.size w w1) := ⟨HB0.out.1.later q1, HB0.out.2.trans (q1.mono HB0.out.2.size)⟩
  clear q1
  obtain ⟨⟨b0, b1, b2, b3, b4, b5⟩, _⟩ := H1.out.1.1
  go_wp2_with fail
  refine (implFsOp_any kd d nm td tn vv _).mono ?_
  rintro e w2 ⟨rfl, q2⟩
  rw [HF.out.2.1]
  have H2 : Hid (Bxf w kd d nm td tn vv w2 ∧ Below w.heap.size w w2) := ⟨H1.out.1.later q2, H1.out.2.trans (q2.mono H1.out.2.size)⟩
  clear q2 H1 b0 b1 b2 b3 b4 b5
  have HG : Hid (pairsF F n 0 = 0 ∧ opF kd d nm td tn vv = 0 ∧ applyP (listOf F n) kd d nm td tn vv = (r, v, R)) := ⟨(fsF_zero h1).1, h2, hp⟩
  clear h1 h2 hp
  obtain ⟨⟨b0, b1, b2, b3, b4, b5⟩, _⟩ := H2.out.1.1
  go_wp2_with fail
  refine (applyOp_is y B n F kd d nm td tn vv _ (H.out.later H2.out.2) hn HG.out.1 HG.out.2.1 r v R HG.out.2.2).mono ?_
  rintro e w3 ⟨ao, cp, rfl, hrow, hfree, q3⟩
  clear b0 b1 b2 b3 b4 b5
  have H4 : Hid (FBk w3 (w.heap.size + 1) ∧ Below w.heap.size w w3 ∧ Row w3 w2.heap.size 2 R.length (rowL R) (.slice ao R.length cp) ∧ Free w3 (R.length * 2) (.slice ao R.length cp) ∧ w.heap.size + 1 < w2.heap.size) := ⟨H2.out.1.2.later q3, H2.out.2.trans (q3.mono H2.out.2.size), hrow, hfree, H2.out.1.2.lt⟩
  clear hrow hfree q3 H2
  go_wp2_with (refine wpList_storeF rfl _ _ rfl (w.heap.size + 1) _ _ _ _ rfl rfl H4.out.1 (by kernel_rfl) ?_)
  exact bodyPost_ret (v := .agg #[.int .i64 0, .int .i64 r, .int .i64 v, .slice ao R.length cp]) (results_fs Tryz.results9 _ _ _ _ _ _ _ rfl H4.out.1) rfl (res_end H4.out.2.2.1 H4.out.2.2.2.1 H4.out.2.1 (by omega) H4.out.2.2.2.2 _)
end Go.Proofs.YtokaoiiibakkoaaGreat

namespace Go.Proofs.YtokaoiiibakkoaaGreat
open Go.RowKit

set_option maxRecDepth 100000 in
set_option maxHeartbeats 2000000 in
theorem toFsOp_is (kd d n td tn v : Int) (w : World) :
    Calls Tryz.prog 8 #[.agg #[.int .i64 kd, .int .i64 d, .int .i64 n, .int .i64 td, .int .i64 tn, .int .i64 v]] w fun e w' => e = .returned (.agg #[.int .i64 kd, .int .i64 d, .int .i64 n, .int .i64 td, .int .i64 tn, .int .i64 v]) ∧ Below w.heap.size w w' := by
  go_enter Tryz.func8, Tryz.ntmps8
  go_wp2
  refine bodyPost_ret (v := .agg #[.int .i64 kd, .int .i64 d, .int .i64 n, .int .i64 td, .int .i64 tn, .int .i64 v]) (by simp [results, Tryz.results8, go_sem]) rfl ⟨rfl, ?_⟩
  repeat (first | exact Below.refl _ _ | refine Below.setCell ?_ (by first | omega | (simp <;> omega)) _ | refine Below.alloc ?_ (by first | omega | (simp <;> omega)) _)
end Go.Proofs.YtokaoiiibakkoaaGreat

namespace Go.Proofs.YtokaoiiibakkoaaGreat
open Go.RowKit

abbrev fsO (c r v : Int) (vw : Value) : Obj := .cells #[.int .i64 c, .int .i64 r, .int .i64 v, vw] 28
abbrev fsB (x : World) (b : Nat) (c r v : Int) (vw : Value) : Prop := BlkF x b (.int .i64 c) (.int .i64 r) (.int .i64 v) vw
/-- A view's list, nobody else's. -/
def VwAt (w : World) (B : Nat) (R : Prs) (u : Value) : Prop := Row w B 2 R.length (rowL R) u ∧ Free w (R.length * 2) u
theorem VwAt.keptG {w w' : World} {B : Nat} {R : Prs} {u : Value} (h : VwAt w B R u) (hs : w.heap.size ≤ w'.heap.size) (hb : ∀ k, 0 < R.length → u.ownBlock = some k → k < w.heap.size → w'.heap[k]? = w.heap[k]?) : VwAt w' B R u := by
  by_cases hn : R.length = 0
  · obtain ⟨ao, cp, rfl⟩ := h.1.form
    exact ⟨⟨_, _, rfl, fun q => by omega⟩, fun g o n c e p hp => by omega⟩
  · refine ⟨h.1.kept hs (fun k hk hq => hb k (by omega) hk hq), fun g o n c e p hp => ?_⟩
    have hg : u.ownBlock = some g := by rw [e]; rfl
    exact (World.frozen?_of_block (w := w) (a := ⟨g, o + p, none⟩) (hb g (by omega) hg (h.1.lt (by omega) g hg).2)).trans (h.2 g o n c e p hp)
theorem VwAt.later {w w' : World} {B : Nat} {R : Prs} {u : Value} (h : VwAt w B R u) (hb : Below w.heap.size w w') : VwAt w' B R u := h.keptG hb.size (fun k _ _ hk => hb.block k hk)
theorem VwAt.alloc {w : World} {B : Nat} {R : Prs} {u : Value} (h : VwAt w B R u) (o : Obj) : VwAt (w.alloc o) B R u := h.later (below_alloc _ _)
theorem VwAt.up {w : World} {B B' : Nat} {R : Prs} {u : Value} (h : VwAt w B R u) (hB : B' ≤ B) : VwAt w B' R u := ⟨h.1.mono hB, h.2⟩
theorem VwAt.keptP {w w' : World} {B : Nat} {R : Prs} {u : Value} (h : VwAt w B R u) (hs : w.heap.size ≤ w'.heap.size) (hb : ∀ k, B ≤ k → k < w.heap.size → w'.heap[k]? = w.heap[k]?) : VwAt w' B R u := h.keptG hs (fun k hl hk hq => hb k (h.1.lt hl k hk).1 hq)
theorem vw_kept {X : World} {B g : Nat} {R : Prs} {u : Value} {cs : Array Value} (h : VwAt X B R u) (h2 : ∀ k, 0 < R.length → u.ownBlock = some k → k ≠ g) : VwAt (X.setRow g cs) B R u := h.keptG (by rw [size_setRow]; exact Nat.le_refl _) (fun k hl hk _ => heap_setRow _ _ _ _ (h2 k hl hk))
/-- What a region that calls and keeps the plan leaves behind. -/
def Out (X0 : World) (c r v : Int) (R : Prs) (bx : Nat) (vw : Value) (X : World) : Prop := X0.heap.size ≤ bx ∧ Below X0.heap.size X0 X ∧ fsB X bx c r v vw ∧ VwAt X X0.heap.size R vw
/-- The first plan stands: its box, its lists, and all that was there ahead of it. -/
def E1 (X0 : World) (b6 : Nat) (c r v : Int) (R : Prs) (vw : Value) (X : World) : Prop := Below X0.heap.size X0 X ∧ fsB X b6 c r v vw ∧ VwAt X X0.heap.size R vw
theorem E1.later {X0 X X' : World} {b6 : Nat} {c r v : Int} {R : Prs} {vw : Value} (h : E1 X0 b6 c r v R vw X) (hb : Below X.heap.size X X') : E1 X0 b6 c r v R vw X' := ⟨h.1.trans (hb.mono h.1.size), h.2.1.later hb, h.2.2.later hb⟩
theorem E1.within {X0 X X' : World} {b6 B E : Nat} {c r v : Int} {R : Prs} {vw : Value} (h : E1 X0 b6 c r v R vw X) (hw : Within B E X X') (h0 : X0.heap.size ≤ B) (h6 : b6 < B) (h2 : ∀ k, 0 < R.length → vw.ownBlock = some k → k < B) : E1 X0 b6 c r v R vw X' :=
  ⟨hw.below h.1 h0, h.2.1.kept (hw.block _ h.2.1.lt (Or.inl h6)), h.2.2.keptG hw.size (fun k hl hk hs => hw.block k hs (Or.inl (h2 k hl hk)))⟩
theorem below_drew (X : World) : Below X.heap.size X X.drew := ⟨rfl, rfl, rfl, Nat.le_refl _, fun _ _ => rfl⟩
abbrev opL (kd d nm td tn vv : Int) : Obj := .cells #[.int .i64 kd, .int .i64 d, .int .i64 nm, .int .i64 td, .int .i64 tn, .int .i64 vv] 24
set_option maxRecDepth 100000 in
set_option maxHeartbeats 4000000 in
theorem applyFs_walk (v0 : Value) (n : Nat) (F : Nat → Int) (kd d nm td tn vv : Int) (w : World) (h : Row w 0 2 n F v0) (hn : n ≤ 9223372036854775807) :
    Calls Tryz.prog 3 #[v0, .agg #[.int .i64 kd, .int .i64 d, .int .i64 nm, .int .i64 td, .int .i64 tn, .int .i64 vv]] w fun e w' => e = .returned (.bool true) ∧ Below w.heap.size w w' := by
  obtain ⟨ao, cp, rfl⟩ := h.form
  have HB0 : Hid (Below w.heap.size w (w.alloc (opL kd d nm td tn vv))) := below_alloc _ _
  by_cases hs : (1048576 : Int) < n
  · go_enter Tryz.func3, Tryz.ntmps3
    go_wp2_with fail
    refine (szPairS_no _ _ _ _ _ hs (by omega) (by omega) hn).mono ?_
    rintro e w1 ⟨rfl, rfl⟩
    go_wp2
    go_ret
    exact ⟨rfl, HB0.out⟩
  have hb : n ≤ 1048576 := by omega
  have dz : decide ((1048576 : Int) - n < 0) = false := decide_eq_false (by omega)
  obtain ⟨c, r, v, R, hs1, hi1, hx0⟩ : ∃ c r v R, (∀ u X, Row X 0 2 n F u → Calls Tryz.prog 6 #[u, .agg #[.int .i64 kd, .int .i64 d, .int .i64 nm, .int .i64 td, .int .i64 tn, .int .i64 vv]] X (ResFs X c r v R)) ∧ (∀ u X, Row X 0 2 n F u → Calls Tryz.prog 9 #[u, .agg #[.int .i64 kd, .int .i64 d, .int .i64 nm, .int .i64 td, .int .i64 tn, .int .i64 vv]] X (ResFs X c r v R)) ∧ R.length ≤ 200 := by
    obtain ⟨c, r, v, R, ha, hl⟩ := ApAns.get n F kd d nm td tn vv
    exact ⟨c, r, v, R, fun u X hu => specApplyFs_is u 0 n F kd d nm td tn vv c r v R X hu hb ha, fun u X hu => implApplyFs_is u 0 n F kd d nm td tn vv c r v R X hu hb ha, hl⟩
  have hx : R.length ≤ 1048576 := by omega
  have HSP : Hid (∀ u X, Row X 0 2 n F u → Calls Tryz.prog 6 #[u, .agg #[.int .i64 kd, .int .i64 d, .int .i64 nm, .int .i64 td, .int .i64 tn, .int .i64 vv]] X (ResFs X c r v R)) := hs1
  have HIM : Hid (∀ u X, Row X 0 2 n F u → Calls Tryz.prog 9 #[u, .agg #[.int .i64 kd, .int .i64 d, .int .i64 nm, .int .i64 td, .int .i64 tn, .int .i64 vv]] X (ResFs X c r v R)) := hi1
  have hnn : decide ((1 : Int) + R.length * 2 < 0) = false := decide_eq_false (by omega)
  have H : Hid (Row (w.alloc (opL kd d nm td tn vv)) 0 2 n F (.slice ao n cp)) := h.alloc _
  have HOP : Hid (Blk6 (w.alloc (opL kd d nm td tn vv)) w.heap.size (.int .i64 kd) (.int .i64 d) (.int .i64 nm) (.int .i64 td) (.int .i64 tn) (.int .i64 vv)) := Blk6.new _ _ _ _ _ _ _ _
  have HSZ : Hid ((w.alloc (opL kd d nm td tn vv)).heap.size = w.heap.size + 1) := by unfold Hid; simp
  clear h hs hs1 hi1
  go_enter Tryz.func3, Tryz.ntmps3
  go_wp2_with fail
  refine (szPairS_ok _ _ _ _ _ (by omega) (by omega)).mono ?_
  rintro e w1 ⟨rfl, hw1⟩
  obtain rfl := hw1.symm
  go_upto_region 5 with fail
  generalize w.alloc (opL kd d nm td tn vv) = X0 at H HOP HB0 HSZ ⊢
  go_cut [6] (fun s wx => ∃ bx a3 a4, s = .pointer (some ⟨bx, 0, none⟩) ∧ Hid (Out X0 c r v R bx (.slice a3 R.length a4) wx))
  case first =>
    refine wp_region_held_drew (S := fun X => Below X0.heap.size X0 X) (by kernel_rfl) (below_drew X0) (fun hS => ?_)
    generalize X0.drew = z0 at hS ⊢
    refine tkH 0 ?_ hS (fun wx hx => ?_) ?_; rotate_left
    · obtain ⟨⟨hx0, hx1, hx2, hx3, hx4, hx5⟩, _⟩ := HOP.out.later hx; go_simp; try with_reducible rfl
    refine tkH 2 ?_ hS (fun wx hx => ?_) ?_; rotate_left
    · obtain ⟨⟨hx0, hx1, hx2, hx3, hx4, hx5⟩, _⟩ := HOP.out.later hx; go_simp; try with_reducible rfl
    refine wpAnyH_ready (rs := [1, 5]) (by kernel_rfl) (by simp) ?_
    refine AllReadyH.cons rfl (fun K hK => ?_) (AllReadyH.cons rfl (fun K hK => ?_) AllReadyH.nil)
    · go_simp
      go_wp2_with fail
      refine (toPairS_any _ 0 n F _ (H.out.later hS) hb).mono ?_
      rintro e z1 ⟨u1, rfl, r1, _, q⟩
      have HU : Hid (Row z1 0 2 n F u1) := r1.mono (Nat.zero_le _)
      have hS1 := hS.trans (q.mono hS.size)
      clear r1 q hS
      go_wp2_with fail
      refine hK.out _ _ hS1 (fun hS => ?_)
      clear hK K
      clear hS1
      refine wpAnyH_ready (rs := [3, 5]) (by kernel_rfl) (by simp) ?_
      refine AllReadyH.cons rfl (fun K hK => ?_) (AllReadyH.cons rfl (fun K hK => ?_) AllReadyH.nil)
      · go_simp
        go_wp2_with fail
        refine (toFsOp_is kd d nm td tn vv _).mono ?_
        rintro e z2 ⟨rfl, q⟩
        have HU1 : Hid (Row z2 0 2 n F u1) := HU.out.later q
        clear HU
        have HU := HU1
        clear HU1
        have hS1 := hS.trans (q.mono hS.size)
        clear q hS
        go_wp2_with fail
        refine hK.out _ _ hS1 (fun hS => ?_)
        clear hK K
        clear hS1
        refine wpAnyH_ready (rs := [4, 5]) (by kernel_rfl) (by simp) ?_
        refine AllReadyH.cons rfl (fun K hK => ?_) (AllReadyH.cons rfl (fun K hK => ?_) AllReadyH.nil)
        · go_simp
          go_wp2_with fail
          refine (HSP.out _ _ HU.out).mono ?_
          rintro e z3 ⟨a3, a4, rfl, hA1, hA2, q⟩
          have hA : VwAt _ _ R (.slice a3 R.length a4) := ⟨hA1, hA2⟩
          clear hA1 hA2
          have HR : Hid (VwAt z3 X0.heap.size R (.slice a3 R.length a4)) := VwAt.up hA hS.size
          have hS1 := hS.trans (q.mono hS.size)
          clear q hS HU hA
          go_wp2_with fail
          refine hK.out _ _ hS1 (fun hS => ?_)
          clear hK K
          clear hS1
          refine rdH 5 (fun K hK => ?_)
          go_simp
          have hS1 : Below X0.heap.size X0 (z3.alloc zeroFs) := hS.alloc hS.size _
          have HA : Hid (FBk (z3.alloc zeroFs) z3.heap.size ∧ X0.heap.size ≤ z3.heap.size) := ⟨FBk.new _ _ _ _ _, hS.size⟩
          have HL : Hid (VwAt (z3.alloc zeroFs) X0.heap.size R (.slice a3 R.length a4) ∧ ∀ k, 0 < R.length → (Value.slice a3 R.length a4).ownBlock = some k → k ≠ z3.heap.size) := ⟨HR.out.alloc _, fun k hl hk => by have := (HR.out.1.lt hl k hk).2; omega⟩
          clear HR
          refine hK.out _ _ hS1 (fun hS => ?_)
          clear hK K
          clear hS1
          refine rdH 6 (fun K hK => ?_)
          refine step_storeF rfl _ _ rfl (z3.heap.size) _ _ _ _ rfl rfl HA.out.1 (by kernel_rfl) ?_
          have hS1 : Below X0.heap.size X0 ((z3.alloc zeroFs).setRow (z3.heap.size) #[.int .i64 c, .int .i64 r, .int .i64 v, .slice a3 R.length a4]) := below_row hS HA.out.2 _
          have HX : Hid (Out X0 c r v R (z3.heap.size) (.slice a3 R.length a4) ((z3.alloc zeroFs).setRow (z3.heap.size) #[.int .i64 c, .int .i64 r, .int .i64 v, .slice a3 R.length a4])) := ⟨HA.out.2, hS1, HA.out.1.blk _ _ _ _, vw_kept HL.out.1 HL.out.2⟩
          clear hS
          refine hK.out _ _ hS1 (fun hS => ?_)
          clear hK K
          clear hS1 hS
          refine wpAnyH_done (by kernel_rfl) ?_ _
          go_simp
          go_wp2_with fail
          go_meet
          case rel => exact ⟨_, a3, a4, rfl, HX⟩
        · go_simp
          have hS1 : Below X0.heap.size X0 (z2.alloc zeroFs) := hS.alloc hS.size _
          have HA : Hid (FBk (z2.alloc zeroFs) z2.heap.size ∧ X0.heap.size ≤ z2.heap.size) := ⟨FBk.new _ _ _ _ _, hS.size⟩
          have HU1 : Hid (Row (z2.alloc zeroFs) 0 2 n F u1) := HU.out.alloc _
          clear HU
          have HU := HU1
          clear HU1
          clear hS
          refine hK.out _ _ hS1 (fun hS => ?_)
          clear hK K
          clear hS1
          refine rdH 4 (fun K hK => ?_)
          go_simp
          go_wp2_with fail
          refine (HSP.out _ _ HU.out).mono ?_
          rintro e z5 ⟨a3, a4, rfl, hA1, hA2, q⟩
          have hA : VwAt _ _ R (.slice a3 R.length a4) := ⟨hA1, hA2⟩
          clear hA1 hA2
          have HL : Hid (VwAt z5 X0.heap.size R (.slice a3 R.length a4) ∧ ∀ k, 0 < R.length → (Value.slice a3 R.length a4).ownBlock = some k → k ≠ z2.heap.size) := ⟨VwAt.up hA hS.size, fun k hl hk => by have := (hA.1.lt hl k hk).1; have := HA.out.1.lt; omega⟩
          have hS1 := hS.trans (q.mono hS.size)
          have HA1 : Hid (FBk z5 (z2.heap.size) ∧ X0.heap.size ≤ z2.heap.size) := ⟨HA.out.1.later q, HA.out.2⟩
          clear HA
          have HA := HA1
          clear HA1
          clear q hS HU hA
          go_wp2_with fail
          refine hK.out _ _ hS1 (fun hS => ?_)
          clear hK K
          clear hS1
          refine rdH 6 (fun K hK => ?_)
          refine step_storeF rfl _ _ rfl (z2.heap.size) _ _ _ _ rfl rfl HA.out.1 (by kernel_rfl) ?_
          have hS1 : Below X0.heap.size X0 (z5.setRow (z2.heap.size) #[.int .i64 c, .int .i64 r, .int .i64 v, .slice a3 R.length a4]) := below_row hS HA.out.2 _
          have HX : Hid (Out X0 c r v R (z2.heap.size) (.slice a3 R.length a4) (z5.setRow (z2.heap.size) #[.int .i64 c, .int .i64 r, .int .i64 v, .slice a3 R.length a4])) := ⟨HA.out.2, hS1, HA.out.1.blk _ _ _ _, vw_kept HL.out.1 HL.out.2⟩
          clear hS
          refine hK.out _ _ hS1 (fun hS => ?_)
          clear hK K
          clear hS1 hS
          refine wpAnyH_done (by kernel_rfl) ?_ _
          go_simp
          go_wp2_with fail
          go_meet
          case rel => exact ⟨_, a3, a4, rfl, HX⟩
      · go_simp
        have hS1 : Below X0.heap.size X0 (z1.alloc zeroFs) := hS.alloc hS.size _
        have HA : Hid (FBk (z1.alloc zeroFs) z1.heap.size ∧ X0.heap.size ≤ z1.heap.size) := ⟨FBk.new _ _ _ _ _, hS.size⟩
        have HU1 : Hid (Row (z1.alloc zeroFs) 0 2 n F u1) := HU.out.alloc _
        clear HU
        have HU := HU1
        clear HU1
        clear hS
        refine hK.out _ _ hS1 (fun hS => ?_)
        clear hK K
        clear hS1
        refine rdH 3 (fun K hK => ?_)
        go_simp
        go_wp2_with fail
        refine (toFsOp_is kd d nm td tn vv _).mono ?_
        rintro e z6 ⟨rfl, q⟩
        have HU1 : Hid (Row z6 0 2 n F u1) := HU.out.later q
        clear HU
        have HU := HU1
        clear HU1
        have hS1 := hS.trans (q.mono hS.size)
        have HA1 : Hid (FBk z6 (z1.heap.size) ∧ X0.heap.size ≤ z1.heap.size) := ⟨HA.out.1.later q, HA.out.2⟩
        clear HA
        have HA := HA1
        clear HA1
        clear q hS
        go_wp2_with fail
        refine hK.out _ _ hS1 (fun hS => ?_)
        clear hK K
        clear hS1
        refine rdH 4 (fun K hK => ?_)
        go_simp
        go_wp2_with fail
        refine (HSP.out _ _ HU.out).mono ?_
        rintro e z7 ⟨a3, a4, rfl, hA1, hA2, q⟩
        have hA : VwAt _ _ R (.slice a3 R.length a4) := ⟨hA1, hA2⟩
        clear hA1 hA2
        have HL : Hid (VwAt z7 X0.heap.size R (.slice a3 R.length a4) ∧ ∀ k, 0 < R.length → (Value.slice a3 R.length a4).ownBlock = some k → k ≠ z1.heap.size) := ⟨VwAt.up hA hS.size, fun k hl hk => by have := (hA.1.lt hl k hk).1; have := HA.out.1.lt; omega⟩
        have hS1 := hS.trans (q.mono hS.size)
        have HA1 : Hid (FBk z7 (z1.heap.size) ∧ X0.heap.size ≤ z1.heap.size) := ⟨HA.out.1.later q, HA.out.2⟩
        clear HA
        have HA := HA1
        clear HA1
        clear q hS HU hA
        go_wp2_with fail
        refine hK.out _ _ hS1 (fun hS => ?_)
        clear hK K
        clear hS1
        refine rdH 6 (fun K hK => ?_)
        refine step_storeF rfl _ _ rfl (z1.heap.size) _ _ _ _ rfl rfl HA.out.1 (by kernel_rfl) ?_
        have hS1 : Below X0.heap.size X0 (z7.setRow (z1.heap.size) #[.int .i64 c, .int .i64 r, .int .i64 v, .slice a3 R.length a4]) := below_row hS HA.out.2 _
        have HX : Hid (Out X0 c r v R (z1.heap.size) (.slice a3 R.length a4) (z7.setRow (z1.heap.size) #[.int .i64 c, .int .i64 r, .int .i64 v, .slice a3 R.length a4])) := ⟨HA.out.2, hS1, HA.out.1.blk _ _ _ _, vw_kept HL.out.1 HL.out.2⟩
        clear hS
        refine hK.out _ _ hS1 (fun hS => ?_)
        clear hK K
        clear hS1 hS
        refine wpAnyH_done (by kernel_rfl) ?_ _
        go_simp
        go_wp2_with fail
        go_meet
        case rel => exact ⟨_, a3, a4, rfl, HX⟩
    · go_simp
      have hS1 : Below X0.heap.size X0 (z0.alloc zeroFs) := hS.alloc hS.size _
      have HA : Hid (FBk (z0.alloc zeroFs) z0.heap.size ∧ X0.heap.size ≤ z0.heap.size) := ⟨FBk.new _ _ _ _ _, hS.size⟩
      clear hS
      refine hK.out _ _ hS1 (fun hS => ?_)
      clear hK K
      clear hS1
      refine rdH 1 (fun K hK => ?_)
      go_simp
      go_wp2_with fail
      refine (toPairS_any _ 0 n F _ (H.out.later hS) hb).mono ?_
      rintro e z8 ⟨u1, rfl, r1, _, q⟩
      have HU : Hid (Row z8 0 2 n F u1) := r1.mono (Nat.zero_le _)
      have hS1 := hS.trans (q.mono hS.size)
      have HA1 : Hid (FBk z8 (z0.heap.size) ∧ X0.heap.size ≤ z0.heap.size) := ⟨HA.out.1.later q, HA.out.2⟩
      clear HA
      have HA := HA1
      clear HA1
      clear r1 q hS
      go_wp2_with fail
      refine hK.out _ _ hS1 (fun hS => ?_)
      clear hK K
      clear hS1
      refine rdH 3 (fun K hK => ?_)
      go_simp
      go_wp2_with fail
      refine (toFsOp_is kd d nm td tn vv _).mono ?_
      rintro e z9 ⟨rfl, q⟩
      have HU1 : Hid (Row z9 0 2 n F u1) := HU.out.later q
      clear HU
      have HU := HU1
      clear HU1
      have hS1 := hS.trans (q.mono hS.size)
      have HA1 : Hid (FBk z9 (z0.heap.size) ∧ X0.heap.size ≤ z0.heap.size) := ⟨HA.out.1.later q, HA.out.2⟩
      clear HA
      have HA := HA1
      clear HA1
      clear q hS
      go_wp2_with fail
      refine hK.out _ _ hS1 (fun hS => ?_)
      clear hK K
      clear hS1
      refine rdH 4 (fun K hK => ?_)
      go_simp
      go_wp2_with fail
      refine (HSP.out _ _ HU.out).mono ?_
      rintro e z10 ⟨a3, a4, rfl, hA1, hA2, q⟩
      have hA : VwAt _ _ R (.slice a3 R.length a4) := ⟨hA1, hA2⟩
      clear hA1 hA2
      have HL : Hid (VwAt z10 X0.heap.size R (.slice a3 R.length a4) ∧ ∀ k, 0 < R.length → (Value.slice a3 R.length a4).ownBlock = some k → k ≠ z0.heap.size) := ⟨VwAt.up hA hS.size, fun k hl hk => by have := (hA.1.lt hl k hk).1; have := HA.out.1.lt; omega⟩
      have hS1 := hS.trans (q.mono hS.size)
      have HA1 : Hid (FBk z10 (z0.heap.size) ∧ X0.heap.size ≤ z0.heap.size) := ⟨HA.out.1.later q, HA.out.2⟩
      clear HA
      have HA := HA1
      clear HA1
      clear q hS HU hA
      go_wp2_with fail
      refine hK.out _ _ hS1 (fun hS => ?_)
      clear hK K
      clear hS1
      refine rdH 6 (fun K hK => ?_)
      refine step_storeF rfl _ _ rfl (z0.heap.size) _ _ _ _ rfl rfl HA.out.1 (by kernel_rfl) ?_
      have hS1 : Below X0.heap.size X0 (z10.setRow (z0.heap.size) #[.int .i64 c, .int .i64 r, .int .i64 v, .slice a3 R.length a4]) := below_row hS HA.out.2 _
      have HX : Hid (Out X0 c r v R (z0.heap.size) (.slice a3 R.length a4) (z10.setRow (z0.heap.size) #[.int .i64 c, .int .i64 r, .int .i64 v, .slice a3 R.length a4])) := ⟨HA.out.2, hS1, HA.out.1.blk _ _ _ _, vw_kept HL.out.1 HL.out.2⟩
      clear hS
      refine hK.out _ _ hS1 (fun hS => ?_)
      clear hK K
      clear hS1 hS
      refine wpAnyH_done (by kernel_rfl) ?_ _
      go_simp
      go_wp2_with fail
      go_meet
      case rel => exact ⟨_, a3, a4, rfl, HX⟩
  case rest =>
  obtain ⟨b6, s3, s4, rfl, HO⟩ := hcut
  have N6 : Hid (X0.heap.size ≤ b6 ∧ b6 < wc.heap.size ∧ True ∧ (∀ k, 0 < R.length → (Value.slice s3 R.length s4).ownBlock = some k → k < wc.heap.size) ∧ X0.heap.size ≤ wc.heap.size) := ⟨HO.out.1, HO.out.2.2.1.lt, trivial, fun k hl hk => (HO.out.2.2.2.1.lt hl k hk).2, HO.out.2.1.size⟩
  have E0 : Hid (E1 X0 b6 c r v R (.slice s3 R.length s4) wc) := HO.out.2
  clear HO
  go_wp2_with fail
  refine (toPairS_any _ 0 n F _ (H.out.later E0.out.1) hb).mono ?_
  rintro e w2 ⟨u2, rfl, r2, f2, q2⟩
  have R2 : Hid (Row w2 wc.heap.size 2 n F u2 ∧ Free w2 (n * 2) u2) := ⟨r2, f2⟩
  have L2 : Hid (0 < n → ∀ k, u2.ownBlock = some k → wc.heap.size ≤ k ∧ k < w2.heap.size) := fun h0 k hk => r2.lt h0 k hk
  have Ea : Hid (E1 X0 b6 c r v R (.slice s3 R.length s4) w2) := E0.out.later q2
  have Na : Hid (wc.heap.size ≤ w2.heap.size) := q2.size
  clear r2 f2 q2 E0
  obtain ⟨⟨o0, o1, o2, o3, o4, o5⟩, _⟩ := HOP.out.later Ea.out.1
  go_wp2_with fail
  refine (toFsOp_is kd d nm td tn vv _).mono ?_
  rintro e w3 ⟨rfl, q3⟩
  have Eb : Hid (E1 X0 b6 c r v R (.slice s3 R.length s4) w3) := Ea.out.later q3
  have Rb : Hid (Row w3 wc.heap.size 2 n F u2 ∧ Free w3 (n * 2) u2) := ⟨R2.out.1.later q3, R2.out.2.ofRow R2.out.1 q3⟩
  have Nb : Hid (w2.heap.size ≤ w3.heap.size) := q3.size
  clear q3 Ea R2 o0 o1 o2 o3 o4 o5
  go_wp2_with fail
  refine (HIM.out _ _ (Rb.out.1.mono (Nat.zero_le _))).mono ?_
  rintro e w4 ⟨t3, t4, rfl, hA1, hA2, q4⟩
  have hA : VwAt _ _ R (.slice t3 R.length t4) := ⟨hA1, hA2⟩
  clear hA1 hA2
  have q4' := q4.alloc q4.size (fsO c r v (.slice t3 R.length t4))
  have Nc : Hid (w3.heap.size ≤ w4.heap.size ∧ True ∧ (∀ k, 0 < R.length → (Value.slice t3 R.length t4).ownBlock = some k → w3.heap.size ≤ k ∧ k < w4.heap.size)) := ⟨q4.size, trivial, fun k hl hk => hA.1.lt hl k hk⟩
  have Ec : Hid (E1 X0 b6 c r v R (.slice s3 R.length s4) (w4.alloc (fsO c r v (.slice t3 R.length t4)))) := Eb.out.later q4'
  have Rc : Hid (Row (w4.alloc (fsO c r v (.slice t3 R.length t4))) wc.heap.size 2 n F u2 ∧ Free (w4.alloc (fsO c r v (.slice t3 R.length t4))) (n * 2) u2) := ⟨Rb.out.1.later q4', Rb.out.2.ofRow Rb.out.1 q4'⟩
  have Gc : Hid (fsB (w4.alloc (fsO c r v (.slice t3 R.length t4))) w4.heap.size c r v (.slice t3 R.length t4) ∧ VwAt (w4.alloc (fsO c r v (.slice t3 R.length t4))) w3.heap.size R (.slice t3 R.length t4)) := ⟨BlkF.new _ _ _ _ _ _, VwAt.alloc (w := w4) hA _⟩
  clear q4 q4' hA Eb Rb
  obtain ⟨⟨a0, a1, a2, a3⟩, _⟩ := Ec.out.2.1
  have hlt : b6 < w4.heap.size := by have := N6.out.2.1; have := Na.out; have := Nb.out; have := Nc.out.1; omega
  go_wp2_with fail
  refine (eqFsResult_same c r v R.length _ _ _ _ w3.heap.size X0.heap.size (rowL R) _ (Gc.out.2).1 (Ec.out.2.2).1 hx).mono ?_
  rintro e w5 ⟨rfl, q5⟩
  have Ed : Hid (E1 X0 b6 c r v R (.slice s3 R.length s4) w5) := Ec.out.later q5
  have Rd : Hid (Row w5 wc.heap.size 2 n F u2 ∧ Free w5 (n * 2) u2) := ⟨Rc.out.1.later q5, Rc.out.2.ofRow Rc.out.1 q5⟩
  have Gd : Hid (fsB w5 w4.heap.size c r v (.slice t3 R.length t4) ∧ VwAt w5 w3.heap.size R (.slice t3 R.length t4)) := ⟨Gc.out.1.later q5, Gc.out.2.later q5⟩
  clear q5 Ec Rc Gc a0 a1 a2 a3 hlt
  go_wp2_with fail
  refine (toPairS_any _ 0 n F _ (H.out.later Ed.out.1) hb).mono ?_
  rintro e w6 ⟨u6, rfl, r6, _, q6⟩
  have Ee : Hid (E1 X0 b6 c r v R (.slice s3 R.length s4) w6) := Ed.out.later q6
  have Re : Hid ((Row w6 wc.heap.size 2 n F u2 ∧ Free w6 (n * 2) u2) ∧ Row w6 0 2 n F u6) := ⟨⟨Rd.out.1.later q6, Rd.out.2.ofRow Rd.out.1 q6⟩, r6.mono (Nat.zero_le _)⟩
  have Ge : Hid (fsB w6 w4.heap.size c r v (.slice t3 R.length t4) ∧ VwAt w6 w3.heap.size R (.slice t3 R.length t4)) := ⟨Gd.out.1.later q6, Gd.out.2.later q6⟩
  clear q6 r6 Ed Rd Gd
  go_wp2_with fail
  refine (eqPairS_same _ _ _ 0 n F _ Re.out.1.1 Re.out.2 hb).mono ?_
  rintro e w7 ⟨rfl, q7⟩
  have Ef : Hid (E1 X0 b6 c r v R (.slice s3 R.length s4) w7) := Ee.out.later q7
  have Rf : Hid (Row w7 wc.heap.size 2 n F u2 ∧ Free w7 (n * 2) u2) := ⟨Re.out.1.1.later q7, Re.out.1.2.ofRow Re.out.1.1 q7⟩
  have Gf : Hid (fsB w7 w4.heap.size c r v (.slice t3 R.length t4) ∧ VwAt w7 w3.heap.size R (.slice t3 R.length t4)) := ⟨Ge.out.1.later q7, Ge.out.2.later q7⟩
  clear q7 Ee Re Ge
  have hkk : decide ((1 : Int) + n * 2 < 0) = false := decide_eq_false (by omega)
  go_wp2_with fail
  refine (markPairS_turn _ _ n F 1 _ Rf.out.1 Rf.out.2 hb (by omega) (by omega)).mono ?_
  rintro e w8 ⟨rfl, _, _, g8⟩
  have W8 : Within wc.heap.size w2.heap.size w7 w8 := Within.of g8 (turn_off L2.out)
  have Eg : Hid (E1 X0 b6 c r v R (.slice s3 R.length s4) w8) := Ef.out.within W8 N6.out.2.2.2.2 N6.out.2.1 N6.out.2.2.2.1
  have Gg : Hid (fsB w8 w4.heap.size c r v (.slice t3 R.length t4) ∧ VwAt w8 w3.heap.size R (.slice t3 R.length t4)) := ⟨Gf.out.1.kept (W8.block _ Gf.out.1.lt (Or.inr (by have := Nb.out; have := Nc.out.1; omega))), Gf.out.2.keptP W8.size (fun k hk hq => W8.block k hq (Or.inr (by have := Nb.out; omega)))⟩
  clear W8 g8 Ef Rf Gf
  obtain ⟨⟨a0, a1, a2, a3⟩, _⟩ := Eg.out.2.1
  obtain ⟨⟨g0, g1, g2, g3⟩, _⟩ := Gg.out.1
  go_wp2_with fail
  refine (eqFsResult_same c r v R.length _ _ _ _ w3.heap.size X0.heap.size (rowL R) _ (Gg.out.2).1 (Eg.out.2.2).1 hx).mono ?_
  rintro e w9 ⟨rfl, q9⟩
  have Eh : Hid (E1 X0 b6 c r v R (.slice s3 R.length s4) w9) := Eg.out.later q9
  have Gh : Hid (fsB w9 w4.heap.size c r v (.slice t3 R.length t4) ∧ VwAt w9 w3.heap.size R (.slice t3 R.length t4)) := ⟨Gg.out.1.later q9, Gg.out.2.later q9⟩
  clear q9 Eg Gg a0 a1 a2 a3 g0 g1 g2 g3
  obtain ⟨⟨g0, g1, g2, g3⟩, _⟩ := Gh.out.1
  go_wp2_with fail
  refine (markFsResult_any c r v R.length _ _ w3.heap.size (rowL R) _ Gh.out.2.1 Gh.out.2.2 hx).mono ?_
  rintro e w10 ⟨rfl, hn10, g10⟩
  have W10 : Within w3.heap.size w4.heap.size w9 w10 := Within.of g10 (turn_off (fun hl k hk => Nc.out.2.2 k hl hk))
  have Ei : Hid (E1 X0 b6 c r v R (.slice s3 R.length s4) w10) := Eh.out.within W10 (by have := N6.out.2.2.2.2; have := Na.out; have := Nb.out; omega) (by have := N6.out.2.1; have := Na.out; have := Nb.out; omega) (fun k hl hk => by have := N6.out.2.2.2.1 k hl hk; have := Na.out; have := Nb.out; omega)
  have Gi : Hid (fsB w10 w4.heap.size c r v (.slice t3 R.length t4) ∧ Row w10 w3.heap.size 2 R.length (fun p => 1 + (p : Nat)) (.slice t3 R.length t4)) := ⟨Gh.out.1.kept (W10.block _ Gh.out.1.lt (Or.inr (Nat.le_refl _))), hn10⟩
  clear hn10 g10 W10 Eh Gh g0 g1 g2 g3
  obtain ⟨⟨g0, g1, g2, g3⟩, _⟩ := Gi.out.1
  go_wp2_with fail
  refine (heldFsResult_any c r v R.length _ _ w3.heap.size _ Gi.out.2 hx).mono ?_
  rintro e w11 ⟨rfl, q11⟩
  have Ej : Hid (E1 X0 b6 c r v R (.slice s3 R.length s4) w11) := Ei.out.later q11
  have Gj : Hid (fsB w11 w4.heap.size c r v (.slice t3 R.length t4) ∧ Row w11 w3.heap.size 2 R.length (fun p => 1 + (p : Nat)) (.slice t3 R.length t4)) := ⟨Gi.out.1.later q11, Gi.out.2.later q11⟩
  clear q11 Ei Gi g0 g1 g2 g3
  go_upto_region 24 with fail
  have H' : Hid (Row w11 0 2 n F (.slice ao n cp)) := H.out.later Ej.out.1
  have HOP' : Hid (Blk6 w11 w.heap.size (.int .i64 kd) (.int .i64 d) (.int .i64 nm) (.int .i64 td) (.int .i64 tn) (.int .i64 vv)) := HOP.out.later Ej.out.1
  have HZ' : Hid (Below w.heap.size w X0) := HB0
  clear H HOP
  have H := H'
  have HOP := HOP'
  clear H' HOP'
  go_cut [12] (fun s wx => ∃ bx a3 a4, s = .pointer (some ⟨bx, 0, none⟩) ∧ Hid (Out w11 c r v R bx (.slice a3 R.length a4) wx))
  case first =>
    refine wp_region_held_drew (S := fun X => Below w11.heap.size w11 X) (by kernel_rfl) (below_drew w11) (fun hS => ?_)
    generalize w11.drew = z0 at hS ⊢
    refine tkH 0 ?_ hS (fun wx hx => ?_) ?_; rotate_left
    · obtain ⟨⟨hx0, hx1, hx2, hx3, hx4, hx5⟩, _⟩ := HOP.out.later hx; go_simp; try with_reducible rfl
    refine tkH 2 ?_ hS (fun wx hx => ?_) ?_; rotate_left
    · obtain ⟨⟨hx0, hx1, hx2, hx3, hx4, hx5⟩, _⟩ := HOP.out.later hx; go_simp; try with_reducible rfl
    refine wpAnyH_ready (rs := [1, 5]) (by kernel_rfl) (by simp) ?_
    refine AllReadyH.cons rfl (fun K hK => ?_) (AllReadyH.cons rfl (fun K hK => ?_) AllReadyH.nil)
    · go_simp
      go_wp2_with fail
      refine (toPairS_any _ 0 n F _ (H.out.later hS) hb).mono ?_
      rintro e z11 ⟨u1, rfl, r1, _, q⟩
      have HU : Hid (Row z11 0 2 n F u1) := r1.mono (Nat.zero_le _)
      have hS1 := hS.trans (q.mono hS.size)
      clear r1 q hS
      go_wp2_with fail
      refine hK.out _ _ hS1 (fun hS => ?_)
      clear hK K
      clear hS1
      refine wpAnyH_ready (rs := [3, 5]) (by kernel_rfl) (by simp) ?_
      refine AllReadyH.cons rfl (fun K hK => ?_) (AllReadyH.cons rfl (fun K hK => ?_) AllReadyH.nil)
      · go_simp
        go_wp2_with fail
        refine (toFsOp_is kd d nm td tn vv _).mono ?_
        rintro e z12 ⟨rfl, q⟩
        have HU1 : Hid (Row z12 0 2 n F u1) := HU.out.later q
        clear HU
        have HU := HU1
        clear HU1
        have hS1 := hS.trans (q.mono hS.size)
        clear q hS
        go_wp2_with fail
        refine hK.out _ _ hS1 (fun hS => ?_)
        clear hK K
        clear hS1
        refine wpAnyH_ready (rs := [4, 5]) (by kernel_rfl) (by simp) ?_
        refine AllReadyH.cons rfl (fun K hK => ?_) (AllReadyH.cons rfl (fun K hK => ?_) AllReadyH.nil)
        · go_simp
          go_wp2_with fail
          refine (HIM.out _ _ HU.out).mono ?_
          rintro e z13 ⟨a3, a4, rfl, hA1, hA2, q⟩
          have hA : VwAt _ _ R (.slice a3 R.length a4) := ⟨hA1, hA2⟩
          clear hA1 hA2
          have HR : Hid (VwAt z13 w11.heap.size R (.slice a3 R.length a4)) := VwAt.up hA hS.size
          have hS1 := hS.trans (q.mono hS.size)
          clear q hS HU hA
          go_wp2_with fail
          refine hK.out _ _ hS1 (fun hS => ?_)
          clear hK K
          clear hS1
          refine rdH 5 (fun K hK => ?_)
          go_simp
          have hS1 : Below w11.heap.size w11 (z13.alloc zeroFs) := hS.alloc hS.size _
          have HA : Hid (FBk (z13.alloc zeroFs) z13.heap.size ∧ w11.heap.size ≤ z13.heap.size) := ⟨FBk.new _ _ _ _ _, hS.size⟩
          have HL : Hid (VwAt (z13.alloc zeroFs) w11.heap.size R (.slice a3 R.length a4) ∧ ∀ k, 0 < R.length → (Value.slice a3 R.length a4).ownBlock = some k → k ≠ z13.heap.size) := ⟨HR.out.alloc _, fun k hl hk => by have := (HR.out.1.lt hl k hk).2; omega⟩
          clear HR
          refine hK.out _ _ hS1 (fun hS => ?_)
          clear hK K
          clear hS1
          refine rdH 6 (fun K hK => ?_)
          refine step_storeF rfl _ _ rfl (z13.heap.size) _ _ _ _ rfl rfl HA.out.1 (by kernel_rfl) ?_
          have hS1 : Below w11.heap.size w11 ((z13.alloc zeroFs).setRow (z13.heap.size) #[.int .i64 c, .int .i64 r, .int .i64 v, .slice a3 R.length a4]) := below_row hS HA.out.2 _
          have HX : Hid (Out w11 c r v R (z13.heap.size) (.slice a3 R.length a4) ((z13.alloc zeroFs).setRow (z13.heap.size) #[.int .i64 c, .int .i64 r, .int .i64 v, .slice a3 R.length a4])) := ⟨HA.out.2, hS1, HA.out.1.blk _ _ _ _, vw_kept HL.out.1 HL.out.2⟩
          clear hS
          refine hK.out _ _ hS1 (fun hS => ?_)
          clear hK K
          clear hS1 hS
          refine wpAnyH_done (by kernel_rfl) ?_ _
          go_simp
          go_wp2_with fail
          go_meet
          case rel => exact ⟨_, a3, a4, rfl, HX⟩
        · go_simp
          have hS1 : Below w11.heap.size w11 (z12.alloc zeroFs) := hS.alloc hS.size _
          have HA : Hid (FBk (z12.alloc zeroFs) z12.heap.size ∧ w11.heap.size ≤ z12.heap.size) := ⟨FBk.new _ _ _ _ _, hS.size⟩
          have HU1 : Hid (Row (z12.alloc zeroFs) 0 2 n F u1) := HU.out.alloc _
          clear HU
          have HU := HU1
          clear HU1
          clear hS
          refine hK.out _ _ hS1 (fun hS => ?_)
          clear hK K
          clear hS1
          refine rdH 4 (fun K hK => ?_)
          go_simp
          go_wp2_with fail
          refine (HIM.out _ _ HU.out).mono ?_
          rintro e z15 ⟨a3, a4, rfl, hA1, hA2, q⟩
          have hA : VwAt _ _ R (.slice a3 R.length a4) := ⟨hA1, hA2⟩
          clear hA1 hA2
          have HL : Hid (VwAt z15 w11.heap.size R (.slice a3 R.length a4) ∧ ∀ k, 0 < R.length → (Value.slice a3 R.length a4).ownBlock = some k → k ≠ z12.heap.size) := ⟨VwAt.up hA hS.size, fun k hl hk => by have := (hA.1.lt hl k hk).1; have := HA.out.1.lt; omega⟩
          have hS1 := hS.trans (q.mono hS.size)
          have HA1 : Hid (FBk z15 (z12.heap.size) ∧ w11.heap.size ≤ z12.heap.size) := ⟨HA.out.1.later q, HA.out.2⟩
          clear HA
          have HA := HA1
          clear HA1
          clear q hS HU hA
          go_wp2_with fail
          refine hK.out _ _ hS1 (fun hS => ?_)
          clear hK K
          clear hS1
          refine rdH 6 (fun K hK => ?_)
          refine step_storeF rfl _ _ rfl (z12.heap.size) _ _ _ _ rfl rfl HA.out.1 (by kernel_rfl) ?_
          have hS1 : Below w11.heap.size w11 (z15.setRow (z12.heap.size) #[.int .i64 c, .int .i64 r, .int .i64 v, .slice a3 R.length a4]) := below_row hS HA.out.2 _
          have HX : Hid (Out w11 c r v R (z12.heap.size) (.slice a3 R.length a4) (z15.setRow (z12.heap.size) #[.int .i64 c, .int .i64 r, .int .i64 v, .slice a3 R.length a4])) := ⟨HA.out.2, hS1, HA.out.1.blk _ _ _ _, vw_kept HL.out.1 HL.out.2⟩
          clear hS
          refine hK.out _ _ hS1 (fun hS => ?_)
          clear hK K
          clear hS1 hS
          refine wpAnyH_done (by kernel_rfl) ?_ _
          go_simp
          go_wp2_with fail
          go_meet
          case rel => exact ⟨_, a3, a4, rfl, HX⟩
      · go_simp
        have hS1 : Below w11.heap.size w11 (z11.alloc zeroFs) := hS.alloc hS.size _
        have HA : Hid (FBk (z11.alloc zeroFs) z11.heap.size ∧ w11.heap.size ≤ z11.heap.size) := ⟨FBk.new _ _ _ _ _, hS.size⟩
        have HU1 : Hid (Row (z11.alloc zeroFs) 0 2 n F u1) := HU.out.alloc _
        clear HU
        have HU := HU1
        clear HU1
        clear hS
        refine hK.out _ _ hS1 (fun hS => ?_)
        clear hK K
        clear hS1
        refine rdH 3 (fun K hK => ?_)
        go_simp
        go_wp2_with fail
        refine (toFsOp_is kd d nm td tn vv _).mono ?_
        rintro e z16 ⟨rfl, q⟩
        have HU1 : Hid (Row z16 0 2 n F u1) := HU.out.later q
        clear HU
        have HU := HU1
        clear HU1
        have hS1 := hS.trans (q.mono hS.size)
        have HA1 : Hid (FBk z16 (z11.heap.size) ∧ w11.heap.size ≤ z11.heap.size) := ⟨HA.out.1.later q, HA.out.2⟩
        clear HA
        have HA := HA1
        clear HA1
        clear q hS
        go_wp2_with fail
        refine hK.out _ _ hS1 (fun hS => ?_)
        clear hK K
        clear hS1
        refine rdH 4 (fun K hK => ?_)
        go_simp
        go_wp2_with fail
        refine (HIM.out _ _ HU.out).mono ?_
        rintro e z17 ⟨a3, a4, rfl, hA1, hA2, q⟩
        have hA : VwAt _ _ R (.slice a3 R.length a4) := ⟨hA1, hA2⟩
        clear hA1 hA2
        have HL : Hid (VwAt z17 w11.heap.size R (.slice a3 R.length a4) ∧ ∀ k, 0 < R.length → (Value.slice a3 R.length a4).ownBlock = some k → k ≠ z11.heap.size) := ⟨VwAt.up hA hS.size, fun k hl hk => by have := (hA.1.lt hl k hk).1; have := HA.out.1.lt; omega⟩
        have hS1 := hS.trans (q.mono hS.size)
        have HA1 : Hid (FBk z17 (z11.heap.size) ∧ w11.heap.size ≤ z11.heap.size) := ⟨HA.out.1.later q, HA.out.2⟩
        clear HA
        have HA := HA1
        clear HA1
        clear q hS HU hA
        go_wp2_with fail
        refine hK.out _ _ hS1 (fun hS => ?_)
        clear hK K
        clear hS1
        refine rdH 6 (fun K hK => ?_)
        refine step_storeF rfl _ _ rfl (z11.heap.size) _ _ _ _ rfl rfl HA.out.1 (by kernel_rfl) ?_
        have hS1 : Below w11.heap.size w11 (z17.setRow (z11.heap.size) #[.int .i64 c, .int .i64 r, .int .i64 v, .slice a3 R.length a4]) := below_row hS HA.out.2 _
        have HX : Hid (Out w11 c r v R (z11.heap.size) (.slice a3 R.length a4) (z17.setRow (z11.heap.size) #[.int .i64 c, .int .i64 r, .int .i64 v, .slice a3 R.length a4])) := ⟨HA.out.2, hS1, HA.out.1.blk _ _ _ _, vw_kept HL.out.1 HL.out.2⟩
        clear hS
        refine hK.out _ _ hS1 (fun hS => ?_)
        clear hK K
        clear hS1 hS
        refine wpAnyH_done (by kernel_rfl) ?_ _
        go_simp
        go_wp2_with fail
        go_meet
        case rel => exact ⟨_, a3, a4, rfl, HX⟩
    · go_simp
      have hS1 : Below w11.heap.size w11 (z0.alloc zeroFs) := hS.alloc hS.size _
      have HA : Hid (FBk (z0.alloc zeroFs) z0.heap.size ∧ w11.heap.size ≤ z0.heap.size) := ⟨FBk.new _ _ _ _ _, hS.size⟩
      clear hS
      refine hK.out _ _ hS1 (fun hS => ?_)
      clear hK K
      clear hS1
      refine rdH 1 (fun K hK => ?_)
      go_simp
      go_wp2_with fail
      refine (toPairS_any _ 0 n F _ (H.out.later hS) hb).mono ?_
      rintro e z18 ⟨u1, rfl, r1, _, q⟩
      have HU : Hid (Row z18 0 2 n F u1) := r1.mono (Nat.zero_le _)
      have hS1 := hS.trans (q.mono hS.size)
      have HA1 : Hid (FBk z18 (z0.heap.size) ∧ w11.heap.size ≤ z0.heap.size) := ⟨HA.out.1.later q, HA.out.2⟩
      clear HA
      have HA := HA1
      clear HA1
      clear r1 q hS
      go_wp2_with fail
      refine hK.out _ _ hS1 (fun hS => ?_)
      clear hK K
      clear hS1
      refine rdH 3 (fun K hK => ?_)
      go_simp
      go_wp2_with fail
      refine (toFsOp_is kd d nm td tn vv _).mono ?_
      rintro e z19 ⟨rfl, q⟩
      have HU1 : Hid (Row z19 0 2 n F u1) := HU.out.later q
      clear HU
      have HU := HU1
      clear HU1
      have hS1 := hS.trans (q.mono hS.size)
      have HA1 : Hid (FBk z19 (z0.heap.size) ∧ w11.heap.size ≤ z0.heap.size) := ⟨HA.out.1.later q, HA.out.2⟩
      clear HA
      have HA := HA1
      clear HA1
      clear q hS
      go_wp2_with fail
      refine hK.out _ _ hS1 (fun hS => ?_)
      clear hK K
      clear hS1
      refine rdH 4 (fun K hK => ?_)
      go_simp
      go_wp2_with fail
      refine (HIM.out _ _ HU.out).mono ?_
      rintro e z20 ⟨a3, a4, rfl, hA1, hA2, q⟩
      have hA : VwAt _ _ R (.slice a3 R.length a4) := ⟨hA1, hA2⟩
      clear hA1 hA2
      have HL : Hid (VwAt z20 w11.heap.size R (.slice a3 R.length a4) ∧ ∀ k, 0 < R.length → (Value.slice a3 R.length a4).ownBlock = some k → k ≠ z0.heap.size) := ⟨VwAt.up hA hS.size, fun k hl hk => by have := (hA.1.lt hl k hk).1; have := HA.out.1.lt; omega⟩
      have hS1 := hS.trans (q.mono hS.size)
      have HA1 : Hid (FBk z20 (z0.heap.size) ∧ w11.heap.size ≤ z0.heap.size) := ⟨HA.out.1.later q, HA.out.2⟩
      clear HA
      have HA := HA1
      clear HA1
      clear q hS HU hA
      go_wp2_with fail
      refine hK.out _ _ hS1 (fun hS => ?_)
      clear hK K
      clear hS1
      refine rdH 6 (fun K hK => ?_)
      refine step_storeF rfl _ _ rfl (z0.heap.size) _ _ _ _ rfl rfl HA.out.1 (by kernel_rfl) ?_
      have hS1 : Below w11.heap.size w11 (z20.setRow (z0.heap.size) #[.int .i64 c, .int .i64 r, .int .i64 v, .slice a3 R.length a4]) := below_row hS HA.out.2 _
      have HX : Hid (Out w11 c r v R (z0.heap.size) (.slice a3 R.length a4) (z20.setRow (z0.heap.size) #[.int .i64 c, .int .i64 r, .int .i64 v, .slice a3 R.length a4])) := ⟨HA.out.2, hS1, HA.out.1.blk _ _ _ _, vw_kept HL.out.1 HL.out.2⟩
      clear hS
      refine hK.out _ _ hS1 (fun hS => ?_)
      clear hK K
      clear hS1 hS
      refine wpAnyH_done (by kernel_rfl) ?_ _
      go_simp
      go_wp2_with fail
      go_meet
      case rel => exact ⟨_, a3, a4, rfl, HX⟩
  case rest =>
  obtain ⟨b12, x3, x4, rfl, HO⟩ := hcut
  have Ek : Hid (E1 X0 b6 c r v R (.slice s3 R.length s4) wc) := Ej.out.later HO.out.2.1
  have Gk : Hid (fsB wc w4.heap.size c r v (.slice t3 R.length t4) ∧ Row wc w3.heap.size 2 R.length (fun p => 1 + (p : Nat)) (.slice t3 R.length t4)) := ⟨Gj.out.1.later HO.out.2.1, Gj.out.2.later HO.out.2.1⟩
  obtain ⟨⟨y0, y1, y2, y3⟩, _⟩ := HO.out.2.2.1
  obtain ⟨⟨a0, a1, a2, a3⟩, _⟩ := Ek.out.2.1
  go_wp2_with fail
  refine (eqFsResult_same c r v R.length _ _ _ _ w11.heap.size X0.heap.size (rowL R) _ (HO.out.2.2.2).1 (Ek.out.2.2).1 hx).mono ?_
  rintro e w12 ⟨rfl, q12⟩
  have El : Hid (Below X0.heap.size X0 w12) := Ek.out.1.trans (q12.mono Ek.out.1.size)
  have Gl : Hid (fsB w12 w4.heap.size c r v (.slice t3 R.length t4) ∧ Row w12 w3.heap.size 2 R.length (fun p => 1 + (p : Nat)) (.slice t3 R.length t4)) := ⟨Gk.out.1.later q12, Gk.out.2.later q12⟩
  clear q12 Ek Gk HO Ej Gj y0 y1 y2 y3 a0 a1 a2 a3
  obtain ⟨⟨g0, g1, g2, g3⟩, _⟩ := Gl.out.1
  go_wp2_with fail
  refine (heldFsResult_any c r v R.length _ _ w3.heap.size _ Gl.out.2 hx).mono ?_
  rintro e w13 ⟨rfl, q13⟩
  have HE : Hid (Below w.heap.size w w13) := HB0.out.trans ((El.out.trans (q13.mono El.out.size)).mono (by rw [HSZ.out]; omega))
  clear q13 El Gl g0 g1 g2 g3
  go_wp2
  go_ret
  exact ⟨rfl, HE.out⟩
end Go.Proofs.YtokaoiiibakkoaaGreat

