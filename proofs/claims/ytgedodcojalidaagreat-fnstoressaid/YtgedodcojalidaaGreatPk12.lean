/-
  Own text, merged of ColsT, StoK, StoL, StoW.
-/
import Derived.Test.YtgedodcojalidaaGreatPk11
namespace Go.Proofs.YtgedodcojalidaaGreat
open Go.RowKit
set_option linter.unusedVariables false

def SameS (S T : Sto) : Prop := Alike 3 S.nc S.c T.nc T.c ∧ Alike 5 S.nl S.l T.nl T.l ∧ Alike 4 S.nw S.k T.nw T.k
theorem below_drewN {B : Nat} {a w : World} (h : Below B a w) (q : Nat) : Below B a (w.drewN q) := ⟨h.os, h.tape, h.output, h.size, h.block⟩

set_option maxHeartbeats 1000000 in
theorem implSame_any (S T : Sto) (v0 v1 v2 u0 u1 u2 : Value) (B B' : Nat) (r : Bool) (w : World) (h : St w B S v0 v1 v2) (h' : St w B' T u0 u1 u2) (hc : S.nc ≤ 1048576) (hl : S.nl ≤ 1048576) (hk : S.nw ≤ 1048576) (hc' : T.nc ≤ 1048576) (hl' : T.nl ≤ 1048576) (hk' : T.nw ≤ 1048576) (hr : r = true ↔ SameS S T) :
    Calls Tryz.prog 10 #[.agg #[v0, v1, v2], .agg #[u0, u1, u2]] w fun e w' => e = .returned (.bool r) ∧ Below w.heap.size w w' := by
  obtain ⟨a0, c0, a1, c1, a2, c2, rfl, rfl, rfl⟩ := h.form
  obtain ⟨b0, d0, b1, d1, b2, d2, rfl, rfl, rfl⟩ := h'.form
  have H : Hid (St w B S (.slice a0 S.nc c0) (.slice a1 S.nl c1) (.slice a2 S.nw c2)) := h
  have H' : Hid (St w B' T (.slice b0 T.nc d0) (.slice b1 T.nl d1) (.slice b2 T.nw d2)) := h'
  have HR : Hid (r = true ↔ SameS S T) := hr
  clear h h' hr
  by_cases h0 : Alike 3 S.nc S.c T.nc T.c
  case neg =>
    have E : Hid (r = false) := by
      cases r with
      | false => rfl
      | true => exact absurd (HR.out.1 rfl).1 h0
    have H0 : Hid (¬ Alike 3 S.nc S.c T.nc T.c) := h0
    clear h0
    go_enter Tryz.func10, Tryz.ntmps10
    go_wp2_with fail
    refine (equalCell_any _ _ B B' _ _ _ _ false _ ((H.out.1.alloc _).alloc _) ((H'.out.1.alloc _).alloc _) hc hc' ⟨fun h => absurd h (by decide), fun h => absurd h H0.out⟩).mono ?_
    rintro e w1 ⟨rfl, q, rfl⟩
    go_wp2
    go_ret
    exact ⟨by rw [E.out]; rfl, below_drewN ((below_alloc _ _).alloc (by simp) _) q⟩
  have H0 : Hid (Alike 3 S.nc S.c T.nc T.c) := h0
  clear h0
  by_cases h1 : Alike 5 S.nl S.l T.nl T.l
  case neg =>
    have E : Hid (r = false) := by
      cases r with
      | false => rfl
      | true => exact absurd (HR.out.1 rfl).2.1 h1
    have H1 : Hid (¬ Alike 5 S.nl S.l T.nl T.l) := h1
    clear h1
    go_enter Tryz.func10, Tryz.ntmps10
    go_wp2_with fail
    refine (equalCell_any _ _ B B' _ _ _ _ true _ ((H.out.1.alloc _).alloc _) ((H'.out.1.alloc _).alloc _) hc hc' ⟨fun _ => H0.out, fun _ => rfl⟩).mono ?_
    rintro e w1 ⟨rfl, q, rfl⟩
    go_wp2_with fail
    refine (equalLock_any _ _ B B' _ _ _ _ false _ (((H.out.2.1.alloc _).alloc _).drewN q) (((H'.out.2.1.alloc _).alloc _).drewN q) hl hl' ⟨fun h => absurd h (by decide), fun h => absurd h H1.out⟩).mono ?_
    rintro e w1 ⟨rfl, q2, rfl⟩
    go_wp2
    go_ret
    exact ⟨by rw [E.out]; rfl, by first | exact below_drewN ((below_alloc _ _).alloc (by simp) _) _ | exact below_drewN (below_drewN ((below_alloc _ _).alloc (by simp) _) _) _⟩
  have H1 : Hid (Alike 5 S.nl S.l T.nl T.l) := h1
  clear h1
  have HR3 : Hid (r = true ↔ Alike 4 S.nw S.k T.nw T.k) := ⟨fun h => (HR.out.1 h).2.2, fun h => HR.out.2 ⟨H0.out, H1.out, h⟩⟩
  go_enter Tryz.func10, Tryz.ntmps10
  go_wp2_with fail
  refine (equalCell_any _ _ B B' _ _ _ _ true _ ((H.out.1.alloc _).alloc _) ((H'.out.1.alloc _).alloc _) hc hc' ⟨fun _ => H0.out, fun _ => rfl⟩).mono ?_
  rintro e w1 ⟨rfl, q, rfl⟩
  go_wp2_with fail
  refine (equalLock_any _ _ B B' _ _ _ _ true _ (((H.out.2.1.alloc _).alloc _).drewN q) (((H'.out.2.1.alloc _).alloc _).drewN q) hl hl' ⟨fun _ => H1.out, fun _ => rfl⟩).mono ?_
  rintro e w1 ⟨rfl, q2, rfl⟩
  go_wp2_with fail
  refine (equalWrite_any _ _ B B' _ _ _ _ r _ (((H.out.2.2.alloc _).alloc _).drewN (q + q2)) (((H'.out.2.2.alloc _).alloc _).drewN (q + q2)) hk hk' HR3.out).mono ?_
  rintro e w1 ⟨rfl, q3, rfl⟩
  go_wp2
  go_ret
  exact ⟨rfl, by first | exact below_drewN ((below_alloc _ _).alloc (by simp) _) _ | exact below_drewN (below_drewN ((below_alloc _ _).alloc (by simp) _) _) _ | exact below_drewN (below_drewN (below_drewN ((below_alloc _ _).alloc (by simp) _) _) _) _⟩

end Go.Proofs.YtgedodcojalidaaGreat

namespace Go.Proofs.YtgedodcojalidaaGreat
open Go.RowKit

theorem listF_of {m : Nat} (_ : 0 < m) {R : List (List Int)} (hR : ∀ t ∈ R, t.length = m) : listF m R.length (flatF R) = R := by
  apply List.ext_getElem (by rw [listF_len])
  intro i h1 h2
  have e : (listF m R.length (flatF R))[i] = struD (flatF R) m i := by simp [listF]
  rw [e]
  apply List.ext_getElem
  · rw [struD_len, hR _ (List.getElem_mem _)]
  · intro q h3 h4
    have hq : q < m := by rw [struD_len] at h3; exact h3
    have e2 := flatF_at hR h2 hq
    have e0 : R.getD i [] = R[i] := by rw [List.getD_eq_getElem?_getD, List.getElem?_eq_getElem h2]; rfl
    rw [e0] at e2
    have e3 : (struD (flatF R) m i)[q] = flatF R (i * m + q) := by simp [struD]
    rw [e3, e2, List.getD_eq_getElem?_getD, List.getElem?_eq_getElem h4]
    rfl
/-- A store's three lists have no fault. -/
structure OkS (P Q R : List (List Int)) : Prop where
  len : P.length ≤ 200 ∧ Q.length ≤ 200 ∧ R.length ≤ 200
  wide : (∀ t ∈ P, t.length = 3) ∧ (∀ t ∈ Q, t.length = 5) ∧ ∀ t ∈ R, t.length = 4
  good : (∀ t ∈ P, goodC t) ∧ (∀ t ∈ Q, goodL t) ∧ ∀ t ∈ R, goodW t
  up : P.Pairwise (Up2 k0 k1) ∧ Q.Pairwise (Up2 k0 kN) ∧ R.Pairwise (Up2 k0 k1)
  putW : ∀ x ∈ R, x.getD 3 0 = 1 → ∃ y ∈ P, y.getD 0 0 = x.getD 0 0 ∧ y.getD 1 0 = x.getD 2 0
  putL : ∀ x ∈ Q, x.getD 2 0 = 1 → ∃ y ∈ P, y.getD 0 0 = x.getD 0 0 ∧ y.getD 1 0 = x.getD 1 0
  onceW : R.Pairwise (fun x y => ¬ (x.getD 0 0 = y.getD 0 0 ∧ x.getD 2 0 = y.getD 2 0))
  onceL : ∀ l ∈ Q, ∀ w ∈ R, ¬ (w.getD 0 0 = l.getD 0 0 ∧ w.getD 2 0 = l.getD 1 0)
theorem up_of {f g : List Int → Int} {n : Nat} {L : Nat → List Int} (h : ∀ j, j < n → ∀ i, i < j → Up2 f g (L i) (L j)) : ((List.range n).map L).Pairwise (Up2 f g) := by
  rw [List.pairwise_iff_getElem]
  intro i j hi hj hij
  simp only [List.getElem_map, List.getElem_range]
  exact h j (by simpa using hj) i hij
theorem sg {F : Nat → Int} {m i q : Nat} (hq : q < m) : (struD F m i).getD q 0 = F (i * m + q) := struD_get F m i q hq
theorem okS_of {S : Sto} (h : storeF S = 0) : OkS (listF 3 S.nc S.c) (listF 5 S.nl S.l) (listF 4 S.nw S.k) := by
  obtain ⟨hn, hc, hl, hw, hneed, honce⟩ := storeF_zero h
  have hrl := rise_pairs (p := fun i => S.l (i * 5)) (q := fun _ => 0) (n := S.nl) (fun i hi => Or.inl (lockF_next (scan_zero hl (i + 1) hi)))
  have hwn : ∀ i, i + 1 < S.nw → pairLt (S.k (i * 4)) (S.k (i * 4 + 1)) (S.k ((i + 1) * 4)) (S.k ((i + 1) * 4 + 1)) := fun i hi => by
    have hz := scan_zero hw (i + 1) hi
    have ha := writeF_zero hz
    unfold writeF at hz
    rw [if_neg (fun q => q ha.1), if_neg (fun q => q ha.2)] at hz
    refine Classical.byContradiction fun q => ?_
    rw [if_pos (Or.inl ⟨Nat.succ_pos i, q⟩)] at hz
    exact absurd hz (by decide)
  have hrw := rise_pairs (p := fun i => S.k (i * 4)) (q := fun i => S.k (i * 4 + 1)) (n := S.nw) hwn
  refine ⟨by rw [listF_len, listF_len, listF_len]; exact hn, ⟨listF_all, listF_all, listF_all⟩, ⟨goodC_of hc, goodL_of hl, goodW_of hw⟩, ⟨up_of (fun j hj i hi => ?_), up_of (fun j hj i hi => ?_), up_of (fun j hj i hi => ?_)⟩, ?_, ?_, ?_, ?_⟩
  · have := cells_rise hc j hj i hi
    unfold Up2 Lt2 k0 k1
    rw [sg (by omega), sg (by omega), sg (by omega), sg (by omega)]
    exact this
  · have := hrl j hj i hi
    unfold Up2 Lt2 k0 kN
    rw [sg (by omega), sg (by omega)]
    exact this
  · have := hrw j hj i hi
    unfold Up2 Lt2 k0 k1
    rw [sg (by omega), sg (by omega), sg (by omega), sg (by omega)]
    exact this
  · intro x hx h1
    obtain ⟨i, hi, rfl⟩ := listF_mem hx
    rw [sg (by omega)] at h1
    obtain ⟨j, hj, e1, e2⟩ := hneed.1 i hi h1
    refine ⟨struD S.c 3 j, List.mem_map.2 ⟨j, List.mem_range.2 hj, rfl⟩, ?_, ?_⟩
    · rw [sg (by omega), sg (by omega)]; exact e1
    · rw [sg (by omega), sg (by omega)]; exact e2
  · intro x hx h1
    obtain ⟨i, hi, rfl⟩ := listF_mem hx
    rw [sg (by omega)] at h1
    obtain ⟨j, hj, e1, e2⟩ := hneed.2 i hi h1
    refine ⟨struD S.c 3 j, List.mem_map.2 ⟨j, List.mem_range.2 hj, rfl⟩, ?_, ?_⟩
    · rw [sg (by omega), sg (by omega)]; exact e1
    · rw [sg (by omega), sg (by omega)]; exact e2
  · unfold listF
    rw [List.pairwise_iff_getElem]
    intro i j hi hj hij
    simp only [List.getElem_map, List.getElem_range]
    rw [sg (by omega), sg (by omega), sg (by omega), sg (by omega)]
    intro q
    have hj' : j < S.nw := by simpa using hj
    exact honce.1 j hj' ⟨i, hij, q.1, q.2⟩
  · intro l hl w hw q
    obtain ⟨i, hi, rfl⟩ := listF_mem hl
    obtain ⟨j, hj, rfl⟩ := listF_mem hw
    rw [sg (by omega), sg (by omega), sg (by omega), sg (by omega)] at q
    exact honce.2 i hi ⟨j, hj, q.1, q.2⟩
theorem scan_none {G : Nat → Int} : ∀ {n : Nat}, (∀ i, i < n → G i = 0) → scan G n = 0
  | 0, _ => rfl
  | n + 1, h => scan_go (scan_none (n := n) (fun i hi => h i (by omega))) (h n (by omega))
theorem up_scan {G : Nat → Int} {f g : List Int → Int} {L : List (List Int)} (h : ∀ i, i < L.length → G i = if 0 < i ∧ ¬ Up2 f g (L.getD (i - 1) []) (L.getD i []) then 1 else 0) (hu : L.Pairwise (Up2 f g)) : scan G L.length = 0 := by
  refine scan_none (fun i hi => ?_)
  rw [h i hi, if_neg]
  rintro ⟨h0, q⟩
  refine q ?_
  rw [List.pairwise_iff_getElem] at hu
  have := hu (i - 1) i (by omega) hi (by omega)
  rw [List.getD_eq_getElem?_getD, List.getD_eq_getElem?_getD, List.getElem?_eq_getElem hi, List.getElem?_eq_getElem (show i - 1 < L.length by omega)]
  exact this
theorem of_okS {P Q R : List (List Int)} (h : OkS P Q R) : storeF (stoOf P Q R) = 0 := by
  have e1 := up_scan (G := cellF (flatF P)) (fun i hi => cellF_list h.wide.1 h.good.1 hi) h.up.1
  have e2 := up_scan (G := lockF (flatF Q)) (fun i hi => lockF_list h.wide.2.1 h.good.2.1 hi) h.up.2.1
  have e3 := up_scan (G := writeF (flatF R)) (fun i hi => writeF_list h.wide.2.2 h.good.2.2 hi) h.up.2.2
  have fp : ∀ {i q : Nat}, i < P.length → q < 3 → flatF P (i * 3 + q) = (P.getD i []).getD q 0 := fun hi hq => flatF_at h.wide.1 hi hq
  have fq : ∀ {i q : Nat}, i < Q.length → q < 5 → flatF Q (i * 5 + q) = (Q.getD i []).getD q 0 := fun hi hq => flatF_at h.wide.2.1 hi hq
  have fr : ∀ {i q : Nat}, i < R.length → q < 4 → flatF R (i * 4 + q) = (R.getD i []).getD q 0 := fun hi hq => flatF_at h.wide.2.2 hi hq
  have hcell : ∀ a b, (∃ y ∈ P, y.getD 0 0 = a ∧ y.getD 1 0 = b) → hasCell (stoOf P Q R) P.length a b := by
    rintro a b ⟨y, hy, h0, h1⟩
    obtain ⟨i, hi, rfl⟩ := List.getElem_of_mem hy
    have ei : P.getD i [] = P[i] := by rw [List.getD_eq_getElem?_getD, List.getElem?_eq_getElem hi]; rfl
    refine ⟨i, hi, ?_, ?_⟩
    · show flatF P (i * 3) = a
      rw [show flatF P (i * 3) = _ from fp hi (by omega : 0 < 3), ei]; exact h0
    · show flatF P (i * 3 + 1) = b
      rw [fp hi (by omega), ei]; exact h1
  have hneed : needs (stoOf P Q R) := by
    refine ⟨fun i hi h1 => ?_, fun i hi h1 => ?_⟩
    · have hi' : i < R.length := hi
      have h1' : flatF R (i * 4 + 3) = 1 := h1
      show hasCell (stoOf P Q R) P.length (flatF R (i * 4)) (flatF R (i * 4 + 2))
      rw [fr hi' (by omega)] at h1'
      rw [show flatF R (i * 4) = _ from fr hi' (by omega : 0 < 4), fr hi' (by omega)]
      exact hcell _ _ (h.putW _ (getD_mem hi') h1')
    · have hi' : i < Q.length := hi
      have h1' : flatF Q (i * 5 + 2) = 1 := h1
      show hasCell (stoOf P Q R) P.length (flatF Q (i * 5)) (flatF Q (i * 5 + 1))
      rw [fq hi' (by omega)] at h1'
      rw [show flatF Q (i * 5) = _ from fq hi' (by omega : 0 < 5), fq hi' (by omega)]
      exact hcell _ _ (h.putL _ (getD_mem hi') h1')
  have honce : once (stoOf P Q R) := by
    refine ⟨fun i hi h1 => ?_, fun i hi h1 => ?_⟩
    · have hi' : i < R.length := hi
      obtain ⟨j, hj, q1, q2⟩ := h1
      have q1' : flatF R (j * 4) = flatF R (i * 4) := q1
      have q2' : flatF R (j * 4 + 2) = flatF R (i * 4 + 2) := q2
      have hj' : j < R.length := by omega
      rw [show flatF R (j * 4) = _ from fr hj' (by omega : 0 < 4), show flatF R (i * 4) = _ from fr hi' (by omega : 0 < 4)] at q1'
      rw [fr hj' (by omega), fr hi' (by omega)] at q2'
      have := (List.pairwise_iff_getElem.1 h.onceW) j i hj' hi' hj
      refine this ?_
      rw [List.getD_eq_getElem?_getD (l := R), List.getElem?_eq_getElem hj', List.getD_eq_getElem?_getD (l := R), List.getElem?_eq_getElem hi'] at q1' q2'
      exact ⟨q1', q2'⟩
    · have hi' : i < Q.length := hi
      obtain ⟨j, hj, q1, q2⟩ := h1
      have hj' : j < R.length := hj
      have q1' : flatF R (j * 4) = flatF Q (i * 5) := q1
      have q2' : flatF R (j * 4 + 2) = flatF Q (i * 5 + 1) := q2
      rw [show flatF R (j * 4) = _ from fr hj' (by omega : 0 < 4), show flatF Q (i * 5) = _ from fq hi' (by omega : 0 < 5)] at q1'
      rw [fr hj' (by omega), fq hi' (by omega)] at q2'
      exact h.onceL _ (getD_mem hi') _ (getD_mem hj') ⟨q1', q2'⟩
  have hb : ¬ (200 < (stoOf P Q R).nc ∨ 200 < (stoOf P Q R).nl ∨ 200 < (stoOf P Q R).nw) := by
    have := h.len
    show ¬ (200 < P.length ∨ 200 < Q.length ∨ 200 < R.length)
    omega
  unfold storeF
  rw [if_neg hb, show scan (cellF (stoOf P Q R).c) (stoOf P Q R).nc = 0 from e1, show scan (lockF (stoOf P Q R).l) (stoOf P Q R).nl = 0 from e2, show scan (writeF (stoOf P Q R).k) (stoOf P Q R).nw = 0 from e3]
  rw [if_neg (fun q => q rfl), if_neg (fun q => q rfl), if_neg (fun q => q rfl), if_neg (fun q => q hneed), if_neg (fun q => q honce)]
/-- Of a list the rows whose key lies from a to b. -/
def keyIn (a b : Int) (t : List Int) : Bool := decide (a ≤ t.getD 0 0 ∧ t.getD 0 0 ≤ b)
theorem keepD_is (F : Nat → Int) {m : Nat} (hm : 0 < m) (a b : Int) : ∀ n, keepD F m a b n = (listF m n F).filter (keyIn a b)
  | 0 => rfl
  | n + 1 => by
    have e : listF m (n + 1) F = listF m n F ++ [struD F m n] := by simp [listF, List.range_succ]
    show keepD F m a b n ++ _ = _
    have e0 : (struD F m n).getD 0 0 = F (n * m) := sg hm
    rw [e, List.filter_append, keepD_is F hm a b n]
    congr 1
    by_cases q : a ≤ F (n * m) ∧ F (n * m) ≤ b
    · rw [if_pos q]
      have : keyIn a b (struD F m n) = true := by unfold keyIn; rw [e0]; exact decide_eq_true q
      simp [this]
    · rw [if_neg q]
      have : keyIn a b (struD F m n) = false := by unfold keyIn; rw [e0]; exact decide_eq_false q
      simp [this]
theorem partS_is (S : Sto) (fr tto : Int) : partS S fr tto = stoOf ((listF 3 S.nc S.c).filter (keyIn fr (tto - 1))) ((listF 5 S.nl S.l).filter (keyIn fr (tto - 1))) ((listF 4 S.nw S.k).filter (keyIn fr (tto - 1))) := by
  unfold partS stoOf
  rw [← keepD_is S.c (by omega : 0 < 3), ← keepD_is S.l (by omega : 0 < 5), ← keepD_is S.k (by omega : 0 < 4), keepD_len, keepD_len, keepD_len]
  unfold flatF keepF
  rw [keepD_flat, keepD_flat, keepD_flat]
theorem OkS.part {P Q R : List (List Int)} (h : OkS P Q R) (a b : Int) : OkS (P.filter (keyIn a b)) (Q.filter (keyIn a b)) (R.filter (keyIn a b)) where
  len := ⟨Nat.le_trans (List.length_filter_le _ _) h.len.1, Nat.le_trans (List.length_filter_le _ _) h.len.2.1, Nat.le_trans (List.length_filter_le _ _) h.len.2.2⟩
  wide := ⟨fun t ht => h.wide.1 t (List.mem_filter.1 ht).1, fun t ht => h.wide.2.1 t (List.mem_filter.1 ht).1, fun t ht => h.wide.2.2 t (List.mem_filter.1 ht).1⟩
  good := ⟨fun t ht => h.good.1 t (List.mem_filter.1 ht).1, fun t ht => h.good.2.1 t (List.mem_filter.1 ht).1, fun t ht => h.good.2.2 t (List.mem_filter.1 ht).1⟩
  up := ⟨h.up.1.filter _, h.up.2.1.filter _, h.up.2.2.filter _⟩
  putW := fun x hx h1 => by
    obtain ⟨hx1, hx2⟩ := List.mem_filter.1 hx
    obtain ⟨y, hy, e1, e2⟩ := h.putW x hx1 h1
    refine ⟨y, List.mem_filter.2 ⟨hy, ?_⟩, e1, e2⟩
    unfold keyIn at hx2 ⊢
    rw [e1]; exact hx2
  putL := fun x hx h1 => by
    obtain ⟨hx1, hx2⟩ := List.mem_filter.1 hx
    obtain ⟨y, hy, e1, e2⟩ := h.putL x hx1 h1
    refine ⟨y, List.mem_filter.2 ⟨hy, ?_⟩, e1, e2⟩
    unfold keyIn at hx2 ⊢
    rw [e1]; exact hx2
  onceW := h.onceW.filter _
  onceL := fun l hl w hw => h.onceL l (List.mem_filter.1 hl).1 w (List.mem_filter.1 hw).1
/-- A part has no fault. -/
theorem part_ok {S : Sto} (h : storeF S = 0) (fr tto : Int) : storeF (partS S fr tto) = 0 := by
  rw [partS_is]
  exact of_okS ((okS_of h).part fr (tto - 1))
theorem parts_perm {L : List (List Int)} (hL : ∀ t ∈ L, faultOf (t.getD 0 0) = 0) (fr : Int) : (L.filter (keyIn 0 (fr - 1)) ++ L.filter (keyIn fr 199)).Perm L := by
  have e : L.filter (keyIn fr 199) = L.filter (fun x => !keyIn 0 (fr - 1) x) := by
    refine List.filter_congr (fun t ht => ?_)
    have h1 := faultOf_zero (hL t ht)
    unfold keyIn
    by_cases q : fr ≤ t.getD 0 0
    · rw [decide_eq_true (by omega : fr ≤ t.getD 0 0 ∧ t.getD 0 0 ≤ 199), decide_eq_false (by omega : ¬ (0 ≤ t.getD 0 0 ∧ t.getD 0 0 ≤ fr - 1))]; rfl
    · rw [decide_eq_false (by omega : ¬ (fr ≤ t.getD 0 0 ∧ t.getD 0 0 ≤ 199)), decide_eq_true (by omega : 0 ≤ t.getD 0 0 ∧ t.getD 0 0 ≤ fr - 1)]; rfl
  rw [e]
  exact List.filter_append_perm _ _
theorem strict_weak {f g : List Int → Int} {L : List (List Int)} (h : L.Pairwise (Up2 f g)) : Weak f g L := h.imp (fun q => q.asym)
theorem ins_strict {f g : List Int → Int} {LA LB L : List (List Int)} (hL : L.Pairwise (Up2 f g)) (ha : Weak f g LA) (hp : (LA ++ LB).Perm L) : insAll f g LA LB = L := by
  have hw := insAll_weak f g LB ha
  have hq : (insAll f g LA LB).Perm L := (insAll_perm f g LB LA).trans hp
  rcases two_weak hw (strict_weak hL) hq with e | ⟨_, i, hi, q⟩
  · exact e
  · refine absurd ?_ q
    have := (List.pairwise_iff_getElem.1 hL) i (i + 1) (by omega) hi (by omega)
    rw [List.getD_eq_getElem?_getD, List.getD_eq_getElem?_getD, List.getElem?_eq_getElem (show i < L.length by omega), List.getElem?_eq_getElem hi]
    exact this
/-- Two parts that meet, joined, are the store. -/
theorem join_parts {S : Sto} (h : storeF S = 0) (fr : Int) :
    joinS (partS S 0 fr) (partS S fr 200) = stoOf (listF 3 S.nc S.c) (listF 5 S.nl S.l) (listF 4 S.nw S.k) ∧ joinS (partS S fr 200) (partS S 0 fr) = stoOf (listF 3 S.nc S.c) (listF 5 S.nl S.l) (listF 4 S.nw S.k) := by
  have o := okS_of h
  have p := fun a b => o.part a b
  have lc : ∀ a b, listF 3 (partS S a b).nc (partS S a b).c = (listF 3 S.nc S.c).filter (keyIn a (b - 1)) := fun a b => by rw [partS_is]; exact listF_of (by omega) (p a (b - 1)).wide.1
  have ll : ∀ a b, listF 5 (partS S a b).nl (partS S a b).l = (listF 5 S.nl S.l).filter (keyIn a (b - 1)) := fun a b => by rw [partS_is]; exact listF_of (by omega) (p a (b - 1)).wide.2.1
  have lw : ∀ a b, listF 4 (partS S a b).nw (partS S a b).k = (listF 4 S.nw S.k).filter (keyIn a (b - 1)) := fun a b => by rw [partS_is]; exact listF_of (by omega) (p a (b - 1)).wide.2.2
  have pc := parts_perm (fun t ht => (o.good.1 t ht).1) fr
  have pl := parts_perm (fun t ht => (o.good.2.1 t ht).1) fr
  have pw := parts_perm (fun t ht => (o.good.2.2 t ht).1) fr
  have e199 : (200 : Int) - 1 = 199 := by omega
  constructor
  · unfold joinS joinC joinL joinW
    rw [lc, lc, ll, ll, lw, lw, e199]
    rw [ins_strict o.up.1 (strict_weak (p 0 (fr - 1)).up.1) pc, ins_strict o.up.2.1 (strict_weak (p 0 (fr - 1)).up.2.1) pl, ins_strict o.up.2.2 (strict_weak (p 0 (fr - 1)).up.2.2) pw]
  · unfold joinS joinC joinL joinW
    rw [lc, lc, ll, ll, lw, lw, e199]
    rw [ins_strict o.up.1 (strict_weak (p fr 199).up.1) (List.perm_append_comm.trans pc), ins_strict o.up.2.1 (strict_weak (p fr 199).up.2.1) (List.perm_append_comm.trans pl), ins_strict o.up.2.2 (strict_weak (p fr 199).up.2.2) (List.perm_append_comm.trans pw)]
theorem lists_ok {S : Sto} (h : storeF S = 0) : storeF (stoOf (listF 3 S.nc S.c) (listF 5 S.nl S.l) (listF 4 S.nw S.k)) = 0 := of_okS (okS_of h)
theorem lists_same (S : Sto) : SameS (stoOf (listF 3 S.nc S.c) (listF 5 S.nl S.l) (listF 4 S.nw S.k)) S := by
  refine ⟨⟨listF_len _ _ _, fun p hp => ?_⟩, ⟨listF_len _ _ _, fun p hp => ?_⟩, ⟨listF_len _ _ _, fun p hp => ?_⟩⟩
  · exact listF_flat (by omega) (by have := listF_len 3 S.nc S.c; simp only [stoOf] at hp; rw [this] at hp; exact hp)
  · exact listF_flat (by omega) (by have := listF_len 5 S.nl S.l; simp only [stoOf] at hp; rw [this] at hp; exact hp)
  · exact listF_flat (by omega) (by have := listF_len 4 S.nw S.k; simp only [stoOf] at hp; rw [this] at hp; exact hp)
/-- The keys of a part lie in it. -/
theorem part_key {S : Sto} {fr tto : Int} {i : Nat} (hi : i < (partS S fr tto).nw) : fr ≤ (partS S fr tto).k (i * 4) ∧ (partS S fr tto).k (i * 4) < tto := by
  rw [partS_is] at hi ⊢
  have hi' : i < ((listF 4 S.nw S.k).filter (keyIn fr (tto - 1))).length := hi
  have e : (stoOf ((listF 3 S.nc S.c).filter (keyIn fr (tto - 1))) ((listF 5 S.nl S.l).filter (keyIn fr (tto - 1))) ((listF 4 S.nw S.k).filter (keyIn fr (tto - 1)))).k (i * 4) = (((listF 4 S.nw S.k).filter (keyIn fr (tto - 1))).getD i []).getD 0 0 := flatF_at (fun t ht => listF_all t (List.mem_filter.1 ht).1) hi' (by omega : 0 < 4)
  rw [e]
  have hm := (List.mem_filter.1 (getD_mem hi')).2
  have := of_decide_eq_true hm
  omega
end Go.Proofs.YtgedodcojalidaaGreat

namespace Go.Proofs.YtgedodcojalidaaGreat
open Go.RowKit

theorem field_sr0 (c : Int) (o p q : Option Addr) (n m l i j k : Nat) (w : World) : (Instr.field 32 (.agg #[.int .i64 c, .slice o n i, .slice p m j, .slice q l k]) 0).run Tryz.prog w = .ok (.int .i64 c) w := by kernel_rfl
theorem field_sr1 (c : Int) (o p q : Option Addr) (n m l i j k : Nat) (w : World) : (Instr.field 32 (.agg #[.int .i64 c, .slice o n i, .slice p m j, .slice q l k]) 1).run Tryz.prog w = .ok (.agg #[.slice o n i, .slice p m j, .slice q l k]) w := by kernel_rfl
theorem field_st2 (o p q : Option Addr) (n m l i j k : Nat) (w : World) : (Instr.field 28 (.agg #[.slice o n i, .slice p m j, .slice q l k]) 2).run Tryz.prog w = .ok (.slice q l k) w := by kernel_rfl
theorem lwBigS_is (o : Option Addr) (len cap : Nat) (r : Bool) (w : World) (h : decide ((1048576 : Int) < (len : Int)) = r) :
    Calls Tryz.prog 4 #[.slice o len cap] w fun e w' => e = .returned (.bool r) ∧ w' = w := by
  go_enter Tryz.func4, Tryz.ntmps4
  go_wp2
  go_ret
  exact ⟨by first | rfl | (rw [← h]; rfl), rfl⟩
/-- What the law's draw answers. -/
def DrawnS (w : World) (e : Ending) (w' : World) : Prop := ∃ (S : Sto) (a0 : Option Addr) (c0 : Nat) (a1 : Option Addr) (c1 : Nat) (a2 : Option Addr) (c2 : Nat) (fr ub : Int), e = .returned (.tuple #[.agg #[.slice a0 S.nc c0, .slice a1 S.nl c1, .slice a2 S.nw c2], .int .i64 fr, .int .i64 ub]) ∧ St w' 0 S (.slice a0 S.nc c0) (.slice a1 S.nl c1) (.slice a2 S.nw c2) ∧ Below w.heap.size w w'
/-- An answer in its box. -/
def ResB (x : World) (b : Nat) (c : Int) (R : Sto) (v0 v1 v2 : Value) : Prop := Blk4 x b (.int .i64 c) v0 v1 v2 ∧ St x 0 R v0 v1 v2
theorem ResB.later {x x' : World} {b : Nat} {c : Int} {R : Sto} {v0 v1 v2 : Value} (h : ResB x b c R v0 v1 v2) (hb : Below x.heap.size x x') : ResB x' b c R v0 v1 v2 := ⟨h.1.later hb, h.2.later hb⟩
/-- What stands while the law asks what a part's fault is. -/
def EnM (w : World) (b3 b6 : Nat) (c : Int) (S R : Sto) (v0 v1 v2 r0 r1 r2 : Value) (x : World) : Prop := Below w.heap.size w x ∧ (Blk3 x b3 v0 v1 v2 ∧ St x 0 S v0 v1 v2) ∧ ResB x b6 c R r0 r1 r2
theorem EnM.later {w x x' : World} {b3 b6 : Nat} {c : Int} {S R : Sto} {v0 v1 v2 r0 r1 r2 : Value} (h : EnM w b3 b6 c S R v0 v1 v2 r0 r1 r2 x) (hb : Below x.heap.size x x') : EnM w b3 b6 c S R v0 v1 v2 r0 r1 r2 x' := ⟨h.1.trans (hb.mono h.1.size), ⟨h.2.1.1.later hb, h.2.1.2.later hb⟩, h.2.2.later hb⟩
/-- What stands while the law compares: the drawn store, the three parts, the two joined. -/
structure EnS (w : World) (b3 b6 b7 b8 b9 b10 : Nat) (S A B C L : Sto) (v0 v1 v2 g0 g1 g2 h0 h1 h2 i0 i1 i2 j0 j1 j2 k0 k1 k2 : Value) (x : World) : Prop where
  below : Below w.heap.size w x
  box : Blk3 x b3 v0 v1 v2
  st : St x 0 S v0 v1 v2
  k6 : ResB x b6 0 A g0 g1 g2
  k7 : ResB x b7 0 B h0 h1 h2
  k8 : ResB x b8 0 C i0 i1 i2
  k9 : ResB x b9 0 L j0 j1 j2
  ka : ResB x b10 0 L k0 k1 k2
theorem EnS.later {w : World} {b3 b6 b7 b8 b9 b10 : Nat} {S A B C L : Sto} {v0 v1 v2 g0 g1 g2 h0 h1 h2 i0 i1 i2 j0 j1 j2 k0 k1 k2 : Value} {x x' : World} (h : EnS w b3 b6 b7 b8 b9 b10 S A B C L v0 v1 v2 g0 g1 g2 h0 h1 h2 i0 i1 i2 j0 j1 j2 k0 k1 k2 x) (hb : Below x.heap.size x x') : EnS w b3 b6 b7 b8 b9 b10 S A B C L v0 v1 v2 g0 g1 g2 h0 h1 h2 i0 i1 i2 j0 j1 j2 k0 k1 k2 x' :=
  ⟨h.below.trans (hb.mono h.below.size), h.box.later hb, h.st.later hb, h.k6.later hb, h.k7.later hb, h.k8.later hb, h.k9.later hb, h.ka.later hb⟩
set_option maxRecDepth 100000 in
set_option maxHeartbeats 16000000 in
theorem fnStores_over (o : Option Addr) (len cap : Nat) (w : World) (hl0 : len ≤ maxLen) (hd : len ≤ 1048576 → Calls Tryz.prog 5 #[.slice o len cap] w (DrawnS w)) :
    Calls Tryz.prog 3 #[.slice o len cap] w fun e w' => e = .returned (.bool true) ∧ Below w.heap.size w w' := by
  have hml : maxLen = 9223372036854775807 := rfl
  by_cases hbig : (1048576 : Int) < len
  · have d : decide ((1048576 : Int) < (len : Int)) = true := decide_eq_true hbig
    go_enter Tryz.func3, Tryz.ntmps3
    go_wp2_with fail
    refine (lwBigS_is _ _ _ _ _ d).mono ?_
    rintro e w9 ⟨rfl, hw9⟩
    obtain rfl := hw9.symm
    go_wp2
    go_ret
    exact ⟨rfl, Below.refl _ _⟩
  have d : decide ((1048576 : Int) < (len : Int)) = false := decide_eq_false hbig
  have HD : Hid (Calls Tryz.prog 5 #[.slice o len cap] w (DrawnS w)) := hd (by omega)
  clear hd hbig hml hl0
  go_enter Tryz.func3, Tryz.ntmps3
  go_wp2_with fail
  refine (lwBigS_is _ _ _ _ _ d).mono ?_
  rintro e w9 ⟨rfl, hw9⟩
  obtain rfl := hw9.symm
  clear hw9
  go_wp2_with fail
  refine HD.out.mono ?_
  rintro e y0 ⟨S, a0, c0, a1, c1, a2, c2, fr, ub, rfl, hst, q1⟩
  have K0 : Hid (Blk3 (y0.alloc (.cells #[.slice a0 S.nc c0, .slice a1 S.nl c1, .slice a2 S.nw c2] 28)) y0.heap.size (.slice a0 S.nc c0) (.slice a1 S.nl c1) (.slice a2 S.nw c2)) := Blk3.new y0 _ _ _ _
  have HB : Hid (Below w.heap.size w (y0.alloc (.cells #[.slice a0 S.nc c0, .slice a1 S.nl c1, .slice a2 S.nw c2] 28)) ∧ St (y0.alloc (.cells #[.slice a0 S.nc c0, .slice a1 S.nl c1, .slice a2 S.nw c2] 28)) 0 S (.slice a0 S.nc c0) (.slice a1 S.nl c1) (.slice a2 S.nw c2)) := ⟨q1.alloc q1.size _, hst.alloc _⟩
  clear hst q1 HD d
  obtain ⟨⟨t0, t1, t2⟩, _⟩ := K0.out
  go_wp2_with fail
  generalize y0.alloc (.cells #[.slice a0 S.nc c0, .slice a1 S.nl c1, .slice a2 S.nw c2] 28) = x0 at HB K0 t0 t1 t2 ⊢
  generalize y0.heap.size = b3 at K0 t0 t1 t2 ⊢
  obtain ⟨c, R, hR, hA⟩ := PartAns.get S fr ub
  by_cases hc : c = 0
  case neg =>
    have PA : Hid (PartAns S fr ub c R) := hA
    have dn : (c == 0) = false := beq_eq_false_iff_ne.2 hc
    clear hA hR hc
    refine (implPartStore_is S _ _ _ fr ub c R 0 _ HB.out.2 PA.out).mono ?_
    rintro e y1 ⟨g0, g3, g1, g4, g2, g5, rfl, ⟨st1, _, _⟩, q⟩
    have qa : Below x0.heap.size x0 (y1.alloc (.cells #[.int .i64 c, .slice g0 R.nc g3, .slice g1 R.nl g4, .slice g2 R.nw g5] 32)) := q.alloc q.size _
    have HE : Hid (EnM w b3 y1.heap.size c S R (.slice a0 S.nc c0) (.slice a1 S.nl c1) (.slice a2 S.nw c2) (.slice g0 R.nc g3) (.slice g1 R.nl g4) (.slice g2 R.nw g5) (y1.alloc (.cells #[.int .i64 c, .slice g0 R.nc g3, .slice g1 R.nl g4, .slice g2 R.nw g5] 32))) := ⟨HB.out.1.trans (qa.mono HB.out.1.size), ⟨K0.out.later qa, HB.out.2.later qa⟩, Blk4.new _ _ _ _ _ _, (st1.mono (Nat.zero_le _)).alloc _⟩
    clear HB K0 q qa st1 t0 t1 t2
    go_upto_region 5 with fail
    generalize y1.alloc (.cells #[.int .i64 c, .slice g0 R.nc g3, .slice g1 R.nl g4, .slice g2 R.nw g5] 32) = x1 at HE ⊢
    generalize y1.heap.size = b6 at HE ⊢
    obtain ⟨⟨f0, f1, f2, f3⟩, _⟩ := HE.out.2.2.1
    go_upto_region 6 with fail
    clear f0 f1 f2 f3
    refine wp_region_held_drew (S := EnM w b3 b6 c S R (.slice a0 S.nc c0) (.slice a1 S.nl c1) (.slice a2 S.nw c2) (.slice g0 R.nc g3) (.slice g1 R.nl g4) (.slice g2 R.nw g5)) (by kernel_rfl) (HE.out.later ((Below.refl _ _).drew)) (fun hS => ?_)
    clear HE
    generalize x1.drew = x2 at hS ⊢
    refine tkH 0 ?_ hS (fun wx hx => ?_) ?_; rotate_left
    · obtain ⟨_, ⟨⟨⟨e0, e1, e2⟩, _⟩, _⟩, ⟨⟨f0, f1, f2, f3⟩, _⟩, _⟩ := hx; go_simp; try with_reducible rfl
    refine tkH 1 ?_ hS (fun wx hx => ?_) ?_; rotate_left
    · obtain ⟨_, ⟨⟨⟨e0, e1, e2⟩, _⟩, _⟩, ⟨⟨f0, f1, f2, f3⟩, _⟩, _⟩ := hx; go_simp; try with_reducible rfl
    refine tkH 2 ?_ hS (fun wx hx => ?_) ?_; rotate_left
    · obtain ⟨_, ⟨⟨⟨e0, e1, e2⟩, _⟩, _⟩, ⟨⟨f0, f1, f2, f3⟩, _⟩, _⟩ := hx; go_simp; try with_reducible rfl
    refine tkH 5 ?_ hS (fun wx hx => ?_) ?_; rotate_left
    · obtain ⟨_, ⟨⟨⟨e0, e1, e2⟩, _⟩, _⟩, ⟨⟨f0, f1, f2, f3⟩, _⟩, _⟩ := hx; go_simp; try with_reducible rfl
    refine tkH 6 ?_ hS (fun wx hx => ?_) ?_; rotate_left
    · obtain ⟨_, ⟨⟨⟨e0, e1, e2⟩, _⟩, _⟩, ⟨⟨f0, f1, f2, f3⟩, _⟩, _⟩ := hx; go_simp; try with_reducible rfl
    refine rdH 3 (fun K hK => ?_)
    go_simp
    go_wp2_with fail
    refine (specPartStore_is S _ _ _ fr ub c R 0 _ hS.2.1.2 PA.out).mono ?_
    rintro e x3 ⟨h0, h3, h1, h4, h2, h5, rfl, _, q⟩
    have hS' := hS.later q
    clear q
    go_wp2_with fail
    refine hK.out _ _ hS' (fun hS => ?_)
    clear hK K hS'
    have hfd := fun (w : World) => field_sr0 c h0 h1 h2 R.nc R.nl R.nw h3 h4 h5 w
    refine tkH 4 ?_ hS (fun wx hx => ?_) ?_; rotate_left
    · obtain ⟨_, ⟨⟨⟨e0, e1, e2⟩, _⟩, _⟩, ⟨⟨f0, f1, f2, f3⟩, _⟩, _⟩ := hx; go_simp; try with_reducible rfl
    clear hfd
    refine tkH 7 ?_ hS (fun wx hx => ?_) ?_; rotate_left
    · obtain ⟨_, ⟨⟨⟨e0, e1, e2⟩, _⟩, _⟩, ⟨⟨f0, f1, f2, f3⟩, _⟩, _⟩ := hx; go_simp; try with_reducible rfl
    refine tkH 8 ?_ hS (fun wx hx => ?_) ?_; rotate_left
    · obtain ⟨_, ⟨⟨⟨e0, e1, e2⟩, _⟩, _⟩, ⟨⟨f0, f1, f2, f3⟩, _⟩, _⟩ := hx; go_simp; try with_reducible rfl
    refine wpAnyH_done (by kernel_rfl) ?_ _
    go_simp
    go_wp2
    go_ret
    exact ⟨rfl, hS.1⟩
  case pos =>
  subst hc
  have hz : storeF S = 0 ∧ partFits fr ub ∧ R = partS S fr ub := by
    rcases hA with ⟨h1, h2, _⟩ | ⟨_, _, h2, _⟩ | ⟨h1, h2, _, h3⟩
    · exact absurd h2.symm h1
    · exact absurd h2 (by decide)
    · exact ⟨h1, h2, h3⟩
  obtain ⟨hz0, hfit, rfl⟩ := hz
  have hfr : 0 ≤ fr ∧ fr ≤ 200 := hfit.1
  obtain ⟨A, hAe⟩ : ∃ A, partS S fr ub = A := ⟨_, rfl⟩
  obtain ⟨B, hBe⟩ : ∃ B, partS S 0 fr = B := ⟨_, rfl⟩
  obtain ⟨C, hCe⟩ : ∃ C, partS S fr 200 = C := ⟨_, rfl⟩
  obtain ⟨L, hLe⟩ : ∃ L, stoOf (listF 3 S.nc S.c) (listF 5 S.nl S.l) (listF 4 S.nw S.k) = L := ⟨_, rfl⟩
  have PA : Hid (PartAns S fr ub 0 A) := by rw [← hAe]; exact hA
  have PB : Hid (PartAns S 0 fr 0 B) := Or.inr (Or.inr ⟨hz0, ⟨⟨by omega, by omega⟩, hfr⟩, rfl, hBe.symm⟩)
  have PC : Hid (PartAns S fr 200 0 C) := Or.inr (Or.inr ⟨hz0, ⟨hfr, ⟨by omega, by omega⟩⟩, rfl, hCe.symm⟩)
  have hj := join_parts hz0 fr
  rw [hBe, hCe, hLe] at hj
  have hL0 : storeF L = 0 := by rw [← hLe]; exact lists_ok hz0
  have hB0 : storeF B = 0 := by rw [← hBe]; exact part_ok hz0 0 fr
  have hC0 : storeF C = 0 := by rw [← hCe]; exact part_ok hz0 fr 200
  have JB : Hid (JoinAns B C 0 L) := Or.inr (Or.inr (Or.inr ⟨hB0, hC0, by rw [hj.1]; exact hL0, rfl, hj.1.symm⟩))
  have JC : Hid (JoinAns C B 0 L) := Or.inr (Or.inr (Or.inr ⟨hC0, hB0, by rw [hj.2]; exact hL0, rfl, hj.2.symm⟩))
  have HA0 : Hid (storeF A = 0) := by rw [← hAe]; exact part_ok hz0 fr ub
  have HKy : Hid (∀ i, i < A.nw → fr ≤ A.k (i * 4) ∧ A.k (i * 4) < ub) := fun i hi => by rw [← hAe] at hi ⊢; exact part_key hi
  have HSm : Hid (SameS L S) := by rw [← hLe]; exact lists_same S
  have HN : Hid ((S.nc ≤ 200 ∧ S.nl ≤ 200 ∧ S.nw ≤ 200) ∧ (L.nc ≤ 200 ∧ L.nl ≤ 200 ∧ L.nw ≤ 200) ∧ A.nc ≤ 200 ∧ A.nl ≤ 200 ∧ A.nw ≤ 200) := ⟨(storeF_zero hz0).1, (storeF_zero hL0).1, (storeF_zero HA0.out).1⟩
  rw [hAe] at hR hA
  clear hA hR hz0 hfit hfr hAe hBe hCe hLe hj hL0 hB0 hC0
  refine (implPartStore_is S _ _ _ fr ub 0 A 0 _ HB.out.2 PA.out).mono ?_
  rintro e y1 ⟨g0, g3, g1, g4, g2, g5, rfl, ⟨st1, _, _⟩, q⟩
  have qa : Below x0.heap.size x0 (y1.alloc (.cells #[.int .i64 0, .slice g0 A.nc g3, .slice g1 A.nl g4, .slice g2 A.nw g5] 32)) := q.alloc q.size _
  have K0 : Hid (Blk3 (y1.alloc (.cells #[.int .i64 0, .slice g0 A.nc g3, .slice g1 A.nl g4, .slice g2 A.nw g5] 32)) b3 (.slice a0 S.nc c0) (.slice a1 S.nl c1) (.slice a2 S.nw c2)) := K0.out.later qa
  have HB : Hid (Below w.heap.size w (y1.alloc (.cells #[.int .i64 0, .slice g0 A.nc g3, .slice g1 A.nl g4, .slice g2 A.nw g5] 32)) ∧ St (y1.alloc (.cells #[.int .i64 0, .slice g0 A.nc g3, .slice g1 A.nl g4, .slice g2 A.nw g5] 32)) 0 S (.slice a0 S.nc c0) (.slice a1 S.nl c1) (.slice a2 S.nw c2)) := ⟨HB.out.1.trans (qa.mono HB.out.1.size), HB.out.2.later qa⟩
  have K6 : Hid (ResB (y1.alloc (.cells #[.int .i64 0, .slice g0 A.nc g3, .slice g1 A.nl g4, .slice g2 A.nw g5] 32)) y1.heap.size 0 A (.slice g0 A.nc g3) (.slice g1 A.nl g4) (.slice g2 A.nw g5)) := ⟨Blk4.new _ _ _ _ _ _, (st1.mono (Nat.zero_le _)).alloc _⟩
  clear q qa st1 t0 t1 t2
  go_upto_region 5 with fail
  generalize y1.alloc (.cells #[.int .i64 0, .slice g0 A.nc g3, .slice g1 A.nl g4, .slice g2 A.nw g5] 32) = z1 at HB K0 K6 ⊢
  generalize y1.heap.size = b6 at K6 ⊢
  obtain ⟨⟨t0, t1, t2⟩, _⟩ := K0.out
  obtain ⟨⟨f0, f1, f2, f3⟩, _⟩ := K6.out.1
  go_wp2_with fail
  refine (implPartStore_is S _ _ _ 0 fr 0 B 0 _ HB.out.2 PB.out).mono ?_
  rintro e y2 ⟨h0, h3, h1, h4, h2, h5, rfl, ⟨st1, _, _⟩, q⟩
  have qa : Below z1.heap.size z1 (y2.alloc (.cells #[.int .i64 0, .slice h0 B.nc h3, .slice h1 B.nl h4, .slice h2 B.nw h5] 32)) := q.alloc q.size _
  have K0 : Hid (Blk3 (y2.alloc (.cells #[.int .i64 0, .slice h0 B.nc h3, .slice h1 B.nl h4, .slice h2 B.nw h5] 32)) b3 (.slice a0 S.nc c0) (.slice a1 S.nl c1) (.slice a2 S.nw c2)) := K0.out.later qa
  have HB : Hid (Below w.heap.size w (y2.alloc (.cells #[.int .i64 0, .slice h0 B.nc h3, .slice h1 B.nl h4, .slice h2 B.nw h5] 32)) ∧ St (y2.alloc (.cells #[.int .i64 0, .slice h0 B.nc h3, .slice h1 B.nl h4, .slice h2 B.nw h5] 32)) 0 S (.slice a0 S.nc c0) (.slice a1 S.nl c1) (.slice a2 S.nw c2)) := ⟨HB.out.1.trans (qa.mono HB.out.1.size), HB.out.2.later qa⟩
  have K6 : Hid (ResB (y2.alloc (.cells #[.int .i64 0, .slice h0 B.nc h3, .slice h1 B.nl h4, .slice h2 B.nw h5] 32)) b6 0 A (.slice g0 A.nc g3) (.slice g1 A.nl g4) (.slice g2 A.nw g5)) := K6.out.later qa
  have K7 : Hid (ResB (y2.alloc (.cells #[.int .i64 0, .slice h0 B.nc h3, .slice h1 B.nl h4, .slice h2 B.nw h5] 32)) y2.heap.size 0 B (.slice h0 B.nc h3) (.slice h1 B.nl h4) (.slice h2 B.nw h5)) := ⟨Blk4.new _ _ _ _ _ _, (st1.mono (Nat.zero_le _)).alloc _⟩
  clear q qa st1 t0 t1 t2 f0 f1 f2 f3
  go_upto_region 8 with fail
  generalize y2.alloc (.cells #[.int .i64 0, .slice h0 B.nc h3, .slice h1 B.nl h4, .slice h2 B.nw h5] 32) = z2 at HB K0 K6 K7 ⊢
  generalize y2.heap.size = b7 at K7 ⊢
  obtain ⟨⟨t0, t1, t2⟩, _⟩ := K0.out
  go_wp2_with fail
  refine (implPartStore_is S _ _ _ fr 200 0 C 0 _ HB.out.2 PC.out).mono ?_
  rintro e y3 ⟨i0, i3, i1, i4, i2, i5, rfl, ⟨st1, _, _⟩, q⟩
  have qa : Below z2.heap.size z2 (y3.alloc (.cells #[.int .i64 0, .slice i0 C.nc i3, .slice i1 C.nl i4, .slice i2 C.nw i5] 32)) := q.alloc q.size _
  have K0 : Hid (Blk3 (y3.alloc (.cells #[.int .i64 0, .slice i0 C.nc i3, .slice i1 C.nl i4, .slice i2 C.nw i5] 32)) b3 (.slice a0 S.nc c0) (.slice a1 S.nl c1) (.slice a2 S.nw c2)) := K0.out.later qa
  have HB : Hid (Below w.heap.size w (y3.alloc (.cells #[.int .i64 0, .slice i0 C.nc i3, .slice i1 C.nl i4, .slice i2 C.nw i5] 32)) ∧ St (y3.alloc (.cells #[.int .i64 0, .slice i0 C.nc i3, .slice i1 C.nl i4, .slice i2 C.nw i5] 32)) 0 S (.slice a0 S.nc c0) (.slice a1 S.nl c1) (.slice a2 S.nw c2)) := ⟨HB.out.1.trans (qa.mono HB.out.1.size), HB.out.2.later qa⟩
  have K6 : Hid (ResB (y3.alloc (.cells #[.int .i64 0, .slice i0 C.nc i3, .slice i1 C.nl i4, .slice i2 C.nw i5] 32)) b6 0 A (.slice g0 A.nc g3) (.slice g1 A.nl g4) (.slice g2 A.nw g5)) := K6.out.later qa
  have K7 : Hid (ResB (y3.alloc (.cells #[.int .i64 0, .slice i0 C.nc i3, .slice i1 C.nl i4, .slice i2 C.nw i5] 32)) b7 0 B (.slice h0 B.nc h3) (.slice h1 B.nl h4) (.slice h2 B.nw h5)) := K7.out.later qa
  have K8 : Hid (ResB (y3.alloc (.cells #[.int .i64 0, .slice i0 C.nc i3, .slice i1 C.nl i4, .slice i2 C.nw i5] 32)) y3.heap.size 0 C (.slice i0 C.nc i3) (.slice i1 C.nl i4) (.slice i2 C.nw i5)) := ⟨Blk4.new _ _ _ _ _ _, (st1.mono (Nat.zero_le _)).alloc _⟩
  clear q qa st1 t0 t1 t2
  go_upto_region 9 with fail
  generalize y3.alloc (.cells #[.int .i64 0, .slice i0 C.nc i3, .slice i1 C.nl i4, .slice i2 C.nw i5] 32) = z3 at HB K0 K6 K7 K8 ⊢
  generalize y3.heap.size = b8 at K8 ⊢
  obtain ⟨⟨f0, f1, f2, f3⟩, _⟩ := K7.out.1
  obtain ⟨⟨i0', i1', i2', i3'⟩, _⟩ := K8.out.1
  go_wp2_with fail
  refine (implJoin_is B C _ _ _ _ _ _ 0 L 0 _ K7.out.2 K8.out.2 JB.out).mono ?_
  rintro e y4 ⟨j0, j3, j1, j4, j2, j5, rfl, ⟨st1, _, _⟩, q⟩
  have qa : Below z3.heap.size z3 (y4.alloc (.cells #[.int .i64 0, .slice j0 L.nc j3, .slice j1 L.nl j4, .slice j2 L.nw j5] 32)) := q.alloc q.size _
  have K0 : Hid (Blk3 (y4.alloc (.cells #[.int .i64 0, .slice j0 L.nc j3, .slice j1 L.nl j4, .slice j2 L.nw j5] 32)) b3 (.slice a0 S.nc c0) (.slice a1 S.nl c1) (.slice a2 S.nw c2)) := K0.out.later qa
  have HB : Hid (Below w.heap.size w (y4.alloc (.cells #[.int .i64 0, .slice j0 L.nc j3, .slice j1 L.nl j4, .slice j2 L.nw j5] 32)) ∧ St (y4.alloc (.cells #[.int .i64 0, .slice j0 L.nc j3, .slice j1 L.nl j4, .slice j2 L.nw j5] 32)) 0 S (.slice a0 S.nc c0) (.slice a1 S.nl c1) (.slice a2 S.nw c2)) := ⟨HB.out.1.trans (qa.mono HB.out.1.size), HB.out.2.later qa⟩
  have K6 : Hid (ResB (y4.alloc (.cells #[.int .i64 0, .slice j0 L.nc j3, .slice j1 L.nl j4, .slice j2 L.nw j5] 32)) b6 0 A (.slice g0 A.nc g3) (.slice g1 A.nl g4) (.slice g2 A.nw g5)) := K6.out.later qa
  have K7 : Hid (ResB (y4.alloc (.cells #[.int .i64 0, .slice j0 L.nc j3, .slice j1 L.nl j4, .slice j2 L.nw j5] 32)) b7 0 B (.slice h0 B.nc h3) (.slice h1 B.nl h4) (.slice h2 B.nw h5)) := K7.out.later qa
  have K8 : Hid (ResB (y4.alloc (.cells #[.int .i64 0, .slice j0 L.nc j3, .slice j1 L.nl j4, .slice j2 L.nw j5] 32)) b8 0 C (.slice i0 C.nc i3) (.slice i1 C.nl i4) (.slice i2 C.nw i5)) := K8.out.later qa
  have K9 : Hid (ResB (y4.alloc (.cells #[.int .i64 0, .slice j0 L.nc j3, .slice j1 L.nl j4, .slice j2 L.nw j5] 32)) y4.heap.size 0 L (.slice j0 L.nc j3) (.slice j1 L.nl j4) (.slice j2 L.nw j5)) := ⟨Blk4.new _ _ _ _ _ _, (st1.mono (Nat.zero_le _)).alloc _⟩
  clear q qa st1 f0 f1 f2 f3 i0' i1' i2' i3'
  go_upto_region 10 with fail
  generalize y4.alloc (.cells #[.int .i64 0, .slice j0 L.nc j3, .slice j1 L.nl j4, .slice j2 L.nw j5] 32) = z4 at HB K0 K6 K7 K8 K9 ⊢
  generalize y4.heap.size = b9 at K9 ⊢
  obtain ⟨⟨f0, f1, f2, f3⟩, _⟩ := K7.out.1
  obtain ⟨⟨i0', i1', i2', i3'⟩, _⟩ := K8.out.1
  go_wp2_with fail
  refine (implJoin_is C B _ _ _ _ _ _ 0 L 0 _ K8.out.2 K7.out.2 JC.out).mono ?_
  rintro e y5 ⟨k0, k3, k1, k4, k2, k5, rfl, ⟨st1, _, _⟩, q⟩
  have qa : Below z4.heap.size z4 (y5.alloc (.cells #[.int .i64 0, .slice k0 L.nc k3, .slice k1 L.nl k4, .slice k2 L.nw k5] 32)) := q.alloc q.size _
  have K0 : Hid (Blk3 (y5.alloc (.cells #[.int .i64 0, .slice k0 L.nc k3, .slice k1 L.nl k4, .slice k2 L.nw k5] 32)) b3 (.slice a0 S.nc c0) (.slice a1 S.nl c1) (.slice a2 S.nw c2)) := K0.out.later qa
  have HB : Hid (Below w.heap.size w (y5.alloc (.cells #[.int .i64 0, .slice k0 L.nc k3, .slice k1 L.nl k4, .slice k2 L.nw k5] 32)) ∧ St (y5.alloc (.cells #[.int .i64 0, .slice k0 L.nc k3, .slice k1 L.nl k4, .slice k2 L.nw k5] 32)) 0 S (.slice a0 S.nc c0) (.slice a1 S.nl c1) (.slice a2 S.nw c2)) := ⟨HB.out.1.trans (qa.mono HB.out.1.size), HB.out.2.later qa⟩
  have K6 : Hid (ResB (y5.alloc (.cells #[.int .i64 0, .slice k0 L.nc k3, .slice k1 L.nl k4, .slice k2 L.nw k5] 32)) b6 0 A (.slice g0 A.nc g3) (.slice g1 A.nl g4) (.slice g2 A.nw g5)) := K6.out.later qa
  have K7 : Hid (ResB (y5.alloc (.cells #[.int .i64 0, .slice k0 L.nc k3, .slice k1 L.nl k4, .slice k2 L.nw k5] 32)) b7 0 B (.slice h0 B.nc h3) (.slice h1 B.nl h4) (.slice h2 B.nw h5)) := K7.out.later qa
  have K8 : Hid (ResB (y5.alloc (.cells #[.int .i64 0, .slice k0 L.nc k3, .slice k1 L.nl k4, .slice k2 L.nw k5] 32)) b8 0 C (.slice i0 C.nc i3) (.slice i1 C.nl i4) (.slice i2 C.nw i5)) := K8.out.later qa
  have K9 : Hid (ResB (y5.alloc (.cells #[.int .i64 0, .slice k0 L.nc k3, .slice k1 L.nl k4, .slice k2 L.nw k5] 32)) b9 0 L (.slice j0 L.nc j3) (.slice j1 L.nl j4) (.slice j2 L.nw j5)) := K9.out.later qa
  have K10 : Hid (ResB (y5.alloc (.cells #[.int .i64 0, .slice k0 L.nc k3, .slice k1 L.nl k4, .slice k2 L.nw k5] 32)) y5.heap.size 0 L (.slice k0 L.nc k3) (.slice k1 L.nl k4) (.slice k2 L.nw k5)) := ⟨Blk4.new _ _ _ _ _ _, (st1.mono (Nat.zero_le _)).alloc _⟩
  clear q qa st1 f0 f1 f2 f3 i0' i1' i2' i3'
  go_upto_region 11 with fail
  generalize y5.alloc (.cells #[.int .i64 0, .slice k0 L.nc k3, .slice k1 L.nl k4, .slice k2 L.nw k5] 32) = z5 at HB K0 K6 K7 K8 K9 K10 ⊢
  generalize y5.heap.size = b10 at K10 ⊢
  have HE : Hid (EnS w b3 b6 b7 b8 b9 b10 S A B C L (.slice a0 S.nc c0) (.slice a1 S.nl c1) (.slice a2 S.nw c2) (.slice g0 A.nc g3) (.slice g1 A.nl g4) (.slice g2 A.nw g5) (.slice h0 B.nc h3) (.slice h1 B.nl h4) (.slice h2 B.nw h5) (.slice i0 C.nc i3) (.slice i1 C.nl i4) (.slice i2 C.nw i5) (.slice j0 L.nc j3) (.slice j1 L.nl j4) (.slice j2 L.nw j5) (.slice k0 L.nc k3) (.slice k1 L.nl k4) (.slice k2 L.nw k5) z5) := ⟨HB.out.1, K0.out, HB.out.2, K6.out, K7.out, K8.out, K9.out, K10.out⟩
  clear HB K0 K6 K7 K8 K9 K10
  go_wp2
  go_loopw [11] (fun i wr => wr = z5 ∧ ∃ k : Nat, k ≤ A.nw ∧ i = .int .i64 k) (fun i _ => A.nw - (intOf i).toNat)
  case atStart => exact ⟨rfl, 0, Nat.zero_le _, rfl⟩
  case round =>
    obtain ⟨hw, k, hk, rfl⟩ := hrel
    subst hw
    obtain ⟨⟨f0, f1, f2, f3⟩, _⟩ := HE.out.k6.1
    by_cases hlt : k < A.nw
    · obtain ⟨g, o', rfl, _⟩ := HE.out.k6.2.2.2.at hlt
      obtain ⟨n0, hn0⟩ : ∃ x, A.k (k * 4) = x := ⟨_, rfl⟩
      have hx0 := (HE.out.k6.2.2.2.cellJ hlt (q := 0) (by omega)).2
      rw [Nat.add_zero, Nat.add_zero, hn0] at hx0
      have hky := HKy.out k hlt
      rw [hn0] at hky
      have d1 : decide (n0 < fr) = false := decide_eq_false (by omega)
      have d2 : decide (ub ≤ n0) = false := decide_eq_false (by omega)
      have hkb : k ≤ 200 := by have := HN.out; omega
      clear hn0 hky
      go_wp2
      go_roundw
      case rel => exact ⟨by first | trivial | rfl, k + 1, hlt, by go_num⟩
      case measure => simp [intOf]; omega
    · obtain rfl : k = A.nw := by omega
      go_upto_region 16 with fail
      clear f0 f1 f2 f3
      refine wp_region_held_drew (S := EnS w b3 b6 b7 b8 b9 b10 S A B C L (.slice a0 S.nc c0) (.slice a1 S.nl c1) (.slice a2 S.nw c2) (.slice g0 A.nc g3) (.slice g1 A.nl g4) (.slice g2 A.nw g5) (.slice h0 B.nc h3) (.slice h1 B.nl h4) (.slice h2 B.nw h5) (.slice i0 C.nc i3) (.slice i1 C.nl i4) (.slice i2 C.nw i5) (.slice j0 L.nc j3) (.slice j1 L.nl j4) (.slice j2 L.nw j5) (.slice k0 L.nc k3) (.slice k1 L.nl k4) (.slice k2 L.nw k5)) (by kernel_rfl) (HE.out.later ((Below.refl _ _).drew)) (fun hS => ?_)
      clear HE
      generalize wr.drew = u0 at hS ⊢
      refine tkH 0 ?_ hS (fun wx hx => ?_) ?_; rotate_left
      · obtain ⟨_, ⟨⟨e0, e1, e2⟩, _⟩, _, ⟨⟨⟨f0, f1, f2, f3⟩, _⟩, _⟩, ⟨⟨⟨g0', _⟩, _⟩, _⟩, ⟨⟨⟨h0', _⟩, _⟩, _⟩, ⟨⟨⟨i0', i1', i2', i3'⟩, _⟩, _⟩, ⟨⟨⟨j0', j1', j2', j3'⟩, _⟩, _⟩⟩ := hx; go_simp; try with_reducible rfl
      refine tkH 1 ?_ hS (fun wx hx => ?_) ?_; rotate_left
      · obtain ⟨_, ⟨⟨e0, e1, e2⟩, _⟩, _, ⟨⟨⟨f0, f1, f2, f3⟩, _⟩, _⟩, ⟨⟨⟨g0', _⟩, _⟩, _⟩, ⟨⟨⟨h0', _⟩, _⟩, _⟩, ⟨⟨⟨i0', i1', i2', i3'⟩, _⟩, _⟩, ⟨⟨⟨j0', j1', j2', j3'⟩, _⟩, _⟩⟩ := hx; go_simp; try with_reducible rfl
      refine rdH 2 (fun K hK => ?_)
      go_simp
      go_wp2_with fail
      refine (implFault_any A _ _ _ 0 _ hS.k6.2).mono ?_
      rw [HA0.out]
      rintro e u1 ⟨rfl, q⟩
      have hS' := hS.later q
      clear q
      go_wp2_with fail
      refine hK.out _ _ hS' (fun hS => ?_)
      clear hK K hS'
      refine tkH 3 ?_ hS (fun wx hx => ?_) ?_; rotate_left
      · obtain ⟨_, ⟨⟨e0, e1, e2⟩, _⟩, _, ⟨⟨⟨f0, f1, f2, f3⟩, _⟩, _⟩, ⟨⟨⟨g0', _⟩, _⟩, _⟩, ⟨⟨⟨h0', _⟩, _⟩, _⟩, ⟨⟨⟨i0', i1', i2', i3'⟩, _⟩, _⟩, ⟨⟨⟨j0', j1', j2', j3'⟩, _⟩, _⟩⟩ := hx; go_simp; try with_reducible rfl
      try simp only [Act.put, List.getElem_toArray, List.getElem_cons_zero, List.getElem_cons_succ, List.setIfInBounds_toArray, List.set_cons_succ, List.set_cons_zero]
      refine tkH 4 ?_ hS (fun wx hx => ?_) ?_; rotate_left
      · obtain ⟨_, ⟨⟨e0, e1, e2⟩, _⟩, _, ⟨⟨⟨f0, f1, f2, f3⟩, _⟩, _⟩, ⟨⟨⟨g0', _⟩, _⟩, _⟩, ⟨⟨⟨h0', _⟩, _⟩, _⟩, ⟨⟨⟨i0', i1', i2', i3'⟩, _⟩, _⟩, ⟨⟨⟨j0', j1', j2', j3'⟩, _⟩, _⟩⟩ := hx; go_simp; try with_reducible rfl
      refine tkH 5 ?_ hS (fun wx hx => ?_) ?_; rotate_left
      · obtain ⟨_, ⟨⟨e0, e1, e2⟩, _⟩, _, ⟨⟨⟨f0, f1, f2, f3⟩, _⟩, _⟩, ⟨⟨⟨g0', _⟩, _⟩, _⟩, ⟨⟨⟨h0', _⟩, _⟩, _⟩, ⟨⟨⟨i0', i1', i2', i3'⟩, _⟩, _⟩, ⟨⟨⟨j0', j1', j2', j3'⟩, _⟩, _⟩⟩ := hx; go_simp; try with_reducible rfl
      refine tkH 6 ?_ hS (fun wx hx => ?_) ?_; rotate_left
      · obtain ⟨_, ⟨⟨e0, e1, e2⟩, _⟩, _, ⟨⟨⟨f0, f1, f2, f3⟩, _⟩, _⟩, ⟨⟨⟨g0', _⟩, _⟩, _⟩, ⟨⟨⟨h0', _⟩, _⟩, _⟩, ⟨⟨⟨i0', i1', i2', i3'⟩, _⟩, _⟩, ⟨⟨⟨j0', j1', j2', j3'⟩, _⟩, _⟩⟩ := hx; go_simp; try with_reducible rfl
      try simp only [Act.put, List.getElem_toArray, List.getElem_cons_zero, List.getElem_cons_succ, List.setIfInBounds_toArray, List.set_cons_succ, List.set_cons_zero]
      refine tkH 7 ?_ hS (fun wx hx => ?_) ?_; rotate_left
      · obtain ⟨_, ⟨⟨e0, e1, e2⟩, _⟩, _, ⟨⟨⟨f0, f1, f2, f3⟩, _⟩, _⟩, ⟨⟨⟨g0', _⟩, _⟩, _⟩, ⟨⟨⟨h0', _⟩, _⟩, _⟩, ⟨⟨⟨i0', i1', i2', i3'⟩, _⟩, _⟩, ⟨⟨⟨j0', j1', j2', j3'⟩, _⟩, _⟩⟩ := hx; go_simp; try with_reducible rfl
      refine tkH 8 ?_ hS (fun wx hx => ?_) ?_; rotate_left
      · obtain ⟨_, ⟨⟨e0, e1, e2⟩, _⟩, _, ⟨⟨⟨f0, f1, f2, f3⟩, _⟩, _⟩, ⟨⟨⟨g0', _⟩, _⟩, _⟩, ⟨⟨⟨h0', _⟩, _⟩, _⟩, ⟨⟨⟨i0', i1', i2', i3'⟩, _⟩, _⟩, ⟨⟨⟨j0', j1', j2', j3'⟩, _⟩, _⟩⟩ := hx; go_simp; try with_reducible rfl
      refine tkH 9 ?_ hS (fun wx hx => ?_) ?_; rotate_left
      · obtain ⟨_, ⟨⟨e0, e1, e2⟩, _⟩, _, ⟨⟨⟨f0, f1, f2, f3⟩, _⟩, _⟩, ⟨⟨⟨g0', _⟩, _⟩, _⟩, ⟨⟨⟨h0', _⟩, _⟩, _⟩, ⟨⟨⟨i0', i1', i2', i3'⟩, _⟩, _⟩, ⟨⟨⟨j0', j1', j2', j3'⟩, _⟩, _⟩⟩ := hx; go_simp; try with_reducible rfl
      try simp only [Act.put, List.getElem_toArray, List.getElem_cons_zero, List.getElem_cons_succ, List.setIfInBounds_toArray, List.set_cons_succ, List.set_cons_zero]
      refine tkH 10 ?_ hS (fun wx hx => ?_) ?_; rotate_left
      · obtain ⟨_, ⟨⟨e0, e1, e2⟩, _⟩, _, ⟨⟨⟨f0, f1, f2, f3⟩, _⟩, _⟩, ⟨⟨⟨g0', _⟩, _⟩, _⟩, ⟨⟨⟨h0', _⟩, _⟩, _⟩, ⟨⟨⟨i0', i1', i2', i3'⟩, _⟩, _⟩, ⟨⟨⟨j0', j1', j2', j3'⟩, _⟩, _⟩⟩ := hx; go_simp; try with_reducible rfl
      refine tkH 11 ?_ hS (fun wx hx => ?_) ?_; rotate_left
      · obtain ⟨_, ⟨⟨e0, e1, e2⟩, _⟩, _, ⟨⟨⟨f0, f1, f2, f3⟩, _⟩, _⟩, ⟨⟨⟨g0', _⟩, _⟩, _⟩, ⟨⟨⟨h0', _⟩, _⟩, _⟩, ⟨⟨⟨i0', i1', i2', i3'⟩, _⟩, _⟩, ⟨⟨⟨j0', j1', j2', j3'⟩, _⟩, _⟩⟩ := hx; go_simp; try with_reducible rfl
      refine tkH 12 ?_ hS (fun wx hx => ?_) ?_; rotate_left
      · obtain ⟨_, ⟨⟨e0, e1, e2⟩, _⟩, _, ⟨⟨⟨f0, f1, f2, f3⟩, _⟩, _⟩, ⟨⟨⟨g0', _⟩, _⟩, _⟩, ⟨⟨⟨h0', _⟩, _⟩, _⟩, ⟨⟨⟨i0', i1', i2', i3'⟩, _⟩, _⟩, ⟨⟨⟨j0', j1', j2', j3'⟩, _⟩, _⟩⟩ := hx; go_simp; try with_reducible rfl
      try simp only [Act.put, List.getElem_toArray, List.getElem_cons_zero, List.getElem_cons_succ, List.setIfInBounds_toArray, List.set_cons_succ, List.set_cons_zero]
      refine tkH 13 ?_ hS (fun wx hx => ?_) ?_; rotate_left
      · obtain ⟨_, ⟨⟨e0, e1, e2⟩, _⟩, _, ⟨⟨⟨f0, f1, f2, f3⟩, _⟩, _⟩, ⟨⟨⟨g0', _⟩, _⟩, _⟩, ⟨⟨⟨h0', _⟩, _⟩, _⟩, ⟨⟨⟨i0', i1', i2', i3'⟩, _⟩, _⟩, ⟨⟨⟨j0', j1', j2', j3'⟩, _⟩, _⟩⟩ := hx; go_simp; try with_reducible rfl
      refine tkH 14 ?_ hS (fun wx hx => ?_) ?_; rotate_left
      · obtain ⟨_, ⟨⟨e0, e1, e2⟩, _⟩, _, ⟨⟨⟨f0, f1, f2, f3⟩, _⟩, _⟩, ⟨⟨⟨g0', _⟩, _⟩, _⟩, ⟨⟨⟨h0', _⟩, _⟩, _⟩, ⟨⟨⟨i0', i1', i2', i3'⟩, _⟩, _⟩, ⟨⟨⟨j0', j1', j2', j3'⟩, _⟩, _⟩⟩ := hx; go_simp; try with_reducible rfl
      refine tkH 15 ?_ hS (fun wx hx => ?_) ?_; rotate_left
      · obtain ⟨_, ⟨⟨e0, e1, e2⟩, _⟩, _, ⟨⟨⟨f0, f1, f2, f3⟩, _⟩, _⟩, ⟨⟨⟨g0', _⟩, _⟩, _⟩, ⟨⟨⟨h0', _⟩, _⟩, _⟩, ⟨⟨⟨i0', i1', i2', i3'⟩, _⟩, _⟩, ⟨⟨⟨j0', j1', j2', j3'⟩, _⟩, _⟩⟩ := hx; go_simp; try with_reducible rfl
      try simp only [Act.put, List.getElem_toArray, List.getElem_cons_zero, List.getElem_cons_succ, List.setIfInBounds_toArray, List.set_cons_succ, List.set_cons_zero]
      refine tkH 16 ?_ hS (fun wx hx => ?_) ?_; rotate_left
      · obtain ⟨_, ⟨⟨e0, e1, e2⟩, _⟩, _, ⟨⟨⟨f0, f1, f2, f3⟩, _⟩, _⟩, ⟨⟨⟨g0', _⟩, _⟩, _⟩, ⟨⟨⟨h0', _⟩, _⟩, _⟩, ⟨⟨⟨i0', i1', i2', i3'⟩, _⟩, _⟩, ⟨⟨⟨j0', j1', j2', j3'⟩, _⟩, _⟩⟩ := hx; go_simp; try with_reducible rfl
      refine tkH 17 ?_ hS (fun wx hx => ?_) ?_; rotate_left
      · obtain ⟨_, ⟨⟨e0, e1, e2⟩, _⟩, _, ⟨⟨⟨f0, f1, f2, f3⟩, _⟩, _⟩, ⟨⟨⟨g0', _⟩, _⟩, _⟩, ⟨⟨⟨h0', _⟩, _⟩, _⟩, ⟨⟨⟨i0', i1', i2', i3'⟩, _⟩, _⟩, ⟨⟨⟨j0', j1', j2', j3'⟩, _⟩, _⟩⟩ := hx; go_simp; try with_reducible rfl
      refine tkH 18 ?_ hS (fun wx hx => ?_) ?_; rotate_left
      · obtain ⟨_, ⟨⟨e0, e1, e2⟩, _⟩, _, ⟨⟨⟨f0, f1, f2, f3⟩, _⟩, _⟩, ⟨⟨⟨g0', _⟩, _⟩, _⟩, ⟨⟨⟨h0', _⟩, _⟩, _⟩, ⟨⟨⟨i0', i1', i2', i3'⟩, _⟩, _⟩, ⟨⟨⟨j0', j1', j2', j3'⟩, _⟩, _⟩⟩ := hx; go_simp; try with_reducible rfl
      try simp only [Act.put, List.getElem_toArray, List.getElem_cons_zero, List.getElem_cons_succ, List.setIfInBounds_toArray, List.set_cons_succ, List.set_cons_zero]
      refine tkH 19 ?_ hS (fun wx hx => ?_) ?_; rotate_left
      · obtain ⟨_, ⟨⟨e0, e1, e2⟩, _⟩, _, ⟨⟨⟨f0, f1, f2, f3⟩, _⟩, _⟩, ⟨⟨⟨g0', _⟩, _⟩, _⟩, ⟨⟨⟨h0', _⟩, _⟩, _⟩, ⟨⟨⟨i0', i1', i2', i3'⟩, _⟩, _⟩, ⟨⟨⟨j0', j1', j2', j3'⟩, _⟩, _⟩⟩ := hx; go_simp; try with_reducible rfl
      refine tkH 20 ?_ hS (fun wx hx => ?_) ?_; rotate_left
      · obtain ⟨_, ⟨⟨e0, e1, e2⟩, _⟩, _, ⟨⟨⟨f0, f1, f2, f3⟩, _⟩, _⟩, ⟨⟨⟨g0', _⟩, _⟩, _⟩, ⟨⟨⟨h0', _⟩, _⟩, _⟩, ⟨⟨⟨i0', i1', i2', i3'⟩, _⟩, _⟩, ⟨⟨⟨j0', j1', j2', j3'⟩, _⟩, _⟩⟩ := hx; go_simp; try with_reducible rfl
      refine tkH 21 ?_ hS (fun wx hx => ?_) ?_; rotate_left
      · obtain ⟨_, ⟨⟨e0, e1, e2⟩, _⟩, _, ⟨⟨⟨f0, f1, f2, f3⟩, _⟩, _⟩, ⟨⟨⟨g0', _⟩, _⟩, _⟩, ⟨⟨⟨h0', _⟩, _⟩, _⟩, ⟨⟨⟨i0', i1', i2', i3'⟩, _⟩, _⟩, ⟨⟨⟨j0', j1', j2', j3'⟩, _⟩, _⟩⟩ := hx; go_simp; try with_reducible rfl
      try simp only [Act.put, List.getElem_toArray, List.getElem_cons_zero, List.getElem_cons_succ, List.setIfInBounds_toArray, List.set_cons_succ, List.set_cons_zero]
      refine tkH 22 ?_ hS (fun wx hx => ?_) ?_; rotate_left
      · obtain ⟨_, ⟨⟨e0, e1, e2⟩, _⟩, _, ⟨⟨⟨f0, f1, f2, f3⟩, _⟩, _⟩, ⟨⟨⟨g0', _⟩, _⟩, _⟩, ⟨⟨⟨h0', _⟩, _⟩, _⟩, ⟨⟨⟨i0', i1', i2', i3'⟩, _⟩, _⟩, ⟨⟨⟨j0', j1', j2', j3'⟩, _⟩, _⟩⟩ := hx; go_simp; try with_reducible rfl
      refine tkH 23 ?_ hS (fun wx hx => ?_) ?_; rotate_left
      · obtain ⟨_, ⟨⟨e0, e1, e2⟩, _⟩, _, ⟨⟨⟨f0, f1, f2, f3⟩, _⟩, _⟩, ⟨⟨⟨g0', _⟩, _⟩, _⟩, ⟨⟨⟨h0', _⟩, _⟩, _⟩, ⟨⟨⟨i0', i1', i2', i3'⟩, _⟩, _⟩, ⟨⟨⟨j0', j1', j2', j3'⟩, _⟩, _⟩⟩ := hx; go_simp; try with_reducible rfl
      refine tkH 24 ?_ hS (fun wx hx => ?_) ?_; rotate_left
      · obtain ⟨_, ⟨⟨e0, e1, e2⟩, _⟩, _, ⟨⟨⟨f0, f1, f2, f3⟩, _⟩, _⟩, ⟨⟨⟨g0', _⟩, _⟩, _⟩, ⟨⟨⟨h0', _⟩, _⟩, _⟩, ⟨⟨⟨i0', i1', i2', i3'⟩, _⟩, _⟩, ⟨⟨⟨j0', j1', j2', j3'⟩, _⟩, _⟩⟩ := hx; go_simp; try with_reducible rfl
      try simp only [Act.put, List.getElem_toArray, List.getElem_cons_zero, List.getElem_cons_succ, List.setIfInBounds_toArray, List.set_cons_succ, List.set_cons_zero]
      refine tkH 25 ?_ hS (fun wx hx => ?_) ?_; rotate_left
      · obtain ⟨_, ⟨⟨e0, e1, e2⟩, _⟩, _, ⟨⟨⟨f0, f1, f2, f3⟩, _⟩, _⟩, ⟨⟨⟨g0', _⟩, _⟩, _⟩, ⟨⟨⟨h0', _⟩, _⟩, _⟩, ⟨⟨⟨i0', i1', i2', i3'⟩, _⟩, _⟩, ⟨⟨⟨j0', j1', j2', j3'⟩, _⟩, _⟩⟩ := hx; go_simp; try with_reducible rfl
      refine tkH 26 ?_ hS (fun wx hx => ?_) ?_; rotate_left
      · obtain ⟨_, ⟨⟨e0, e1, e2⟩, _⟩, _, ⟨⟨⟨f0, f1, f2, f3⟩, _⟩, _⟩, ⟨⟨⟨g0', _⟩, _⟩, _⟩, ⟨⟨⟨h0', _⟩, _⟩, _⟩, ⟨⟨⟨i0', i1', i2', i3'⟩, _⟩, _⟩, ⟨⟨⟨j0', j1', j2', j3'⟩, _⟩, _⟩⟩ := hx; go_simp; try with_reducible rfl
      refine tkH 27 ?_ hS (fun wx hx => ?_) ?_; rotate_left
      · obtain ⟨_, ⟨⟨e0, e1, e2⟩, _⟩, _, ⟨⟨⟨f0, f1, f2, f3⟩, _⟩, _⟩, ⟨⟨⟨g0', _⟩, _⟩, _⟩, ⟨⟨⟨h0', _⟩, _⟩, _⟩, ⟨⟨⟨i0', i1', i2', i3'⟩, _⟩, _⟩, ⟨⟨⟨j0', j1', j2', j3'⟩, _⟩, _⟩⟩ := hx; go_simp; try with_reducible rfl
      try simp only [Act.put, List.getElem_toArray, List.getElem_cons_zero, List.getElem_cons_succ, List.setIfInBounds_toArray, List.set_cons_succ, List.set_cons_zero]
      refine rdH 28 (fun K hK => ?_)
      go_simp
      go_wp2_with fail
      refine (implSame_any L S _ _ _ _ _ _ 0 0 true _ hS.k9.2 hS.st (by have := HN.out; omega) (by have := HN.out; omega) (by have := HN.out; omega) (by have := HN.out; omega) (by have := HN.out; omega) (by have := HN.out; omega) ⟨fun _ => HSm.out, fun _ => rfl⟩).mono ?_
      rintro e u2 ⟨rfl, q⟩
      have hS' := hS.later q
      clear q
      go_wp2_with fail
      refine hK.out _ _ hS' (fun hS => ?_)
      clear hK K hS'
      refine tkH 29 ?_ hS (fun wx hx => ?_) ?_; rotate_left
      · obtain ⟨_, ⟨⟨e0, e1, e2⟩, _⟩, _, ⟨⟨⟨f0, f1, f2, f3⟩, _⟩, _⟩, ⟨⟨⟨g0', _⟩, _⟩, _⟩, ⟨⟨⟨h0', _⟩, _⟩, _⟩, ⟨⟨⟨i0', i1', i2', i3'⟩, _⟩, _⟩, ⟨⟨⟨j0', j1', j2', j3'⟩, _⟩, _⟩⟩ := hx; go_simp; try with_reducible rfl
      refine tkH 30 ?_ hS (fun wx hx => ?_) ?_; rotate_left
      · obtain ⟨_, ⟨⟨e0, e1, e2⟩, _⟩, _, ⟨⟨⟨f0, f1, f2, f3⟩, _⟩, _⟩, ⟨⟨⟨g0', _⟩, _⟩, _⟩, ⟨⟨⟨h0', _⟩, _⟩, _⟩, ⟨⟨⟨i0', i1', i2', i3'⟩, _⟩, _⟩, ⟨⟨⟨j0', j1', j2', j3'⟩, _⟩, _⟩⟩ := hx; go_simp; try with_reducible rfl
      refine tkH 31 ?_ hS (fun wx hx => ?_) ?_; rotate_left
      · obtain ⟨_, ⟨⟨e0, e1, e2⟩, _⟩, _, ⟨⟨⟨f0, f1, f2, f3⟩, _⟩, _⟩, ⟨⟨⟨g0', _⟩, _⟩, _⟩, ⟨⟨⟨h0', _⟩, _⟩, _⟩, ⟨⟨⟨i0', i1', i2', i3'⟩, _⟩, _⟩, ⟨⟨⟨j0', j1', j2', j3'⟩, _⟩, _⟩⟩ := hx; go_simp; try with_reducible rfl
      try simp only [Act.put, List.getElem_toArray, List.getElem_cons_zero, List.getElem_cons_succ, List.setIfInBounds_toArray, List.set_cons_succ, List.set_cons_zero]
      refine tkH 32 ?_ hS (fun wx hx => ?_) ?_; rotate_left
      · obtain ⟨_, ⟨⟨e0, e1, e2⟩, _⟩, _, ⟨⟨⟨f0, f1, f2, f3⟩, _⟩, _⟩, ⟨⟨⟨g0', _⟩, _⟩, _⟩, ⟨⟨⟨h0', _⟩, _⟩, _⟩, ⟨⟨⟨i0', i1', i2', i3'⟩, _⟩, _⟩, ⟨⟨⟨j0', j1', j2', j3'⟩, _⟩, _⟩⟩ := hx; go_simp; try with_reducible rfl
      refine tkH 33 ?_ hS (fun wx hx => ?_) ?_; rotate_left
      · obtain ⟨_, ⟨⟨e0, e1, e2⟩, _⟩, _, ⟨⟨⟨f0, f1, f2, f3⟩, _⟩, _⟩, ⟨⟨⟨g0', _⟩, _⟩, _⟩, ⟨⟨⟨h0', _⟩, _⟩, _⟩, ⟨⟨⟨i0', i1', i2', i3'⟩, _⟩, _⟩, ⟨⟨⟨j0', j1', j2', j3'⟩, _⟩, _⟩⟩ := hx; go_simp; try with_reducible rfl
      refine rdH 34 (fun K hK => ?_)
      go_simp
      go_wp2_with fail
      refine (implSame_any L S _ _ _ _ _ _ 0 0 true _ hS.ka.2 hS.st (by have := HN.out; omega) (by have := HN.out; omega) (by have := HN.out; omega) (by have := HN.out; omega) (by have := HN.out; omega) (by have := HN.out; omega) ⟨fun _ => HSm.out, fun _ => rfl⟩).mono ?_
      rintro e u3 ⟨rfl, q⟩
      have hS' := hS.later q
      clear q
      go_wp2_with fail
      refine hK.out _ _ hS' (fun hS => ?_)
      clear hK K hS'
      refine tkH 35 ?_ hS (fun wx hx => ?_) ?_; rotate_left
      · obtain ⟨_, ⟨⟨e0, e1, e2⟩, _⟩, _, ⟨⟨⟨f0, f1, f2, f3⟩, _⟩, _⟩, ⟨⟨⟨g0', _⟩, _⟩, _⟩, ⟨⟨⟨h0', _⟩, _⟩, _⟩, ⟨⟨⟨i0', i1', i2', i3'⟩, _⟩, _⟩, ⟨⟨⟨j0', j1', j2', j3'⟩, _⟩, _⟩⟩ := hx; go_simp; try with_reducible rfl
      try simp only [Act.put, List.getElem_toArray, List.getElem_cons_zero, List.getElem_cons_succ, List.setIfInBounds_toArray, List.set_cons_succ, List.set_cons_zero]
      refine tkH 36 ?_ hS (fun wx hx => ?_) ?_; rotate_left
      · obtain ⟨_, ⟨⟨e0, e1, e2⟩, _⟩, _, ⟨⟨⟨f0, f1, f2, f3⟩, _⟩, _⟩, ⟨⟨⟨g0', _⟩, _⟩, _⟩, ⟨⟨⟨h0', _⟩, _⟩, _⟩, ⟨⟨⟨i0', i1', i2', i3'⟩, _⟩, _⟩, ⟨⟨⟨j0', j1', j2', j3'⟩, _⟩, _⟩⟩ := hx; go_simp; try with_reducible rfl
      refine tkH 37 ?_ hS (fun wx hx => ?_) ?_; rotate_left
      · obtain ⟨_, ⟨⟨e0, e1, e2⟩, _⟩, _, ⟨⟨⟨f0, f1, f2, f3⟩, _⟩, _⟩, ⟨⟨⟨g0', _⟩, _⟩, _⟩, ⟨⟨⟨h0', _⟩, _⟩, _⟩, ⟨⟨⟨i0', i1', i2', i3'⟩, _⟩, _⟩, ⟨⟨⟨j0', j1', j2', j3'⟩, _⟩, _⟩⟩ := hx; go_simp; try with_reducible rfl
      refine tkH 38 ?_ hS (fun wx hx => ?_) ?_; rotate_left
      · obtain ⟨_, ⟨⟨e0, e1, e2⟩, _⟩, _, ⟨⟨⟨f0, f1, f2, f3⟩, _⟩, _⟩, ⟨⟨⟨g0', _⟩, _⟩, _⟩, ⟨⟨⟨h0', _⟩, _⟩, _⟩, ⟨⟨⟨i0', i1', i2', i3'⟩, _⟩, _⟩, ⟨⟨⟨j0', j1', j2', j3'⟩, _⟩, _⟩⟩ := hx; go_simp; try with_reducible rfl
      try simp only [Act.put, List.getElem_toArray, List.getElem_cons_zero, List.getElem_cons_succ, List.setIfInBounds_toArray, List.set_cons_succ, List.set_cons_zero]
      refine tkH 39 ?_ hS (fun wx hx => ?_) ?_; rotate_left
      · obtain ⟨_, ⟨⟨e0, e1, e2⟩, _⟩, _, ⟨⟨⟨f0, f1, f2, f3⟩, _⟩, _⟩, ⟨⟨⟨g0', _⟩, _⟩, _⟩, ⟨⟨⟨h0', _⟩, _⟩, _⟩, ⟨⟨⟨i0', i1', i2', i3'⟩, _⟩, _⟩, ⟨⟨⟨j0', j1', j2', j3'⟩, _⟩, _⟩⟩ := hx; go_simp; try with_reducible rfl
      refine tkH 40 ?_ hS (fun wx hx => ?_) ?_; rotate_left
      · obtain ⟨_, ⟨⟨e0, e1, e2⟩, _⟩, _, ⟨⟨⟨f0, f1, f2, f3⟩, _⟩, _⟩, ⟨⟨⟨g0', _⟩, _⟩, _⟩, ⟨⟨⟨h0', _⟩, _⟩, _⟩, ⟨⟨⟨i0', i1', i2', i3'⟩, _⟩, _⟩, ⟨⟨⟨j0', j1', j2', j3'⟩, _⟩, _⟩⟩ := hx; go_simp; try with_reducible rfl
      refine tkH 41 ?_ hS (fun wx hx => ?_) ?_; rotate_left
      · obtain ⟨_, ⟨⟨e0, e1, e2⟩, _⟩, _, ⟨⟨⟨f0, f1, f2, f3⟩, _⟩, _⟩, ⟨⟨⟨g0', _⟩, _⟩, _⟩, ⟨⟨⟨h0', _⟩, _⟩, _⟩, ⟨⟨⟨i0', i1', i2', i3'⟩, _⟩, _⟩, ⟨⟨⟨j0', j1', j2', j3'⟩, _⟩, _⟩⟩ := hx; go_simp; try with_reducible rfl
      try simp only [Act.put, List.getElem_toArray, List.getElem_cons_zero, List.getElem_cons_succ, List.setIfInBounds_toArray, List.set_cons_succ, List.set_cons_zero]
      refine tkH 42 ?_ hS (fun wx hx => ?_) ?_; rotate_left
      · obtain ⟨_, ⟨⟨e0, e1, e2⟩, _⟩, _, ⟨⟨⟨f0, f1, f2, f3⟩, _⟩, _⟩, ⟨⟨⟨g0', _⟩, _⟩, _⟩, ⟨⟨⟨h0', _⟩, _⟩, _⟩, ⟨⟨⟨i0', i1', i2', i3'⟩, _⟩, _⟩, ⟨⟨⟨j0', j1', j2', j3'⟩, _⟩, _⟩⟩ := hx; go_simp; try with_reducible rfl
      refine tkH 43 ?_ hS (fun wx hx => ?_) ?_; rotate_left
      · obtain ⟨_, ⟨⟨e0, e1, e2⟩, _⟩, _, ⟨⟨⟨f0, f1, f2, f3⟩, _⟩, _⟩, ⟨⟨⟨g0', _⟩, _⟩, _⟩, ⟨⟨⟨h0', _⟩, _⟩, _⟩, ⟨⟨⟨i0', i1', i2', i3'⟩, _⟩, _⟩, ⟨⟨⟨j0', j1', j2', j3'⟩, _⟩, _⟩⟩ := hx; go_simp; try with_reducible rfl
      refine rdH 44 (fun K hK => ?_)
      go_simp
      go_wp2_with fail
      refine (specPartStore_is S _ _ _ fr ub 0 A 0 _ hS.st PA.out).mono ?_
      rintro e u4 ⟨m0, m3, m1, m4, m2, m5, rfl, _, q⟩
      have hS' := hS.later q
      clear q
      go_wp2_with fail
      refine hK.out _ _ hS' (fun hS => ?_)
      clear hK K hS'
      have hf1 := fun (w : World) => field_sr1 0 m0 m1 m2 A.nc A.nl A.nw m3 m4 m5 w
      have hf2 := fun (w : World) => field_st2 m0 m1 m2 A.nc A.nl A.nw m3 m4 m5 w
      refine tkH 45 ?_ hS (fun wx hx => ?_) ?_; rotate_left
      · obtain ⟨_, ⟨⟨e0, e1, e2⟩, _⟩, _, ⟨⟨⟨f0, f1, f2, f3⟩, _⟩, _⟩, ⟨⟨⟨g0', _⟩, _⟩, _⟩, ⟨⟨⟨h0', _⟩, _⟩, _⟩, ⟨⟨⟨i0', i1', i2', i3'⟩, _⟩, _⟩, ⟨⟨⟨j0', j1', j2', j3'⟩, _⟩, _⟩⟩ := hx; go_simp; try with_reducible rfl
      try simp only [Act.put, List.getElem_toArray, List.getElem_cons_zero, List.getElem_cons_succ, List.setIfInBounds_toArray, List.set_cons_succ, List.set_cons_zero]
      refine tkH 46 ?_ hS (fun wx hx => ?_) ?_; rotate_left
      · obtain ⟨_, ⟨⟨e0, e1, e2⟩, _⟩, _, ⟨⟨⟨f0, f1, f2, f3⟩, _⟩, _⟩, ⟨⟨⟨g0', _⟩, _⟩, _⟩, ⟨⟨⟨h0', _⟩, _⟩, _⟩, ⟨⟨⟨i0', i1', i2', i3'⟩, _⟩, _⟩, ⟨⟨⟨j0', j1', j2', j3'⟩, _⟩, _⟩⟩ := hx; go_simp; try with_reducible rfl
      refine tkH 47 ?_ hS (fun wx hx => ?_) ?_; rotate_left
      · obtain ⟨_, ⟨⟨e0, e1, e2⟩, _⟩, _, ⟨⟨⟨f0, f1, f2, f3⟩, _⟩, _⟩, ⟨⟨⟨g0', _⟩, _⟩, _⟩, ⟨⟨⟨h0', _⟩, _⟩, _⟩, ⟨⟨⟨i0', i1', i2', i3'⟩, _⟩, _⟩, ⟨⟨⟨j0', j1', j2', j3'⟩, _⟩, _⟩⟩ := hx; go_simp; try with_reducible rfl
      refine tkH 48 ?_ hS (fun wx hx => ?_) ?_; rotate_left
      · obtain ⟨_, ⟨⟨e0, e1, e2⟩, _⟩, _, ⟨⟨⟨f0, f1, f2, f3⟩, _⟩, _⟩, ⟨⟨⟨g0', _⟩, _⟩, _⟩, ⟨⟨⟨h0', _⟩, _⟩, _⟩, ⟨⟨⟨i0', i1', i2', i3'⟩, _⟩, _⟩, ⟨⟨⟨j0', j1', j2', j3'⟩, _⟩, _⟩⟩ := hx; go_simp; try with_reducible rfl
      try simp only [Act.put, List.getElem_toArray, List.getElem_cons_zero, List.getElem_cons_succ, List.setIfInBounds_toArray, List.set_cons_succ, List.set_cons_zero]
      refine tkH 49 ?_ hS (fun wx hx => ?_) ?_; rotate_left
      · obtain ⟨_, ⟨⟨e0, e1, e2⟩, _⟩, _, ⟨⟨⟨f0, f1, f2, f3⟩, _⟩, _⟩, ⟨⟨⟨g0', _⟩, _⟩, _⟩, ⟨⟨⟨h0', _⟩, _⟩, _⟩, ⟨⟨⟨i0', i1', i2', i3'⟩, _⟩, _⟩, ⟨⟨⟨j0', j1', j2', j3'⟩, _⟩, _⟩⟩ := hx; go_simp; try with_reducible rfl
      refine tkH 50 ?_ hS (fun wx hx => ?_) ?_; rotate_left
      · obtain ⟨_, ⟨⟨e0, e1, e2⟩, _⟩, _, ⟨⟨⟨f0, f1, f2, f3⟩, _⟩, _⟩, ⟨⟨⟨g0', _⟩, _⟩, _⟩, ⟨⟨⟨h0', _⟩, _⟩, _⟩, ⟨⟨⟨i0', i1', i2', i3'⟩, _⟩, _⟩, ⟨⟨⟨j0', j1', j2', j3'⟩, _⟩, _⟩⟩ := hx; go_simp; try with_reducible rfl
      clear hf1 hf2
      refine wpAnyH_done (by kernel_rfl) ?_ _
      go_simp
      go_wp2
      go_ret
      exact ⟨rfl, hS.below⟩
end Go.Proofs.YtgedodcojalidaaGreat

namespace Go.Proofs.YtgedodcojalidaaGreat
open Go.RowKit

theorem fnStores_walk (o : Option Addr) (len cap : Nat) (w : World) (h : Code w o len) (hl0 : len ≤ maxLen) :
    Calls Tryz.prog 3 #[.slice o len cap] w fun e w' => e = .returned (.bool true) ∧ Below w.heap.size w w' :=
  fnStores_over o len cap w hl0 (fun hl => (drawPartStore_any w o len cap h hl).mono (fun _ _ q => q))
end Go.Proofs.YtgedodcojalidaaGreat

