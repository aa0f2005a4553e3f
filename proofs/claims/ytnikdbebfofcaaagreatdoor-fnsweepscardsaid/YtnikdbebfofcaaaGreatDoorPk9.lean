/-
  Own text, merged of StoK, StatD, SweepE.
-/
import Derived.Test.YtnikdbebfofcaaaGreatDoorPk8
namespace Go.Proofs.YtnikdbebfofcaaaGreatDoor
open Go.RowKit

theorem listF_of {m : Nat} (_ : 0 < m) {R : List (List Int)} (hR : ∀ t ∈ R, t.length = m) : listF m R.length (flatF R) = R := by
  apply List.ext_getElem (by rw [listF_len])
  intro i h1 h2
  have e : (listF m R.length (flatF R))[i] = struD (flatF R) m i := by simp [listF]
  rw [e]
  apply List.ext_getElem
  · rw [struD_len, hR _ (List.getElem_mem _)]
  · intro q h3 h4
    have hq : q < m := by rw [struD_len] at h3; exact h3
    have e2 := flatF_at hR h2 hq
    have e0 : R.getD i [] = R[i] := by rw [List.getD_eq_getElem?_getD, List.getElem?_eq_getElem h2]; rfl
    rw [e0] at e2
    have e3 : (struD (flatF R) m i)[q] = flatF R (i * m + q) := by simp [struD]
    rw [e3, e2, List.getD_eq_getElem?_getD, List.getElem?_eq_getElem h4]
    rfl
/-- A store's three lists have no fault. -/
structure OkS (P Q R : List (List Int)) : Prop where
  len : P.length ≤ 200 ∧ Q.length ≤ 200 ∧ R.length ≤ 200
  wide : (∀ t ∈ P, t.length = 3) ∧ (∀ t ∈ Q, t.length = 5) ∧ ∀ t ∈ R, t.length = 4
  good : (∀ t ∈ P, goodC t) ∧ (∀ t ∈ Q, goodL t) ∧ ∀ t ∈ R, goodW t
  up : P.Pairwise (Up2 k0 k1) ∧ Q.Pairwise (Up2 k0 kN) ∧ R.Pairwise (Up2 k0 k1)
  putW : ∀ x ∈ R, x.getD 3 0 = 1 → ∃ y ∈ P, y.getD 0 0 = x.getD 0 0 ∧ y.getD 1 0 = x.getD 2 0
  putL : ∀ x ∈ Q, x.getD 2 0 = 1 → ∃ y ∈ P, y.getD 0 0 = x.getD 0 0 ∧ y.getD 1 0 = x.getD 1 0
  onceW : R.Pairwise (fun x y => ¬ (x.getD 0 0 = y.getD 0 0 ∧ x.getD 2 0 = y.getD 2 0))
  onceL : ∀ l ∈ Q, ∀ w ∈ R, ¬ (w.getD 0 0 = l.getD 0 0 ∧ w.getD 2 0 = l.getD 1 0)
theorem up_of {f g : List Int → Int} {n : Nat} {L : Nat → List Int} (h : ∀ j, j < n → ∀ i, i < j → Up2 f g (L i) (L j)) : ((List.range n).map L).Pairwise (Up2 f g) := by
  rw [List.pairwise_iff_getElem]
  intro i j hi hj hij
  simp only [List.getElem_map, List.getElem_range]
  exact h j (by simpa using hj) i hij
theorem sg {F : Nat → Int} {m i q : Nat} (hq : q < m) : (struD F m i).getD q 0 = F (i * m + q) := struD_get F m i q hq
theorem okS_of {S : Sto} (h : storeF S = 0) : OkS (listF 3 S.nc S.c) (listF 5 S.nl S.l) (listF 4 S.nw S.k) := by
  obtain ⟨hn, hc, hl, hw, hneed, honce⟩ := storeF_zero h
  have hrl := rise_pairs (p := fun i => S.l (i * 5)) (q := fun _ => 0) (n := S.nl) (fun i hi => Or.inl (lockF_next (scan_zero hl (i + 1) hi)))
  have hwn : ∀ i, i + 1 < S.nw → pairLt (S.k (i * 4)) (S.k (i * 4 + 1)) (S.k ((i + 1) * 4)) (S.k ((i + 1) * 4 + 1)) := fun i hi => by
    have hz := scan_zero hw (i + 1) hi
    have ha := writeF_zero hz
    unfold writeF at hz
    rw [if_neg (fun q => q ha.1), if_neg (fun q => q ha.2)] at hz
    refine Classical.byContradiction fun q => ?_
    rw [if_pos (Or.inl ⟨Nat.succ_pos i, q⟩)] at hz
    exact absurd hz (by decide)
  have hrw := rise_pairs (p := fun i => S.k (i * 4)) (q := fun i => S.k (i * 4 + 1)) (n := S.nw) hwn
  refine ⟨by rw [listF_len, listF_len, listF_len]; exact hn, ⟨listF_all, listF_all, listF_all⟩, ⟨goodC_of hc, goodL_of hl, goodW_of hw⟩, ⟨up_of (fun j hj i hi => ?_), up_of (fun j hj i hi => ?_), up_of (fun j hj i hi => ?_)⟩, ?_, ?_, ?_, ?_⟩
  · have := cells_rise hc j hj i hi
    unfold Up2 Lt2 k0 k1
    rw [sg (by omega), sg (by omega), sg (by omega), sg (by omega)]
    exact this
  · have := hrl j hj i hi
    unfold Up2 Lt2 k0 kN
    rw [sg (by omega), sg (by omega)]
    exact this
  · have := hrw j hj i hi
    unfold Up2 Lt2 k0 k1
    rw [sg (by omega), sg (by omega), sg (by omega), sg (by omega)]
    exact this
  · intro x hx h1
    obtain ⟨i, hi, rfl⟩ := listF_mem hx
    rw [sg (by omega)] at h1
    obtain ⟨j, hj, e1, e2⟩ := hneed.1 i hi h1
    refine ⟨struD S.c 3 j, List.mem_map.2 ⟨j, List.mem_range.2 hj, rfl⟩, ?_, ?_⟩
    · rw [sg (by omega), sg (by omega)]; exact e1
    · rw [sg (by omega), sg (by omega)]; exact e2
  · intro x hx h1
    obtain ⟨i, hi, rfl⟩ := listF_mem hx
    rw [sg (by omega)] at h1
    obtain ⟨j, hj, e1, e2⟩ := hneed.2 i hi h1
    refine ⟨struD S.c 3 j, List.mem_map.2 ⟨j, List.mem_range.2 hj, rfl⟩, ?_, ?_⟩
    · rw [sg (by omega), sg (by omega)]; exact e1
    · rw [sg (by omega), sg (by omega)]; exact e2
  · unfold listF
    rw [List.pairwise_iff_getElem]
    intro i j hi hj hij
    simp only [List.getElem_map, List.getElem_range]
    rw [sg (by omega), sg (by omega), sg (by omega), sg (by omega)]
    intro q
    have hj' : j < S.nw := by simpa using hj
    exact honce.1 j hj' ⟨i, hij, q.1, q.2⟩
  · intro l hl w hw q
    obtain ⟨i, hi, rfl⟩ := listF_mem hl
    obtain ⟨j, hj, rfl⟩ := listF_mem hw
    rw [sg (by omega), sg (by omega), sg (by omega), sg (by omega)] at q
    exact honce.2 i hi ⟨j, hj, q.1, q.2⟩
theorem scan_none {G : Nat → Int} : ∀ {n : Nat}, (∀ i, i < n → G i = 0) → scan G n = 0
  | 0, _ => rfl
  | n + 1, h => scan_go (scan_none (n := n) (fun i hi => h i (by omega))) (h n (by omega))
theorem up_scan {G : Nat → Int} {f g : List Int → Int} {L : List (List Int)} (h : ∀ i, i < L.length → G i = if 0 < i ∧ ¬ Up2 f g (L.getD (i - 1) []) (L.getD i []) then 1 else 0) (hu : L.Pairwise (Up2 f g)) : scan G L.length = 0 := by
  refine scan_none (fun i hi => ?_)
  rw [h i hi, if_neg]
  rintro ⟨h0, q⟩
  refine q ?_
  rw [List.pairwise_iff_getElem] at hu
  have := hu (i - 1) i (by omega) hi (by omega)
  rw [List.getD_eq_getElem?_getD, List.getD_eq_getElem?_getD, List.getElem?_eq_getElem hi, List.getElem?_eq_getElem (show i - 1 < L.length by omega)]
  exact this
theorem of_okS {P Q R : List (List Int)} (h : OkS P Q R) : storeF (stoOf P Q R) = 0 := by
  have e1 := up_scan (G := cellF (flatF P)) (fun i hi => cellF_list h.wide.1 h.good.1 hi) h.up.1
  have e2 := up_scan (G := lockF (flatF Q)) (fun i hi => lockF_list h.wide.2.1 h.good.2.1 hi) h.up.2.1
  have e3 := up_scan (G := writeF (flatF R)) (fun i hi => writeF_list h.wide.2.2 h.good.2.2 hi) h.up.2.2
  have fp : ∀ {i q : Nat}, i < P.length → q < 3 → flatF P (i * 3 + q) = (P.getD i []).getD q 0 := fun hi hq => flatF_at h.wide.1 hi hq
  have fq : ∀ {i q : Nat}, i < Q.length → q < 5 → flatF Q (i * 5 + q) = (Q.getD i []).getD q 0 := fun hi hq => flatF_at h.wide.2.1 hi hq
  have fr : ∀ {i q : Nat}, i < R.length → q < 4 → flatF R (i * 4 + q) = (R.getD i []).getD q 0 := fun hi hq => flatF_at h.wide.2.2 hi hq
  have hcell : ∀ a b, (∃ y ∈ P, y.getD 0 0 = a ∧ y.getD 1 0 = b) → hasCell (stoOf P Q R) P.length a b := by
    rintro a b ⟨y, hy, h0, h1⟩
    obtain ⟨i, hi, rfl⟩ := List.getElem_of_mem hy
    have ei : P.getD i [] = P[i] := by rw [List.getD_eq_getElem?_getD, List.getElem?_eq_getElem hi]; rfl
    refine ⟨i, hi, ?_, ?_⟩
    · show flatF P (i * 3) = a
      rw [show flatF P (i * 3) = _ from fp hi (by omega : 0 < 3), ei]; exact h0
    · show flatF P (i * 3 + 1) = b
      rw [fp hi (by omega), ei]; exact h1
  have hneed : needs (stoOf P Q R) := by
    refine ⟨fun i hi h1 => ?_, fun i hi h1 => ?_⟩
    · have hi' : i < R.length := hi
      have h1' : flatF R (i * 4 + 3) = 1 := h1
      show hasCell (stoOf P Q R) P.length (flatF R (i * 4)) (flatF R (i * 4 + 2))
      rw [fr hi' (by omega)] at h1'
      rw [show flatF R (i * 4) = _ from fr hi' (by omega : 0 < 4), fr hi' (by omega)]
      exact hcell _ _ (h.putW _ (getD_mem hi') h1')
    · have hi' : i < Q.length := hi
      have h1' : flatF Q (i * 5 + 2) = 1 := h1
      show hasCell (stoOf P Q R) P.length (flatF Q (i * 5)) (flatF Q (i * 5 + 1))
      rw [fq hi' (by omega)] at h1'
      rw [show flatF Q (i * 5) = _ from fq hi' (by omega : 0 < 5), fq hi' (by omega)]
      exact hcell _ _ (h.putL _ (getD_mem hi') h1')
  have honce : once (stoOf P Q R) := by
    refine ⟨fun i hi h1 => ?_, fun i hi h1 => ?_⟩
    · have hi' : i < R.length := hi
      obtain ⟨j, hj, q1, q2⟩ := h1
      have q1' : flatF R (j * 4) = flatF R (i * 4) := q1
      have q2' : flatF R (j * 4 + 2) = flatF R (i * 4 + 2) := q2
      have hj' : j < R.length := by omega
      rw [show flatF R (j * 4) = _ from fr hj' (by omega : 0 < 4), show flatF R (i * 4) = _ from fr hi' (by omega : 0 < 4)] at q1'
      rw [fr hj' (by omega), fr hi' (by omega)] at q2'
      have := (List.pairwise_iff_getElem.1 h.onceW) j i hj' hi' hj
      refine this ?_
      rw [List.getD_eq_getElem?_getD (l := R), List.getElem?_eq_getElem hj', List.getD_eq_getElem?_getD (l := R), List.getElem?_eq_getElem hi'] at q1' q2'
      exact ⟨q1', q2'⟩
    · have hi' : i < Q.length := hi
      obtain ⟨j, hj, q1, q2⟩ := h1
      have hj' : j < R.length := hj
      have q1' : flatF R (j * 4) = flatF Q (i * 5) := q1
      have q2' : flatF R (j * 4 + 2) = flatF Q (i * 5 + 1) := q2
      rw [show flatF R (j * 4) = _ from fr hj' (by omega : 0 < 4), show flatF Q (i * 5) = _ from fq hi' (by omega : 0 < 5)] at q1'
      rw [fr hj' (by omega), fq hi' (by omega)] at q2'
      exact h.onceL _ (getD_mem hi') _ (getD_mem hj') ⟨q1', q2'⟩
  have hb : ¬ (200 < (stoOf P Q R).nc ∨ 200 < (stoOf P Q R).nl ∨ 200 < (stoOf P Q R).nw) := by
    have := h.len
    show ¬ (200 < P.length ∨ 200 < Q.length ∨ 200 < R.length)
    omega
  unfold storeF
  rw [if_neg hb, show scan (cellF (stoOf P Q R).c) (stoOf P Q R).nc = 0 from e1, show scan (lockF (stoOf P Q R).l) (stoOf P Q R).nl = 0 from e2, show scan (writeF (stoOf P Q R).k) (stoOf P Q R).nw = 0 from e3]
  rw [if_neg (fun q => q rfl), if_neg (fun q => q rfl), if_neg (fun q => q rfl), if_neg (fun q => q hneed), if_neg (fun q => q honce)]
end Go.Proofs.YtnikdbebfofcaaaGreatDoor

namespace Go.Proofs.YtnikdbebfofcaaaGreatDoor
open Go.RowKit

/-- The least start of the first n locks. -/
def lowL (l : Nat → Int) : Nat → Int
  | 0 => 0
  | 1 => l 1
  | n + 2 => if l ((n + 1) * 5 + 1) < lowL l (n + 1) then l ((n + 1) * 5 + 1) else lowL l (n + 1)
set_option maxRecDepth 100000 in
set_option maxHeartbeats 4000000 in
theorem oldestStart_is (B b N : Nat) (m : Int → Int → Option Int) (nl : Nat) (l : Nat → Int) (nw : Nat) (k : Nat → Int) (g : Nat) (u1 u2 : Value) (w : World) (h : Cols w B b N m nl l nw k g u1 u2) (hn : nl ≤ 200) :
    Calls Tryz.prog 29 #[.pointer (some ⟨b, 0, none⟩)] w fun e w' => e = .returned (.tuple #[.int .i64 (lowL l nl), .bool (decide (0 < nl))]) ∧ Below w.heap.size w w' := by
  obtain ⟨a1, c1, rfl⟩ := h.2.2.2.2.1.form
  have H : Hid (Row w B 5 nl l (.slice a1 nl c1)) := h.2.2.2.2.1.row.1
  have p1 := h.2.2.1.1.2.1
  have hb := h.2.2.1.lt
  clear h
  go_enter Tryz.func29, Tryz.ntmps29
  go_wp2
  clear p1
  go_loopw [2, 3, 11] (fun n ok i wr => ∃ q : Nat, q ≤ nl ∧ i = .int .i64 q ∧ n = .int .i64 (lowL l q) ∧ ok = .bool (decide (0 < q)) ∧ Hid (Below w.heap.size w wr)) (fun _ _ i _ => nl - (intOf i).toNat)
  case atStart => exact ⟨0, Nat.zero_le _, rfl, rfl, rfl, Below.refl _ _⟩
  case round =>
    obtain ⟨q, hq, rfl, rfl, rfl, HB⟩ := hrel
    by_cases hlt : q < nl
    case neg =>
      obtain rfl : nl = q := by omega
      obtain ⟨r, hr⟩ : ∃ r, decide (0 < nl) = r := ⟨_, rfl⟩
      have HR : Hid (decide (0 < nl) = r) := hr
      rw [hr]
      clear hr
      go_wp2
      go_ret2
      exact ⟨by rw [HR.out]; rfl, HB.out⟩
    obtain ⟨g', o, rfl, _, hg, x0, x1, x2, x3, x4⟩ := (H.out.later HB.out).at5 hlt
    obtain ⟨n0, N0⟩ : ∃ x, l (q * 5) = x := ⟨_, rfl⟩
    obtain ⟨n1, N1⟩ : ∃ x, l (q * 5 + 1) = x := ⟨_, rfl⟩
    obtain ⟨n2, N2⟩ : ∃ x, l (q * 5 + 2) = x := ⟨_, rfl⟩
    obtain ⟨n3, N3⟩ : ∃ x, l (q * 5 + 3) = x := ⟨_, rfl⟩
    obtain ⟨n4, N4⟩ : ∃ x, l (q * 5 + 4) = x := ⟨_, rfl⟩
    rw [N0] at x0
    rw [N1] at x1
    rw [N2] at x2
    rw [N3] at x3
    rw [N4] at x4
    have HB2 : Hid (Below w.heap.size w (wr.alloc (.cells #[.int .i64 n0, .int .i64 n1, .int .i64 n2, .int .i64 n3, .int .i64 n4] 61))) := HB.out.alloc HB.out.size _
    cases q with
    | zero =>
      have E : Hid (lowL l 1 = n1) := by unfold Hid lowL; simpa using N1
      clear N0 N1 N2 N3 N4 HB
      simp only [Nat.lt_irrefl, decide_false]
      simp only [Nat.zero_mul, Nat.add_zero] at x0 x1 x2 x3 x4
      go_wp2
      go_roundw
      case rel => exact ⟨1, by omega, by rfl, by rw [E.out], rfl, HB2⟩
      case measure => simp [intOf]; omega
    | succ q =>
      have E : Hid (lowL l (q + 1 + 1) = if n1 < lowL l (q + 1) then n1 else lowL l (q + 1)) := by unfold Hid; rw [← N1]; rfl
      have hd : decide (0 < q + 1) = true := decide_eq_true (Nat.succ_pos q)
      have hd2 : Hid (decide (0 < q + 1 + 1) = true) := decide_eq_true (Nat.succ_pos _)
      rw [hd]
      obtain ⟨y, hy⟩ : ∃ y, lowL l (q + 1) = y := ⟨_, rfl⟩
      rw [hy] at E
      rw [hy]
      clear N0 N1 N2 N3 N4 HB hy hd
      by_cases h1 : n1 < y
      · have E2 : Hid (lowL l (q + 1 + 1) = n1) := E.out.trans (if_pos h1)
        clear E
        go_wp2
        go_roundw
        case rel => exact ⟨q + 1 + 1, by omega, by go_num, by rw [E2.out], by rw [hd2.out], HB2⟩
        case measure => simp [intOf]; omega
      · have E2 : Hid (lowL l (q + 1 + 1) = y) := E.out.trans (if_neg h1)
        have d1 : decide (n1 < y) = false := decide_eq_false h1
        clear E h1
        go_wp2
        go_roundw
        case rel => exact ⟨q + 1 + 1, by omega, by go_num, by rw [E2.out], by rw [hd2.out], HB2⟩
        case measure => simp [intOf]; omega
end Go.Proofs.YtnikdbebfofcaaaGreatDoor

namespace Go.Proofs.YtnikdbebfofcaaaGreatDoor
section
open Go.RowKit
/-- The closure, as a value: it has the columns and the time, in blocks of their own. -/
def sweptV (b1 b2 : Nat) : Value := .func (.func 80) #[] #[.pointer (some ⟨b1, 0, none⟩), .pointer (some ⟨b2, 0, none⟩)]
theorem sweptAt_is (b : Nat) (safe : Int) (w : World) :
    Calls Tryz.prog 51 #[.pointer (some ⟨b, 0, none⟩), .int .i64 safe] w fun e w' => e = .returned (sweptV w.heap.size (w.heap.size + 1)) ∧ w' = (w.alloc (.cells #[.pointer (some ⟨b, 0, none⟩)] 53)).alloc (.cells #[.int .i64 safe] 2) := by
  unfold sweptV
  go_enter Tryz.func51, Tryz.ntmps51
  go_wp2
  go_ret
  exact ⟨rfl, rfl⟩
theorem neqSw (x0 x1 x2 x3 y0 y1 y2 y3 : Int) (r : Bool) (hr : decide (x0 = y0 ∧ x1 = y1 ∧ x2 = y2 ∧ x3 = y3) = r) (w : World) : (binOp .neq 38 (.agg #[.int .i64 x0, .int .i64 x1, .int .i64 x2, .int .i64 x3]) (.agg #[.int .i64 y0, .int .i64 y1, .int .i64 y2, .int .i64 y3])).run Tryz.prog w = .ok (.bool (!r)) w := by
  have hS : Tryz.prog.underlying 38 = some (.struct (Tryz.prog.fieldsOf 38)) := by kernel_rfl
  have hp : Tryz.prog.stoodInHeld 38 = false := by kernel_rfl
  have u2 := Tryz.underlying2
  have a2 := Tryz.isAgg2
  have z2 := Tryz.sizeOf2
  rw [run_neq_struct, show (10000 : Nat) = 9999 + 1 from rfl, run_equalIn_agg w 9999 _ _ _ hS hp]
  simp only [Program.fieldsOf, Tryz.underlying38]
  subst hr
  go_simp
  by_cases h0 : x0 = y0 <;> by_cases h1 : x1 = y1 <;> by_cases h2 : x2 = y2 <;> by_cases h3 : x3 = y3 <;> simp [h0, h1, h2, h3]
/-- Whether a write is swept: its time is not above the safe one, and it is not the last put or delete of its key up to then, or a delete. -/
def Swept (k : Nat → Int) (nw : Nat) (safe n0 n1 n2 n3 : Int) : Prop := n1 ≤ safe ∧ ((∃ i, lastW k nw n0 safe i ∧ (¬ (n0 = k (i * 4) ∧ n1 = k (i * 4 + 1) ∧ n2 = k (i * 4 + 2) ∧ n3 = k (i * 4 + 3)) ∨ k (i * 4 + 3) = 2)) ∨ ((∀ i, ¬ lastW k nw n0 safe i) ∧ ¬ (n0 = 0 ∧ n1 = 0 ∧ n2 = 0 ∧ n3 = 0)))
noncomputable def sweptD (k : Nat → Int) (nw : Nat) (safe : Int) (t : List Int) : Bool := @decide (Swept k nw safe (t.getD 0 0) (t.getD 1 0) (t.getD 2 0) (t.getD 3 0)) (Classical.propDecidable _)
theorem sweptD_iff (k : Nat → Int) (nw : Nat) (safe : Int) (t : List Int) : sweptD k nw safe t = true ↔ Swept k nw safe (t.getD 0 0) (t.getD 1 0) (t.getD 2 0) (t.getD 3 0) := by
  unfold sweptD
  exact @decide_eq_true_iff _ (Classical.propDecidable _)
/-- The closure's two variables, and the columns that it reads. -/
def SwE (B b N : Nat) (m : Int → Int → Option Int) (nl : Nat) (l : Nat → Int) (nw : Nat) (k : Nat → Int) (g : Nat) (u1 u2 : Value) (b1 b2 : Nat) (safe : Int) (x : World) : Prop := Cols x B b N m nl l nw k g u1 u2 ∧ x.cell? ⟨b1, 0, none⟩ = some (.pointer (some ⟨b, 0, none⟩)) ∧ x.cell? ⟨b2, 0, none⟩ = some (.int .i64 safe)
theorem SwE.later {B b N : Nat} {m : Int → Int → Option Int} {nl : Nat} {l : Nat → Int} {nw : Nat} {k : Nat → Int} {g : Nat} {u1 u2 : Value} {b1 b2 : Nat} {safe : Int} {x x' : World} (h : SwE B b N m nl l nw k g u1 u2 b1 b2 safe x) (hb : Below x.heap.size x x') : SwE B b N m nl l nw k g u1 u2 b1 b2 safe x' :=
  ⟨h.1.later hb, (hb.cell (p := ⟨b1, 0, none⟩) (World.block_lt_of_cell? x _ h.2.1)).trans h.2.1, (hb.cell (p := ⟨b2, 0, none⟩) (World.block_lt_of_cell? x _ h.2.2)).trans h.2.2⟩
theorem lastW_or (k : Nat → Int) (nw : Nat) (key ts : Int) : (∀ i, ¬ lastW k nw key ts i) ∨ ∃ i, lastW k nw key ts i := by
  by_cases h : ∃ i, lastW k nw key ts i
  · exact Or.inr h
  · exact Or.inl fun i hi => h ⟨i, hi⟩
set_option maxRecDepth 100000 in
set_option maxHeartbeats 4000000 in
theorem swept_is (B b N : Nat) (m : Int → Int → Option Int) (nl : Nat) (l : Nat → Int) (nw : Nat) (k : Nat → Int) (g : Nat) (u1 u2 : Value) (b1 b2 : Nat) (safe : Int) (hw : nw ≤ 200) (hk : ∀ i, i < nw → 1 ≤ k (i * 4 + 3)) (x : World) (n0 n1 n2 n3 : Int) (hE : SwE B b N m nl l nw k g u1 u2 b1 b2 safe x) :
    Calls Tryz.prog 80 #[.agg #[.int .i64 n0, .int .i64 n1, .int .i64 n2, .int .i64 n3], .pointer (some ⟨b1, 0, none⟩), .pointer (some ⟨b2, 0, none⟩)] x fun e x' => e = .returned (.bool (sweptD k nw safe [n0, n1, n2, n3])) ∧ Below x.heap.size x x' := by
  have HE : Hid (SwE B b N m nl l nw k g u1 u2 b1 b2 safe (x.alloc (.cells #[.int .i64 n0, .int .i64 n1, .int .i64 n2, .int .i64 n3] 38))) := hE.later (below_alloc _ _)
  have HK : Hid (∀ i, i < nw → 1 ≤ k (i * 4 + 3)) := hk
  have c1 := hE.2.1
  have c2 := hE.2.2
  have l1 := World.block_lt_of_cell? x _ c1
  have l2 := World.block_lt_of_cell? x _ c2
  obtain ⟨r, hr⟩ : ∃ r, sweptD k nw safe [n0, n1, n2, n3] = r := ⟨_, rfl⟩
  have hr2 : r = true ↔ Swept k nw safe n0 n1 n2 n3 := by rw [← hr]; exact sweptD_iff k nw safe [n0, n1, n2, n3]
  have HR : Hid (sweptD k nw safe [n0, n1, n2, n3] = r) := hr
  clear hE hk hr
  by_cases hs : n1 ≤ safe
  case neg =>
    have hd : decide (n1 ≤ safe) = false := decide_eq_false hs
    obtain rfl : r = false := by
      cases r with
      | false => rfl
      | true => exact absurd (hr2.1 rfl).1 hs
    clear hr2 hs
    rcases lastW_or k nw n0 safe with hno | ⟨i, hi⟩
    focus
      have HN : Hid (∀ i, ¬ lastW k nw n0 safe i) := hno
      clear hno
      go_enter Tryz.func80, Tryz.ntmps80
      go_wp2_with fail
      refine (lastWrite_any B b N m nl l nw k g u1 u2 n0 safe _ HE.out.1 hw HK.out).mono ?_
      rintro e w1 ⟨v, rfl, hT, q1⟩
      obtain rfl : v = .tuple #[.agg #[.int .i64 0, .int .i64 0, .int .i64 0, .int .i64 0], .bool false] := by
        rcases hT with ⟨i, hi, _⟩ | ⟨_, e⟩
        · exact absurd hi (HN.out i)
        · exact e
      have Q : Hid (Below x.heap.size x (w1.alloc (.cells #[.int .i64 0, .int .i64 0, .int .i64 0, .int .i64 0] 38))) := ((below_alloc _ _).trans (q1.mono (by simp))).alloc (by have := q1.size; simp at this; omega) _
    rotate_left
    focus
      obtain ⟨m0, M0⟩ : ∃ x, k (i * 4) = x := ⟨_, rfl⟩
      obtain ⟨m1, M1⟩ : ∃ x, k (i * 4 + 1) = x := ⟨_, rfl⟩
      obtain ⟨m2, M2⟩ : ∃ x, k (i * 4 + 2) = x := ⟨_, rfl⟩
      obtain ⟨m3, M3⟩ : ∃ x, k (i * 4 + 3) = x := ⟨_, rfl⟩
      have NN : Hid (k (i * 4) = m0 ∧ k (i * 4 + 1) = m1 ∧ k (i * 4 + 2) = m2 ∧ k (i * 4 + 3) = m3) := ⟨M0, M1, M2, M3⟩
      have HI : Hid (lastW k nw n0 safe i) := hi
      clear M0 M1 M2 M3 hi
      go_enter Tryz.func80, Tryz.ntmps80
      go_wp2_with fail
      refine (lastWrite_any B b N m nl l nw k g u1 u2 n0 safe _ HE.out.1 hw HK.out).mono ?_
      rintro e w1 ⟨v, rfl, hT, q1⟩
      obtain rfl : v = .tuple #[.agg #[.int .i64 m0, .int .i64 m1, .int .i64 m2, .int .i64 m3], .bool true] := by
        rcases hT with ⟨j, hj, e⟩ | ⟨h, _⟩
        · obtain rfl := lastW.one hj HI.out
          rw [e, NN.out.1, NN.out.2.1, NN.out.2.2.1, NN.out.2.2.2]
        · exact absurd HI.out (h _)
      have Q : Hid (Below x.heap.size x (w1.alloc (.cells #[.int .i64 m0, .int .i64 m1, .int .i64 m2, .int .i64 m3] 38))) := ((below_alloc _ _).trans (q1.mono (by simp))).alloc (by have := q1.size; simp at this; omega) _
    rotate_left
    all_goals
      have hz : x.heap.size < w1.heap.size := by have := q1.size; simp at this; omega
      have hl1 : b1 < w1.heap.size := by omega
      have hl2 : b2 < w1.heap.size := by omega
      have g1 : w1.cell? ⟨b1, 0, none⟩ = some (.pointer (some ⟨b, 0, none⟩)) := (q1.cell (p := ⟨b1, 0, none⟩) (by simp; omega)).trans HE.out.2.1
      have g2 : w1.cell? ⟨b2, 0, none⟩ = some (.int .i64 safe) := (q1.cell (p := ⟨b2, 0, none⟩) (by simp; omega)).trans HE.out.2.2
      have e0 : w1.cell? ⟨x.heap.size, 0, none⟩ = some (.int .i64 n0) := (q1.cell (p := ⟨x.heap.size, 0, none⟩) (by simp)).trans (World.cell?_alloc_mark x _ _ _ 0)
      have e1 : w1.cell? ⟨x.heap.size, 1, none⟩ = some (.int .i64 n1) := (q1.cell (p := ⟨x.heap.size, 1, none⟩) (by simp)).trans (World.cell?_alloc_mark x _ _ _ 1)
      have e2 : w1.cell? ⟨x.heap.size, 2, none⟩ = some (.int .i64 n2) := (q1.cell (p := ⟨x.heap.size, 2, none⟩) (by simp)).trans (World.cell?_alloc_mark x _ _ _ 2)
      have e3 : w1.cell? ⟨x.heap.size, 3, none⟩ = some (.int .i64 n3) := (q1.cell (p := ⟨x.heap.size, 3, none⟩) (by simp)).trans (World.cell?_alloc_mark x _ _ _ 3)
      clear hT q1
      go_wp2
      go_ret
      exact ⟨by rw [HR.out]; rfl, Q.out⟩
  have hd : decide (n1 ≤ safe) = true := decide_eq_true hs
  rcases lastW_or k nw n0 safe with hno | ⟨i, hi⟩
  focus
    have HN : Hid (∀ i, ¬ lastW k nw n0 safe i) := hno
    by_cases hz0 : n0 = 0 ∧ n1 = 0 ∧ n2 = 0 ∧ n3 = 0
    focus
      obtain rfl : r = false := by
        cases r with
        | false => rfl
        | true =>
          rcases (hr2.1 rfl).2 with ⟨i, hi, _⟩ | ⟨_, h⟩
          · exact absurd hi (hno i)
          · exact absurd hz0 h
      have hq := neqSw n0 n1 n2 n3 0 0 0 0 true (decide_eq_true hz0)
    rotate_left
    focus
      obtain rfl : r = true := hr2.2 ⟨hs, Or.inr ⟨hno, hz0⟩⟩
      have hq := neqSw n0 n1 n2 n3 0 0 0 0 false (decide_eq_false hz0)
    rotate_left
    all_goals
      clear hr2 hs hno hz0
      go_enter Tryz.func80, Tryz.ntmps80
      go_wp2_with fail
      refine (lastWrite_any B b N m nl l nw k g u1 u2 n0 safe _ HE.out.1 hw HK.out).mono ?_
      rintro e w1 ⟨v, rfl, hT, q1⟩
      obtain rfl : v = .tuple #[.agg #[.int .i64 0, .int .i64 0, .int .i64 0, .int .i64 0], .bool false] := by
        rcases hT with ⟨i, hi, _⟩ | ⟨_, e⟩
        · exact absurd hi (HN.out i)
        · exact e
      have Q : Hid (Below x.heap.size x (w1.alloc (.cells #[.int .i64 0, .int .i64 0, .int .i64 0, .int .i64 0] 38))) := ((below_alloc _ _).trans (q1.mono (by simp))).alloc (by have := q1.size; simp at this; omega) _
  rotate_left 2
  focus
    obtain ⟨m0, M0⟩ : ∃ x, k (i * 4) = x := ⟨_, rfl⟩
    obtain ⟨m1, M1⟩ : ∃ x, k (i * 4 + 1) = x := ⟨_, rfl⟩
    obtain ⟨m2, M2⟩ : ∃ x, k (i * 4 + 2) = x := ⟨_, rfl⟩
    obtain ⟨m3, M3⟩ : ∃ x, k (i * 4 + 3) = x := ⟨_, rfl⟩
    have NN : Hid (k (i * 4) = m0 ∧ k (i * 4 + 1) = m1 ∧ k (i * 4 + 2) = m2 ∧ k (i * 4 + 3) = m3) := ⟨M0, M1, M2, M3⟩
    have HI : Hid (lastW k nw n0 safe i) := hi
    by_cases he : n0 = m0 ∧ n1 = m1 ∧ n2 = m2 ∧ n3 = m3
    focus
      have hq := neqSw n0 n1 n2 n3 m0 m1 m2 m3 true (decide_eq_true he)
      by_cases h2 : m3 = 2
      focus
        obtain rfl : r = true := hr2.2 ⟨hs, Or.inl ⟨i, hi, Or.inr (M3.trans h2)⟩⟩
        have d2 : (m3 == 2) = true := by rw [h2]; rfl
      rotate_left
      focus
        obtain rfl : r = false := by
          cases r with
          | false => rfl
          | true =>
            rcases (hr2.1 rfl).2 with ⟨j, hj, h⟩ | ⟨h, _⟩
            · obtain rfl := lastW.one hj hi
              rw [M0, M1, M2, M3] at h
              rcases h with h | h
              · exact absurd he h
              · exact absurd h h2
            · exact absurd hi (h i)
        have d2 : (m3 == 2) = false := beq_eq_false_iff_ne.2 h2
      rotate_left
      all_goals
        clear hr2 hs M0 M1 M2 M3 hi he h2
    rotate_left 2
    focus
      obtain rfl : r = true := hr2.2 ⟨hs, Or.inl ⟨i, hi, Or.inl (by rw [M0, M1, M2, M3]; exact he)⟩⟩
      have hq := neqSw n0 n1 n2 n3 m0 m1 m2 m3 false (decide_eq_false he)
      clear hr2 hs M0 M1 M2 M3 hi he
    rotate_left
    all_goals
      go_enter Tryz.func80, Tryz.ntmps80
      go_wp2_with fail
      refine (lastWrite_any B b N m nl l nw k g u1 u2 n0 safe _ HE.out.1 hw HK.out).mono ?_
      rintro e w1 ⟨v, rfl, hT, q1⟩
      obtain rfl : v = .tuple #[.agg #[.int .i64 m0, .int .i64 m1, .int .i64 m2, .int .i64 m3], .bool true] := by
        rcases hT with ⟨j, hj, e⟩ | ⟨h, _⟩
        · obtain rfl := lastW.one hj HI.out
          rw [e, NN.out.1, NN.out.2.1, NN.out.2.2.1, NN.out.2.2.2]
        · exact absurd HI.out (h _)
      have Q : Hid (Below x.heap.size x (w1.alloc (.cells #[.int .i64 m0, .int .i64 m1, .int .i64 m2, .int .i64 m3] 38))) := ((below_alloc _ _).trans (q1.mono (by simp))).alloc (by have := q1.size; simp at this; omega) _
  rotate_left 3
  all_goals
    have hz : x.heap.size < w1.heap.size := by have := q1.size; simp at this; omega
    have hl1 : b1 < w1.heap.size := by omega
    have hl2 : b2 < w1.heap.size := by omega
    have g1 : w1.cell? ⟨b1, 0, none⟩ = some (.pointer (some ⟨b, 0, none⟩)) := (q1.cell (p := ⟨b1, 0, none⟩) (by simp; omega)).trans HE.out.2.1
    have g2 : w1.cell? ⟨b2, 0, none⟩ = some (.int .i64 safe) := (q1.cell (p := ⟨b2, 0, none⟩) (by simp; omega)).trans HE.out.2.2
    have e0 : w1.cell? ⟨x.heap.size, 0, none⟩ = some (.int .i64 n0) := (q1.cell (p := ⟨x.heap.size, 0, none⟩) (by simp)).trans (World.cell?_alloc_mark x _ _ _ 0)
    have e1 : w1.cell? ⟨x.heap.size, 1, none⟩ = some (.int .i64 n1) := (q1.cell (p := ⟨x.heap.size, 1, none⟩) (by simp)).trans (World.cell?_alloc_mark x _ _ _ 1)
    have e2 : w1.cell? ⟨x.heap.size, 2, none⟩ = some (.int .i64 n2) := (q1.cell (p := ⟨x.heap.size, 2, none⟩) (by simp)).trans (World.cell?_alloc_mark x _ _ _ 2)
    have e3 : w1.cell? ⟨x.heap.size, 3, none⟩ = some (.int .i64 n3) := (q1.cell (p := ⟨x.heap.size, 3, none⟩) (by simp)).trans (World.cell?_alloc_mark x _ _ _ 3)
    clear hT q1
    go_wp2
    go_ret
    exact ⟨by rw [HR.out]; rfl, Q.out⟩
end

section
open Go.RowKit Go.Maps
theorem PM.look1 {w : World} {b n : Nat} {m : Int → Int → Option Int} (h : PM w b n m) {x y : Int} (hx : Wf x) (hy : Wf y) :
    (Instr.lookup 82 (.map (some b)) (.agg #[.int .i64 x, .int .i64 y]) false).run Tryz.prog w = .ok (.int .i64 ((m x y).getD 0)) w := by
  obtain ⟨D, h, r⟩ := h
  obtain ⟨v, ps, hrun, hv⟩ := h.lookup placeKeyed Tryz.underlying82 (zero_i64 w) (plainElem_int Tryz.underlying2 (by decide)) (keyOf_place hx hy)
  obtain ⟨c, rfl, hc, _⟩ := plainElem_int_inv Tryz.underlying2 hv
  rw [hrun]
  have := congrArg Prod.fst hc
  rw [(r x y hx hy).2] at this
  simp at this
  rw [this]
theorem PM.len1 {w : World} {b n : Nat} {m : Int → Int → Option Int} (h : PM w b n m) : ∃ s : Nat, ∀ ty, (Builtin.len_ #[82] ty #[.map (some b)]).run Tryz.prog w = .ok (.int .i64 s) w := by
  obtain ⟨D, h, _⟩ := h
  exact ⟨Maps.size D, fun ty => h.len Tryz.underlying82 ty⟩
/-- 'm[k] = v' at a step of a region that draws its order. -/
theorem wp_pput {o : Oper} {a : Act} {K : Act → World → Prop} {Q : Exit → Act → World → Prop} (w : World) (mo x v : Operand) (hop : o.op = Op.mapUpdate 82 mo x v)
    (b n : Nat) (m : Int → Int → Option Int) (hm : a.eval mo = .map (some b)) (h : PM w b n m) (hn : n < maxLen) (p q u : Int) (hx : a.eval x = .agg #[.int .i64 p, .int .i64 q]) (hv : a.eval v = .int .i64 u) (hp : Wf p) (hq : Wf q) (hu : Wf u)
    (hK : ∀ w', PM w' b (n + 1) (putM m p q u) → w.grownBy w' (some b) → K (a.put o.dst undef) w') :
    Oper.wp Tryz.prog o a w K Q := by
  obtain ⟨w', hrun, r1, r2⟩ := h.put hn hp hq hu
  unfold Oper.wp
  simp [execOp, hop, hm, hx, hv, hrun, Result.andThen]
  exact hK w' r1 r2
theorem lookup_yields {t : TypeId} {mv xv mv' xv' v : Value} {wx : World} (hm : mv' = mv) (hx : xv' = xv) (hrun : (Instr.lookup t mv xv false).run Tryz.prog wx = .ok v wx) : (do pure (Next.value (← Instr.lookup t mv' xv' false)) : Sem Next).run Tryz.prog wx = .ok (.value v) wx := by
  subst hm hx
  simp [hrun, Result.andThen]
/-- What the new map has behind the first n places. -/
def needP (m : Int → Int → Option Int) (P : List (Int × Int)) (n : Nat) : Int → Int → Option Int := puts (fun i => (P.getD i (0, 0)).1) (fun i => (P.getD i (0, 0)).2) (fun i => (m (P.getD i (0, 0)).1 (P.getD i (0, 0)).2).getD 0) n
/-- What the first region stands on: the columns. -/
def NdBox (w : World) (b : Nat) (v0 v1 v2 : Value) (x : World) : Prop := Blk3 x b v0 v1 v2 ∧ Below w.heap.size w x
/-- What a round's region stands on: the columns, the place, the old map. -/
def NdRnd (b g N : Nat) (m : Int → Int → Option Int) (v1 v2 : Value) (bp : Nat) (p q : Int) (x : World) : Prop := Blk3 x b (.map (some g)) v1 v2 ∧ (x.cell? ⟨bp, 0, none⟩ = some (.int .i64 p) ∧ x.cell? ⟨bp, 1, none⟩ = some (.int .i64 q)) ∧ PM x g N m
/-- What the loop stands on: the new map (the first new block), the columns, the old map, the places. -/
structure NdLoop (w : World) (b g N : Nat) (m : Int → Int → Option Int) (u1 u2 : Value) (P : List (Int × Int)) (v : Value) (n : Nat) (x : World) : Prop where
  new : PM x w.heap.size n (needP m P n)
  cols : Blk3 x b (.map (some g)) u1 u2
  old : PM x g N m
  row : Row x (w.heap.size + 1) 2 P.length (fun p => (flat P).getD p 0) v
  below : Below w.heap.size w x
theorem NdLoop.later {w x x' : World} {b g N : Nat} {m : Int → Int → Option Int} {u1 u2 : Value} {P : List (Int × Int)} {v : Value} {n : Nat} (h : NdLoop w b g N m u1 u2 P v n x) (hb : Below x.heap.size x x') : NdLoop w b g N m u1 u2 P v n x' :=
  ⟨h.new.later hb, h.cols.later hb, h.old.later hb, h.row.later hb, h.below.trans (hb.mono h.below.size)⟩
theorem NdLoop.put {w x x' : World} {b g N : Nat} {m : Int → Int → Option Int} {u1 u2 : Value} {P : List (Int × Int)} {v : Value} {n : Nat} (h : NdLoop w b g N m u1 u2 P v n x) (hb : b < w.heap.size) (hgl : g < w.heap.size) (hp : PM x' w.heap.size (n + 1) (needP m P (n + 1))) (hg : x.grownBy x' (some w.heap.size)) : NdLoop w b g N m u1 u2 P v (n + 1) x' :=
  ⟨hp, h.cols.kept (hg.block b h.cols.lt (by simp; omega)), h.old.kept (hg.block g h.old.lt (by simp; omega)), h.row.turned hg (fun h0 k hk e => by have := (h.row.lt h0 k hk).1; simp at e; omega), ⟨hg.os.trans h.below.os, hg.tape.trans h.below.tape, hg.output.trans h.below.output, Nat.le_trans h.below.size hg.size, fun i hi => (hg.block i (Nat.lt_of_lt_of_le hi h.below.size) (by simp; omega)).trans (h.below.block i hi)⟩⟩
set_option maxRecDepth 100000 in
set_option maxHeartbeats 8000000 in
theorem keepNeeded_is (B b N : Nat) (m : Int → Int → Option Int) (nl : Nat) (l : Nat → Int) (nw : Nat) (k : Nat → Int) (g : Nat) (u1 u2 : Value) (w : World) (h : Cols w B b N m nl l nw k g u1 u2) (hl : nl ≤ 200) (hw : nw ≤ 200) (hP : ∀ x y, (x, y) ∈ putP nl l nw k → (Wf x ∧ Wf y) ∧ Wf ((m x y).getD 0)) :
    Calls Tryz.prog 52 #[.pointer (some ⟨b, 0, none⟩)] w fun e w' => e = .returned (.tuple #[]) ∧ (∃ g', w.heap.size ≤ g' ∧ PM w' g' (putP nl l nw k).length (needP m (putP nl l nw k) (putP nl l nw k).length) ∧ Blk3 w' b (.map (some g')) u1 u2) ∧ w.grownBy w' (some b) := by
  obtain ⟨b1, d1, rfl⟩ := h.2.2.2.2.1.form
  obtain ⟨b2, d2, rfl⟩ := h.2.2.2.2.2.form
  have H : Hid (Cols w B b N m nl l nw k g (.slice b1 nl d1) (.slice b2 nw d2)) := h
  have HW : Hid (∀ x y, (x, y) ∈ putP nl l nw k → (Wf x ∧ Wf y) ∧ Wf ((m x y).getD 0)) := hP
  obtain ⟨s, hlen⟩ := h.2.2.2.1.len1
  have hmm := run_makeMap_i64
  have p0 := h.2.2.1.1.1
  have hbl := h.2.2.1.lt
  have hgl := h.2.2.2.1.lt
  have h0 : NdBox w b (.map (some g)) (.slice b1 nl d1) (.slice b2 nw d2) (w.alloc (.map #[] 0)).drew := ⟨h.2.2.1.alloc _, (below_alloc _ _).drew⟩
  have HM0 : Hid (PM (w.alloc (.map #[] 0)) w.heap.size 0 (fun _ _ => none)) := PM.made w
  clear h hP
  go_enter Tryz.func52, Tryz.ntmps52
  go_wp2_with fail
  refine wp_region_held_drew (S := NdBox w b (.map (some g)) (.slice b1 nl d1) (.slice b2 nw d2)) (by kernel_rfl) h0 (fun hS => ?_)
  clear h0 hlen p0
  refine tkH 0 ?_ hS (fun wx hx => ?_) ?_; rotate_left
  · obtain ⟨⟨⟨hx0, hx1, hx2⟩, _⟩, _⟩ := hx; go_simp; try with_reducible rfl
  refine tkH 1 ?_ hS (fun wx hx => ?_) ?_; rotate_left
  · obtain ⟨⟨⟨hx0, hx1, hx2⟩, _⟩, _⟩ := hx; go_simp; try with_reducible rfl
  refine tkH 2 ?_ hS (fun wx hx => ?_) ?_; rotate_left
  · obtain ⟨⟨⟨hx0, hx1, hx2⟩, _⟩, _⟩ := hx; go_simp; try with_reducible rfl
  refine tkH 3 ?_ hS (fun wx hx => ?_) ?_; rotate_left
  · obtain ⟨⟨⟨hx0, hx1, hx2⟩, _⟩, _⟩ := hx; go_simp; try with_reducible rfl
  refine tkH 4 ?_ hS (fun wx hx => ?_) ?_; rotate_left
  · obtain ⟨⟨⟨hx0, hx1, hx2⟩, _⟩, _⟩ := hx; go_simp; try with_reducible rfl
  refine tkH 5 ?_ hS (fun wx hx => ?_) ?_; rotate_left
  · obtain ⟨⟨⟨hx0, hx1, hx2⟩, _⟩, _⟩ := hx; go_simp; try with_reducible rfl
  refine tkH 6 ?_ hS (fun wx hx => ?_) ?_; rotate_left
  · obtain ⟨⟨⟨hx0, hx1, hx2⟩, _⟩, _⟩ := hx; go_simp; try with_reducible rfl
  refine tkH 7 ?_ hS (fun wx hx => ?_) ?_; rotate_left
  · obtain ⟨⟨⟨hx0, hx1, hx2⟩, _⟩, _⟩ := hx; go_simp; try with_reducible rfl
  refine tkH 10 ?_ hS (fun wx hx => ?_) ?_; rotate_left
  · obtain ⟨⟨⟨hx0, hx1, hx2⟩, _⟩, _⟩ := hx; go_simp; try with_reducible rfl
  refine rdH 8 (fun K hK => ?_)
  go_simp
  go_wp2_with fail
  refine (putPlaces_any nl l nw k B _ _ _ (H.out.2.2.2.2.1.row.1.later hS.2) (H.out.2.2.2.2.2.row.1.later hS.2) hl hw).mono ?_
  rintro e w1 ⟨v, rfl, HQ⟩
  obtain ⟨ao, cp, rfl⟩ := HQ.form
  have hbq : Below w.heap.size w w1 := hS.2.trans (HQ.2.mono hS.2.size)
  have hS' : NdBox w b (.map (some g)) (.slice b1 nl d1) (.slice b2 nw d2) w1 := ⟨hS.1.later HQ.2, hbq⟩
  obtain ⟨P, hPe⟩ : ∃ P, putP nl l nw k = P := ⟨_, rfl⟩
  have hPl : P.length ≤ 400 := by
    rw [← hPe, putP, List.length_append]
    have q0 := selP_le l 5 2 1 nl
    have q1 := selP_le k 4 3 2 nw
    omega
  have HPE : Hid (putP nl l nw k = P) := hPe
  rw [hPe] at HQ HW
  rw [hPe]
  have HNL : Hid (NdLoop w b g N m (.slice b1 nl d1) (.slice b2 nw d2) P (.slice ao P.length cp) 0 w1) := ⟨(HM0.out.later (w' := (w.alloc (.map #[] 0)).drew) (Below.refl _ _).drew).later HQ.2, hS'.1, (H.out.2.2.2.1.later hbq), by have hr := HQ.row; exact hr.mono (by simp), hbq⟩
  clear HQ hbq hPe HM0
  go_wp2_with fail
  refine hK.out _ _ hS' (fun hS => ?_)
  clear hK K hS'
  refine tkH 9 ?_ hS (fun wx hx => ?_) ?_; rotate_left
  · obtain ⟨⟨⟨hx0, hx1, hx2⟩, _⟩, _⟩ := hx; go_simp; try with_reducible rfl
  refine wpAnyH_done (by kernel_rfl) ?_ _
  go_simp
  clear hS
  go_wp2
  go_loopw [21] (fun i wr => ∃ n : Nat, n ≤ P.length ∧ i = .int .i64 n ∧ Hid (NdLoop w b g N m (.slice b1 nl d1) (.slice b2 nw d2) P (.slice ao P.length cp) n wr)) (fun i _ => P.length - (intOf i).toNat)
  case atStart => exact ⟨0, Nat.zero_le _, rfl, HNL⟩
  case round =>
    clear HNL
    obtain ⟨n, hn, rfl, HL⟩ := hrel
    by_cases hlt : n < P.length
    case neg =>
      obtain rfl : n = P.length := by omega
      obtain ⟨⟨y0, y1, y2⟩, z0, z1, z2⟩ := HL.out.cols
      have Q : Hid ((∃ g', w.heap.size ≤ g' ∧ PM (wr.setCell ⟨b, 0, none⟩ (.map (some w.heap.size))) g' P.length (needP m P P.length) ∧ Blk3 (wr.setCell ⟨b, 0, none⟩ (.map (some w.heap.size))) b (.map (some g')) (.slice b1 nl d1) (.slice b2 nw d2)) ∧ w.grownBy (wr.setCell ⟨b, 0, none⟩ (.map (some w.heap.size))) (some b)) :=
        ⟨⟨w.heap.size, Nat.le_refl _, HL.out.new.setCell (a := ⟨b, 0, none⟩) (by simp; omega) _, HL.out.cols.set0 _⟩, ⟨HL.out.below.os, HL.out.below.tape, HL.out.below.output, Nat.le_trans HL.out.below.size (by simp), fun i hi hne => (Below.heap_setCell wr _ _ i (fun e => hne (by rw [e]))).trans (HL.out.below.block i hi)⟩⟩
      go_wp2
      go_end0
      exact ⟨rfl, by rw [HPE.out]; exact Q.out.1, Q.out.2⟩
    obtain ⟨g2, o, ha, hB2, hg2, hx⟩ := HL.out.row.at hlt
    subst ha
    have x0 := hx 0 (by omega)
    have x1 := hx 1 (by omega)
    have hfa := flat_at P n hlt
    obtain ⟨p, N0⟩ : ∃ x, (P[n]'hlt).1 = x := ⟨_, rfl⟩
    obtain ⟨q, N1⟩ : ∃ x, (P[n]'hlt).2 = x := ⟨_, rfl⟩
    simp only [Nat.add_zero] at x0
    rw [hfa.1, N0] at x0
    rw [hfa.2, N1] at x1
    have hmem : (p, q) ∈ P := by rw [← N0, ← N1]; exact List.getElem_mem hlt
    obtain ⟨⟨hwp, hwq⟩, hwv⟩ := HW.out p q hmem
    obtain ⟨uv, huv⟩ : ∃ u, (m p q).getD 0 = u := ⟨_, rfl⟩
    have HUV : Hid ((m p q).getD 0 = uv) := huv
    rw [huv] at hwv
    have HWV : Hid (Wf uv) := hwv
    have HNP : Hid (needP m P (n + 1) = putM (needP m P n) p q uv) := by
      have e : P.getD n (0, 0) = (p, q) := by rw [← N0, ← N1]; simp [hlt]
      unfold Hid needP
      funext a b
      rw [puts]
      simp only [e, huv]
    have hgq : w.heap.size < wr.heap.size := HL.out.new.lt
    have hb0 : NdRnd b g N m (.slice b1 nl d1) (.slice b2 nw d2) wr.heap.size p q (wr.alloc (.cells #[.int .i64 p, .int .i64 q] 104)).drew := ⟨HL.out.cols.alloc _, ⟨World.cell?_alloc_mark wr _ _ _ 0, World.cell?_alloc_mark wr _ _ _ 1⟩, HL.out.old.alloc _⟩
    have HL2 : Hid (NdLoop w b g N m (.slice b1 nl d1) (.slice b2 nw d2) P (.slice (some ⟨g2, o, none⟩) P.length cp) n (wr.alloc (.cells #[.int .i64 p, .int .i64 q] 104)).drew) := HL.out.later (below_alloc _ _).drew
    clear hx hfa N0 N1 hmem HL hwv huv
    go_wp2_with fail
    refine wp_region_held_drew (S := NdRnd b g N m (.slice b1 nl d1) (.slice b2 nw d2) wr.heap.size p q) (by kernel_rfl) hb0 (fun hS => ?_)
    clear hb0
    refine tkH 0 ?_ hS (fun wx hx => ?_) ?_; rotate_left
    · obtain ⟨⟨⟨hx0, hx1, hx2⟩, _⟩, ⟨hx3, hx4⟩, hx5⟩ := hx; clear hx5; go_simp; try with_reducible rfl
    refine tkH 1 ?_ hS (fun wx hx => ?_) ?_; rotate_left
    · obtain ⟨⟨⟨hx0, hx1, hx2⟩, _⟩, ⟨hx3, hx4⟩, hx5⟩ := hx; clear hx5; go_simp; try with_reducible rfl
    refine tkH 2 ?_ hS (fun wx hx => ?_) ?_; rotate_left
    · obtain ⟨⟨⟨hx0, hx1, hx2⟩, _⟩, ⟨hx3, hx4⟩, hx5⟩ := hx; clear hx5; go_simp; try with_reducible rfl
    refine tkH 3 ?_ hS (fun wx hx => ?_) ?_; rotate_left
    · obtain ⟨⟨⟨hx0, hx1, hx2⟩, _⟩, ⟨hx3, hx4⟩, hx5⟩ := hx; clear hx5; go_simp; try with_reducible rfl
    refine tkH 4 ?_ hS (fun wx hx => ?_) ?_; rotate_left
    · obtain ⟨⟨⟨hx0, hx1, hx2⟩, _⟩, ⟨hx3, hx4⟩, hx5⟩ := hx; clear hx5; go_simp; try with_reducible rfl
    refine tkH 5 ?_ hS (fun wx hx => ?_) ?_; rotate_left
    · obtain ⟨⟨⟨hx0, hx1, hx2⟩, _⟩, ⟨hx3, hx4⟩, hx5⟩ := hx; clear hx5; go_simp; try with_reducible rfl
    refine tkH 6 ?_ hS (fun wx hx => ?_) ?_; rotate_left
    · obtain ⟨⟨⟨hx0, hx1, hx2⟩, _⟩, ⟨hx3, hx4⟩, hx5⟩ := hx; clear hx5; go_simp; try with_reducible rfl
    refine wpAnyH_take (i := 7) (v := .int .i64 uv) rfl (by kernel_rfl) (by kernel_rfl) (by kernel_rfl) (fun _ _ _ h => h) (Or.inl ⟨by kernel_rfl, ?_⟩) hS ?_
    · intro wx hx
      have hlk := hx.2.2.look1 hwp hwq
      rw [HUV.out] at hlk
      clear hx
      simp only [execOp, Act.eval, Act.put, List.getElem_toArray, List.getElem_cons_zero, List.getElem_cons_succ, List.setIfInBounds_toArray, List.set_cons_succ, List.set_cons_zero]
      exact lookup_yields (mv := .map (some g)) (xv := .agg #[.int .i64 p, .int .i64 q]) (by rfl) (by rfl) hlk
    refine rdH 8 (fun K hK => ?_)
    simp only [Act.put, List.getElem_toArray, List.getElem_cons_zero, List.getElem_cons_succ, List.setIfInBounds_toArray, List.set_cons_succ, List.set_cons_zero]
    rw [if_pos (by kernel_rfl)]
    refine wp_pput _ _ _ _ (by rfl) w.heap.size n (needP m P n) (by rfl) HL2.out.new (by unfold maxLen; omega) p q uv (by rfl) (by rfl) hwp hwq HWV.out ?_
    intro w3 hp3 hg3
    have hS' : NdRnd b g N m (.slice b1 nl d1) (.slice b2 nw d2) wr.heap.size p q w3 := ⟨hS.1.kept (hg3.block b hS.1.lt (by simp; omega)), ⟨(World.cell?_of_block (a := ⟨wr.heap.size, 0, none⟩) (hg3.block wr.heap.size (by simp) (by simp; omega))).trans hS.2.1.1, (World.cell?_of_block (a := ⟨wr.heap.size, 1, none⟩) (hg3.block wr.heap.size (by simp) (by simp; omega))).trans hS.2.1.2⟩, hS.2.2.kept (hg3.block g hS.2.2.lt (by simp; omega))⟩
    have HL3 : Hid (NdLoop w b g N m (.slice b1 nl d1) (.slice b2 nw d2) P (.slice (some ⟨g2, o, none⟩) P.length cp) (n + 1) w3) := HL2.out.put hbl hgl (by rw [HNP.out]; exact hp3) hg3
    go_simp
    refine hK.out _ _ hS' (fun hS => ?_)
    clear hK K hS' hS hp3 hg3 HL2
    refine wpAnyH_done (by kernel_rfl) ?_ _
    go_simp
    go_wp2
    go_roundw
    case rel => exact ⟨n + 1, by omega, by go_num, HL3⟩
    case measure => simp [intOf]; omega
end

section
open Go.RowKit Go.Maps
theorem SwE.grown {B b N : Nat} {m : Int → Int → Option Int} {nl : Nat} {l : Nat → Int} {nw : Nat} {k : Nat → Int} {g : Nat} {u1 u2 : Value} {b1 b2 : Nat} {safe : Int} {x x' : World} {q : Nat} (h : SwE B b N m nl l nw k g u1 u2 b1 b2 safe x) (hg : x.grownBy x' (some q)) (hb : b ≠ q) (hgq : g ≠ q) (h1 : u1.ownBlock ≠ some q) (h2 : u2.ownBlock ≠ some q) (h3 : b1 ≠ q) (h4 : b2 ≠ q) : SwE B b N m nl l nw k g u1 u2 b1 b2 safe x' := by
  obtain ⟨⟨c1, c2, c3, c4, c5, c6⟩, c7, c8⟩ := h
  have key : ∀ i, i < x.heap.size → i ≠ q → x'.heap[i]? = x.heap[i]? := fun i hi hne => hg.block i hi (by simp; exact hne)
  have own : ∀ {e : TypeId} {mm n : Nat} {F : Nat → Int} {v : Value}, Own x B e mm n F v → v.ownBlock ≠ some q → Own x' B e mm n F v := fun {e mm n F v} ho hne => by
    refine ⟨ho.1, ?_⟩
    rcases ho.2 with r | ⟨gg, cap, cur, rfl, hgg, hw, r⟩
    · exact Or.inl r
    · exact Or.inr ⟨gg, cap, cur, rfl, hgg, (key gg (Array.getElem?_eq_some_iff.1 hw).1 (fun e => hne (by rw [e]; rfl))).trans hw, r⟩
  exact ⟨⟨c1, c2, c3.kept (key b c3.lt hb), c4.kept (key g c4.lt hgq), own c5 h1, own c6 h2⟩, (World.cell?_of_block (w := x) (a := ⟨b1, 0, none⟩) (key b1 (World.block_lt_of_cell? x _ c7) h3)).trans c7, (World.cell?_of_block (w := x) (a := ⟨b2, 0, none⟩) (key b2 (World.block_lt_of_cell? x _ c8) h4)).trans c8⟩
/-- A lock that is not above the safe time. -/
def held (nl : Nat) (l : Nat → Int) (safe : Int) : Prop := 0 < nl ∧ lowL l nl ≤ safe
noncomputable def swN (nw : Nat) (k : Nat → Int) (safe : Int) : Nat := (selD k 4 (sweptD k nw safe) nw).length
noncomputable def swF (nw : Nat) (k : Nat → Int) (safe : Int) : Nat → Int := fun p => (selD k 4 (sweptD k nw safe) nw).flatten.getD p 0
set_option maxRecDepth 100000 in
set_option maxHeartbeats 4000000 in
theorem sweep_held (B b N : Nat) (m : Int → Int → Option Int) (nl : Nat) (l : Nat → Int) (nw : Nat) (k : Nat → Int) (g : Nat) (u1 u2 : Value) (safe : Int) (w : World) (h : Cols w B b N m nl l nw k g u1 u2) (hl : nl ≤ 200) (hh : held nl l safe) :
    Calls Tryz.prog 22 #[.pointer (some ⟨b, 0, none⟩), .int .i64 safe] w fun e w' => e = .returned (.iface 91 (.agg #[.int .i64 1])) ∧ Below w.heap.size w w' := by
  have H : Hid (Cols w B b N m nl l nw k g u1 u2) := h
  have HO : Hid (decide (0 < nl) = true) := decide_eq_true hh.1
  have hd : decide (lowL l nl ≤ safe) = true := decide_eq_true hh.2
  clear h hh
  go_enter Tryz.func22, Tryz.ntmps22
  go_wp2_with fail
  refine (oldestStart_is B b N m nl l nw k g _ _ _ H.out hl).mono ?_
  rw [HO.out]
  rintro e w1 ⟨rfl, q1⟩
  have Q : Hid (Below w.heap.size w w1) := q1
  clear q1
  go_wp2
  go_ret
  exact ⟨rfl, Q.out⟩
set_option maxRecDepth 100000 in
set_option maxHeartbeats 8000000 in
theorem sweep_is (B b N : Nat) (m : Int → Int → Option Int) (nl : Nat) (l : Nat → Int) (nw : Nat) (k : Nat → Int) (g : Nat) (u1 u2 : Value) (safe : Int) (w : World) (h : Cols w B b N m nl l nw k g u1 u2) (hA : ApartC b g u1 u2) (hl : nl ≤ 200) (hw : nw ≤ 200) (hk : ∀ i, i < nw → 1 ≤ k (i * 4 + 3)) (hh : ¬ held nl l safe) (hP : ∀ x y, (x, y) ∈ putP nl l (swN nw k safe) (swF nw k safe) → (Wf x ∧ Wf y) ∧ Wf ((m x y).getD 0)) :
    Calls Tryz.prog 22 #[.pointer (some ⟨b, 0, none⟩), .int .i64 safe] w fun e w' => e = .returned .nilIface ∧ (∃ g' v2, Cols w' B b (putP nl l (swN nw k safe) (swF nw k safe)).length (needP m (putP nl l (swN nw k safe) (swF nw k safe)) (putP nl l (swN nw k safe) (swF nw k safe)).length) nl l (swN nw k safe) (swF nw k safe) g' u1 v2) ∧ Below B w w' := by
  obtain ⟨b1, d1, rfl⟩ := h.2.2.2.2.1.form
  obtain ⟨b2, d2, rfl⟩ := h.2.2.2.2.2.form
  have H : Hid (Cols w B b N m nl l nw k g (.slice b1 nl d1) (.slice b2 nw d2)) := h
  have HA : Hid (ApartC b g (.slice b1 nl d1) (.slice b2 nw d2)) := hA
  have HK : Hid (∀ i, i < nw → 1 ≤ k (i * 4 + 3)) := hk
  have HPP : Hid (∀ x y, (x, y) ∈ putP nl l (swN nw k safe) (swF nw k safe) → (Wf x ∧ Wf y) ∧ Wf ((m x y).getD 0)) := hP
  obtain ⟨ok, hok⟩ : ∃ ok, decide (0 < nl) = ok := ⟨_, rfl⟩
  have HO : Hid (decide (0 < nl) = ok) := hok
  have hd : ok = true → decide (lowL l nl ≤ safe) = false := fun e => decide_eq_false (fun q => hh ⟨of_decide_eq_true (hok.trans e), q⟩)
  clear h hA hk hP hh hok
  cases ok with
  | true =>
    have hdd := hd rfl
    clear hd
    go_enter Tryz.func22, Tryz.ntmps22
    go_wp2_with fail
    refine (oldestStart_is B b N m nl l nw k g _ _ _ H.out hl).mono ?_
    rw [HO.out]
    rintro e w1 ⟨rfl, q1⟩
    have HC1 : Hid (Cols w1 B b N m nl l nw k g (.slice b1 nl d1) (.slice b2 nw d2)) := H.out.later q1
    have HQ1 : Hid (Below w.heap.size w w1) := q1
    have p2 := HC1.out.2.2.1.1.2.2
    clear q1
    go_wp2_with fail
    refine (cloneWrites_any nw k _ B _ HC1.out.2.2.2.2.2.row.1 (by omega)).mono ?_
    rintro e w2 ⟨vc, rfl, ho2, q2⟩
    obtain ⟨e2, f2, rfl⟩ := ho2.form
    have HO2 : Hid (Own w2 w1.heap.size 38 4 nw k (.slice e2 nw f2)) := ho2
    have HC2 : Hid (Cols w2 B b N m nl l nw k g (.slice b1 nl d1) (.slice b2 nw d2)) := HC1.out.later q2
    have HQ2 : Hid (Below w1.heap.size w1 w2) := q2
    clear ho2 q2 p2
    go_wp2_with fail
    refine (sweptAt_is b safe _).mono ?_
    rintro e w3 ⟨rfl, hw3⟩
    have hb3 : Below w2.heap.size w2 w3 := by rw [hw3]; exact (below_alloc _ _).alloc (by simp) _
    have HO3 : Hid (Own w3 w1.heap.size 38 4 nw k (.slice e2 nw f2)) := HO2.out.later hb3
    have HE3 : Hid (SwE B b N m nl l nw k g (.slice b1 nl d1) (.slice b2 nw d2) w2.heap.size (w2.heap.size + 1) safe w3) := by
      refine ⟨HC2.out.later hb3, ?_, ?_⟩
      · rw [hw3]
        exact ((below_alloc _ _).cell (p := ⟨w2.heap.size, 0, none⟩) (by simp)).trans (World.cell?_alloc_mark w2 _ _ _ 0)
      · rw [hw3]
        have := World.cell?_alloc_mark (w2.alloc (.cells #[.pointer (some ⟨b, 0, none⟩)] 53)) #[.int .i64 safe] 2 (0, 0) 0
        rw [World.size_alloc] at this
        exact this
    have HQ3 : Hid (Below w2.heap.size w2 w3) := hb3
    have hbs : Hid (b < w.heap.size ∧ g < w.heap.size ∧ w.heap.size ≤ w1.heap.size ∧ w1.heap.size ≤ w2.heap.size ∧ w2.heap.size ≤ w3.heap.size) := ⟨H.out.2.2.1.lt, H.out.2.2.2.1.lt, HQ1.out.size, HQ2.out.size, hb3.size⟩
    have HU : Hid ((∀ q, (Value.slice b1 nl d1).ownBlock = some q → q < w.heap.size) ∧ ∀ q, (Value.slice b2 nw d2).ownBlock = some q → q < w.heap.size) := ⟨fun q hq => (own_in H.out.2.2.2.2.1 q hq).2, fun q hq => (own_in H.out.2.2.2.2.2 q hq).2⟩
    have HV : Hid (∀ q, (Value.slice e2 nw f2).ownBlock = some q → w1.heap.size ≤ q ∧ q < w2.heap.size) := fun q hq => own_in HO2.out q hq
    clear hw3 hb3 HC2 HO2
    unfold sweptV
    go_wp2_with fail
    refine (deleteSwept_is w2.heap.size (w2.heap.size + 1) (SwE B b N m nl l nw k g (.slice b1 nl d1) (.slice b2 nw d2) w2.heap.size (w2.heap.size + 1) safe) (sweptD k nw safe) (fun x n0 n1 n2 n3 hx => swept_is B b N m nl l nw k g (.slice b1 nl d1) (.slice b2 nw d2) w2.heap.size (w2.heap.size + 1) safe hw HK.out x n0 n1 n2 n3 hx) (fun _ _ hx hb => hx.later hb) w1.heap.size nw k _ w3 HO3.out hw HE3.out (fun x x' q hq hx hgx => hx.grown hgx (by have := HV.out q hq; have := hbs.out; omega) (by have := HV.out q hq; have := hbs.out; omega) (fun e => by have := HV.out q hq; have := hbs.out; have := HU.out.1 q e; omega) (fun e => by have := HV.out q hq; have := hbs.out; have := HU.out.2 q e; omega) (by have := HV.out q hq; omega) (by have := HV.out q hq; omega))).mono ?_
    rintro e w4 ⟨v4, rfl, ⟨ho4, hob4⟩, hg4, hE4⟩
    obtain ⟨e4, f4, rfl⟩ := ho4.form
    have HO4 : Hid (Own w4 w1.heap.size 38 4 (swN nw k safe) (swF nw k safe) (.slice e4 (swN nw k safe) f4)) := ho4
    have hbl4 : b < w4.heap.size := by have := hbs.out; have := hg4.size; omega
    have hB4 := hE4.1.2.2.1
    have HV4 : Hid (∀ q, (Value.slice e4 (swN nw k safe) f4).ownBlock = some q → w1.heap.size ≤ q) := fun q hq => (own_in ho4 q hq).1
    obtain ⟨ns, hns⟩ : ∃ n, (selD k 4 (sweptD k nw safe) nw).length = n := ⟨_, rfl⟩
    have HNS : Hid (swN nw k safe = ns) := hns
    have hnsl : ns ≤ 200 := by rw [← hns]; exact Nat.le_trans (selD_le k 4 _ nw) hw
    rw [hns]
    have HC5 : Hid (Cols (w4.setCell ⟨b, 2, none⟩ (.slice e4 ns f4)) B b N m nl l ns (swF nw k safe) g (.slice b1 nl d1) (.slice e4 ns f4)) := by
      have hX := HNS.out
      rw [hX] at HO4 HV4
      refine ⟨hE4.1.1, hE4.1.2.1, hB4.set2 _, hE4.1.2.2.2.1.setCell (a := ⟨b, 2, none⟩) HA.out.1 _, own_kept hE4.1.2.2.2.2.1 (fun q hq => Below.heap_setCell _ _ _ q (HA.out.2.1 q hq).1), own_kept (HO4.out.mono (by have := hbs.out; have := H.out.1; omega)) (fun q hq => Below.heap_setCell _ _ _ q (by have := HV4.out q hq; have := hbs.out; simp; omega))⟩
    have HBB : Hid (Below B w (w4.setCell ⟨b, 2, none⟩ (.slice e4 ns f4))) := by
      have hBl : B ≤ b := H.out.1
      have h13 : Below w.heap.size w w3 := (HQ1.out.trans (HQ2.out.mono HQ1.out.size)).trans (HQ3.out.mono (by have := hbs.out; omega))
      refine Below.setCell (B := B) ⟨hg4.os.trans h13.os, hg4.tape.trans h13.tape, hg4.output.trans h13.output, Nat.le_trans h13.size hg4.size, fun i hi => (hg4.block i (by have := hbs.out; omega) (fun e => by have := (HV.out i e.symm).1; have := hbs.out; omega)).trans (h13.block i (by have := hbs.out; omega))⟩ (by simp; exact hBl) _
    obtain ⟨⟨y0, y1, y2⟩, z0, z1, z2⟩ := hB4
    have HPX : Hid (∀ x y, (x, y) ∈ putP nl l ns (swF nw k safe) → (Wf x ∧ Wf y) ∧ Wf ((m x y).getD 0)) := by unfold Hid; rw [← HNS.out]; exact HPP.out
    have HVB : Hid (∀ q, (Value.slice e4 ns f4).ownBlock = some q → q ≠ b) := fun q hq e => by
      have := HV4.out q (by rw [HNS.out]; exact hq)
      have := hbs.out
      omega
    clear ho4 hob4 hg4 hE4 HO4 HV4 hns HE3 HO3
    go_wp2_with fail
    refine (keepNeeded_is B b N m nl l ns (swF nw k safe) g _ _ _ HC5.out hl hnsl HPX.out).mono ?_
    rintro e w6 ⟨rfl, ⟨g6, hg6, hP6, hB6⟩, hgr6⟩
    have HF : Hid ((∃ g' v2, Cols w6 B b (putP nl l ns (swF nw k safe)).length (needP m (putP nl l ns (swF nw k safe)) (putP nl l ns (swF nw k safe)).length) nl l ns (swF nw k safe) g' (.slice b1 nl d1) v2) ∧ Below B w w6) := by
      have own6 : ∀ {e : TypeId} {mm n : Nat} {F : Nat → Int} {v : Value}, Own (w4.setCell ⟨b, 2, none⟩ (.slice e4 ns f4)) B e mm n F v → (∀ q, v.ownBlock = some q → q ≠ b) → Own w6 B e mm n F v := fun ho hne => own_kept ho (fun q hq => hgr6.block q (own_in ho q hq).2 (by simp; exact hne q hq))
      refine ⟨⟨g6, _, HC5.out.1, Nat.le_trans HC5.out.1 (Nat.le_of_lt (Nat.lt_of_lt_of_le HC5.out.2.2.1.lt hg6)), hB6, hP6, own6 HC5.out.2.2.2.2.1 (fun q hq => (HA.out.2.1 q hq).1), own6 HC5.out.2.2.2.2.2 HVB.out⟩, HBB.out.trans ⟨hgr6.os, hgr6.tape, hgr6.output, hgr6.size, fun i hi => hgr6.block i (Nat.lt_of_lt_of_le (by have := HC5.out.1; have := hbs.out; omega) HBB.out.size) (by have := HC5.out.1; simp; omega)⟩⟩
    clear hg6 hP6 hB6 hgr6
    go_wp2
    go_ret
    exact ⟨rfl, by rw [HNS.out]; exact HF.out.1, HF.out.2⟩
  | false =>
    clear hd
    go_enter Tryz.func22, Tryz.ntmps22
    go_wp2_with fail
    refine (oldestStart_is B b N m nl l nw k g _ _ _ H.out hl).mono ?_
    rw [HO.out]
    rintro e w1 ⟨rfl, q1⟩
    have HC1 : Hid (Cols w1 B b N m nl l nw k g (.slice b1 nl d1) (.slice b2 nw d2)) := H.out.later q1
    have HQ1 : Hid (Below w.heap.size w w1) := q1
    have p2 := HC1.out.2.2.1.1.2.2
    clear q1
    go_wp2_with fail
    refine (cloneWrites_any nw k _ B _ HC1.out.2.2.2.2.2.row.1 (by omega)).mono ?_
    rintro e w2 ⟨vc, rfl, ho2, q2⟩
    obtain ⟨e2, f2, rfl⟩ := ho2.form
    have HO2 : Hid (Own w2 w1.heap.size 38 4 nw k (.slice e2 nw f2)) := ho2
    have HC2 : Hid (Cols w2 B b N m nl l nw k g (.slice b1 nl d1) (.slice b2 nw d2)) := HC1.out.later q2
    have HQ2 : Hid (Below w1.heap.size w1 w2) := q2
    clear ho2 q2 p2
    go_wp2_with fail
    refine (sweptAt_is b safe _).mono ?_
    rintro e w3 ⟨rfl, hw3⟩
    have hb3 : Below w2.heap.size w2 w3 := by rw [hw3]; exact (below_alloc _ _).alloc (by simp) _
    have HO3 : Hid (Own w3 w1.heap.size 38 4 nw k (.slice e2 nw f2)) := HO2.out.later hb3
    have HE3 : Hid (SwE B b N m nl l nw k g (.slice b1 nl d1) (.slice b2 nw d2) w2.heap.size (w2.heap.size + 1) safe w3) := by
      refine ⟨HC2.out.later hb3, ?_, ?_⟩
      · rw [hw3]
        exact ((below_alloc _ _).cell (p := ⟨w2.heap.size, 0, none⟩) (by simp)).trans (World.cell?_alloc_mark w2 _ _ _ 0)
      · rw [hw3]
        have := World.cell?_alloc_mark (w2.alloc (.cells #[.pointer (some ⟨b, 0, none⟩)] 53)) #[.int .i64 safe] 2 (0, 0) 0
        rw [World.size_alloc] at this
        exact this
    have HQ3 : Hid (Below w2.heap.size w2 w3) := hb3
    have hbs : Hid (b < w.heap.size ∧ g < w.heap.size ∧ w.heap.size ≤ w1.heap.size ∧ w1.heap.size ≤ w2.heap.size ∧ w2.heap.size ≤ w3.heap.size) := ⟨H.out.2.2.1.lt, H.out.2.2.2.1.lt, HQ1.out.size, HQ2.out.size, hb3.size⟩
    have HU : Hid ((∀ q, (Value.slice b1 nl d1).ownBlock = some q → q < w.heap.size) ∧ ∀ q, (Value.slice b2 nw d2).ownBlock = some q → q < w.heap.size) := ⟨fun q hq => (own_in H.out.2.2.2.2.1 q hq).2, fun q hq => (own_in H.out.2.2.2.2.2 q hq).2⟩
    have HV : Hid (∀ q, (Value.slice e2 nw f2).ownBlock = some q → w1.heap.size ≤ q ∧ q < w2.heap.size) := fun q hq => own_in HO2.out q hq
    clear hw3 hb3 HC2 HO2
    unfold sweptV
    go_wp2_with fail
    refine (deleteSwept_is w2.heap.size (w2.heap.size + 1) (SwE B b N m nl l nw k g (.slice b1 nl d1) (.slice b2 nw d2) w2.heap.size (w2.heap.size + 1) safe) (sweptD k nw safe) (fun x n0 n1 n2 n3 hx => swept_is B b N m nl l nw k g (.slice b1 nl d1) (.slice b2 nw d2) w2.heap.size (w2.heap.size + 1) safe hw HK.out x n0 n1 n2 n3 hx) (fun _ _ hx hb => hx.later hb) w1.heap.size nw k _ w3 HO3.out hw HE3.out (fun x x' q hq hx hgx => hx.grown hgx (by have := HV.out q hq; have := hbs.out; omega) (by have := HV.out q hq; have := hbs.out; omega) (fun e => by have := HV.out q hq; have := hbs.out; have := HU.out.1 q e; omega) (fun e => by have := HV.out q hq; have := hbs.out; have := HU.out.2 q e; omega) (by have := HV.out q hq; omega) (by have := HV.out q hq; omega))).mono ?_
    rintro e w4 ⟨v4, rfl, ⟨ho4, hob4⟩, hg4, hE4⟩
    obtain ⟨e4, f4, rfl⟩ := ho4.form
    have HO4 : Hid (Own w4 w1.heap.size 38 4 (swN nw k safe) (swF nw k safe) (.slice e4 (swN nw k safe) f4)) := ho4
    have hbl4 : b < w4.heap.size := by have := hbs.out; have := hg4.size; omega
    have hB4 := hE4.1.2.2.1
    have HV4 : Hid (∀ q, (Value.slice e4 (swN nw k safe) f4).ownBlock = some q → w1.heap.size ≤ q) := fun q hq => (own_in ho4 q hq).1
    obtain ⟨ns, hns⟩ : ∃ n, (selD k 4 (sweptD k nw safe) nw).length = n := ⟨_, rfl⟩
    have HNS : Hid (swN nw k safe = ns) := hns
    have hnsl : ns ≤ 200 := by rw [← hns]; exact Nat.le_trans (selD_le k 4 _ nw) hw
    rw [hns]
    have HC5 : Hid (Cols (w4.setCell ⟨b, 2, none⟩ (.slice e4 ns f4)) B b N m nl l ns (swF nw k safe) g (.slice b1 nl d1) (.slice e4 ns f4)) := by
      have hX := HNS.out
      rw [hX] at HO4 HV4
      refine ⟨hE4.1.1, hE4.1.2.1, hB4.set2 _, hE4.1.2.2.2.1.setCell (a := ⟨b, 2, none⟩) HA.out.1 _, own_kept hE4.1.2.2.2.2.1 (fun q hq => Below.heap_setCell _ _ _ q (HA.out.2.1 q hq).1), own_kept (HO4.out.mono (by have := hbs.out; have := H.out.1; omega)) (fun q hq => Below.heap_setCell _ _ _ q (by have := HV4.out q hq; have := hbs.out; simp; omega))⟩
    have HBB : Hid (Below B w (w4.setCell ⟨b, 2, none⟩ (.slice e4 ns f4))) := by
      have hBl : B ≤ b := H.out.1
      have h13 : Below w.heap.size w w3 := (HQ1.out.trans (HQ2.out.mono HQ1.out.size)).trans (HQ3.out.mono (by have := hbs.out; omega))
      refine Below.setCell (B := B) ⟨hg4.os.trans h13.os, hg4.tape.trans h13.tape, hg4.output.trans h13.output, Nat.le_trans h13.size hg4.size, fun i hi => (hg4.block i (by have := hbs.out; omega) (fun e => by have := (HV.out i e.symm).1; have := hbs.out; omega)).trans (h13.block i (by have := hbs.out; omega))⟩ (by simp; exact hBl) _
    obtain ⟨⟨y0, y1, y2⟩, z0, z1, z2⟩ := hB4
    have HPX : Hid (∀ x y, (x, y) ∈ putP nl l ns (swF nw k safe) → (Wf x ∧ Wf y) ∧ Wf ((m x y).getD 0)) := by unfold Hid; rw [← HNS.out]; exact HPP.out
    have HVB : Hid (∀ q, (Value.slice e4 ns f4).ownBlock = some q → q ≠ b) := fun q hq e => by
      have := HV4.out q (by rw [HNS.out]; exact hq)
      have := hbs.out
      omega
    clear ho4 hob4 hg4 hE4 HO4 HV4 hns HE3 HO3
    go_wp2_with fail
    refine (keepNeeded_is B b N m nl l ns (swF nw k safe) g _ _ _ HC5.out hl hnsl HPX.out).mono ?_
    rintro e w6 ⟨rfl, ⟨g6, hg6, hP6, hB6⟩, hgr6⟩
    have HF : Hid ((∃ g' v2, Cols w6 B b (putP nl l ns (swF nw k safe)).length (needP m (putP nl l ns (swF nw k safe)) (putP nl l ns (swF nw k safe)).length) nl l ns (swF nw k safe) g' (.slice b1 nl d1) v2) ∧ Below B w w6) := by
      have own6 : ∀ {e : TypeId} {mm n : Nat} {F : Nat → Int} {v : Value}, Own (w4.setCell ⟨b, 2, none⟩ (.slice e4 ns f4)) B e mm n F v → (∀ q, v.ownBlock = some q → q ≠ b) → Own w6 B e mm n F v := fun ho hne => own_kept ho (fun q hq => hgr6.block q (own_in ho q hq).2 (by simp; exact hne q hq))
      refine ⟨⟨g6, _, HC5.out.1, Nat.le_trans HC5.out.1 (Nat.le_of_lt (Nat.lt_of_lt_of_le HC5.out.2.2.1.lt hg6)), hB6, hP6, own6 HC5.out.2.2.2.2.1 (fun q hq => (HA.out.2.1 q hq).1), own6 HC5.out.2.2.2.2.2 HVB.out⟩, HBB.out.trans ⟨hgr6.os, hgr6.tape, hgr6.output, hgr6.size, fun i hi => hgr6.block i (Nat.lt_of_lt_of_le (by have := HC5.out.1; have := hbs.out; omega) HBB.out.size) (by have := HC5.out.1; simp; omega)⟩⟩
    clear hg6 hP6 hB6 hgr6
    go_wp2
    go_ret
    exact ⟨rfl, by rw [HNS.out]; exact HF.out.1, HF.out.2⟩
end

section
open Go.RowKit Go.Maps Go.Sort Go.Shelf Go.Lib
theorem selD_mem {F : Nat → Int} {m : Nat} {D : List Int → Bool} {x : List Int} : ∀ {k : Nat}, x ∈ selD F m D k → ∃ i, i < k ∧ x = struD F m i ∧ D x = false
  | 0, h => by simp [selD] at h
  | k + 1, h => by
    cases e : D (struD F m k) with
    | true =>
      rw [selD_gone e] at h
      obtain ⟨i, hi, r⟩ := selD_mem h
      exact ⟨i, by omega, r⟩
    | false =>
      rw [selD_kept e] at h
      rcases List.mem_append.1 h with h | h
      · obtain ⟨i, hi, r⟩ := selD_mem h
        exact ⟨i, by omega, r⟩
      · simp at h
        subst h
        exact ⟨k, by omega, rfl, e⟩
theorem selD_in {F : Nat → Int} {m : Nat} {D : List Int → Bool} {i : Nat} (h : D (struD F m i) = false) : ∀ {k : Nat}, i < k → struD F m i ∈ selD F m D k
  | 0, hi => by omega
  | k + 1, hi => by
    by_cases q : i = k
    · subst q; rw [selD_kept h]; simp
    · cases e : D (struD F m k) with
      | true => rw [selD_gone e]; exact selD_in h (by omega)
      | false => rw [selD_kept e]; exact List.mem_append.2 (Or.inl (selD_in h (by omega)))
theorem selD_rise {F : Nat → Int} {m : Nat} (hm : 2 ≤ m) {D : List Int → Bool} {n : Nat} (hr : ∀ j, j < n → ∀ i, i < j → pairLt (F (i * m)) (F (i * m + 1)) (F (j * m)) (F (j * m + 1))) : ∀ k, k ≤ n → (selD F m D k).Pairwise (Lt2 (fun x => x.getD 0 0) (fun x => x.getD 1 0))
  | 0, _ => by simp [selD]
  | k + 1, hk => by
    have ih := selD_rise hm (D := D) hr k (by omega)
    cases e : D (struD F m k) with
    | true => rw [selD_gone e]; exact ih
    | false =>
      rw [selD_kept e]
      refine List.pairwise_append.2 ⟨ih, by simp, ?_⟩
      intro x hx y hy
      simp at hy
      subst hy
      obtain ⟨i, hi, rfl, _⟩ := selD_mem hx
      have := hr k (by omega) i hi
      show (struD F m i).getD 0 0 < (struD F m k).getD 0 0 ∨ (struD F m i).getD 0 0 = (struD F m k).getD 0 0 ∧ (struD F m i).getD 1 0 < (struD F m k).getD 1 0
      rw [struD_get F m i 0 (by omega), struD_get F m k 0 (by omega), struD_get F m i 1 (by omega), struD_get F m k 1 (by omega)]
      exact this
/-- Number q of the struct number j of what is kept. -/
theorem selD_num {F : Nat → Int} {m : Nat} {D : List Int → Bool} {k j : Nat} (hj : j < (selD F m D k).length) : ∃ i, i < k ∧ D (struD F m i) = false ∧ ∀ q, q < m → (selD F m D k).flatten.getD (j * m + q) 0 = F (i * m + q) := by
  obtain ⟨i, hi, e, hd⟩ := selD_mem (List.getElem_mem hj)
  refine ⟨i, hi, by rw [← e]; exact hd, fun q hq => ?_⟩
  have hlt : j * m + q < (selD F m D k).length * m := by
    calc j * m + q < j * m + m := by omega
      _ = (j + 1) * m := by rw [Nat.succ_mul]
      _ ≤ (selD F m D k).length * m := Nat.mul_le_mul_right m hj
  rw [flat_get (m := m) _ _ (selD_len F m D k) hlt]
  have d1 : (j * m + q) / m = j := by rw [Nat.mul_comm, Nat.mul_add_div (by omega), Nat.div_eq_of_lt hq, Nat.add_zero]
  have d2 : (j * m + q) % m = q := by rw [Nat.mul_comm, Nat.mul_add_mod, Nat.mod_eq_of_lt hq]
  rw [d1, d2]
  have e2 : (selD F m D k).getD j [] = struD F m i := by
    rw [← e]
    simp [hj]
  rw [e2, struD_get F m i q hq]
/-- The places of all puts that stay. -/
noncomputable def swP (S : Sto) (safe : Int) : List (Int × Int) := putP S.nl S.l (swN S.nw S.k safe) (swF S.nw S.k safe)
theorem swP_sub {S : Sto} {safe x y : Int} (h : (x, y) ∈ swP S safe) : (x, y) ∈ putP S.nl S.l S.nw S.k := by
  unfold swP putP at h
  unfold putP
  rcases List.mem_append.1 h with q | q
  · exact List.mem_append.2 (Or.inl q)
  · refine List.mem_append.2 (Or.inr ?_)
    obtain ⟨j, hj, h1, h2, h3⟩ := (selP_mem _ _ _).1 q
    obtain ⟨i, hi, _, hn⟩ := selD_num (F := S.k) (m := 4) (D := sweptD S.k S.nw safe) (k := S.nw) (j := j) hj
    have g0 := hn 0 (by omega)
    rw [Nat.add_zero, Nat.add_zero] at g0
    unfold swF at h1 h2 h3
    exact (selP_mem _ _ _).2 ⟨i, hi, by rw [← hn 3 (by omega)]; exact h1, by rw [← g0]; exact h2, by rw [← hn 2 (by omega)]; exact h3⟩
/-- A cell that no put needs. -/
noncomputable def goneC (P : List (Int × Int)) (t : List Int) : Bool := decide (¬ (t.getD 0 0, t.getD 1 0) ∈ P)
noncomputable def sweepS (S : Sto) (safe : Int) : Sto := ⟨(selD S.c 3 (goneC (swP S safe)) S.nc).length, fun p => (selD S.c 3 (goneC (swP S safe)) S.nc).flatten.getD p 0, S.nl, S.l, swN S.nw S.k safe, swF S.nw S.k safe⟩
theorem needP_some {m : Int → Int → Option Int} {P : List (Int × Int)} {x y v : Int} : needP m P P.length x y = some v ↔ (x, y) ∈ P ∧ v = (m x y).getD 0 := by
  have get : ∀ i (hi : i < P.length), P.getD i (0, 0) = P[i]'hi := fun i hi => by simp [hi]
  constructor
  · intro h
    obtain ⟨i, hi, h1, h2, h3⟩ := puts_some h
    rw [get i hi] at h1 h2 h3
    refine ⟨?_, ?_⟩
    · have := List.getElem_mem hi
      rw [show P[i]'hi = (x, y) from Prod.ext h1 h2] at this
      exact this
    · rw [← h3, h1, h2]
  · rintro ⟨hm, rfl⟩
    obtain ⟨i, hi, e⟩ := List.mem_iff_getElem.1 hm
    have hs : (needP m P P.length x y).isSome = true := (puts_has _ _ _ x y _).2 ⟨i, hi, by rw [get i hi, e], by rw [get i hi, e]⟩
    obtain ⟨u, hu⟩ := Option.isSome_iff_exists.1 hs
    obtain ⟨j, hj, h1, h2, h3⟩ := puts_some hu
    rw [hu, ← h3, h1, h2]
theorem sweep_map {S : Sto} {safe : Int} (hz : storeF S = 0) : MapRow (needP (cellM S S.nc) (swP S safe) (swP S safe).length) (sweepS S safe).nc (sweepS S safe).c := by
  obtain ⟨_, z0, z1, z2, hN, _⟩ := storeF_zero hz
  have hneed := putP_needs.2 hN
  refine mapRow_list (selD_len _ _ _ _) (selD_rise (by omega) (n := S.nc) (cells_rise z0) S.nc (Nat.le_refl _)) (fun x y v hm => ?_) (fun x y v hx hy hm => ?_)
  · obtain ⟨i, hi, e, hd⟩ := selD_mem hm
    unfold goneC at hd
    have hin : (x, y) ∈ swP S safe := by
      have := of_decide_eq_false hd
      simpa using this
    refine ⟨putP_wf (scan_zero z1) (scan_zero z2) (swP_sub hin), ?_⟩
    rw [struD_three] at e
    simp at e
    obtain ⟨rfl, rfl, rfl⟩ := e
    refine needP_some.2 ⟨hin, ?_⟩
    rw [cellM_at z0 hi ⟨rfl, rfl⟩]
    rfl
  · obtain ⟨hin, rfl⟩ := needP_some.1 hm
    obtain ⟨i, hi, h1, h2⟩ := hneed x y (swP_sub hin)
    have e := cellM_at z0 hi ⟨h1, h2⟩
    rw [e]
    have hs : struD S.c 3 i = [x, y, S.c (i * 3 + 2)] := by rw [struD_three, h1, h2]
    show [x, y, S.c (i * 3 + 2)] ∈ _
    rw [← hs]
    refine selD_in ?_ hi
    rw [hs]
    unfold goneC
    exact decide_eq_false (fun q => q hin)
end

section
open Go.RowKit Go.Maps
/-- What SweepStore answers. -/
def SweepAns (S : Sto) (safe c : Int) (R : Sto) : Prop := (storeF S ≠ 0 ∧ c = storeF S ∧ R = emptyS) ∨ (storeF S = 0 ∧ ¬ isT safe ∧ c = 3 ∧ R = emptyS) ∨ (storeF S = 0 ∧ isT safe ∧ held S.nl S.l safe ∧ c = 7 ∧ R = emptyS) ∨ (storeF S = 0 ∧ isT safe ∧ ¬ held S.nl S.l safe ∧ c = 0 ∧ R = sweepS S safe)
theorem SweepAns.get (S : Sto) (safe : Int) : ∃ c R, (R.nc ≤ 1048576 ∧ R.nl ≤ 1048576 ∧ R.nw ≤ 1048576) ∧ SweepAns S safe c R := by
  by_cases hz : storeF S = 0
  · by_cases ht : isT safe
    · by_cases hh : held S.nl S.l safe
      · exact ⟨7, emptyS, ⟨Nat.zero_le _, Nat.zero_le _, Nat.zero_le _⟩, Or.inr (Or.inr (Or.inl ⟨hz, ht, hh, rfl, rfl⟩))⟩
      · have Z := (storeF_zero hz).1
        have h0 := selD_le S.c 3 (goneC (swP S safe)) S.nc
        have h2 := selD_le S.k 4 (sweptD S.k S.nw safe) S.nw
        exact ⟨0, sweepS S safe, ⟨Nat.le_trans h0 (by omega), show S.nl ≤ _ by omega, Nat.le_trans h2 (by omega)⟩, Or.inr (Or.inr (Or.inr ⟨hz, ht, hh, rfl, rfl⟩))⟩
    · exact ⟨3, emptyS, ⟨Nat.zero_le _, Nat.zero_le _, Nat.zero_le _⟩, Or.inr (Or.inl ⟨hz, ht, rfl, rfl⟩)⟩
  · exact ⟨storeF S, emptyS, ⟨Nat.zero_le _, Nat.zero_le _, Nat.zero_le _⟩, Or.inl ⟨hz, rfl, rfl⟩⟩
set_option maxRecDepth 100000 in
set_option maxHeartbeats 4000000 in
theorem storeUnless_hit (b : Nat) (k c : Int) (h : codeOf k c) (hc : c ≠ 0) (w : World) (hL : Laid w) :
    Calls Tryz.prog 21 #[.iface 91 (.agg #[.int .i64 k]), .pointer (some ⟨b, 0, none⟩)] w (ResSto w c emptyS) := by
  have HL : Hid (Laid (w.alloc (.cells #[.int .i64 0, .slice none 0 0, .slice none 0 0, .slice none 0 0] 32))) := hL.later (below_alloc _ _)
  have HC : Hid (codeOf k c) := h
  have hcn : (c == 0) = false := beq_eq_false_iff_ne.2 hc
  clear hL h hc
  unfold ResSto
  go_enter Tryz.func21, Tryz.ntmps21
  go_wp2_with fail
  refine (refusalCode_hit k c HC.out _ HL.out).mono ?_
  rintro e w1 ⟨rfl, q1⟩
  have Q : Hid (Blk4 w1 w.heap.size (.int .i64 0) (.slice none 0 0) (.slice none 0 0) (.slice none 0 0) ∧ Below w.heap.size w w1) := ⟨(Blk4.new w _ _ _ _ _).later q1, (below_alloc _ _).trans (q1.mono (by simp))⟩
  obtain ⟨⟨r0, r1, r2, r3⟩, f0, f1, f2, f3⟩ := Q.out.1
  clear q1
  go_wp2
  exact bodyPost_ret (v := .agg #[.int .i64 c, .slice none 0 0, .slice none 0 0, .slice none 0 0]) (by simp [results, Tryz.results21, go_sem, r0, r1, r2, r3]) rfl ⟨none, 0, none, 0, none, 0, rfl, empty_sto _ _, (((Q.out.2.setCell (Nat.le_refl _) _).setCell (Nat.le_refl _) _).setCell (Nat.le_refl _) _).setCell (Nat.le_refl _) _⟩
set_option maxRecDepth 100000 in
set_option maxHeartbeats 4000000 in
theorem storeUnless_nil (b : Nat) (R : Sto) (w : World) (hs : ∀ x, Below w.heap.size w x → Calls Tryz.prog 49 #[.pointer (some ⟨b, 0, none⟩)] x (NewSto x R)) :
    Calls Tryz.prog 21 #[.nilIface, .pointer (some ⟨b, 0, none⟩)] w (ResSto w 0 R) := by
  have HS : Hid (∀ x, Below w.heap.size w x → Calls Tryz.prog 49 #[.pointer (some ⟨b, 0, none⟩)] x (NewSto x R)) := hs
  clear hs
  unfold ResSto
  go_enter Tryz.func21, Tryz.ntmps21
  go_wp2_with fail
  refine (refusalCode_nil _).mono ?_
  rintro e w1 ⟨rfl, q1⟩
  have Q : Hid (Blk4 w1 w.heap.size (.int .i64 0) (.slice none 0 0) (.slice none 0 0) (.slice none 0 0) ∧ Below w.heap.size w w1) := ⟨(Blk4.new w _ _ _ _ _).later q1, (below_alloc _ _).trans (q1.mono (by simp))⟩
  clear q1
  go_wp2_with fail
  refine (HS.out w1 Q.out.2).mono ?_
  rintro e w4 ⟨d0, e0, d1, e1, d2, e2, rfl, ⟨s3, f3', a3⟩, q4⟩
  have z1 : Hid (w.heap.size + 1 ≤ w1.heap.size) := Q.out.1.lt
  have S3 : Hid ((St w4 (w.heap.size + 1) R (.slice d0 R.nc e0) (.slice d1 R.nl e1) (.slice d2 R.nw e2) ∧ FreeS w4 R (.slice d0 R.nc e0) (.slice d1 R.nl e1) (.slice d2 R.nw e2)) ∧ ApartD R (.slice d0 R.nc e0) (.slice d1 R.nl e1) (.slice d2 R.nw e2)) := ⟨⟨s3.mono z1.out, f3'⟩, a3⟩
  have HBW : Hid (Below w.heap.size w w4) := Q.out.2.trans (q4.mono Q.out.2.size)
  obtain ⟨⟨r0, r1, r2, r3⟩, f0, f1, f2, f3⟩ := Q.out.1.later q4
  clear s3 f3' a3 q4
  have hlo : (w.heap.size : Nat) < w.heap.size + 1 := Nat.lt_succ_self _
  go_wp2
  exact bodyPost_ret (v := .agg #[.int .i64 0, .slice d0 R.nc e0, .slice d1 R.nl e1, .slice d2 R.nw e2]) (by simp [results, Tryz.results21, go_sem, r0, r1, r2, r3]) rfl ⟨d0, e0, d1, e1, d2, e2, rfl, ⟨((((S3.out.1.1.far hlo _).far hlo _).far hlo _).far hlo _).mono (by omega), (((S3.out.1.2.far _ _).far _ _).far _ _).far _ _, S3.out.2⟩, (((HBW.out.setCell (Nat.le_refl _) _).setCell (Nat.le_refl _) _).setCell (Nat.le_refl _) _).setCell (Nat.le_refl _) _⟩
set_option maxRecDepth 100000 in
set_option maxHeartbeats 8000000 in
theorem implSweepStore_is (S : Sto) (v0 v1 v2 : Value) (safe c : Int) (R : Sto) (B : Nat) (w : World) (h : St w B S v0 v1 v2) (hL : Laid w) (hA : SweepAns S safe c R) :
    Calls Tryz.prog 6 #[.agg #[v0, v1, v2], .int .i64 safe] w (ResSto w c R) := by
  obtain ⟨a0, c0, a1, c1, a2, c2, rfl, rfl, rfl⟩ := h.form
  have HE : Hid (CallSto w B S (.slice a0 S.nc c0) (.slice a1 S.nl c1) (.slice a2 S.nw c2) ((w.alloc (.cells #[.slice a0 S.nc c0, .slice a1 S.nl c1, .slice a2 S.nw c2] 28)).alloc (.cells #[.int .i64 0, .slice none 0 0, .slice none 0 0, .slice none 0 0] 32))) := CallSto.new h _ _
  have HL : Hid (Laid w) := hL
  clear h hL
  unfold ResSto
  rcases hA with ⟨hz, rfl, rfl⟩ | ⟨hz, ht, rfl, rfl⟩ | ⟨hz, ht, hh, rfl, rfl⟩ | ⟨hz, ht, hh, rfl, rfl⟩
  · obtain ⟨f, hf⟩ : ∃ f, storeF S = f := ⟨_, rfl⟩
    have HF : Hid (storeF S = f) := hf
    have hfn : (f == 0) = false := beq_eq_false_iff_ne.2 (by rw [← hf]; exact hz)
    rw [hf]
    clear hz hf
    go_enter Tryz.func6, Tryz.ntmps6
    go_wp2_with fail
    refine (implFault_any S _ _ _ B _ HE.out.2.2.1).mono ?_
    rw [HF.out]
    rintro e w1 ⟨rfl, q1⟩
    have HE : Hid (CallSto w B S (.slice a0 S.nc c0) (.slice a1 S.nl c1) (.slice a2 S.nw c2) w1) := HE.out.later q1
    obtain ⟨⟨⟨p0, p1, p2⟩, _⟩, ⟨⟨r0, r1, r2, r3⟩, f0, f1, f2, f3⟩, _⟩ := HE.out
    clear q1
    go_wp2
    exact bodyPost_ret (v := .agg #[.int .i64 f, .slice none 0 0, .slice none 0 0, .slice none 0 0]) (by simp [results, Tryz.results6, go_sem, r0, r1, r2, r3]) rfl ⟨none, 0, none, 0, none, 0, rfl, empty_sto _ _, (((HE.out.2.2.2.setCell (Nat.le_succ _) _).setCell (Nat.le_succ _) _).setCell (Nat.le_succ _) _).setCell (Nat.le_succ _) _⟩
  · have HA : Hid (storeF S = 0) := hz
    have HT : Hid (decide (1 ≤ safe ∧ safe ≤ 100000) = false) := decide_eq_false ht
    clear hz ht
    go_enter Tryz.func6, Tryz.ntmps6
    go_wp2_with fail
    refine (implFault_any S _ _ _ B _ HE.out.2.2.1).mono ?_
    rw [HA.out]
    rintro e w1 ⟨rfl, q1⟩
    have HE : Hid (CallSto w B S (.slice a0 S.nc c0) (.slice a1 S.nl c1) (.slice a2 S.nw c2) w1) := HE.out.later q1
    obtain ⟨⟨⟨p0, p1, p2⟩, _⟩, ⟨⟨r0, r1, r2, r3⟩, f0, f1, f2, f3⟩, _⟩ := HE.out
    clear q1
    go_wp2_with fail
    refine (isTime_is safe false HT.out _).mono ?_
    rintro e w2 ⟨rfl, rfl⟩
    go_wp2
    exact bodyPost_ret (v := .agg #[.int .i64 3, .slice none 0 0, .slice none 0 0, .slice none 0 0]) (by simp [results, Tryz.results6, go_sem, r0, r1, r2, r3]) rfl ⟨none, 0, none, 0, none, 0, rfl, empty_sto _ _, (((HE.out.2.2.2.setCell (Nat.le_succ _) _).setCell (Nat.le_succ _) _).setCell (Nat.le_succ _) _).setCell (Nat.le_succ _) _⟩
  · have HA : Hid (storeF S = 0) := hz
    have Z := storeF_zero hz
    have HZ : Hid (scan (cellF S.c) S.nc = 0 ∧ (S.nc ≤ 200 ∧ S.nl ≤ 200 ∧ S.nw ≤ 200)) := ⟨Z.2.1, Z.1⟩
    have HT : Hid (decide (1 ≤ safe ∧ safe ≤ 100000) = true) := decide_eq_true ht
    have HH : Hid (held S.nl S.l safe) := hh
    clear hz ht hh Z
    go_enter Tryz.func6, Tryz.ntmps6
    go_wp2_with fail
    refine (implFault_any S _ _ _ B _ HE.out.2.2.1).mono ?_
    rw [HA.out]
    rintro e w1 ⟨rfl, q1⟩
    have HE : Hid (CallSto w B S (.slice a0 S.nc c0) (.slice a1 S.nl c1) (.slice a2 S.nw c2) w1) := HE.out.later q1
    obtain ⟨⟨⟨p0, p1, p2⟩, _⟩, ⟨⟨r0, r1, r2, r3⟩, f0, f1, f2, f3⟩, _⟩ := HE.out
    clear q1
    go_wp2_with fail
    refine (isTime_is safe true HT.out _).mono ?_
    rintro e w1' ⟨rfl, rfl⟩
    go_wp2_with fail
    refine (columnsOf_apart S B _ _ _ _ HE.out.2.2.1 HZ.out.2.1 HZ.out.2.2.1 HZ.out.2.2.2 HZ.out.1).mono ?_
    rintro e w2 ⟨b, g, u1, u2, rfl, hC, hap, q1⟩
    clear p0 p1 p2 r0 r1 r2 r3 f0 f1 f2 f3
    have HC : Hid (Cols w2 w1'.heap.size b S.nc (cellM S S.nc) S.nl S.l S.nw S.k g u1 u2 ∧ ApartC b g u1 u2) := ⟨hC, hap⟩
    have zw : Hid (w.heap.size + 2 ≤ w1'.heap.size) := HE.out.2.1.lt
    have HE : Hid (CallSto w B S (.slice a0 S.nc c0) (.slice a1 S.nl c1) (.slice a2 S.nw c2) w2) := HE.out.later q1
    clear q1 hC hap
    go_wp2_with fail
    refine (sweep_held _ b _ _ _ _ _ _ g u1 u2 safe _ HC.out.1 HZ.out.2.2.1 HH.out).mono ?_
    rintro e w3 ⟨rfl, q3⟩
    have HR3 : Hid (Blk4 w3 (w.heap.size + 1) (.int .i64 0) (.slice none 0 0) (.slice none 0 0) (.slice none 0 0) ∧ Below w.heap.size w w3) := ⟨HE.out.2.1.later q3, HE.out.2.2.2.trans (q3.mono HE.out.2.2.2.size)⟩
    have z3 : Hid (w.heap.size + 2 ≤ w3.heap.size) := HR3.out.1.lt
    clear q3 HE HC
    go_wp2_with fail
    refine (storeUnless_hit b 1 7 (Or.inr (Or.inl ⟨rfl, rfl⟩)) (by decide) w3 (HL.out.later HR3.out.2)).mono ?_
    rintro e w4 ⟨d0, e0, d1, e1, d2, e2, rfl, ⟨s3, f3', a3⟩, q4⟩
    have S3 : Hid ((St w4 (w.heap.size + 2) emptyS (.slice d0 (emptyS).nc e0) (.slice d1 (emptyS).nl e1) (.slice d2 (emptyS).nw e2) ∧ FreeS w4 emptyS (.slice d0 (emptyS).nc e0) (.slice d1 (emptyS).nl e1) (.slice d2 (emptyS).nw e2)) ∧ ApartD emptyS (.slice d0 (emptyS).nc e0) (.slice d1 (emptyS).nl e1) (.slice d2 (emptyS).nw e2)) := ⟨⟨s3.mono z3.out, f3'⟩, a3⟩
    have HBW : Hid (Below w.heap.size w w4) := HR3.out.2.trans (q4.mono HR3.out.2.size)
    obtain ⟨⟨r0, r1, r2, r3⟩, f0, f1, f2, f3⟩ := HR3.out.1.later q4
    clear s3 f3' a3 q4
    have hlo : (w.heap.size + 1 : Nat) < w.heap.size + 2 := Nat.lt_succ_self _
    go_wp2
    exact bodyPost_ret (v := .agg #[.int .i64 7, .slice d0 emptyS.nc e0, .slice d1 emptyS.nl e1, .slice d2 emptyS.nw e2]) (by simp [results, Tryz.results6, go_sem, r0, r1, r2, r3]) rfl ⟨d0, e0, d1, e1, d2, e2, rfl, ⟨((((S3.out.1.1.far hlo _).far hlo _).far hlo _).far hlo _).mono (by omega), (((S3.out.1.2.far _ _).far _ _).far _ _).far _ _, S3.out.2⟩, (((HBW.out.setCell (Nat.le_succ _) _).setCell (Nat.le_succ _) _).setCell (Nat.le_succ _) _).setCell (Nat.le_succ _) _⟩
  · have HA : Hid (storeF S = 0) := hz
    have Z := storeF_zero hz
    have HZ : Hid (scan (cellF S.c) S.nc = 0 ∧ (S.nc ≤ 200 ∧ S.nl ≤ 200 ∧ S.nw ≤ 200)) := ⟨Z.2.1, Z.1⟩
    have HT : Hid (decide (1 ≤ safe ∧ safe ≤ 100000) = true) := decide_eq_true ht
    have HH : Hid (¬ held S.nl S.l safe) := hh
    have HKD : Hid (∀ i, i < S.nw → 1 ≤ S.k (i * 4 + 3)) := fun i hi => (writeF_zero (scan_zero Z.2.2.2.1 i hi)).2.2.2.2.2.1
    have HPP : Hid (∀ x y, (x, y) ∈ putP S.nl S.l (swN S.nw S.k safe) (swF S.nw S.k safe) → (Wf x ∧ Wf y) ∧ Wf ((cellM S S.nc x y).getD 0)) := fun x y hm => by
      have hs := swP_sub (S := S) (safe := safe) hm
      refine ⟨putP_wf (scan_zero Z.2.2.1) (scan_zero Z.2.2.2.1) hs, ?_⟩
      obtain ⟨i, hi, h1, h2⟩ := putP_needs.2 Z.2.2.2.2.1 x y hs
      rw [cellM_at Z.2.1 hi ⟨h1, h2⟩]
      have hc := cellF_zero (scan_zero Z.2.1 i hi)
      show Wf (S.c (i * 3 + 2))
      exact wf_small hc.2.2.2.1 (by omega)
    have HST : Hid (∀ (b g : Nat) (x : World) (Bx : Nat) (y1 y2 : Value), Cols x Bx b (putP S.nl S.l (swN S.nw S.k safe) (swF S.nw S.k safe)).length (needP (cellM S S.nc) (putP S.nl S.l (swN S.nw S.k safe) (swF S.nw S.k safe)) (putP S.nl S.l (swN S.nw S.k safe) (swF S.nw S.k safe)).length) S.nl S.l (swN S.nw S.k safe) (swF S.nw S.k safe) g y1 y2 → Calls Tryz.prog 49 #[.pointer (some ⟨b, 0, none⟩)] x (NewSto x (sweepS S safe))) := fun b g x Bx y1 y2 hx => by
      have hk : swN S.nw S.k safe ≤ S.nw := selD_le S.k 4 (sweptD S.k S.nw safe) S.nw
      have hp : (putP S.nl S.l (swN S.nw S.k safe) (swF S.nw S.k safe)).length ≤ 400 := by
        rw [putP, List.length_append]
        have q0 := selP_le S.l 5 2 1 S.nl
        have q1 := selP_le (swF S.nw S.k safe) 4 3 2 (swN S.nw S.k safe)
        omega
      exact store_is Bx b _ _ _ _ _ _ g y1 y2 x hx (by omega) (by omega) hp _ _ (sweep_map hz)
    generalize sweepS S safe = R at HST ⊢
    clear hz ht hh Z
    go_enter Tryz.func6, Tryz.ntmps6
    go_wp2_with fail
    refine (implFault_any S _ _ _ B _ HE.out.2.2.1).mono ?_
    rw [HA.out]
    rintro e w1 ⟨rfl, q1⟩
    have HE : Hid (CallSto w B S (.slice a0 S.nc c0) (.slice a1 S.nl c1) (.slice a2 S.nw c2) w1) := HE.out.later q1
    obtain ⟨⟨⟨p0, p1, p2⟩, _⟩, ⟨⟨r0, r1, r2, r3⟩, f0, f1, f2, f3⟩, _⟩ := HE.out
    clear q1
    go_wp2_with fail
    refine (isTime_is safe true HT.out _).mono ?_
    rintro e w1' ⟨rfl, rfl⟩
    go_wp2_with fail
    refine (columnsOf_apart S B _ _ _ _ HE.out.2.2.1 HZ.out.2.1 HZ.out.2.2.1 HZ.out.2.2.2 HZ.out.1).mono ?_
    rintro e w2 ⟨b, g, u1, u2, rfl, hC, hap, q1⟩
    clear p0 p1 p2 r0 r1 r2 r3 f0 f1 f2 f3
    have HC : Hid (Cols w2 w1'.heap.size b S.nc (cellM S S.nc) S.nl S.l S.nw S.k g u1 u2 ∧ ApartC b g u1 u2) := ⟨hC, hap⟩
    have zw : Hid (w.heap.size + 2 ≤ w1'.heap.size) := HE.out.2.1.lt
    have HE : Hid (CallSto w B S (.slice a0 S.nc c0) (.slice a1 S.nl c1) (.slice a2 S.nw c2) w2) := HE.out.later q1
    clear q1 hC hap
    go_wp2_with fail
    refine (sweep_is _ b _ _ _ _ _ _ g u1 u2 safe _ HC.out.1 HC.out.2 HZ.out.2.2.1 HZ.out.2.2.2 HKD.out HH.out HPP.out).mono ?_
    rintro e w3 ⟨rfl, ⟨g', v2, hC3⟩, hb3⟩
    have HC3 : Hid (Cols w3 w1'.heap.size b (putP S.nl S.l (swN S.nw S.k safe) (swF S.nw S.k safe)).length (needP (cellM S S.nc) (putP S.nl S.l (swN S.nw S.k safe) (swF S.nw S.k safe)) (putP S.nl S.l (swN S.nw S.k safe) (swF S.nw S.k safe)).length) S.nl S.l (swN S.nw S.k safe) (swF S.nw S.k safe) g' u1 v2) := hC3
    have HR3 : Hid (Blk4 w3 (w.heap.size + 1) (.int .i64 0) (.slice none 0 0) (.slice none 0 0) (.slice none 0 0) ∧ Below w.heap.size w w3) := ⟨HE.out.2.1.kept (hb3.block (w.heap.size + 1) (by have := zw.out; omega)), HE.out.2.2.2.trans (hb3.mono (by have := zw.out; omega))⟩
    have z3 : Hid (w.heap.size + 2 ≤ w3.heap.size) := HR3.out.1.lt
    clear hC3 hb3 HE HC
    go_wp2_with fail
    refine (storeUnless_nil b R w3 (fun x hx => HST.out b g' x _ _ _ (HC3.out.later hx))).mono ?_
    rintro e w4 ⟨d0, e0, d1, e1, d2, e2, rfl, ⟨s3, f3', a3⟩, q4⟩
    have S3 : Hid ((St w4 (w.heap.size + 2) R (.slice d0 (R).nc e0) (.slice d1 (R).nl e1) (.slice d2 (R).nw e2) ∧ FreeS w4 R (.slice d0 (R).nc e0) (.slice d1 (R).nl e1) (.slice d2 (R).nw e2)) ∧ ApartD R (.slice d0 (R).nc e0) (.slice d1 (R).nl e1) (.slice d2 (R).nw e2)) := ⟨⟨s3.mono z3.out, f3'⟩, a3⟩
    have HBW : Hid (Below w.heap.size w w4) := HR3.out.2.trans (q4.mono HR3.out.2.size)
    obtain ⟨⟨r0, r1, r2, r3⟩, f0, f1, f2, f3⟩ := HR3.out.1.later q4
    clear s3 f3' a3 q4
    have hlo : (w.heap.size + 1 : Nat) < w.heap.size + 2 := Nat.lt_succ_self _
    go_wp2
    exact bodyPost_ret (v := .agg #[.int .i64 0, .slice d0 R.nc e0, .slice d1 R.nl e1, .slice d2 R.nw e2]) (by simp [results, Tryz.results6, go_sem, r0, r1, r2, r3]) rfl ⟨d0, e0, d1, e1, d2, e2, rfl, ⟨((((S3.out.1.1.far hlo _).far hlo _).far hlo _).far hlo _).mono (by omega), (((S3.out.1.2.far _ _).far _ _).far _ _).far _ _, S3.out.2⟩, (((HBW.out.setCell (Nat.le_succ _) _).setCell (Nat.le_succ _) _).setCell (Nat.le_succ _) _).setCell (Nat.le_succ _) _⟩
end
end Go.Proofs.YtnikdbebfofcaaaGreatDoor

