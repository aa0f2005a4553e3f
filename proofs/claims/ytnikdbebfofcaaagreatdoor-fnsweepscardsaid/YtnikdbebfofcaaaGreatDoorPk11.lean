/-
  Own text, merged of SwpK, SwpL, SwpM, SwpW.
-/
import Derived.Test.YtnikdbebfofcaaaGreatDoorPk10
namespace Go.Proofs.YtnikdbebfofcaaaGreatDoor
open Go.RowKit

theorem selD_is (F : Nat → Int) (m : Nat) (D : List Int → Bool) : ∀ n, selD F m D n = (listF m n F).filter (fun t => !D t)
  | 0 => rfl
  | n + 1 => by
    have e : listF m (n + 1) F = listF m n F ++ [struD F m n] := by simp [listF, List.range_succ]
    show selD F m D n ++ _ = _
    rw [e, List.filter_append, selD_is F m D n]
    congr 1
    cases q : D (struD F m n) <;> simp [q]
/-- The rows of a swept store. -/
theorem sweep_lists (S : Sto) (safe : Int) : listF 3 (sweepS S safe).nc (sweepS S safe).c = (listF 3 S.nc S.c).filter (fun t => !goneC (swP S safe) t) ∧ listF 4 (sweepS S safe).nw (sweepS S safe).k = (listF 4 S.nw S.k).filter (fun t => !sweptD S.k S.nw safe t) := by
  constructor
  · have h := listF_of (m := 3) (by omega) (R := (listF 3 S.nc S.c).filter (fun t => !goneC (swP S safe) t)) (fun t ht => listF_all t (List.mem_filter.1 ht).1)
    unfold sweepS
    rw [selD_is S.c 3]
    exact h
  · have h := listF_of (m := 4) (by omega) (R := (listF 4 S.nw S.k).filter (fun t => !sweptD S.k S.nw safe t)) (fun t ht => listF_all t (List.mem_filter.1 ht).1)
    unfold sweepS swN swF
    rw [selD_is S.k 4]
    exact h
/-- Two rows whose numbers are alike have the same fault. -/
theorem scan_same {G H : Nat → Int} : ∀ {n : Nat}, (∀ i, i < n → G i = H i) → scan G n = scan H n
  | 0, _ => rfl
  | n + 1, h => by
    have ih := scan_same (n := n) (fun i hi => h i (by omega))
    rw [scan, scan, ih, h n (by omega)]
theorem at_list {m n : Nat} {F : Nat → Int} {i q : Nat} (hi : i < n) (hq : q < m) : flatF (listF m n F) (i * m + q) = F (i * m + q) := by
  refine listF_flat (by omega) ?_
  calc i * m + q < i * m + m := by omega
    _ = (i + 1) * m := by rw [Nat.succ_mul]
    _ ≤ n * m := Nat.mul_le_mul_right m hi
theorem storeF_lists (S : Sto) : storeF S = storeF (stoOf (listF 3 S.nc S.c) (listF 5 S.nl S.l) (listF 4 S.nw S.k)) := by
  have lc : (listF 3 S.nc S.c).length = S.nc := listF_len _ _ _
  have ll : (listF 5 S.nl S.l).length = S.nl := listF_len _ _ _
  have lw : (listF 4 S.nw S.k).length = S.nw := listF_len _ _ _
  have c0 : ∀ {i : Nat}, i < S.nc → flatF (listF 3 S.nc S.c) (i * 3) = S.c (i * 3) := fun hi => at_list hi (by omega : 0 < 3)
  have cq : ∀ {i q : Nat}, i < S.nc → q < 3 → flatF (listF 3 S.nc S.c) (i * 3 + q) = S.c (i * 3 + q) := fun hi hq => at_list hi hq
  have l0 : ∀ {i : Nat}, i < S.nl → flatF (listF 5 S.nl S.l) (i * 5) = S.l (i * 5) := fun hi => at_list hi (by omega : 0 < 5)
  have lq : ∀ {i q : Nat}, i < S.nl → q < 5 → flatF (listF 5 S.nl S.l) (i * 5 + q) = S.l (i * 5 + q) := fun hi hq => at_list hi hq
  have w0 : ∀ {i : Nat}, i < S.nw → flatF (listF 4 S.nw S.k) (i * 4) = S.k (i * 4) := fun hi => at_list hi (by omega : 0 < 4)
  have wq : ∀ {i q : Nat}, i < S.nw → q < 4 → flatF (listF 4 S.nw S.k) (i * 4 + q) = S.k (i * 4 + q) := fun hi hq => at_list hi hq
  have e1 : scan (cellF (flatF (listF 3 S.nc S.c))) S.nc = scan (cellF S.c) S.nc := scan_same (fun i hi => by
    have hi' : i - 1 < S.nc := by omega
    unfold cellF
    rw [c0 hi, cq hi (by omega), cq hi (by omega), c0 hi', cq hi' (by omega)])
  have e2 : scan (lockF (flatF (listF 5 S.nl S.l))) S.nl = scan (lockF S.l) S.nl := scan_same (fun i hi => by
    have hi' : i - 1 < S.nl := by omega
    unfold lockF
    rw [l0 hi, lq hi (by omega), lq hi (by omega), lq hi (by omega), lq hi (by omega), l0 hi'])
  have e3 : scan (writeF (flatF (listF 4 S.nw S.k))) S.nw = scan (writeF S.k) S.nw := scan_same (fun i hi => by
    have hi' : i - 1 < S.nw := by omega
    have hf : fits (flatF (listF 4 S.nw S.k)) i ↔ fits S.k i := by
      unfold fits
      rw [wq hi (by omega), wq hi (by omega), wq hi (by omega)]
    unfold writeF
    rw [w0 hi, wq hi (by omega), wq hi (by omega), wq hi (by omega), w0 hi', wq hi' (by omega)]
    simp only [hf])
  have hcell : ∀ a b, hasCell (stoOf (listF 3 S.nc S.c) (listF 5 S.nl S.l) (listF 4 S.nw S.k)) S.nc a b ↔ hasCell S S.nc a b := fun a b => by
    constructor
    · rintro ⟨i, hi, q1, q2⟩
      have q1' : flatF (listF 3 S.nc S.c) (i * 3) = a := q1
      have q2' : flatF (listF 3 S.nc S.c) (i * 3 + 1) = b := q2
      rw [c0 hi] at q1'
      rw [cq hi (by omega)] at q2'
      exact ⟨i, hi, q1', q2'⟩
    · rintro ⟨i, hi, q1, q2⟩
      refine ⟨i, hi, ?_, ?_⟩
      · show flatF (listF 3 S.nc S.c) (i * 3) = a
        rw [c0 hi]; exact q1
      · show flatF (listF 3 S.nc S.c) (i * 3 + 1) = b
        rw [cq hi (by omega)]; exact q2
  have hwr : ∀ n, n ≤ S.nw → ∀ a b, hasWrite (stoOf (listF 3 S.nc S.c) (listF 5 S.nl S.l) (listF 4 S.nw S.k)) n a b ↔ hasWrite S n a b := fun n hn a b => by
    constructor
    · rintro ⟨i, hi, q1, q2⟩
      have hi' : i < S.nw := by omega
      have q1' : flatF (listF 4 S.nw S.k) (i * 4) = a := q1
      have q2' : flatF (listF 4 S.nw S.k) (i * 4 + 2) = b := q2
      rw [w0 hi'] at q1'
      rw [wq hi' (by omega)] at q2'
      exact ⟨i, hi, q1', q2'⟩
    · rintro ⟨i, hi, q1, q2⟩
      have hi' : i < S.nw := by omega
      refine ⟨i, hi, ?_, ?_⟩
      · show flatF (listF 4 S.nw S.k) (i * 4) = a
        rw [w0 hi']; exact q1
      · show flatF (listF 4 S.nw S.k) (i * 4 + 2) = b
        rw [wq hi' (by omega)]; exact q2
  have hneed : needs (stoOf (listF 3 S.nc S.c) (listF 5 S.nl S.l) (listF 4 S.nw S.k)) ↔ needs S := by
    unfold needs putW putL stoOf
    simp only [lc, ll, lw]
    refine and_congr (forall_congr' fun i => ?_) (forall_congr' fun i => ?_)
    · refine imp_congr_right (fun hi => ?_)
      rw [wq hi (by omega), wq hi (by omega), w0 hi]
      exact imp_congr_right (fun _ => by have := hcell (S.k (i * 4)) (S.k (i * 4 + 2)); unfold stoOf at this; simp only [lc, ll, lw] at this; exact this)
    · refine imp_congr_right (fun hi => ?_)
      rw [lq hi (by omega), lq hi (by omega), l0 hi]
      exact imp_congr_right (fun _ => by have := hcell (S.l (i * 5)) (S.l (i * 5 + 1)); unfold stoOf at this; simp only [lc, ll, lw] at this; exact this)
  have honce : once (stoOf (listF 3 S.nc S.c) (listF 5 S.nl S.l) (listF 4 S.nw S.k)) ↔ once S := by
    unfold once onceW onceL
    have hn1 : (stoOf (listF 3 S.nc S.c) (listF 5 S.nl S.l) (listF 4 S.nw S.k)).nw = S.nw := lw
    have hn2 : (stoOf (listF 3 S.nc S.c) (listF 5 S.nl S.l) (listF 4 S.nw S.k)).nl = S.nl := ll
    rw [hn1, hn2]
    refine and_congr (forall_congr' fun i => ?_) (forall_congr' fun i => ?_)
    · refine imp_congr_right (fun hi => not_congr ?_)
      show hasWrite _ i (flatF (listF 4 S.nw S.k) (i * 4)) (flatF (listF 4 S.nw S.k) (i * 4 + 2)) ↔ _
      rw [w0 hi, wq hi (by omega)]
      exact hwr i (by omega) _ _
    · refine imp_congr_right (fun hi => not_congr ?_)
      show hasWrite _ S.nw (flatF (listF 5 S.nl S.l) (i * 5)) (flatF (listF 5 S.nl S.l) (i * 5 + 1)) ↔ _
      rw [l0 hi, lq hi (by omega)]
      exact hwr S.nw (Nat.le_refl _) _ _
  have n0 : (stoOf (listF 3 S.nc S.c) (listF 5 S.nl S.l) (listF 4 S.nw S.k)).nc = S.nc := lc
  have n1 : (stoOf (listF 3 S.nc S.c) (listF 5 S.nl S.l) (listF 4 S.nw S.k)).nl = S.nl := ll
  have n2 : (stoOf (listF 3 S.nc S.c) (listF 5 S.nl S.l) (listF 4 S.nw S.k)).nw = S.nw := lw
  have k0' : scan (cellF (stoOf (listF 3 S.nc S.c) (listF 5 S.nl S.l) (listF 4 S.nw S.k)).c) S.nc = scan (cellF S.c) S.nc := e1
  have k1' : scan (lockF (stoOf (listF 3 S.nc S.c) (listF 5 S.nl S.l) (listF 4 S.nw S.k)).l) S.nl = scan (lockF S.l) S.nl := e2
  have k2' : scan (writeF (stoOf (listF 3 S.nc S.c) (listF 5 S.nl S.l) (listF 4 S.nw S.k)).k) S.nw = scan (writeF S.k) S.nw := e3
  unfold storeF
  rw [n0, n1, n2, k0', k1', k2']
  rw [propext hneed, propext honce]
theorem ok_store {S : Sto} (h : OkS (listF 3 S.nc S.c) (listF 5 S.nl S.l) (listF 4 S.nw S.k)) : storeF S = 0 := by
  rw [storeF_lists]
  exact of_okS h
section
variable {S : Sto} {safe : Int}
/-- A row of what is left is a row of what was. -/
theorem left_row {j : Nat} (hz : storeF S = 0) (hj : j < (sweepS S safe).nw) : ∃ i, i < S.nw ∧ stayW S.k S.nw safe i ∧ ∀ q, q < 4 → (sweepS S safe).k (j * 4 + q) = S.k (i * 4 + q) := by
  obtain ⟨i, hi, hd, e⟩ := selD_num hj
  exact ⟨i, hi, (stay_is (storeF_zero hz).2.2.2.1 hi).1 hd, e⟩
/-- What stays is a row of what is left. -/
theorem stay_row {i : Nat} (hz : storeF S = 0) (hi : i < S.nw) (hs : stayW S.k S.nw safe i) : ∃ j, j < (sweepS S safe).nw ∧ ∀ q, q < 4 → (sweepS S safe).k (j * 4 + q) = S.k (i * 4 + q) := by
  have hd := (stay_is (storeF_zero hz).2.2.2.1 hi).2 hs
  have hm := selD_in hd hi
  obtain ⟨j, hj, e⟩ := List.getElem_of_mem hm
  refine ⟨j, hj, fun q hq => ?_⟩
  have hw : ∀ t ∈ selD S.k 4 (sweptD S.k S.nw safe) S.nw, t.length = 4 := fun t ht => by
    obtain ⟨i', _, rfl, _⟩ := selD_mem ht
    exact struD_len _ _ _
  have f := flatF_at hw hj hq
  rw [List.getD_eq_getElem?_getD (l := selD S.k 4 (sweptD S.k S.nw safe) S.nw), List.getElem?_eq_getElem hj, e] at f
  show flatF (selD S.k 4 (sweptD S.k S.nw safe) S.nw) (j * 4 + q) = S.k (i * 4 + q)
  rw [f]
  exact sg hq
theorem row0 {k k' : Nat → Int} {i j : Nat} (h : ∀ q, q < 4 → k (j * 4 + q) = k' (i * 4 + q)) : k (j * 4) = k' (i * 4) := h 0 (by omega)
/-- The last write is that of the greatest time. -/
theorem last_max {S : Sto} (hz : storeF S = 0) {key ts : Int} {i : Nat} : lastW S.k S.nw key ts i ↔ i < S.nw ∧ lastP S.k key ts i ∧ ∀ j, j < S.nw → lastP S.k key ts j → S.k (j * 4 + 1) ≤ S.k (i * 4 + 1) := by
  have hr := writes_rise (storeF_zero hz).2.2.2.1
  constructor
  · rintro ⟨h1, h2, h3⟩
    refine ⟨h1, h2, fun j hj hp => ?_⟩
    rcases Nat.lt_or_ge i j with q | q
    · exact absurd hp (h3 j q hj)
    · rcases Nat.lt_or_ge j i with q2 | q2
      · have := hr i h1 j q2
        unfold pairLt at this
        have e1 := h2.1
        have e2 := hp.1
        omega
      · obtain rfl : i = j := by omega
        exact Int.le_refl _
  · rintro ⟨h1, h2, h3⟩
    refine ⟨h1, h2, fun j hij hj hp => ?_⟩
    have := hr j hj i hij
    unfold pairLt at this
    have e1 := h2.1
    have e2 := hp.1
    have := h3 j hj hp
    omega
theorem lastP_row {k k' : Nat → Int} {i j : Nat} {key ts : Int} (h : ∀ q, q < 4 → k (j * 4 + q) = k' (i * 4 + q)) : lastP k key ts j ↔ lastP k' key ts i := by
  unfold lastP
  rw [row0 h, h 1 (by omega), h 3 (by omega)]
/-- A put that is the last one at a time from the safe one on stays. -/
theorem last_stays (hz : storeF S = 0) {key ts : Int} {i : Nat} (ht : safe ≤ ts) (h : lastW S.k S.nw key ts i) (h1 : S.k (i * 4 + 3) = 1) : stayW S.k S.nw safe i := by
  obtain ⟨a, b, c⟩ := (last_max hz).1 h
  by_cases q : safe < S.k (i * 4 + 1)
  · exact Or.inl q
  · refine Or.inr ⟨(last_max hz).2 ⟨a, ⟨rfl, by omega, b.2.2⟩, fun j hj hp => c j hj ⟨by rw [hp.1]; exact b.1, by have := hp.2.1; omega, hp.2.2⟩⟩, h1⟩
/-- The last put of what is left is the last of what was. -/
theorem left_last (hz : storeF S = 0) (hr : storeF (sweepS S safe) = 0) {key ts : Int} {i j : Nat} (_ : safe ≤ ts) (hi : i < S.nw) (hs : stayW S.k S.nw safe i) (e : ∀ q, q < 4 → (sweepS S safe).k (j * 4 + q) = S.k (i * 4 + q)) (hj : j < (sweepS S safe).nw) : lastW (sweepS S safe).k (sweepS S safe).nw key ts j ↔ lastW S.k S.nw key ts i := by
  rw [last_max hr, last_max hz]
  constructor
  · rintro ⟨_, b, c⟩
    have b' := (lastP_row e).1 b
    refine ⟨hi, b', fun i' hi' hp => ?_⟩
    by_cases q : S.k (i' * 4 + 1) ≤ S.k (i * 4 + 1)
    · exact q
    · by_cases q2 : safe < S.k (i' * 4 + 1)
      · obtain ⟨j', hj', e'⟩ := stay_row (safe := safe) hz hi' (Or.inl q2)
        have := c j' hj' ((lastP_row e').2 hp)
        rw [e' 1 (by omega), e 1 (by omega)] at this
        exact this
      · rcases hs with hs | ⟨hs, _⟩
        · omega
        · have hm := (last_max hz).1 hs
          have := hm.2.2 i' hi' ⟨by rw [hp.1, b'.1], by omega, hp.2.2⟩
          exact this
  · rintro ⟨_, b, c⟩
    refine ⟨hj, (lastP_row e).2 b, fun j' hj' hp => ?_⟩
    obtain ⟨i', hi', _, e'⟩ := left_row (safe := safe) hz hj'
    have := c i' hi' ((lastP_row e').1 hp)
    rw [e' 1 (by omega), e 1 (by omega)]
    exact this
theorem swP_mem {a b : Int} : (a, b) ∈ swP S safe ↔ (∃ i, i < S.nl ∧ S.l (i * 5 + 2) = 1 ∧ S.l (i * 5) = a ∧ S.l (i * 5 + 1) = b) ∨ ∃ i, i < (sweepS S safe).nw ∧ (sweepS S safe).k (i * 4 + 3) = 1 ∧ (sweepS S safe).k (i * 4) = a ∧ (sweepS S safe).k (i * 4 + 2) = b := by
  unfold swP putP
  rw [List.mem_append, selP_mem, selP_mem]
  exact Iff.rfl
theorem gone_no {t : List Int} : goneC (swP S safe) t = false ↔ (t.getD 0 0, t.getD 1 0) ∈ swP S safe := by
  unfold goneC
  simp
/-- What a sweep leaves has no fault. -/
theorem sweep_ok (hz : storeF S = 0) (safe : Int) : storeF (sweepS S safe) = 0 := by
  have o := okS_of hz
  obtain ⟨l1, l2⟩ := sweep_lists S safe
  refine ok_store ?_
  have l3 : listF 5 (sweepS S safe).nl (sweepS S safe).l = listF 5 S.nl S.l := rfl
  have hk : ∀ x ∈ (listF 4 S.nw S.k).filter (fun t => !sweptD S.k S.nw safe t), ∃ j, j < (sweepS S safe).nw ∧ ∀ q, q < 4 → (sweepS S safe).k (j * 4 + q) = x.getD q 0 := fun x hx => by
    rw [← l2] at hx
    obtain ⟨j, hj, rfl⟩ := listF_mem hx
    exact ⟨j, hj, fun q hq => (sg hq).symm⟩
  rw [l1, l2, l3]
  refine ⟨⟨Nat.le_trans (List.length_filter_le _ _) o.len.1, o.len.2.1, Nat.le_trans (List.length_filter_le _ _) o.len.2.2⟩, ⟨fun t ht => o.wide.1 t (List.mem_filter.1 ht).1, o.wide.2.1, fun t ht => o.wide.2.2 t (List.mem_filter.1 ht).1⟩, ⟨fun t ht => o.good.1 t (List.mem_filter.1 ht).1, o.good.2.1, fun t ht => o.good.2.2 t (List.mem_filter.1 ht).1⟩, ⟨o.up.1.filter _, o.up.2.1, o.up.2.2.filter _⟩, ?_, ?_, o.onceW.filter _, fun l hl w hw => o.onceL l hl w (List.mem_filter.1 hw).1⟩
  · intro x hx h1
    obtain ⟨y, hy, e1, e2⟩ := o.putW x (List.mem_filter.1 hx).1 h1
    refine ⟨y, List.mem_filter.2 ⟨hy, ?_⟩, e1, e2⟩
    obtain ⟨j, hj, e⟩ := hk x hx
    have : goneC (swP S safe) y = false := gone_no.2 (swP_mem.2 (Or.inr ⟨j, hj, by rw [e 3 (by omega)]; exact h1, by rw [show (sweepS S safe).k (j * 4) = _ from e 0 (by omega), e1], by rw [e 2 (by omega), e2]⟩))
    rw [this]; rfl
  · intro x hx h1
    obtain ⟨y, hy, e1, e2⟩ := o.putL x hx h1
    refine ⟨y, List.mem_filter.2 ⟨hy, ?_⟩, e1, e2⟩
    obtain ⟨i, hi, rfl⟩ := listF_mem hx
    rw [sg (by omega)] at h1 e1 e2
    have : goneC (swP S safe) y = false := gone_no.2 (swP_mem.2 (Or.inl ⟨i, hi, h1, e1.symm, e2.symm⟩))
    rw [this]; rfl
/-- All from the safe time on is read as before. -/
theorem sweep_get (hz : storeF S = 0) {key ts c : Int} {has : Bool} {v : Int} (ht : safe ≤ ts) (h : GetAns S key ts c has v) : GetAns (sweepS S safe) key ts c has v := by
  have hr := sweep_ok hz safe
  have ha : askF (sweepS S safe) key = askF S key := by unfold askF; rw [if_neg (fun q => q hr), if_neg (fun q => q hz)]
  have hrow := fun {j : Nat} (hj : j < (sweepS S safe).nw) => left_row (safe := safe) hz hj
  rcases h with h | h | h | h | h
  · refine Or.inl ?_
    rw [ha]; exact h
  · refine Or.inr (Or.inl ?_)
    rw [ha]; exact h
  · refine Or.inr (Or.inr (Or.inl ?_))
    rw [ha]; exact h
  · obtain ⟨h1, h2, h3, h4, h5⟩ := h
    refine Or.inr (Or.inr (Or.inr (Or.inl ⟨by rw [ha]; exact h1, h2, h3, fun j hj hk => ?_, h5⟩)))
    obtain ⟨i, hi, hs, e⟩ := hrow hj.1
    refine h4 i ((left_last hz hr ht hi hs e hj.1).1 hj) ?_
    rw [← e 3 (by omega)]; exact hk
  · obtain ⟨h1, h2, h3, i, j, h4, h5, h6, h7⟩ := h
    obtain ⟨q1, q2, q3, q4⟩ := h4
    have hs := last_stays (safe := safe) hz ht q1 q2
    obtain ⟨j', hj', e⟩ := stay_row (safe := safe) hz q1.1 hs
    have hl := (left_last hz hr ht q1.1 hs e hj').2 q1
    have hkey : S.k (i * 4) = key := q1.2.1.1
    have hin : struD S.c 3 j ∈ (listF 3 S.nc S.c).filter (fun t => !goneC (swP S safe) t) := by
      refine List.mem_filter.2 ⟨List.mem_map.2 ⟨j, List.mem_range.2 q3, rfl⟩, ?_⟩
      have : goneC (swP S safe) (struD S.c 3 j) = false := gone_no.2 (by
        rw [sg (by omega), sg (by omega)]
        refine swP_mem.2 (Or.inr ⟨j', hj', by rw [e 3 (by omega)]; exact q2, ?_, ?_⟩)
        · rw [row0 e, hkey]; exact q4.1.symm
        · rw [e 2 (by omega)]; exact q4.2.symm)
      rw [this]; rfl
    rw [← (sweep_lists S safe).1] at hin
    obtain ⟨j2, hj2, e2⟩ := listF_mem hin
    have f : ∀ q, q < 3 → (sweepS S safe).c (j2 * 3 + q) = S.c (j * 3 + q) := fun q hq => by
      rw [← sg (F := (sweepS S safe).c) hq, ← e2, sg hq]
    refine Or.inr (Or.inr (Or.inr (Or.inr ⟨by rw [ha]; exact h1, h2, h3, j', j2, ⟨hl, by rw [e 3 (by omega)]; exact q2, hj2, ?_, ?_⟩, h5, h6, ?_⟩)))
    · exact (f 0 (by omega)).trans q4.1
    · rw [f 1 (by omega), e 2 (by omega)]; exact q4.2
    · rw [f 2 (by omega)]; exact h7
/-- Sweeping again changes nothing. -/
theorem sweep_again (hz : storeF S = 0) (safe : Int) : SameS (sweepS (sweepS S safe) safe) (sweepS S safe) := by
  have hr := sweep_ok hz safe
  have hstay : ∀ t ∈ listF 4 (sweepS S safe).nw (sweepS S safe).k, (!sweptD (sweepS S safe).k (sweepS S safe).nw safe t) = true := fun t ht => by
    obtain ⟨j, hj, rfl⟩ := listF_mem ht
    obtain ⟨i, hi, hs, e⟩ := left_row (safe := safe) hz hj
    have : sweptD (sweepS S safe).k (sweepS S safe).nw safe (struD (sweepS S safe).k 4 j) = false := (stay_is (storeF_zero hr).2.2.2.1 hj).2 (by
      rcases hs with q | ⟨q, q1⟩
      · refine Or.inl ?_
        rw [e 1 (by omega)]; exact q
      · refine Or.inr ⟨?_, by rw [e 3 (by omega)]; exact q1⟩
        rw [row0 e]
        exact (left_last hz hr (Int.le_refl _) hi (Or.inr ⟨q, q1⟩) e hj).2 q)
    rw [this]; rfl
  have l2 := (sweep_lists (sweepS S safe) safe).2
  rw [List.filter_eq_self.2 hstay] at l2
  have hn : (sweepS (sweepS S safe) safe).nw = (sweepS S safe).nw := by
    have := congrArg List.length l2
    rw [listF_len, listF_len] at this
    exact this
  have hk : ∀ p, p < (sweepS S safe).nw * 4 → (sweepS (sweepS S safe) safe).k p = (sweepS S safe).k p := fun p hp => by
    rw [← listF_flat (m := 4) (n := (sweepS (sweepS S safe) safe).nw) (F := (sweepS (sweepS S safe) safe).k) (by omega) (by rw [hn]; exact hp), l2, listF_flat (by omega) hp]
  have hkept : ∀ t ∈ listF 3 (sweepS S safe).nc (sweepS S safe).c, (!goneC (swP (sweepS S safe) safe) t) = true := fun t ht => by
    have hin : goneC (swP S safe) t = false := by
      rw [(sweep_lists S safe).1] at ht
      have := (List.mem_filter.1 ht).2
      cases q : goneC (swP S safe) t
      · rfl
      · rw [q] at this; cases this
    have : goneC (swP (sweepS S safe) safe) t = false := gone_no.2 (by
      rcases swP_mem.1 (gone_no.1 hin) with h | ⟨i, hi, h1, h2, h3⟩
      · exact swP_mem.2 (Or.inl h)
      · refine swP_mem.2 (Or.inr ⟨i, by rw [hn]; exact hi, ?_, ?_, ?_⟩)
        · rw [hk _ (by omega)]; exact h1
        · rw [hk _ (by omega)]; exact h2
        · rw [hk _ (by omega)]; exact h3)
    rw [this]; rfl
  have l1 := (sweep_lists (sweepS S safe) safe).1
  rw [List.filter_eq_self.2 hkept] at l1
  have hnc : (sweepS (sweepS S safe) safe).nc = (sweepS S safe).nc := by
    have := congrArg List.length l1
    rw [listF_len, listF_len] at this
    exact this
  refine ⟨⟨hnc, fun p hp => ?_⟩, ⟨rfl, fun p _ => rfl⟩, ⟨hn, fun p hp => hk p (by rw [← hn]; exact hp)⟩⟩
  rw [← listF_flat (m := 3) (n := (sweepS (sweepS S safe) safe).nc) (F := (sweepS (sweepS S safe) safe).c) (by omega) hp, l1, listF_flat (by omega) (by rw [← hnc]; exact hp)]
theorem sweep_less (S : Sto) (safe : Int) : (sweepS S safe).nw ≤ S.nw := by
  have := congrArg List.length (sweep_lists S safe).2
  rw [listF_len] at this
  rw [this]
  exact Nat.le_trans (List.length_filter_le _ _) (by rw [listF_len]; exact Nat.le_refl _)
theorem sweep_old (hz : storeF S = 0) (hh : ¬ held S.nl S.l safe) {c v : Int} (h : OldAns S c v) : c = 4 ∨ safe < v := by
  rcases h with h | ⟨_, h | h⟩
  · exact absurd hz h.1
  · exact Or.inl h.2.1
  · refine Or.inr ?_
    rw [h.2.2]
    unfold held at hh
    exact Int.not_le.1 (fun q => hh ⟨h.1, q⟩)
end
end Go.Proofs.YtnikdbebfofcaaaGreatDoor

namespace Go.Proofs.YtnikdbebfofcaaaGreatDoor
open Go.RowKit

theorem field_wr0S (c : Int) (o p q : Option Addr) (n m l i j k : Nat) (w : World) : (Instr.field 32 (.agg #[.int .i64 c, .slice o n i, .slice p m j, .slice q l k]) 0).run Tryz.prog w = .ok (.int .i64 c) w := by kernel_rfl
theorem field_wr1S (c : Int) (o p q : Option Addr) (n m l i j k : Nat) (w : World) : (Instr.field 32 (.agg #[.int .i64 c, .slice o n i, .slice p m j, .slice q l k]) 1).run Tryz.prog w = .ok (.agg #[.slice o n i, .slice p m j, .slice q l k]) w := by kernel_rfl
theorem field_wt2S (o p q : Option Addr) (n m l i j k : Nat) (w : World) : (Instr.field 28 (.agg #[.slice o n i, .slice p m j, .slice q l k]) 2).run Tryz.prog w = .ok (.slice q l k) w := by kernel_rfl
theorem neqGetS (c v : Int) (has : Bool) (w : World) : (binOp .neq 35 (.agg #[.int .i64 c, .bool has, .int .i64 v]) (.agg #[.int .i64 c, .bool has, .int .i64 v])).run Tryz.prog w = .ok (.bool false) w := by
  have hS : Tryz.prog.underlying 35 = some (.struct (Tryz.prog.fieldsOf 35)) := by kernel_rfl
  have hp : Tryz.prog.stoodInHeld 35 = false := by kernel_rfl
  have u2 := Tryz.underlying2
  have a2 := Tryz.isAgg2
  have z2 := Tryz.sizeOf2
  have u3 := Tryz.underlying4
  have a3 := Tryz.isAgg4
  have z3 := Tryz.sizeOf4
  rw [run_neq_struct, show (10000 : Nat) = 9999 + 1 from rfl, run_equalIn_agg w 9999 _ _ _ hS hp]
  simp only [Program.fieldsOf, Tryz.underlying35]
  go_simp
  try simp
theorem lwBigW_is (o : Option Addr) (len cap : Nat) (r : Bool) (w : World) (h : decide ((1048576 : Int) < (len : Int)) = r) :
    Calls Tryz.prog 4 #[.slice o len cap] w fun e w' => e = .returned (.bool r) ∧ w' = w := by
  go_enter Tryz.func4, Tryz.ntmps4
  go_wp2
  go_ret
  exact ⟨by first | rfl | (rw [← h]; rfl), rfl⟩
/-- What the law's draw answers. -/
def DrawnU (w : World) (e : Ending) (w' : World) : Prop := ∃ (S : Sto) (a0 : Option Addr) (c0 : Nat) (a1 : Option Addr) (c1 : Nat) (a2 : Option Addr) (c2 : Nat) (safe : Int), e = .returned (.tuple #[.agg #[.slice a0 S.nc c0, .slice a1 S.nl c1, .slice a2 S.nw c2], .int .i64 safe]) ∧ St w' 0 S (.slice a0 S.nc c0) (.slice a1 S.nl c1) (.slice a2 S.nw c2) ∧ Below w.heap.size w w'
theorem Row.cellK {w : World} {B m n g o : Nat} {F : Nat → Int} {cp : Nat} (h : Row w B m n F (.slice (some ⟨g, o, none⟩) n cp)) {k : Nat} (hk : k < n) {q : Nat} (hq : q < m) : g < w.heap.size ∧ w.cell? ⟨g, o + k * m + q, none⟩ = some (.int .i64 (F (k * m + q))) := by
  obtain ⟨ao, cp', e, hr⟩ := h
  cases e
  obtain ⟨g', o', e, _, hg, hc⟩ := hr (by omega)
  cases e
  refine ⟨hg, ?_⟩
  have hlt : k * m + q < n * m := by
    calc k * m + q < k * m + m := by omega
      _ = (k + 1) * m := by rw [Nat.succ_mul]
      _ ≤ n * m := Nat.mul_le_mul_right m hk
  rw [Nat.add_assoc]
  exact hc _ hlt
/-- An answer in its box. -/
def ResU (x : World) (b : Nat) (c : Int) (R : Sto) (v0 v1 v2 : Value) : Prop := Blk4 x b (.int .i64 c) v0 v1 v2 ∧ St x 0 R v0 v1 v2
theorem ResU.later {x x' : World} {b : Nat} {c : Int} {R : Sto} {v0 v1 v2 : Value} (h : ResU x b c R v0 v1 v2) (hb : Below x.heap.size x x') : ResU x' b c R v0 v1 v2 := ⟨h.1.later hb, h.2.later hb⟩
/-- What stands: the drawn store, what the sweep answered. -/
def EnU (w : World) (b3 b5 : Nat) (c : Int) (S R : Sto) (v0 v1 v2 r0 r1 r2 : Value) (x : World) : Prop := Below w.heap.size w x ∧ (Blk3 x b3 v0 v1 v2 ∧ St x 0 S v0 v1 v2) ∧ ResU x b5 c R r0 r1 r2
theorem EnU.later {w x x' : World} {b3 b5 : Nat} {c : Int} {S R : Sto} {v0 v1 v2 r0 r1 r2 : Value} (h : EnU w b3 b5 c S R v0 v1 v2 r0 r1 r2 x) (hb : Below x.heap.size x x') : EnU w b3 b5 c S R v0 v1 v2 r0 r1 r2 x' := ⟨h.1.trans (hb.mono h.1.size), ⟨h.2.1.1.later hb, h.2.1.2.later hb⟩, h.2.2.later hb⟩
/-- .. and an element of the drawn store's writes. -/
def EnV (w : World) (b3 b5 : Nat) (c : Int) (S R : Sto) (v0 v1 v2 r0 r1 r2 : Value) (g o : Nat) (n0 : Int) (x : World) : Prop := EnU w b3 b5 c S R v0 v1 v2 r0 r1 r2 x ∧ x.cell? ⟨g, o, none⟩ = some (.int .i64 n0)
theorem EnV.later {w x x' : World} {b3 b5 : Nat} {c : Int} {S R : Sto} {v0 v1 v2 r0 r1 r2 : Value} {g o : Nat} {n0 : Int} (h : EnV w b3 b5 c S R v0 v1 v2 r0 r1 r2 g o n0 x) (hb : Below x.heap.size x x') : EnV w b3 b5 c S R v0 v1 v2 r0 r1 r2 g o n0 x' := ⟨h.1.later hb, (hb.cell (p := ⟨g, o, none⟩) (World.block_lt_of_cell? x _ h.2)).trans h.2⟩
/-- .. and what the second sweep and the oldest lock are. -/
def EnW (w : World) (b3 b5 b8 b9 : Nat) (S R R2 : Sto) (c9 d9 : Int) (v0 v1 v2 r0 r1 r2 s0 s1 s2 : Value) (x : World) : Prop := EnU w b3 b5 0 S R v0 v1 v2 r0 r1 r2 x ∧ ResU x b8 0 R2 s0 s1 s2 ∧ Blk2 x b9 (.int .i64 c9) (.int .i64 d9)
theorem EnW.later {w x x' : World} {b3 b5 b8 b9 : Nat} {S R R2 : Sto} {c9 d9 : Int} {v0 v1 v2 r0 r1 r2 s0 s1 s2 : Value} (h : EnW w b3 b5 b8 b9 S R R2 c9 d9 v0 v1 v2 r0 r1 r2 s0 s1 s2 x) (hb : Below x.heap.size x x') : EnW w b3 b5 b8 b9 S R R2 c9 d9 v0 v1 v2 r0 r1 r2 s0 s1 s2 x' := ⟨h.1.later hb, h.2.1.later hb, h.2.2.later hb⟩
set_option maxRecDepth 100000 in
set_option maxHeartbeats 16000000 in
theorem fnSweeps_over (o : Option Addr) (len cap : Nat) (w : World) (hL : Laid w) (hl0 : len ≤ maxLen) (hd : len ≤ 1048576 → Calls Tryz.prog 5 #[.slice o len cap] w (DrawnU w)) :
    Calls Tryz.prog 3 #[.slice o len cap] w fun e w' => e = .returned (.bool true) ∧ Below w.heap.size w w' := by
  have HL : Hid (Laid w) := hL
  have hml : maxLen = 9223372036854775807 := rfl
  clear hL
  by_cases hbig : (1048576 : Int) < len
  · have d : decide ((1048576 : Int) < (len : Int)) = true := decide_eq_true hbig
    go_enter Tryz.func3, Tryz.ntmps3
    go_wp2_with fail
    refine (lwBigW_is _ _ _ _ _ d).mono ?_
    rintro e w9 ⟨rfl, hw9⟩
    obtain rfl := hw9.symm
    go_wp2
    go_ret
    exact ⟨rfl, Below.refl _ _⟩
  have d : decide ((1048576 : Int) < (len : Int)) = false := decide_eq_false hbig
  have HD : Hid (Calls Tryz.prog 5 #[.slice o len cap] w (DrawnU w)) := hd (by omega)
  clear hd hbig hml hl0
  go_enter Tryz.func3, Tryz.ntmps3
  go_wp2_with fail
  refine (lwBigW_is _ _ _ _ _ d).mono ?_
  rintro e w9 ⟨rfl, hw9⟩
  obtain rfl := hw9.symm
  clear hw9
  go_wp2_with fail
  refine HD.out.mono ?_
  rintro e y0 ⟨S, a0, c0, a1, c1, a2, c2, safe, rfl, hst, q1⟩
  have K0 : Hid (Blk3 (y0.alloc (.cells #[.slice a0 S.nc c0, .slice a1 S.nl c1, .slice a2 S.nw c2] 28)) y0.heap.size (.slice a0 S.nc c0) (.slice a1 S.nl c1) (.slice a2 S.nw c2)) := Blk3.new y0 _ _ _ _
  have HB : Hid (Below w.heap.size w (y0.alloc (.cells #[.slice a0 S.nc c0, .slice a1 S.nl c1, .slice a2 S.nw c2] 28)) ∧ St (y0.alloc (.cells #[.slice a0 S.nc c0, .slice a1 S.nl c1, .slice a2 S.nw c2] 28)) 0 S (.slice a0 S.nc c0) (.slice a1 S.nl c1) (.slice a2 S.nw c2)) := ⟨q1.alloc q1.size _, hst.alloc _⟩
  clear hst q1 HD d
  obtain ⟨⟨t0, t1, t2⟩, _⟩ := K0.out
  go_wp2_with fail
  generalize y0.alloc (.cells #[.slice a0 S.nc c0, .slice a1 S.nl c1, .slice a2 S.nw c2] 28) = x0 at HB K0 t0 t1 t2 ⊢
  generalize y0.heap.size = b3 at K0 t0 t1 t2 ⊢
  obtain ⟨c, R, hR, hA⟩ := SweepAns.get S safe
  have PA : Hid (SweepAns S safe c R) := hA
  refine (implSweepStore_is S _ _ _ safe c R 0 _ HB.out.2 (HL.out.later HB.out.1) PA.out).mono ?_
  rintro e y1 ⟨g0, g3, g1, g4, g2, g5, rfl, ⟨st1, _, _⟩, q⟩
  have qa : Below x0.heap.size x0 (y1.alloc (.cells #[.int .i64 c, .slice g0 R.nc g3, .slice g1 R.nl g4, .slice g2 R.nw g5] 32)) := q.alloc q.size _
  have HE : Hid (EnU w b3 y1.heap.size c S R (.slice a0 S.nc c0) (.slice a1 S.nl c1) (.slice a2 S.nw c2) (.slice g0 R.nc g3) (.slice g1 R.nl g4) (.slice g2 R.nw g5) (y1.alloc (.cells #[.int .i64 c, .slice g0 R.nc g3, .slice g1 R.nl g4, .slice g2 R.nw g5] 32))) := ⟨HB.out.1.trans (qa.mono HB.out.1.size), ⟨K0.out.later qa, HB.out.2.later qa⟩, Blk4.new _ _ _ _ _ _, (st1.mono (Nat.zero_le _)).alloc _⟩
  clear HB K0 q qa st1 t0 t1 t2 hR
  go_upto_region 5 with fail
  generalize y1.alloc (.cells #[.int .i64 c, .slice g0 R.nc g3, .slice g1 R.nl g4, .slice g2 R.nw g5] 32) = x1 at HE ⊢
  generalize y1.heap.size = b5 at HE ⊢
  obtain ⟨⟨f0, f1, f2, f3⟩, _⟩ := HE.out.2.2.1
  by_cases hc : c = 0
  case neg =>
    have dn : (c == 0) = false := beq_eq_false_iff_ne.2 hc
    clear hA hc
    go_upto_region 6 with fail
    clear f0 f1 f2 f3
    refine wp_region_held_drew (S := EnU w b3 b5 c S R (.slice a0 S.nc c0) (.slice a1 S.nl c1) (.slice a2 S.nw c2) (.slice g0 R.nc g3) (.slice g1 R.nl g4) (.slice g2 R.nw g5)) (by kernel_rfl) (HE.out.later ((Below.refl _ _).drew)) (fun hS => ?_)
    clear HE
    generalize x1.drew = x2 at hS ⊢
    refine tkH 0 ?_ hS (fun wx hx => ?_) ?_; rotate_left
    · obtain ⟨_, ⟨⟨⟨e0, e1, e2⟩, _⟩, _⟩, ⟨⟨f0, f1, f2, f3⟩, _⟩, _⟩ := hx; go_simp; try with_reducible rfl
    refine tkH 1 ?_ hS (fun wx hx => ?_) ?_; rotate_left
    · obtain ⟨_, ⟨⟨⟨e0, e1, e2⟩, _⟩, _⟩, ⟨⟨f0, f1, f2, f3⟩, _⟩, _⟩ := hx; go_simp; try with_reducible rfl
    refine tkH 4 ?_ hS (fun wx hx => ?_) ?_; rotate_left
    · obtain ⟨_, ⟨⟨⟨e0, e1, e2⟩, _⟩, _⟩, ⟨⟨f0, f1, f2, f3⟩, _⟩, _⟩ := hx; go_simp; try with_reducible rfl
    refine tkH 5 ?_ hS (fun wx hx => ?_) ?_; rotate_left
    · obtain ⟨_, ⟨⟨⟨e0, e1, e2⟩, _⟩, _⟩, ⟨⟨f0, f1, f2, f3⟩, _⟩, _⟩ := hx; go_simp; try with_reducible rfl
    refine rdH 2 (fun K hK => ?_)
    go_simp
    go_wp2_with fail
    refine (specSweepStore_is S _ _ _ safe c R 0 _ hS.2.1.2 PA.out).mono ?_
    rintro e x3 ⟨h0, h3, h1, h4, h2, h5, rfl, _, q⟩
    have hS' := hS.later q
    clear q
    go_wp2_with fail
    refine hK.out _ _ hS' (fun hS => ?_)
    clear hK K hS'
    have hfd := fun (w : World) => field_wr0S c h0 h1 h2 R.nc R.nl R.nw h3 h4 h5 w
    refine tkH 3 ?_ hS (fun wx hx => ?_) ?_; rotate_left
    · obtain ⟨_, ⟨⟨⟨e0, e1, e2⟩, _⟩, _⟩, ⟨⟨f0, f1, f2, f3⟩, _⟩, _⟩ := hx; go_simp; try with_reducible rfl
    clear hfd
    refine tkH 6 ?_ hS (fun wx hx => ?_) ?_; rotate_left
    · obtain ⟨_, ⟨⟨⟨e0, e1, e2⟩, _⟩, _⟩, ⟨⟨f0, f1, f2, f3⟩, _⟩, _⟩ := hx; go_simp; try with_reducible rfl
    refine tkH 7 ?_ hS (fun wx hx => ?_) ?_; rotate_left
    · obtain ⟨_, ⟨⟨⟨e0, e1, e2⟩, _⟩, _⟩, ⟨⟨f0, f1, f2, f3⟩, _⟩, _⟩ := hx; go_simp; try with_reducible rfl
    refine wpAnyH_done (by kernel_rfl) ?_ _
    go_simp
    go_wp2
    go_ret
    exact ⟨rfl, hS.1⟩
  case pos =>
  subst hc
  have hz : storeF S = 0 ∧ isT safe ∧ ¬ held S.nl S.l safe ∧ R = sweepS S safe := by
    rcases hA with ⟨h1, h2, _⟩ | ⟨_, _, h2, _⟩ | ⟨_, _, _, h2, _⟩ | ⟨h1, h2, h3, _, h4⟩
    · exact absurd h2.symm h1
    · exact absurd h2 (by decide)
    · exact absurd h2 (by decide)
    · exact ⟨h1, h2, h3, h4⟩
  obtain ⟨hz0, hsf, hnh, hRe⟩ := hz
  have hs1 : 1 ≤ safe := hsf.1
  have hs2 : safe ≤ 100000 := hsf.2
  have HG : Hid (∀ key ts c has v, safe ≤ ts → GetAns S key ts c has v → GetAns R key ts c has v) := fun key ts c has v ht h => by rw [hRe]; exact sweep_get hz0 ht h
  have HR0 : Hid (storeF R = 0) := by rw [hRe]; exact sweep_ok hz0 safe
  obtain ⟨R2, hR2⟩ : ∃ R2, sweepS R safe = R2 := ⟨_, rfl⟩
  have P2 : Hid (SweepAns R safe 0 R2) := Or.inr (Or.inr (Or.inr ⟨HR0.out, hsf, by rw [hRe]; exact hnh, rfl, hR2.symm⟩))
  have HSm : Hid (SameS R2 R) := by rw [← hR2, hRe]; exact sweep_again hz0 safe
  have hle : R.nw ≤ S.nw := by rw [hRe]; exact sweep_less S safe
  have HN : Hid (R.nw ≤ S.nw ∧ S.nw ≤ 200 ∧ (R.nc ≤ 200 ∧ R.nl ≤ 200 ∧ R.nw ≤ 200) ∧ R2.nc ≤ 200 ∧ R2.nl ≤ 200 ∧ R2.nw ≤ 200) := ⟨hle, (storeF_zero hz0).1.2.2, (storeF_zero HR0.out).1, by have h := (storeF_zero (sweep_ok HR0.out safe)).1; rw [hR2] at h; exact h⟩
  obtain ⟨c9, d9, hO⟩ := OldAns.get S
  have PO : Hid (OldAns S c9 d9) := hO
  have HO := sweep_old hz0 hnh hO
  have HOo : Hid (c9 = 4 ∨ safe < d9) := HO
  clear hA hz0 hsf hnh hRe hR2 hle hO HO f0 f1 f2 f3
  obtain ⟨⟨f0, f1, f2, f3⟩, _⟩ := HE.out.2.2.1
  go_wp2
  go_loopw [6] (fun i wr => ∃ k : Nat, k ≤ S.nw ∧ i = .int .i64 k ∧ Hid (EnU w b3 b5 0 S R (.slice a0 S.nc c0) (.slice a1 S.nl c1) (.slice a2 S.nw c2) (.slice g0 R.nc g3) (.slice g1 R.nl g4) (.slice g2 R.nw g5) wr)) (fun i _ => S.nw - (intOf i).toNat)
  case atStart => exact ⟨0, Nat.zero_le _, rfl, HE⟩
  case round =>
    obtain ⟨k, hk, rfl, HE⟩ := hrel
    obtain ⟨wv, rfl⟩ : ∃ x, x = wr := ⟨_, rfl⟩
    obtain ⟨⟨e0, e1, e2⟩, _⟩ := HE.out.2.1.1
    by_cases hlt : k < S.nw
    · obtain ⟨g, o', rfl, _⟩ := HE.out.2.1.2.2.2.at hlt
      obtain ⟨n0, hn0⟩ : ∃ x, S.k (k * 4) = x := ⟨_, rfl⟩
      have hx0 := (HE.out.2.1.2.2.2.cellK hlt (q := 0) (by omega)).2
      rw [Nat.add_zero, Nat.add_zero, hn0] at hx0
      have HV : Hid (EnV w b3 b5 0 S R (.slice a0 S.nc c0) (.slice a1 S.nl c1) (.slice (some ⟨g, o', none⟩) S.nw c2) (.slice g0 R.nc g3) (.slice g1 R.nl g4) (.slice g2 R.nw g5) g (o' + k * 4) n0 wv) := ⟨HE.out, hx0⟩
      have hkb : k ≤ 200 := by have := HN.out; omega
      clear hn0 hx0 HE
      go_wp2
      go_loopw [7] (fun i wr => ∃ j : Nat, j ≤ 3 ∧ i = .int .i64 (safe + 3 * (j : Int)) ∧ Hid (EnV w b3 b5 0 S R (.slice a0 S.nc c0) (.slice a1 S.nl c1) (.slice (some ⟨g, o', none⟩) S.nw c2) (.slice g0 R.nc g3) (.slice g1 R.nl g4) (.slice g2 R.nw g5) g (o' + k * 4) n0 wr)) (fun i _ => (safe + 9 - intOf i).toNat)
      case atStart => exact ⟨0, Nat.zero_le _, by simp, HV⟩
      case round =>
        obtain ⟨j, hj, rfl, HV⟩ := hrel
        obtain ⟨ww, rfl⟩ : ∃ x, x = wr := ⟨_, rfl⟩
        by_cases hj3 : j < 3
        · have dl : decide (safe + 3 * (j : Int) < safe + 8) = true := decide_eq_true (by omega)
          obtain ⟨gc, gh, gv, hGA⟩ := GetAns.get S n0 (safe + 3 * (j : Int))
          have GA : Hid (GetAns S n0 (safe + 3 * (j : Int)) gc gh gv) := hGA
          have GB : Hid (GetAns R n0 (safe + 3 * (j : Int)) gc gh gv) := HG.out _ _ _ _ _ (by omega) hGA
          clear hGA
          go_upto_region 13 with fail
          refine wp_region_held_drew (S := EnV w b3 b5 0 S R (.slice a0 S.nc c0) (.slice a1 S.nl c1) (.slice (some ⟨g, o', none⟩) S.nw c2) (.slice g0 R.nc g3) (.slice g1 R.nl g4) (.slice g2 R.nw g5) g (o' + k * 4) n0) (by kernel_rfl) (HV.out.later ((Below.refl _ _).drew)) (fun hS => ?_)
          clear HV
          generalize ww.drew = u0 at hS ⊢
          refine tkH 0 ?_ hS (fun wx hx => ?_) ?_; rotate_left
          · obtain ⟨⟨_, ⟨⟨⟨e0, e1, e2⟩, _⟩, _⟩, ⟨⟨f0, f1, f2, f3⟩, _⟩, _⟩, n0'⟩ := hx; go_simp; try with_reducible rfl
          refine tkH 1 ?_ hS (fun wx hx => ?_) ?_; rotate_left
          · obtain ⟨⟨_, ⟨⟨⟨e0, e1, e2⟩, _⟩, _⟩, ⟨⟨f0, f1, f2, f3⟩, _⟩, _⟩, n0'⟩ := hx; go_simp; try with_reducible rfl
          refine tkH 2 ?_ hS (fun wx hx => ?_) ?_; rotate_left
          · obtain ⟨⟨_, ⟨⟨⟨e0, e1, e2⟩, _⟩, _⟩, ⟨⟨f0, f1, f2, f3⟩, _⟩, _⟩, n0'⟩ := hx; go_simp; try with_reducible rfl
          try simp only [Act.put, List.getElem_toArray, List.getElem_cons_zero, List.getElem_cons_succ, List.setIfInBounds_toArray, List.set_cons_succ, List.set_cons_zero]
          refine tkH 3 ?_ hS (fun wx hx => ?_) ?_; rotate_left
          · obtain ⟨⟨_, ⟨⟨⟨e0, e1, e2⟩, _⟩, _⟩, ⟨⟨f0, f1, f2, f3⟩, _⟩, _⟩, n0'⟩ := hx; go_simp; try with_reducible rfl
          refine tkH 4 ?_ hS (fun wx hx => ?_) ?_; rotate_left
          · obtain ⟨⟨_, ⟨⟨⟨e0, e1, e2⟩, _⟩, _⟩, ⟨⟨f0, f1, f2, f3⟩, _⟩, _⟩, n0'⟩ := hx; go_simp; try with_reducible rfl
          refine tkH 5 ?_ hS (fun wx hx => ?_) ?_; rotate_left
          · obtain ⟨⟨_, ⟨⟨⟨e0, e1, e2⟩, _⟩, _⟩, ⟨⟨f0, f1, f2, f3⟩, _⟩, _⟩, n0'⟩ := hx; go_simp; try with_reducible rfl
          try simp only [Act.put, List.getElem_toArray, List.getElem_cons_zero, List.getElem_cons_succ, List.setIfInBounds_toArray, List.set_cons_succ, List.set_cons_zero]
          refine tkH 6 ?_ hS (fun wx hx => ?_) ?_; rotate_left
          · obtain ⟨⟨_, ⟨⟨⟨e0, e1, e2⟩, _⟩, _⟩, ⟨⟨f0, f1, f2, f3⟩, _⟩, _⟩, n0'⟩ := hx; go_simp; try with_reducible rfl
          refine tkH 7 ?_ hS (fun wx hx => ?_) ?_; rotate_left
          · obtain ⟨⟨_, ⟨⟨⟨e0, e1, e2⟩, _⟩, _⟩, ⟨⟨f0, f1, f2, f3⟩, _⟩, _⟩, n0'⟩ := hx; go_simp; try with_reducible rfl
          refine tkH 9 ?_ hS (fun wx hx => ?_) ?_; rotate_left
          · obtain ⟨⟨_, ⟨⟨⟨e0, e1, e2⟩, _⟩, _⟩, ⟨⟨f0, f1, f2, f3⟩, _⟩, _⟩, n0'⟩ := hx; go_simp; try with_reducible rfl
          try simp only [Act.put, List.getElem_toArray, List.getElem_cons_zero, List.getElem_cons_succ, List.setIfInBounds_toArray, List.set_cons_succ, List.set_cons_zero]
          refine tkH 10 ?_ hS (fun wx hx => ?_) ?_; rotate_left
          · obtain ⟨⟨_, ⟨⟨⟨e0, e1, e2⟩, _⟩, _⟩, ⟨⟨f0, f1, f2, f3⟩, _⟩, _⟩, n0'⟩ := hx; go_simp; try with_reducible rfl
          refine tkH 11 ?_ hS (fun wx hx => ?_) ?_; rotate_left
          · obtain ⟨⟨_, ⟨⟨⟨e0, e1, e2⟩, _⟩, _⟩, ⟨⟨f0, f1, f2, f3⟩, _⟩, _⟩, n0'⟩ := hx; go_simp; try with_reducible rfl
          refine tkH 12 ?_ hS (fun wx hx => ?_) ?_; rotate_left
          · obtain ⟨⟨_, ⟨⟨⟨e0, e1, e2⟩, _⟩, _⟩, ⟨⟨f0, f1, f2, f3⟩, _⟩, _⟩, n0'⟩ := hx; go_simp; try with_reducible rfl
          try simp only [Act.put, List.getElem_toArray, List.getElem_cons_zero, List.getElem_cons_succ, List.setIfInBounds_toArray, List.set_cons_succ, List.set_cons_zero]
          refine tkH 13 ?_ hS (fun wx hx => ?_) ?_; rotate_left
          · obtain ⟨⟨_, ⟨⟨⟨e0, e1, e2⟩, _⟩, _⟩, ⟨⟨f0, f1, f2, f3⟩, _⟩, _⟩, n0'⟩ := hx; go_simp; try with_reducible rfl
          refine tkH 14 ?_ hS (fun wx hx => ?_) ?_; rotate_left
          · obtain ⟨⟨_, ⟨⟨⟨e0, e1, e2⟩, _⟩, _⟩, ⟨⟨f0, f1, f2, f3⟩, _⟩, _⟩, n0'⟩ := hx; go_simp; try with_reducible rfl
          refine tkH 15 ?_ hS (fun wx hx => ?_) ?_; rotate_left
          · obtain ⟨⟨_, ⟨⟨⟨e0, e1, e2⟩, _⟩, _⟩, ⟨⟨f0, f1, f2, f3⟩, _⟩, _⟩, n0'⟩ := hx; go_simp; try with_reducible rfl
          try simp only [Act.put, List.getElem_toArray, List.getElem_cons_zero, List.getElem_cons_succ, List.setIfInBounds_toArray, List.set_cons_succ, List.set_cons_zero]
          refine tkH 16 ?_ hS (fun wx hx => ?_) ?_; rotate_left
          · obtain ⟨⟨_, ⟨⟨⟨e0, e1, e2⟩, _⟩, _⟩, ⟨⟨f0, f1, f2, f3⟩, _⟩, _⟩, n0'⟩ := hx; go_simp; try with_reducible rfl
          refine tkH 17 ?_ hS (fun wx hx => ?_) ?_; rotate_left
          · obtain ⟨⟨_, ⟨⟨⟨e0, e1, e2⟩, _⟩, _⟩, ⟨⟨f0, f1, f2, f3⟩, _⟩, _⟩, n0'⟩ := hx; go_simp; try with_reducible rfl
          refine rdH 8 (fun K hK => ?_)
          go_simp
          go_wp2_with fail
          refine (implGetAt_is S _ _ _ n0 (safe + 3 * (j : Int)) gc gh gv 0 _ hS.1.2.1.2 (HL.out.later hS.1.1) GA.out).mono ?_
          rintro e u1 ⟨rfl, q⟩
          have hS' := hS.later q
          clear q
          go_wp2_with fail
          refine hK.out _ _ hS' (fun hS => ?_)
          clear hK K hS'
          refine rdH 18 (fun K hK => ?_)
          go_simp
          go_wp2_with fail
          refine (implGetAt_is R _ _ _ n0 (safe + 3 * (j : Int)) gc gh gv 0 _ hS.1.2.2.2 (HL.out.later hS.1.1) GB.out).mono ?_
          rintro e u2 ⟨rfl, q⟩
          have hS' := hS.later q
          clear q
          go_wp2_with fail
          refine hK.out _ _ hS' (fun hS => ?_)
          clear hK K hS'
          have hnq := neqGetS gc gv gh
          refine tkH 19 ?_ hS (fun wx hx => ?_) ?_; rotate_left
          · obtain ⟨⟨_, ⟨⟨⟨e0, e1, e2⟩, _⟩, _⟩, ⟨⟨f0, f1, f2, f3⟩, _⟩, _⟩, n0'⟩ := hx; go_simp; try with_reducible rfl
          clear hnq
          refine wpAnyH_done (by kernel_rfl) ?_ _
          have HV : Hid (EnV w b3 b5 0 S R (.slice a0 S.nc c0) (.slice a1 S.nl c1) (.slice (some ⟨g, o', none⟩) S.nw c2) (.slice g0 R.nc g3) (.slice g1 R.nl g4) (.slice g2 R.nw g5) g (o' + k * 4) n0 u2) := hS
          clear hS
          go_simp
          have hw3 : IntKind.i64.wrap (safe + 3 * (j : Int) + 3) = safe + 3 * (j : Int) + 3 := by simp [IntKind.wrap, IntKind.bits, IntKind.signed]; omega
          go_wp2
          go_roundw
          case rel => exact ⟨j + 1, hj3, by congr 1; push_cast; omega, HV⟩
          case measure => simp [intOf]; omega
        · have dl : decide (safe + 3 * (j : Int) < safe + 8) = false := decide_eq_false (by omega)
          go_wp2
          go_roundw
          case rel => exact ⟨k + 1, hlt, by go_num, HV.out.1⟩
          case measure => simp [intOf]; omega
    · obtain rfl : k = S.nw := by omega
      obtain ⟨⟨f0, f1, f2, f3⟩, _⟩ := HE.out.2.2.1
      go_wp2_with fail
      refine (implSweepStore_is R _ _ _ safe 0 R2 0 _ HE.out.2.2.2 (HL.out.later HE.out.1) P2.out).mono ?_
      rintro e y2 ⟨s0, s3, s1, s4, s2, s5, rfl, ⟨st1, _, _⟩, q⟩
      have qa : Below wv.heap.size wv (y2.alloc (.cells #[.int .i64 0, .slice s0 R2.nc s3, .slice s1 R2.nl s4, .slice s2 R2.nw s5] 32)) := q.alloc q.size _
      have K8 : Hid (EnU w b3 b5 0 S R (.slice a0 S.nc c0) (.slice a1 S.nl c1) (.slice a2 S.nw c2) (.slice g0 R.nc g3) (.slice g1 R.nl g4) (.slice g2 R.nw g5) (y2.alloc (.cells #[.int .i64 0, .slice s0 R2.nc s3, .slice s1 R2.nl s4, .slice s2 R2.nw s5] 32)) ∧ ResU (y2.alloc (.cells #[.int .i64 0, .slice s0 R2.nc s3, .slice s1 R2.nl s4, .slice s2 R2.nw s5] 32)) y2.heap.size 0 R2 (.slice s0 R2.nc s3) (.slice s1 R2.nl s4) (.slice s2 R2.nw s5)) := ⟨HE.out.later qa, Blk4.new _ _ _ _ _ _, (st1.mono (Nat.zero_le _)).alloc _⟩
      clear q qa st1 HE e0 e1 e2 f0 f1 f2 f3
      go_upto_region 16 with fail
      generalize y2.alloc (.cells #[.int .i64 0, .slice s0 R2.nc s3, .slice s1 R2.nl s4, .slice s2 R2.nw s5] 32) = x2 at K8 ⊢
      generalize y2.heap.size = b8 at K8 ⊢
      obtain ⟨⟨e0, e1, e2⟩, _⟩ := K8.out.1.2.1.1
      go_wp2_with fail
      refine (implOldestLock_is S _ _ _ c9 d9 0 _ K8.out.1.2.1.2 PO.out).mono ?_
      rintro e y3 ⟨rfl, q⟩
      have qa : Below x2.heap.size x2 (y3.alloc (.cells #[.int .i64 c9, .int .i64 d9] 40)) := q.alloc q.size _
      have K9 : Hid (EnW w b3 b5 b8 y3.heap.size S R R2 c9 d9 (.slice a0 S.nc c0) (.slice a1 S.nl c1) (.slice a2 S.nw c2) (.slice g0 R.nc g3) (.slice g1 R.nl g4) (.slice g2 R.nw g5) (.slice s0 R2.nc s3) (.slice s1 R2.nl s4) (.slice s2 R2.nw s5) (y3.alloc (.cells #[.int .i64 c9, .int .i64 d9] 40))) := ⟨K8.out.1.later qa, K8.out.2.later qa, Blk2.new _ _ _ _⟩
      clear q qa K8 e0 e1 e2
      go_upto_region 17 with fail
      generalize y3.alloc (.cells #[.int .i64 c9, .int .i64 d9] 40) = x3 at K9 ⊢
      generalize y3.heap.size = b9 at K9 ⊢
      refine wp_region_held_drew (S := EnW w b3 b5 b8 b9 S R R2 c9 d9 (.slice a0 S.nc c0) (.slice a1 S.nl c1) (.slice a2 S.nw c2) (.slice g0 R.nc g3) (.slice g1 R.nl g4) (.slice g2 R.nw g5) (.slice s0 R2.nc s3) (.slice s1 R2.nl s4) (.slice s2 R2.nw s5)) (by kernel_rfl) (K9.out.later ((Below.refl _ _).drew)) (fun hS => ?_)
      clear K9
      generalize x3.drew = u0 at hS ⊢
      refine tkH 0 ?_ hS (fun wx hx => ?_) ?_; rotate_left
      · obtain ⟨⟨_, ⟨⟨⟨e0, e1, e2⟩, _⟩, _⟩, ⟨⟨f0, f1, f2, f3⟩, _⟩, _⟩, ⟨⟨⟨g0', g1', g2', g3'⟩, _⟩, _⟩, ⟨h0', h1'⟩, _⟩ := hx; go_simp; try with_reducible rfl
      refine tkH 1 ?_ hS (fun wx hx => ?_) ?_; rotate_left
      · obtain ⟨⟨_, ⟨⟨⟨e0, e1, e2⟩, _⟩, _⟩, ⟨⟨f0, f1, f2, f3⟩, _⟩, _⟩, ⟨⟨⟨g0', g1', g2', g3'⟩, _⟩, _⟩, ⟨h0', h1'⟩, _⟩ := hx; go_simp; try with_reducible rfl
      refine rdH 2 (fun K hK => ?_)
      go_simp
      go_wp2_with fail
      refine (implFault_any R _ _ _ 0 _ hS.1.2.2.2).mono ?_
      rw [HR0.out]
      rintro e u1 ⟨rfl, q⟩
      have hS' := hS.later q
      clear q
      go_wp2_with fail
      refine hK.out _ _ hS' (fun hS => ?_)
      clear hK K hS'
      refine tkH 3 ?_ hS (fun wx hx => ?_) ?_; rotate_left
      · obtain ⟨⟨_, ⟨⟨⟨e0, e1, e2⟩, _⟩, _⟩, ⟨⟨f0, f1, f2, f3⟩, _⟩, _⟩, ⟨⟨⟨g0', g1', g2', g3'⟩, _⟩, _⟩, ⟨h0', h1'⟩, _⟩ := hx; go_simp; try with_reducible rfl
      refine tkH 4 ?_ hS (fun wx hx => ?_) ?_; rotate_left
      · obtain ⟨⟨_, ⟨⟨⟨e0, e1, e2⟩, _⟩, _⟩, ⟨⟨f0, f1, f2, f3⟩, _⟩, _⟩, ⟨⟨⟨g0', g1', g2', g3'⟩, _⟩, _⟩, ⟨h0', h1'⟩, _⟩ := hx; go_simp; try with_reducible rfl
      refine tkH 5 ?_ hS (fun wx hx => ?_) ?_; rotate_left
      · obtain ⟨⟨_, ⟨⟨⟨e0, e1, e2⟩, _⟩, _⟩, ⟨⟨f0, f1, f2, f3⟩, _⟩, _⟩, ⟨⟨⟨g0', g1', g2', g3'⟩, _⟩, _⟩, ⟨h0', h1'⟩, _⟩ := hx; go_simp; try with_reducible rfl
      try simp only [Act.put, List.getElem_toArray, List.getElem_cons_zero, List.getElem_cons_succ, List.setIfInBounds_toArray, List.set_cons_succ, List.set_cons_zero]
      refine tkH 6 ?_ hS (fun wx hx => ?_) ?_; rotate_left
      · obtain ⟨⟨_, ⟨⟨⟨e0, e1, e2⟩, _⟩, _⟩, ⟨⟨f0, f1, f2, f3⟩, _⟩, _⟩, ⟨⟨⟨g0', g1', g2', g3'⟩, _⟩, _⟩, ⟨h0', h1'⟩, _⟩ := hx; go_simp; try with_reducible rfl
      refine tkH 7 ?_ hS (fun wx hx => ?_) ?_; rotate_left
      · obtain ⟨⟨_, ⟨⟨⟨e0, e1, e2⟩, _⟩, _⟩, ⟨⟨f0, f1, f2, f3⟩, _⟩, _⟩, ⟨⟨⟨g0', g1', g2', g3'⟩, _⟩, _⟩, ⟨h0', h1'⟩, _⟩ := hx; go_simp; try with_reducible rfl
      refine tkH 8 ?_ hS (fun wx hx => ?_) ?_; rotate_left
      · obtain ⟨⟨_, ⟨⟨⟨e0, e1, e2⟩, _⟩, _⟩, ⟨⟨f0, f1, f2, f3⟩, _⟩, _⟩, ⟨⟨⟨g0', g1', g2', g3'⟩, _⟩, _⟩, ⟨h0', h1'⟩, _⟩ := hx; go_simp; try with_reducible rfl
      try simp only [Act.put, List.getElem_toArray, List.getElem_cons_zero, List.getElem_cons_succ, List.setIfInBounds_toArray, List.set_cons_succ, List.set_cons_zero]
      refine tkH 9 ?_ hS (fun wx hx => ?_) ?_; rotate_left
      · obtain ⟨⟨_, ⟨⟨⟨e0, e1, e2⟩, _⟩, _⟩, ⟨⟨f0, f1, f2, f3⟩, _⟩, _⟩, ⟨⟨⟨g0', g1', g2', g3'⟩, _⟩, _⟩, ⟨h0', h1'⟩, _⟩ := hx; go_simp; try with_reducible rfl
      refine tkH 10 ?_ hS (fun wx hx => ?_) ?_; rotate_left
      · obtain ⟨⟨_, ⟨⟨⟨e0, e1, e2⟩, _⟩, _⟩, ⟨⟨f0, f1, f2, f3⟩, _⟩, _⟩, ⟨⟨⟨g0', g1', g2', g3'⟩, _⟩, _⟩, ⟨h0', h1'⟩, _⟩ := hx; go_simp; try with_reducible rfl
      refine tkH 11 ?_ hS (fun wx hx => ?_) ?_; rotate_left
      · obtain ⟨⟨_, ⟨⟨⟨e0, e1, e2⟩, _⟩, _⟩, ⟨⟨f0, f1, f2, f3⟩, _⟩, _⟩, ⟨⟨⟨g0', g1', g2', g3'⟩, _⟩, _⟩, ⟨h0', h1'⟩, _⟩ := hx; go_simp; try with_reducible rfl
      try simp only [Act.put, List.getElem_toArray, List.getElem_cons_zero, List.getElem_cons_succ, List.setIfInBounds_toArray, List.set_cons_succ, List.set_cons_zero]
      refine tkH 12 ?_ hS (fun wx hx => ?_) ?_; rotate_left
      · obtain ⟨⟨_, ⟨⟨⟨e0, e1, e2⟩, _⟩, _⟩, ⟨⟨f0, f1, f2, f3⟩, _⟩, _⟩, ⟨⟨⟨g0', g1', g2', g3'⟩, _⟩, _⟩, ⟨h0', h1'⟩, _⟩ := hx; go_simp; try with_reducible rfl
      refine tkH 13 ?_ hS (fun wx hx => ?_) ?_; rotate_left
      · obtain ⟨⟨_, ⟨⟨⟨e0, e1, e2⟩, _⟩, _⟩, ⟨⟨f0, f1, f2, f3⟩, _⟩, _⟩, ⟨⟨⟨g0', g1', g2', g3'⟩, _⟩, _⟩, ⟨h0', h1'⟩, _⟩ := hx; go_simp; try with_reducible rfl
      refine rdH 14 (fun K hK => ?_)
      go_simp
      go_wp2_with fail
      refine (implSame_any R2 R _ _ _ _ _ _ 0 0 true _ hS.2.1.2 hS.1.2.2.2 (by have := HN.out; omega) (by have := HN.out; omega) (by have := HN.out; omega) (by have := HN.out; omega) (by have := HN.out; omega) (by have := HN.out; omega) ⟨fun _ => HSm.out, fun _ => rfl⟩).mono ?_
      rintro e u2 ⟨rfl, q⟩
      have hS' := hS.later q
      clear q
      go_wp2_with fail
      refine hK.out _ _ hS' (fun hS => ?_)
      clear hK K hS'
      have hle : R.nw ≤ S.nw := HN.out.1
      refine tkH 15 ?_ hS (fun wx hx => ?_) ?_; rotate_left
      · obtain ⟨⟨_, ⟨⟨⟨e0, e1, e2⟩, _⟩, _⟩, ⟨⟨f0, f1, f2, f3⟩, _⟩, _⟩, ⟨⟨⟨g0', g1', g2', g3'⟩, _⟩, _⟩, ⟨h0', h1'⟩, _⟩ := hx; go_simp; try with_reducible rfl
      refine tkH 16 ?_ hS (fun wx hx => ?_) ?_; rotate_left
      · obtain ⟨⟨_, ⟨⟨⟨e0, e1, e2⟩, _⟩, _⟩, ⟨⟨f0, f1, f2, f3⟩, _⟩, _⟩, ⟨⟨⟨g0', g1', g2', g3'⟩, _⟩, _⟩, ⟨h0', h1'⟩, _⟩ := hx; go_simp; try with_reducible rfl
      refine tkH 17 ?_ hS (fun wx hx => ?_) ?_; rotate_left
      · obtain ⟨⟨_, ⟨⟨⟨e0, e1, e2⟩, _⟩, _⟩, ⟨⟨f0, f1, f2, f3⟩, _⟩, _⟩, ⟨⟨⟨g0', g1', g2', g3'⟩, _⟩, _⟩, ⟨h0', h1'⟩, _⟩ := hx; go_simp; try with_reducible rfl
      try simp only [Act.put, List.getElem_toArray, List.getElem_cons_zero, List.getElem_cons_succ, List.setIfInBounds_toArray, List.set_cons_succ, List.set_cons_zero]
      refine tkH 18 ?_ hS (fun wx hx => ?_) ?_; rotate_left
      · obtain ⟨⟨_, ⟨⟨⟨e0, e1, e2⟩, _⟩, _⟩, ⟨⟨f0, f1, f2, f3⟩, _⟩, _⟩, ⟨⟨⟨g0', g1', g2', g3'⟩, _⟩, _⟩, ⟨h0', h1'⟩, _⟩ := hx; go_simp; try with_reducible rfl
      refine tkH 19 ?_ hS (fun wx hx => ?_) ?_; rotate_left
      · obtain ⟨⟨_, ⟨⟨⟨e0, e1, e2⟩, _⟩, _⟩, ⟨⟨f0, f1, f2, f3⟩, _⟩, _⟩, ⟨⟨⟨g0', g1', g2', g3'⟩, _⟩, _⟩, ⟨h0', h1'⟩, _⟩ := hx; go_simp; try with_reducible rfl
      refine tkH 20 ?_ hS (fun wx hx => ?_) ?_; rotate_left
      · obtain ⟨⟨_, ⟨⟨⟨e0, e1, e2⟩, _⟩, _⟩, ⟨⟨f0, f1, f2, f3⟩, _⟩, _⟩, ⟨⟨⟨g0', g1', g2', g3'⟩, _⟩, _⟩, ⟨h0', h1'⟩, _⟩ := hx; go_simp; try with_reducible rfl
      try simp only [Act.put, List.getElem_toArray, List.getElem_cons_zero, List.getElem_cons_succ, List.setIfInBounds_toArray, List.set_cons_succ, List.set_cons_zero]
      refine tkH 21 ?_ hS (fun wx hx => ?_) ?_; rotate_left
      · obtain ⟨⟨_, ⟨⟨⟨e0, e1, e2⟩, _⟩, _⟩, ⟨⟨f0, f1, f2, f3⟩, _⟩, _⟩, ⟨⟨⟨g0', g1', g2', g3'⟩, _⟩, _⟩, ⟨h0', h1'⟩, _⟩ := hx; go_simp; try with_reducible rfl
      refine tkH 22 ?_ hS (fun wx hx => ?_) ?_; rotate_left
      · obtain ⟨⟨_, ⟨⟨⟨e0, e1, e2⟩, _⟩, _⟩, ⟨⟨f0, f1, f2, f3⟩, _⟩, _⟩, ⟨⟨⟨g0', g1', g2', g3'⟩, _⟩, _⟩, ⟨h0', h1'⟩, _⟩ := hx; go_simp; try with_reducible rfl
      refine tkH 23 ?_ hS (fun wx hx => ?_) ?_; rotate_left
      · obtain ⟨⟨_, ⟨⟨⟨e0, e1, e2⟩, _⟩, _⟩, ⟨⟨f0, f1, f2, f3⟩, _⟩, _⟩, ⟨⟨⟨g0', g1', g2', g3'⟩, _⟩, _⟩, ⟨h0', h1'⟩, _⟩ := hx; go_simp; try with_reducible rfl
      try simp only [Act.put, List.getElem_toArray, List.getElem_cons_zero, List.getElem_cons_succ, List.setIfInBounds_toArray, List.set_cons_succ, List.set_cons_zero]
      refine tkH 24 ?_ hS (fun wx hx => ?_) ?_; rotate_left
      · obtain ⟨⟨_, ⟨⟨⟨e0, e1, e2⟩, _⟩, _⟩, ⟨⟨f0, f1, f2, f3⟩, _⟩, _⟩, ⟨⟨⟨g0', g1', g2', g3'⟩, _⟩, _⟩, ⟨h0', h1'⟩, _⟩ := hx; go_simp; try with_reducible rfl
      refine tkH 25 ?_ hS (fun wx hx => ?_) ?_; rotate_left
      · obtain ⟨⟨_, ⟨⟨⟨e0, e1, e2⟩, _⟩, _⟩, ⟨⟨f0, f1, f2, f3⟩, _⟩, _⟩, ⟨⟨⟨g0', g1', g2', g3'⟩, _⟩, _⟩, ⟨h0', h1'⟩, _⟩ := hx; go_simp; try with_reducible rfl
      refine tkH 26 ?_ hS (fun wx hx => ?_) ?_; rotate_left
      · obtain ⟨⟨_, ⟨⟨⟨e0, e1, e2⟩, _⟩, _⟩, ⟨⟨f0, f1, f2, f3⟩, _⟩, _⟩, ⟨⟨⟨g0', g1', g2', g3'⟩, _⟩, _⟩, ⟨h0', h1'⟩, _⟩ := hx; go_simp; try with_reducible rfl
      try simp only [Act.put, List.getElem_toArray, List.getElem_cons_zero, List.getElem_cons_succ, List.setIfInBounds_toArray, List.set_cons_succ, List.set_cons_zero]
      refine tkH 27 ?_ hS (fun wx hx => ?_) ?_; rotate_left
      · obtain ⟨⟨_, ⟨⟨⟨e0, e1, e2⟩, _⟩, _⟩, ⟨⟨f0, f1, f2, f3⟩, _⟩, _⟩, ⟨⟨⟨g0', g1', g2', g3'⟩, _⟩, _⟩, ⟨h0', h1'⟩, _⟩ := hx; go_simp; try with_reducible rfl
      refine tkH 28 ?_ hS (fun wx hx => ?_) ?_; rotate_left
      · obtain ⟨⟨_, ⟨⟨⟨e0, e1, e2⟩, _⟩, _⟩, ⟨⟨f0, f1, f2, f3⟩, _⟩, _⟩, ⟨⟨⟨g0', g1', g2', g3'⟩, _⟩, _⟩, ⟨h0', h1'⟩, _⟩ := hx; go_simp; try with_reducible rfl
      refine tkH 29 ?_ hS (fun wx hx => ?_) ?_; rotate_left
      · obtain ⟨⟨_, ⟨⟨⟨e0, e1, e2⟩, _⟩, _⟩, ⟨⟨f0, f1, f2, f3⟩, _⟩, _⟩, ⟨⟨⟨g0', g1', g2', g3'⟩, _⟩, _⟩, ⟨h0', h1'⟩, _⟩ := hx; go_simp; try with_reducible rfl
      try simp only [Act.put, List.getElem_toArray, List.getElem_cons_zero, List.getElem_cons_succ, List.setIfInBounds_toArray, List.set_cons_succ, List.set_cons_zero]
      refine tkH 30 ?_ hS (fun wx hx => ?_) ?_; rotate_left
      · obtain ⟨⟨_, ⟨⟨⟨e0, e1, e2⟩, _⟩, _⟩, ⟨⟨f0, f1, f2, f3⟩, _⟩, _⟩, ⟨⟨⟨g0', g1', g2', g3'⟩, _⟩, _⟩, ⟨h0', h1'⟩, _⟩ := hx; go_simp; try with_reducible rfl
      refine tkH 31 ?_ hS (fun wx hx => ?_) ?_; rotate_left
      · obtain ⟨⟨_, ⟨⟨⟨e0, e1, e2⟩, _⟩, _⟩, ⟨⟨f0, f1, f2, f3⟩, _⟩, _⟩, ⟨⟨⟨g0', g1', g2', g3'⟩, _⟩, _⟩, ⟨h0', h1'⟩, _⟩ := hx; go_simp; try with_reducible rfl
      refine tkH 32 ?_ hS (fun wx hx => ?_) ?_; rotate_left
      · obtain ⟨⟨_, ⟨⟨⟨e0, e1, e2⟩, _⟩, _⟩, ⟨⟨f0, f1, f2, f3⟩, _⟩, _⟩, ⟨⟨⟨g0', g1', g2', g3'⟩, _⟩, _⟩, ⟨h0', h1'⟩, _⟩ := hx; go_simp; try with_reducible rfl
      try simp only [Act.put, List.getElem_toArray, List.getElem_cons_zero, List.getElem_cons_succ, List.setIfInBounds_toArray, List.set_cons_succ, List.set_cons_zero]
      refine rdH 33 (fun K hK => ?_)
      go_simp
      go_wp2_with fail
      refine (specSweepStore_is S _ _ _ safe 0 R 0 _ hS.1.2.1.2 PA.out).mono ?_
      rintro e u3 ⟨m0, m3, m1, m4, m2, m5, rfl, _, q⟩
      have hS' := hS.later q
      clear q
      go_wp2_with fail
      refine hK.out _ _ hS' (fun hS => ?_)
      clear hK K hS'
      have hf1 := fun (w : World) => field_wr1S 0 m0 m1 m2 R.nc R.nl R.nw m3 m4 m5 w
      have hf2 := fun (w : World) => field_wt2S m0 m1 m2 R.nc R.nl R.nw m3 m4 m5 w
      by_cases h4 : c9 = 4
      · subst h4
        refine tkH 34 ?_ hS (fun wx hx => ?_) ?_; rotate_left
        · obtain ⟨⟨_, ⟨⟨⟨e0, e1, e2⟩, _⟩, _⟩, ⟨⟨f0, f1, f2, f3⟩, _⟩, _⟩, ⟨⟨⟨g0', g1', g2', g3'⟩, _⟩, _⟩, ⟨h0', h1'⟩, _⟩ := hx; go_simp; try with_reducible rfl
        refine tkH 35 ?_ hS (fun wx hx => ?_) ?_; rotate_left
        · obtain ⟨⟨_, ⟨⟨⟨e0, e1, e2⟩, _⟩, _⟩, ⟨⟨f0, f1, f2, f3⟩, _⟩, _⟩, ⟨⟨⟨g0', g1', g2', g3'⟩, _⟩, _⟩, ⟨h0', h1'⟩, _⟩ := hx; go_simp; try with_reducible rfl
        refine tkH 36 ?_ hS (fun wx hx => ?_) ?_; rotate_left
        · obtain ⟨⟨_, ⟨⟨⟨e0, e1, e2⟩, _⟩, _⟩, ⟨⟨f0, f1, f2, f3⟩, _⟩, _⟩, ⟨⟨⟨g0', g1', g2', g3'⟩, _⟩, _⟩, ⟨h0', h1'⟩, _⟩ := hx; go_simp; try with_reducible rfl
        try simp only [Act.put, List.getElem_toArray, List.getElem_cons_zero, List.getElem_cons_succ, List.setIfInBounds_toArray, List.set_cons_succ, List.set_cons_zero]
        refine tkH 37 ?_ hS (fun wx hx => ?_) ?_; rotate_left
        · obtain ⟨⟨_, ⟨⟨⟨e0, e1, e2⟩, _⟩, _⟩, ⟨⟨f0, f1, f2, f3⟩, _⟩, _⟩, ⟨⟨⟨g0', g1', g2', g3'⟩, _⟩, _⟩, ⟨h0', h1'⟩, _⟩ := hx; go_simp; try with_reducible rfl
        refine tkH 38 ?_ hS (fun wx hx => ?_) ?_; rotate_left
        · obtain ⟨⟨_, ⟨⟨⟨e0, e1, e2⟩, _⟩, _⟩, ⟨⟨f0, f1, f2, f3⟩, _⟩, _⟩, ⟨⟨⟨g0', g1', g2', g3'⟩, _⟩, _⟩, ⟨h0', h1'⟩, _⟩ := hx; go_simp; try with_reducible rfl
        refine tkH 39 ?_ hS (fun wx hx => ?_) ?_; rotate_left
        · obtain ⟨⟨_, ⟨⟨⟨e0, e1, e2⟩, _⟩, _⟩, ⟨⟨f0, f1, f2, f3⟩, _⟩, _⟩, ⟨⟨⟨g0', g1', g2', g3'⟩, _⟩, _⟩, ⟨h0', h1'⟩, _⟩ := hx; go_simp; try with_reducible rfl
        try simp only [Act.put, List.getElem_toArray, List.getElem_cons_zero, List.getElem_cons_succ, List.setIfInBounds_toArray, List.set_cons_succ, List.set_cons_zero]
        refine tkH 40 ?_ hS (fun wx hx => ?_) ?_; rotate_left
        · obtain ⟨⟨_, ⟨⟨⟨e0, e1, e2⟩, _⟩, _⟩, ⟨⟨f0, f1, f2, f3⟩, _⟩, _⟩, ⟨⟨⟨g0', g1', g2', g3'⟩, _⟩, _⟩, ⟨h0', h1'⟩, _⟩ := hx; go_simp; try with_reducible rfl
        refine tkH 41 ?_ hS (fun wx hx => ?_) ?_; rotate_left
        · obtain ⟨⟨_, ⟨⟨⟨e0, e1, e2⟩, _⟩, _⟩, ⟨⟨f0, f1, f2, f3⟩, _⟩, _⟩, ⟨⟨⟨g0', g1', g2', g3'⟩, _⟩, _⟩, ⟨h0', h1'⟩, _⟩ := hx; go_simp; try with_reducible rfl
        refine tkH 42 ?_ hS (fun wx hx => ?_) ?_; rotate_left
        · obtain ⟨⟨_, ⟨⟨⟨e0, e1, e2⟩, _⟩, _⟩, ⟨⟨f0, f1, f2, f3⟩, _⟩, _⟩, ⟨⟨⟨g0', g1', g2', g3'⟩, _⟩, _⟩, ⟨h0', h1'⟩, _⟩ := hx; go_simp; try with_reducible rfl
        try simp only [Act.put, List.getElem_toArray, List.getElem_cons_zero, List.getElem_cons_succ, List.setIfInBounds_toArray, List.set_cons_succ, List.set_cons_zero]
        refine tkH 43 ?_ hS (fun wx hx => ?_) ?_; rotate_left
        · obtain ⟨⟨_, ⟨⟨⟨e0, e1, e2⟩, _⟩, _⟩, ⟨⟨f0, f1, f2, f3⟩, _⟩, _⟩, ⟨⟨⟨g0', g1', g2', g3'⟩, _⟩, _⟩, ⟨h0', h1'⟩, _⟩ := hx; go_simp; try with_reducible rfl
        refine noH 44 hS ?_
        refine noH 45 hS ?_
        refine noH 46 hS ?_
        refine noH 47 hS ?_
        refine tkH 48 ?_ hS (fun wx hx => ?_) ?_; rotate_left
        · obtain ⟨⟨_, ⟨⟨⟨e0, e1, e2⟩, _⟩, _⟩, ⟨⟨f0, f1, f2, f3⟩, _⟩, _⟩, ⟨⟨⟨g0', g1', g2', g3'⟩, _⟩, _⟩, ⟨h0', h1'⟩, _⟩ := hx; go_simp; try with_reducible rfl
        refine tkH 49 ?_ hS (fun wx hx => ?_) ?_; rotate_left
        · obtain ⟨⟨_, ⟨⟨⟨e0, e1, e2⟩, _⟩, _⟩, ⟨⟨f0, f1, f2, f3⟩, _⟩, _⟩, ⟨⟨⟨g0', g1', g2', g3'⟩, _⟩, _⟩, ⟨h0', h1'⟩, _⟩ := hx; go_simp; try with_reducible rfl
        refine tkH 50 ?_ hS (fun wx hx => ?_) ?_; rotate_left
        · obtain ⟨⟨_, ⟨⟨⟨e0, e1, e2⟩, _⟩, _⟩, ⟨⟨f0, f1, f2, f3⟩, _⟩, _⟩, ⟨⟨⟨g0', g1', g2', g3'⟩, _⟩, _⟩, ⟨h0', h1'⟩, _⟩ := hx; go_simp; try with_reducible rfl
        try simp only [Act.put, List.getElem_toArray, List.getElem_cons_zero, List.getElem_cons_succ, List.setIfInBounds_toArray, List.set_cons_succ, List.set_cons_zero]
        refine wpAnyH_done (by kernel_rfl) ?_ _
        go_simp
        go_wp2
        go_ret
        exact ⟨rfl, hS.1.1⟩
      · have dn : (c9 == 4) = false := beq_eq_false_iff_ne.2 h4
        have dg : decide (safe < d9) = true := decide_eq_true (HOo.out.resolve_left h4)
        refine tkH 34 ?_ hS (fun wx hx => ?_) ?_; rotate_left
        · obtain ⟨⟨_, ⟨⟨⟨e0, e1, e2⟩, _⟩, _⟩, ⟨⟨f0, f1, f2, f3⟩, _⟩, _⟩, ⟨⟨⟨g0', g1', g2', g3'⟩, _⟩, _⟩, ⟨h0', h1'⟩, _⟩ := hx; go_simp; try with_reducible rfl
        refine tkH 35 ?_ hS (fun wx hx => ?_) ?_; rotate_left
        · obtain ⟨⟨_, ⟨⟨⟨e0, e1, e2⟩, _⟩, _⟩, ⟨⟨f0, f1, f2, f3⟩, _⟩, _⟩, ⟨⟨⟨g0', g1', g2', g3'⟩, _⟩, _⟩, ⟨h0', h1'⟩, _⟩ := hx; go_simp; try with_reducible rfl
        refine tkH 36 ?_ hS (fun wx hx => ?_) ?_; rotate_left
        · obtain ⟨⟨_, ⟨⟨⟨e0, e1, e2⟩, _⟩, _⟩, ⟨⟨f0, f1, f2, f3⟩, _⟩, _⟩, ⟨⟨⟨g0', g1', g2', g3'⟩, _⟩, _⟩, ⟨h0', h1'⟩, _⟩ := hx; go_simp; try with_reducible rfl
        try simp only [Act.put, List.getElem_toArray, List.getElem_cons_zero, List.getElem_cons_succ, List.setIfInBounds_toArray, List.set_cons_succ, List.set_cons_zero]
        refine tkH 37 ?_ hS (fun wx hx => ?_) ?_; rotate_left
        · obtain ⟨⟨_, ⟨⟨⟨e0, e1, e2⟩, _⟩, _⟩, ⟨⟨f0, f1, f2, f3⟩, _⟩, _⟩, ⟨⟨⟨g0', g1', g2', g3'⟩, _⟩, _⟩, ⟨h0', h1'⟩, _⟩ := hx; go_simp; try with_reducible rfl
        refine tkH 38 ?_ hS (fun wx hx => ?_) ?_; rotate_left
        · obtain ⟨⟨_, ⟨⟨⟨e0, e1, e2⟩, _⟩, _⟩, ⟨⟨f0, f1, f2, f3⟩, _⟩, _⟩, ⟨⟨⟨g0', g1', g2', g3'⟩, _⟩, _⟩, ⟨h0', h1'⟩, _⟩ := hx; go_simp; try with_reducible rfl
        refine tkH 39 ?_ hS (fun wx hx => ?_) ?_; rotate_left
        · obtain ⟨⟨_, ⟨⟨⟨e0, e1, e2⟩, _⟩, _⟩, ⟨⟨f0, f1, f2, f3⟩, _⟩, _⟩, ⟨⟨⟨g0', g1', g2', g3'⟩, _⟩, _⟩, ⟨h0', h1'⟩, _⟩ := hx; go_simp; try with_reducible rfl
        try simp only [Act.put, List.getElem_toArray, List.getElem_cons_zero, List.getElem_cons_succ, List.setIfInBounds_toArray, List.set_cons_succ, List.set_cons_zero]
        refine tkH 40 ?_ hS (fun wx hx => ?_) ?_; rotate_left
        · obtain ⟨⟨_, ⟨⟨⟨e0, e1, e2⟩, _⟩, _⟩, ⟨⟨f0, f1, f2, f3⟩, _⟩, _⟩, ⟨⟨⟨g0', g1', g2', g3'⟩, _⟩, _⟩, ⟨h0', h1'⟩, _⟩ := hx; go_simp; try with_reducible rfl
        refine tkH 41 ?_ hS (fun wx hx => ?_) ?_; rotate_left
        · obtain ⟨⟨_, ⟨⟨⟨e0, e1, e2⟩, _⟩, _⟩, ⟨⟨f0, f1, f2, f3⟩, _⟩, _⟩, ⟨⟨⟨g0', g1', g2', g3'⟩, _⟩, _⟩, ⟨h0', h1'⟩, _⟩ := hx; go_simp; try with_reducible rfl
        refine tkH 42 ?_ hS (fun wx hx => ?_) ?_; rotate_left
        · obtain ⟨⟨_, ⟨⟨⟨e0, e1, e2⟩, _⟩, _⟩, ⟨⟨f0, f1, f2, f3⟩, _⟩, _⟩, ⟨⟨⟨g0', g1', g2', g3'⟩, _⟩, _⟩, ⟨h0', h1'⟩, _⟩ := hx; go_simp; try with_reducible rfl
        try simp only [Act.put, List.getElem_toArray, List.getElem_cons_zero, List.getElem_cons_succ, List.setIfInBounds_toArray, List.set_cons_succ, List.set_cons_zero]
        refine tkH 43 ?_ hS (fun wx hx => ?_) ?_; rotate_left
        · obtain ⟨⟨_, ⟨⟨⟨e0, e1, e2⟩, _⟩, _⟩, ⟨⟨f0, f1, f2, f3⟩, _⟩, _⟩, ⟨⟨⟨g0', g1', g2', g3'⟩, _⟩, _⟩, ⟨h0', h1'⟩, _⟩ := hx; go_simp; try with_reducible rfl
        refine tkH 44 ?_ hS (fun wx hx => ?_) ?_; rotate_left
        · obtain ⟨⟨_, ⟨⟨⟨e0, e1, e2⟩, _⟩, _⟩, ⟨⟨f0, f1, f2, f3⟩, _⟩, _⟩, ⟨⟨⟨g0', g1', g2', g3'⟩, _⟩, _⟩, ⟨h0', h1'⟩, _⟩ := hx; go_simp; try with_reducible rfl
        refine tkH 45 ?_ hS (fun wx hx => ?_) ?_; rotate_left
        · obtain ⟨⟨_, ⟨⟨⟨e0, e1, e2⟩, _⟩, _⟩, ⟨⟨f0, f1, f2, f3⟩, _⟩, _⟩, ⟨⟨⟨g0', g1', g2', g3'⟩, _⟩, _⟩, ⟨h0', h1'⟩, _⟩ := hx; go_simp; try with_reducible rfl
        try simp only [Act.put, List.getElem_toArray, List.getElem_cons_zero, List.getElem_cons_succ, List.setIfInBounds_toArray, List.set_cons_succ, List.set_cons_zero]
        refine tkH 46 ?_ hS (fun wx hx => ?_) ?_; rotate_left
        · obtain ⟨⟨_, ⟨⟨⟨e0, e1, e2⟩, _⟩, _⟩, ⟨⟨f0, f1, f2, f3⟩, _⟩, _⟩, ⟨⟨⟨g0', g1', g2', g3'⟩, _⟩, _⟩, ⟨h0', h1'⟩, _⟩ := hx; go_simp; try with_reducible rfl
        refine tkH 47 ?_ hS (fun wx hx => ?_) ?_; rotate_left
        · obtain ⟨⟨_, ⟨⟨⟨e0, e1, e2⟩, _⟩, _⟩, ⟨⟨f0, f1, f2, f3⟩, _⟩, _⟩, ⟨⟨⟨g0', g1', g2', g3'⟩, _⟩, _⟩, ⟨h0', h1'⟩, _⟩ := hx; go_simp; try with_reducible rfl
        refine tkH 48 ?_ hS (fun wx hx => ?_) ?_; rotate_left
        · obtain ⟨⟨_, ⟨⟨⟨e0, e1, e2⟩, _⟩, _⟩, ⟨⟨f0, f1, f2, f3⟩, _⟩, _⟩, ⟨⟨⟨g0', g1', g2', g3'⟩, _⟩, _⟩, ⟨h0', h1'⟩, _⟩ := hx; go_simp; try with_reducible rfl
        try simp only [Act.put, List.getElem_toArray, List.getElem_cons_zero, List.getElem_cons_succ, List.setIfInBounds_toArray, List.set_cons_succ, List.set_cons_zero]
        refine tkH 49 ?_ hS (fun wx hx => ?_) ?_; rotate_left
        · obtain ⟨⟨_, ⟨⟨⟨e0, e1, e2⟩, _⟩, _⟩, ⟨⟨f0, f1, f2, f3⟩, _⟩, _⟩, ⟨⟨⟨g0', g1', g2', g3'⟩, _⟩, _⟩, ⟨h0', h1'⟩, _⟩ := hx; go_simp; try with_reducible rfl
        refine tkH 50 ?_ hS (fun wx hx => ?_) ?_; rotate_left
        · obtain ⟨⟨_, ⟨⟨⟨e0, e1, e2⟩, _⟩, _⟩, ⟨⟨f0, f1, f2, f3⟩, _⟩, _⟩, ⟨⟨⟨g0', g1', g2', g3'⟩, _⟩, _⟩, ⟨h0', h1'⟩, _⟩ := hx; go_simp; try with_reducible rfl
        refine wpAnyH_done (by kernel_rfl) ?_ _
        go_simp
        go_wp2
        go_ret
        exact ⟨rfl, hS.1.1⟩
end Go.Proofs.YtnikdbebfofcaaaGreatDoor

namespace Go.Proofs.YtnikdbebfofcaaaGreatDoor
open Go.RowKit

theorem field_or1 (x y : Int) (w : World) : (Instr.field 40 (.agg #[.int .i64 x, .int .i64 y]) 1).run Tryz.prog w = .ok (.int .i64 y) w := by kernel_rfl
theorem l1MaxS_any (a b : Int) (w : World) : Calls Tryz.prog 17 #[.int .i64 a, .int .i64 b] w fun e w' => ∃ m : Int, e = .returned (.int .i64 m) ∧ w' = w := by
  by_cases h : b < a
  · go_enter Tryz.func17, Tryz.ntmps17
    go_wp2
    go_ret
    exact ⟨_, rfl, rfl⟩
  · go_enter Tryz.func17, Tryz.ntmps17
    go_wp2
    go_ret
    exact ⟨⟨_, rfl⟩, rfl⟩
set_option maxRecDepth 100000 in
set_option maxHeartbeats 4000000 in
theorem drawSweepStore_any (w : World) (o : Option Addr) (len cap : Nat) (h : Code w o len) (hl : len ≤ 1048576) :
    Calls Tryz.prog 5 #[.slice o len cap] w (DrawnU w) := by
  have H : Hid (Code w o len) := h
  have HR : Hid (Blk3 (w.alloc (.cells #[.slice none 0 0, .slice none 0 0, .slice none 0 0] 28)) w.heap.size (.slice none 0 0) (.slice none 0 0) (.slice none 0 0)) := Blk3.new w _ _ _ _
  have hsz : Hid ((w.alloc (.cells #[.slice none 0 0, .slice none 0 0, .slice none 0 0] 28)).heap.size = w.heap.size + 1) := World.size_alloc _ _
  clear h
  go_enter Tryz.func5, Tryz.ntmps5
  go_wp2_with fail
  refine (l1Source_any _ o len cap (H.out.later (below_alloc _ _))).mono ?_
  rintro e w1 ⟨rfl, hS, hb, hz⟩
  have H1 : Hid (Src w1 (w.heap.size + 1) o len cap 0 ∧ Below w.heap.size w w1 ∧ Blk3 w1 w.heap.size (.slice none 0 0) (.slice none 0 0) (.slice none 0 0)) := by
    rw [hsz.out] at hS
    exact ⟨hS, (below_alloc w _).trans (hb.mono (by rw [hsz.out]; omega)), HR.out.later hb⟩
  clear hS hb hz HR
  try rw [hsz.out]
  go_wp2_with fail
  refine (l3Bent_any w1 (w.heap.size + 1) o len cap 0 H1.out.1 (by omega) hl).mono ?_
  rintro e w2 ⟨S, a0, c0, a1, c1, a2, c2, z, rfl, ⟨hsz2, hz⟩, hst, hsrc, hT⟩
  have HX : Hid (DrX w (w.heap.size + 1) o len cap w2.heap.size S (.slice a0 S.nc c0) (.slice a1 S.nl c1) (.slice a2 S.nw c2) z (w2.alloc (.cells #[.slice a0 S.nc c0, .slice a1 S.nl c1, .slice a2 S.nw c2] 28))) := by
    have hlt := H1.out.1.lt
    have hs2 := hT.size
    exact { src := hsrc.alloc _, bel := (Below.but H1.out.2.1 hT H1.out.2.1.size (Nat.le_succ _)).alloc (by have := H1.out.2.1.size; omega) _, res := (H1.out.2.2.butS hT (by omega)).alloc _, box := Blk3.new _ _ _ _ _, st := (hst.mono (by omega)).alloc _, sz := hsz2, lo := Nat.lt_succ_self _, bl := by omega, base := ⟨w1, 0, H1.out.1, hT.alloc _, hs2⟩ }
  have HZ : Hid (z ≤ 1000) := by unfold Hid; omega
  clear hsz2 hz hst hsrc hT H1
  go_upto_region 3 with fail
  generalize w2.alloc (.cells #[.slice a0 S.nc c0, .slice a1 S.nl c1, .slice a2 S.nw c2] 28) = x0 at HX ⊢
  generalize w2.heap.size = bx at HX ⊢
  go_wp2_with fail
  refine (l1Next_any x0 (w.heap.size + 1) o len cap z 40 HX.out.src (by have := HZ.out; omega) hl).mono ?_
  rintro e x1 ⟨r, rfl, hr0, hr1, hsrc, hT⟩
  have hr2 : r < 40 := hr1 (by omega)
  have hwr : IntKind.i64.wrap (1 + r) = 1 + r := by simp [IntKind.wrap, IntKind.bits, IntKind.signed]; omega
  have HX := hid_mk (HX.out.step hT hsrc)
  have HS0 : Hid (S.nl ≤ 1048576) := by
    have := HX.out.sz
    unfold Sz2 at this
    unfold Hid
    omega
  clear hsrc hT hr1
  go_upto_region 4 with fail
  go_cut [26] (fun s wx => ∃ (b : Bool) (y : Int), s = .bool b ∧ y ≤ z + 10 ∧ Hid (DrX w (w.heap.size + 1) o len cap bx S (.slice a0 S.nc c0) (.slice a1 S.nl c1) (.slice a2 S.nw c2) y wx))
  case first =>
    by_cases hpos : 0 < S.nl
    · have dn : decide (0 < S.nl) = true := decide_eq_true hpos
      obtain ⟨⟨t0, t1, t2⟩, ft0, ft1, ft2⟩ := HX.out.box
      go_wp2_with fail
      refine (l2Fault_any S bx _ _ _ _ ⟨HX.out.box.1, HX.out.st.mono (Nat.zero_le _)⟩).mono ?_
      rintro e x2 ⟨rfl, q⟩
      have HX := hid_mk (HX.out.later q)
      clear q
      clear t0 t1 t2 ft0 ft1 ft2
      obtain ⟨f, hf⟩ : ∃ f, storeF S = f := ⟨_, rfl⟩
      rw [hf]
      have HF : Hid (storeF S = f) := hf
      clear hf
      by_cases hf0 : f = 0
      · subst hf0
        go_wp2_with fail
        refine (l1Chance_any x2 (w.heap.size + 1) o len cap _ 3 HX.out.src (by have := HZ.out; omega) hl).mono ?_
        rintro e x3 ⟨b, rfl, hsrc, hT⟩
        have HX := hid_mk (HX.out.step hT hsrc)
        clear hsrc hT
        go_wp2_with fail
        go_meet
        case rel => exact ⟨_, _, rfl, by omega, HX⟩
      · have hfn : (f == 0) = false := beq_eq_false_iff_ne.2 hf0
        clear hf0
        go_wp2_with fail
        go_meet
        case rel => exact ⟨_, _, rfl, by omega, HX⟩
    · have dn : decide (0 < S.nl) = false := decide_eq_false hpos
      clear hpos
      obtain ⟨⟨t0, t1, t2⟩, ft0, ft1, ft2⟩ := HX.out.box
      go_wp2_with fail
      go_meet
      case rel => exact ⟨_, _, rfl, by omega, HX⟩
  case rest =>
  obtain ⟨b, y, rfl, hy, HX⟩ := hcut
  cases b
  · clear hwr hr0 hr2
    go_wp2_with fail
    refine (l1Chance_any _ (w.heap.size + 1) o len cap _ 20 HX.out.src (by have := HZ.out; omega) hl).mono ?_
    rintro e x6 ⟨b, rfl, hsrc, hT⟩
    have HX := hid_mk (HX.out.step hT hsrc)
    clear hsrc hT
    have HB := hid_mk (((HX.out.res.set0 (.slice a0 S.nc c0)).set1 (.slice a1 S.nl c1)).set2 (.slice a2 S.nw c2))
    have hf : ∀ j, (⟨w.heap.size, j, none⟩ : Addr).block < w.heap.size + 1 + 1 := fun j => by show w.heap.size < w.heap.size + 1 + 1; omega
    obtain ⟨⟨r0, r1, r2⟩, fr0, fr1, fr2⟩ := HX.out.res
    cases b
    · obtain ⟨⟨t0, t1, t2⟩, ft0, ft1, ft2⟩ := HX.out.box
      go_wp2
      obtain ⟨⟨p0, p1, p2⟩, _⟩ := HB.out
      exact bodyPost_ret (v := .tuple #[.agg #[.slice a0 S.nc c0, .slice a1 S.nl c1, .slice a2 S.nw c2], .int .i64 (1 + r)]) (by simp [results, Tryz.results5, go_sem, p0, p1, p2]) rfl ⟨S, a0, c0, a1, c1, a2, c2, (1 + r), rfl, (((HX.out.st.far (hf 0) _).far (hf 1) _).far (hf 2) _).mono (Nat.zero_le _), ((HX.out.bel.setCell (Nat.le_refl _) _).setCell (Nat.le_refl _) _).setCell (Nat.le_refl _) _⟩
    · obtain ⟨⟨t0, t1, t2⟩, ft0, ft1, ft2⟩ := HX.out.box
      go_wp2
      obtain ⟨⟨p0, p1, p2⟩, _⟩ := HB.out
      exact bodyPost_ret (v := .tuple #[.agg #[.slice a0 S.nc c0, .slice a1 S.nl c1, .slice a2 S.nw c2], .int .i64 0]) (by simp [results, Tryz.results5, go_sem, p0, p1, p2]) rfl ⟨S, a0, c0, a1, c1, a2, c2, 0, rfl, (((HX.out.st.far (hf 0) _).far (hf 1) _).far (hf 2) _).mono (Nat.zero_le _), ((HX.out.bel.setCell (Nat.le_refl _) _).setCell (Nat.le_refl _) _).setCell (Nat.le_refl _) _⟩
  · clear hwr hr0 hr2
    obtain ⟨⟨t0, t1, t2⟩, ft0, ft1, ft2⟩ := HX.out.box
    go_wp2_with fail
    obtain ⟨oc, ov, hO⟩ := OldAns.get S
    refine (specOldestLock_is S _ _ _ oc ov 0 _ (HX.out.st.mono (Nat.zero_le _)) hO).mono ?_
    rintro e x4 ⟨rfl, q⟩
    have HX := hid_mk (HX.out.later q)
    have hfo := fun (w : World) => field_or1 oc ov w
    clear q hO
    clear t0 t1 t2 ft0 ft1 ft2
    go_wp2_with fail
    refine (l1MaxS_any _ _ _).mono ?_
    rintro e x5 ⟨m, rfl, rfl⟩
    clear hfo
    go_wp2_with fail
    refine (l1Chance_any _ (w.heap.size + 1) o len cap _ 20 HX.out.src (by have := HZ.out; omega) hl).mono ?_
    rintro e x6 ⟨b, rfl, hsrc, hT⟩
    have HX := hid_mk (HX.out.step hT hsrc)
    clear hsrc hT
    have HB := hid_mk (((HX.out.res.set0 (.slice a0 S.nc c0)).set1 (.slice a1 S.nl c1)).set2 (.slice a2 S.nw c2))
    have hf : ∀ j, (⟨w.heap.size, j, none⟩ : Addr).block < w.heap.size + 1 + 1 := fun j => by show w.heap.size < w.heap.size + 1 + 1; omega
    obtain ⟨⟨r0, r1, r2⟩, fr0, fr1, fr2⟩ := HX.out.res
    cases b
    · obtain ⟨⟨t0, t1, t2⟩, ft0, ft1, ft2⟩ := HX.out.box
      go_wp2
      obtain ⟨⟨p0, p1, p2⟩, _⟩ := HB.out
      exact bodyPost_ret (v := .tuple #[.agg #[.slice a0 S.nc c0, .slice a1 S.nl c1, .slice a2 S.nw c2], .int .i64 m]) (by simp [results, Tryz.results5, go_sem, p0, p1, p2]) rfl ⟨S, a0, c0, a1, c1, a2, c2, m, rfl, (((HX.out.st.far (hf 0) _).far (hf 1) _).far (hf 2) _).mono (Nat.zero_le _), ((HX.out.bel.setCell (Nat.le_refl _) _).setCell (Nat.le_refl _) _).setCell (Nat.le_refl _) _⟩
    · obtain ⟨⟨t0, t1, t2⟩, ft0, ft1, ft2⟩ := HX.out.box
      go_wp2
      obtain ⟨⟨p0, p1, p2⟩, _⟩ := HB.out
      exact bodyPost_ret (v := .tuple #[.agg #[.slice a0 S.nc c0, .slice a1 S.nl c1, .slice a2 S.nw c2], .int .i64 0]) (by simp [results, Tryz.results5, go_sem, p0, p1, p2]) rfl ⟨S, a0, c0, a1, c1, a2, c2, 0, rfl, (((HX.out.st.far (hf 0) _).far (hf 1) _).far (hf 2) _).mono (Nat.zero_le _), ((HX.out.bel.setCell (Nat.le_refl _) _).setCell (Nat.le_refl _) _).setCell (Nat.le_refl _) _⟩
end Go.Proofs.YtnikdbebfofcaaaGreatDoor

namespace Go.Proofs.YtnikdbebfofcaaaGreatDoor
open Go.RowKit

theorem fnSweeps_walk (o : Option Addr) (len cap : Nat) (w : World) (hL : Laid w) (h : Code w o len) (hl0 : len ≤ maxLen) :
    Calls Tryz.prog 3 #[.slice o len cap] w fun e w' => e = .returned (.bool true) ∧ Below w.heap.size w w' :=
  fnSweeps_over o len cap w hL hl0 (fun hl => drawSweepStore_any w o len cap h hl)
end Go.Proofs.YtnikdbebfofcaaaGreatDoor

