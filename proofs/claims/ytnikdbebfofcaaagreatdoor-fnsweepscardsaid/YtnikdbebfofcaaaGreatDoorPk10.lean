/-
  Own text, merged of SweepJ, StorG, StorH, StorI, LawI, StatC.
-/
import Derived.Test.YtnikdbebfofcaaaGreatDoorPk9
namespace Go.Proofs.YtnikdbebfofcaaaGreatDoor
section
open Go.RowKit
theorem writeF_next {k : Nat → Int} {i : Nat} (h : writeF k (i + 1) = 0) : pairLt (k (i * 4)) (k (i * 4 + 1)) (k ((i + 1) * 4)) (k ((i + 1) * 4 + 1)) := by
  have hz := writeF_zero h
  unfold writeF at h
  rw [if_neg (by rw [hz.1]; exact fun q => q rfl), if_neg (fun q => q hz.2)] at h
  by_cases q : (0 < i + 1 ∧ ¬ (k ((i + 1 - 1) * 4) < k ((i + 1) * 4) ∨ k ((i + 1 - 1) * 4) = k ((i + 1) * 4) ∧ k ((i + 1 - 1) * 4 + 1) < k ((i + 1) * 4 + 1))) ∨ ¬ fits k (i + 1)
  · rw [if_pos q] at h
    exact absurd h (by decide)
  · unfold pairLt
    rw [Nat.add_sub_cancel] at q
    have : ¬ ¬ (k (i * 4) < k ((i + 1) * 4) ∨ k (i * 4) = k ((i + 1) * 4) ∧ k (i * 4 + 1) < k ((i + 1) * 4 + 1)) := fun e => q (Or.inl ⟨Nat.succ_pos _, e⟩)
    exact Classical.not_not.1 this
theorem writes_rise {S : Sto} (h : scan (writeF S.k) S.nw = 0) : ∀ j, j < S.nw → ∀ i, i < j → pairLt (S.k (i * 4)) (S.k (i * 4 + 1)) (S.k (j * 4)) (S.k (j * 4 + 1)) :=
  rise_pairs (p := fun i => S.k (i * 4)) (q := fun i => S.k (i * 4 + 1)) (fun i hi => writeF_next (scan_zero h (i + 1) hi))
theorem write_one {S : Sto} (h : scan (writeF S.k) S.nw = 0) {i j : Nat} (hi : i < S.nw) (hj : j < S.nw) (e0 : S.k (i * 4) = S.k (j * 4)) (e1 : S.k (i * 4 + 1) = S.k (j * 4 + 1)) : i = j := by
  rcases Nat.lt_trichotomy i j with e | e | e
  · exact absurd ⟨e0, e1⟩ (writes_rise h j hj i e).ne
  · exact e
  · exact absurd ⟨e0.symm, e1.symm⟩ (writes_rise h i hi j e).ne
/-- Which write stays. -/
def stayW (k : Nat → Int) (nw : Nat) (safe : Int) (i : Nat) : Prop := safe < k (i * 4 + 1) ∨ lastW k nw (k (i * 4)) safe i ∧ k (i * 4 + 3) = 1
theorem stay_is {S : Sto} (h : scan (writeF S.k) S.nw = 0) {safe : Int} {i : Nat} (hi : i < S.nw) : sweptD S.k S.nw safe (struD S.k 4 i) = false ↔ stayW S.k S.nw safe i := by
  have e0 := struD_get S.k 4 i 0 (by omega)
  have e1 := struD_get S.k 4 i 1 (by omega)
  have e2 := struD_get S.k 4 i 2 (by omega)
  have e3 := struD_get S.k 4 i 3 (by omega)
  rw [Nat.add_zero] at e0
  have hk := writeF_zero (scan_zero h i hi)
  have key : sweptD S.k S.nw safe (struD S.k 4 i) = true ↔ Swept S.k S.nw safe (S.k (i * 4)) (S.k (i * 4 + 1)) (S.k (i * 4 + 2)) (S.k (i * 4 + 3)) := by rw [sweptD_iff, e0, e1, e2, e3]
  have hneg : sweptD S.k S.nw safe (struD S.k 4 i) = false ↔ ¬ Swept S.k S.nw safe (S.k (i * 4)) (S.k (i * 4 + 1)) (S.k (i * 4 + 2)) (S.k (i * 4 + 3)) := by
    rw [← key]
    cases sweptD S.k S.nw safe (struD S.k 4 i) <;> simp
  rw [hneg]
  unfold stayW
  constructor
  · intro hs
    by_cases hc : safe < S.k (i * 4 + 1)
    · exact Or.inl hc
    · refine Or.inr ?_
      rcases lastW_or S.k S.nw (S.k (i * 4)) safe with hno | ⟨j, hj⟩
      · exact absurd ⟨by omega, Or.inr ⟨hno, fun q => by omega⟩⟩ hs
      · by_cases hq : S.k (i * 4) = S.k (j * 4) ∧ S.k (i * 4 + 1) = S.k (j * 4 + 1) ∧ S.k (i * 4 + 2) = S.k (j * 4 + 2) ∧ S.k (i * 4 + 3) = S.k (j * 4 + 3)
        · obtain rfl := write_one h hi hj.1 hq.1 hq.2.1
          refine ⟨hj, ?_⟩
          have h2 : ¬ S.k (i * 4 + 3) = 2 := fun q => hs ⟨by omega, Or.inl ⟨i, hj, Or.inr q⟩⟩
          have := hj.2.1.2.2
          omega
        · exact absurd ⟨by omega, Or.inl ⟨j, hj, Or.inl hq⟩⟩ hs
  · rintro (hc | ⟨hl, h1⟩) ⟨hs, hr⟩
    · omega
    · rcases hr with ⟨j, hj, hq⟩ | ⟨hno, _⟩
      · obtain rfl := hl.one hj
        rcases hq with hq | hq
        · exact hq ⟨rfl, rfl, rfl, rfl⟩
        · omega
      · exact hno i hl
theorem stay_not {S : Sto} (h : scan (writeF S.k) S.nw = 0) {safe : Int} {i : Nat} (hi : i < S.nw) : sweptD S.k S.nw safe (struD S.k 4 i) = true ↔ ¬ stayW S.k S.nw safe i := by
  rw [← stay_is h hi]
  cases sweptD S.k S.nw safe (struD S.k 4 i) <;> simp
theorem lockF_rise {S : Sto} (h : scan (lockF S.l) S.nl = 0) : ∀ j, j < S.nl → ∀ i, i < j → S.l (i * 5) < S.l (j * 5)
  | 0, _, i, hi => by omega
  | j + 1, hj, i, hi => by
    have e := lockF_next (scan_zero h (j + 1) hj)
    by_cases q : i = j
    · subst q; exact e
    · have := lockF_rise h j (by omega) i (by omega)
      omega
/-- A cell that the model finds needed: by the first write of its place, or by its key's lock. -/
def neededAt (nl : Nat) (l : Nat → Int) (nw : Nat) (k : Nat → Int) (a b : Int) : Prop := (∃ i : Nat, FirstAt (writeIs k a b) nw i ∧ k (i * 4 + 3) = 1) ∨ ∃ i : Nat, FirstAt (lockIs l a) nl i ∧ l (i * 5 + 1) = b ∧ l (i * 5 + 2) = 1
/-- A kept write is one of the old ones, and no other kept one has its place. -/
theorem kept_write {S : Sto} {safe : Int} {j : Nat} (hj : j < swN S.nw S.k safe) : ∃ i, i < S.nw ∧ ∀ q, q < 4 → swF S.nw S.k safe (j * 4 + q) = S.k (i * 4 + q) := by
  obtain ⟨i, hi, _, hn⟩ := selD_num (F := S.k) (m := 4) (D := sweptD S.k S.nw safe) (k := S.nw) (j := j) hj
  exact ⟨i, hi, hn⟩
theorem once_two {S : Sto} (h : once S) {i j : Nat} (hi : i < S.nw) (hj : j < S.nw) (e0 : S.k (i * 4) = S.k (j * 4)) (e2 : S.k (i * 4 + 2) = S.k (j * 4 + 2)) : i = j := by
  rcases Nat.lt_trichotomy i j with e | e | e
  · exact absurd ⟨i, e, e0, e2⟩ (h.1 j hj)
  · exact e
  · exact absurd ⟨j, e, e0.symm, e2.symm⟩ (h.1 i hi)
theorem needed_is {S : Sto} {safe : Int} (hz : storeF S = 0) (a b : Int) : neededAt S.nl S.l (swN S.nw S.k safe) (swF S.nw S.k safe) a b ↔ (a, b) ∈ swP S safe := by
  obtain ⟨_, z0, z1, z2, hN, hO⟩ := storeF_zero hz
  unfold neededAt swP putP
  rw [List.mem_append, selP_mem, selP_mem]
  constructor
  · rintro (⟨i, hf, h1⟩ | ⟨i, hf, h1, h2⟩)
    · rcases hf with ⟨e, _⟩ | ⟨j, hj, e, hp, _⟩
      · omega
      · obtain rfl : i = j := by omega
        exact Or.inr ⟨i, hj, h1, hp.1, hp.2⟩
    · rcases hf with ⟨e, _⟩ | ⟨j, hj, e, hp, _⟩
      · omega
      · obtain rfl : i = j := by omega
        exact Or.inl ⟨i, hj, h2, hp, h1⟩
  · rintro (⟨i, hi, h1, h2, h3⟩ | ⟨i, hi, h1, h2, h3⟩)
    · refine Or.inr ⟨i, Or.inr ⟨i, hi, rfl, h2, fun j hj hp => ?_⟩, h3, h1⟩
      have := lockF_rise z1 i hi j hj
      unfold lockIs at hp
      omega
    · obtain ⟨r, hr⟩ := FirstAt.get (writeIs (swF S.nw S.k safe) a b) (swN S.nw S.k safe)
      rcases hr with ⟨_, hr⟩ | ⟨j, g1, rfl, g2, g3⟩
      · exact absurd ⟨h2, h3⟩ (hr i hi)
      · refine Or.inl ⟨j, Or.inr ⟨j, g1, rfl, g2, g3⟩, ?_⟩
        obtain ⟨i', hi', ei⟩ := kept_write hi
        obtain ⟨j', hj', ej⟩ := kept_write g1
        have f0 := ei 0 (by omega)
        have g0 := ej 0 (by omega)
        rw [Nat.add_zero, Nat.add_zero] at f0 g0
        obtain rfl := once_two hO hi' hj' (by rw [← f0, ← g0, h2, g2.1]) (by rw [← ei 2 (by omega), ← ej 2 (by omega), h3, g2.2])
        rw [ej 3 (by omega), ← ei 3 (by omega), h1]
theorem gone_is {S : Sto} {safe : Int} (hz : storeF S = 0) (i : Nat) : goneC (swP S safe) (struD S.c 3 i) = false ↔ neededAt S.nl S.l (swN S.nw S.k safe) (swF S.nw S.k safe) (S.c (i * 3)) (S.c (i * 3 + 1)) := by
  have e0 := struD_get S.c 3 i 0 (by omega)
  have e1 := struD_get S.c 3 i 1 (by omega)
  rw [Nat.add_zero] at e0
  unfold goneC
  rw [needed_is hz, e0, e1]
  simp
/-- A lock holds the sweep: the lowest start is not above the safe time. -/
theorem held_is (l : Nat → Int) (safe : Int) : ∀ n, (∀ i, i < n → safe < l (i * 5 + 1)) ↔ ¬ held n l safe := by
  have low : ∀ n, (∀ i, i < n + 1 → safe < l (i * 5 + 1)) ↔ safe < lowL l (n + 1) := by
    intro n
    induction n with
    | zero =>
      constructor
      · intro h
        have := h 0 (by omega)
        simpa [lowL] using this
      · intro h i hi
        obtain rfl : i = 0 := by omega
        simpa [lowL] using h
    | succ n ih =>
      rw [lowL]
      constructor
      · intro h
        have h1 := ih.1 (fun i hi => h i (by omega))
        have h2 := h (n + 1) (by omega)
        split <;> assumption
      · intro h i hi
        by_cases q : i = n + 1
        · subst q
          split at h <;> omega
        · exact ih.2 (by split at h <;> omega) i (by omega)
  intro n
  unfold held
  cases n with
  | zero => simp
  | succ n =>
    rw [low n]
    omega
end

section
open Go.RowKit
/-- The lock that is asked, the cell, and that nothing old has turned. -/
def NeedEnv (w : World) (b : Nat) (v1 : Value) (g o j N : Nat) (st kd s : Int) (x : World) : Prop := (x.cell? ⟨b, 1, none⟩ = some v1 ∧ x.cell? ⟨g, o + j * 5 + 1, none⟩ = some (.int .i64 st) ∧ x.cell? ⟨g, o + j * 5 + 2, none⟩ = some (.int .i64 kd) ∧ x.cell? ⟨N, 1, none⟩ = some (.int .i64 s)) ∧ Below w.heap.size w x
/-- No write of this place is a put. -/
def noPut (S : Sto) (a s : Int) : Prop := ∃ r, FirstAt (writeIs S.k a s) S.nw r ∧ (r = -1 ∨ ∃ i : Nat, i < S.nw ∧ r = i ∧ S.k (i * 4 + 3) ≠ 1)
theorem l4Needed_ways (S : Sto) (a s : Int) : (∃ i : Nat, (i < S.nw ∧ S.k (i * 4 + 3) = 1) ∧ FirstAt (writeIs S.k a s) S.nw i) ∨ noPut S a s := by
  obtain ⟨r, hr⟩ := FirstAt.get (writeIs S.k a s) S.nw
  rcases hr with ⟨rfl, h⟩ | ⟨i, h1, rfl, h2, h3⟩
  · exact Or.inr ⟨-1, Or.inl ⟨rfl, h⟩, Or.inl rfl⟩
  · by_cases q : S.k (i * 4 + 3) = 1
    · exact Or.inl ⟨i, ⟨h1, q⟩, Or.inr ⟨i, h1, rfl, h2, h3⟩⟩
    · exact Or.inr ⟨i, Or.inr ⟨i, h1, rfl, h2, h3⟩, Or.inr ⟨i, h1, rfl, q⟩⟩
set_option maxRecDepth 100000 in
set_option maxHeartbeats 4000000 in
theorem l4Needed_put (S : Sto) (b : Nat) (v0 v1 v2 : Value) (a s u : Int) (i : Nat) (w : World) (h : Lies w b S v0 v1 v2) (hn : S.nw ≤ 200) (hi : i < S.nw ∧ S.k (i * 4 + 3) = 1) (hf : FirstAt (writeIs S.k a s) S.nw i) :
    Calls Tryz.prog 56 #[.pointer (some ⟨b, 0, none⟩), .agg #[.int .i64 a, .int .i64 s, .int .i64 u]] w fun e w' => e = .returned (.bool true) ∧ Below w.heap.size w w' := by
  have HF : Hid (FirstAt (writeIs S.k a s) S.nw i) := hf
  obtain ⟨hi, hk⟩ := hi
  clear hf
  obtain ⟨a0, c0, a1, c1, a2, c2, rfl, rfl, rfl⟩ := h.2.form
  have H : Hid (Lies (w.alloc (.cells #[.int .i64 a, .int .i64 s, .int .i64 u] 75)) b S (.slice a0 S.nc c0) (.slice a1 S.nl c1) (.slice a2 S.nw c2)) := h.later (below_alloc _ _)
  have HB : Hid (Below w.heap.size w (w.alloc (.cells #[.int .i64 a, .int .i64 s, .int .i64 u] 75))) := below_alloc _ _
  have e1 := H.out.1.2.1
  have e2 := H.out.1.2.2
  have hbl := h.lt
  clear h
  obtain ⟨g, o, rfl, _, hg, x0, x1, x2, x3⟩ := H.out.2.2.2.at4 hi
  rw [hk] at x3
  have hin : (i : Int) < (S.nw : Int) := by omega
  clear hk x0 x1 x2
  go_enter Tryz.func56, Tryz.ntmps56
  go_wp2_with fail
  refine (l2Write_is S b _ _ _ a s i _ H.out hn HF.out).mono ?_
  rintro e w1 ⟨rfl, rfl⟩
  go_wp2
  go_ret
  exact ⟨rfl, HB.out⟩

set_option maxRecDepth 100000 in
set_option maxHeartbeats 4000000 in
theorem l4Needed_none_free (S : Sto) (b : Nat) (v0 v1 v2 : Value) (a s u : Int) (w : World) (h : Lies w b S v0 v1 v2) (hn : S.nw ≤ 200) (hf : FirstAt (writeIs S.k a s) S.nw (-1)) (hl : S.nl ≤ 200) (hL : FirstAt (lockIs S.l a) S.nl (-1)) :
    Calls Tryz.prog 56 #[.pointer (some ⟨b, 0, none⟩), .agg #[.int .i64 a, .int .i64 s, .int .i64 u]] w fun e w' => e = .returned (.bool false) ∧ Below w.heap.size w w' := by
  have HL : Hid (FirstAt (lockIs S.l a) S.nl (-1)) := hL
  clear hL
  have HF : Hid (FirstAt (writeIs S.k a s) S.nw (-1)) := hf
  clear hf
  obtain ⟨a0, c0, a1, c1, a2, c2, rfl, rfl, rfl⟩ := h.2.form
  have H : Hid (Lies (w.alloc (.cells #[.int .i64 a, .int .i64 s, .int .i64 u] 75)) b S (.slice a0 S.nc c0) (.slice a1 S.nl c1) (.slice a2 S.nw c2)) := h.later (below_alloc _ _)
  have HB : Hid (Below w.heap.size w (w.alloc (.cells #[.int .i64 a, .int .i64 s, .int .i64 u] 75))) := below_alloc _ _
  have e1 := H.out.1.2.1
  have e2 := H.out.1.2.2
  have hbl := h.lt
  clear h
  go_enter Tryz.func56, Tryz.ntmps56
  go_wp2_with fail
  refine (l2Write_is S b _ _ _ a s (-1) _ H.out hn HF.out).mono ?_
  rintro e w1 ⟨rfl, rfl⟩
  go_wp2_with fail
  refine (l2Lock_is S b _ _ _ a (-1) _ H.out hl HL.out).mono ?_
  rintro e w1 ⟨rfl, rfl⟩
  have h0 : Below w.heap.size w (w.alloc (.cells #[.int .i64 a, .int .i64 s, .int .i64 u] 75)).drew := HB.out.drew
  go_wp2_with fail
  refine wp_region_held_drew (S := fun x => Below w.heap.size w x) (by kernel_rfl) h0 (fun hS => ?_)
  clear h0
  refine tkH 0 ?_ hS (fun wx hx => ?_) ?_; rotate_left
  · go_simp; try with_reducible rfl
  refine tkH 1 ?_ hS (fun wx hx => ?_) ?_; rotate_left
  · go_simp; try with_reducible rfl
  refine tkH 2 ?_ hS (fun wx hx => ?_) ?_; rotate_left
  · go_simp; try with_reducible rfl
  refine noH 3 hS ?_
  refine noH 4 hS ?_
  refine noH 5 hS ?_
  refine noH 6 hS ?_
  refine noH 7 hS ?_
  refine noH 8 hS ?_
  refine noH 9 hS ?_
  refine noH 10 hS ?_
  refine noH 11 hS ?_
  refine noH 12 hS ?_
  refine noH 13 hS ?_
  refine tkH 14 ?_ hS (fun wx hx => ?_) ?_; rotate_left
  · go_simp; try with_reducible rfl
  refine tkH 15 ?_ hS (fun wx hx => ?_) ?_; rotate_left
  · go_simp; try with_reducible rfl
  refine noH 16 hS ?_
  refine noH 17 hS ?_
  refine noH 18 hS ?_
  refine noH 19 hS ?_
  refine noH 20 hS ?_
  refine noH 21 hS ?_
  refine noH 22 hS ?_
  refine noH 23 hS ?_
  refine noH 24 hS ?_
  refine tkH 25 ?_ hS (fun wx hx => ?_) ?_; rotate_left
  · go_simp; try with_reducible rfl
  refine tkH 26 ?_ hS (fun wx hx => ?_) ?_; rotate_left
  · go_simp; try with_reducible rfl
  refine wpAnyH_done (by kernel_rfl) ?_ _
  go_simp
  go_wp2
  go_ret
  exact ⟨rfl, hS⟩

set_option maxRecDepth 100000 in
set_option maxHeartbeats 8000000 in
theorem l4Needed_none_lock (S : Sto) (b : Nat) (v0 v1 v2 : Value) (a s u : Int) (w : World) (h : Lies w b S v0 v1 v2) (hn : S.nw ≤ 200) (hf : FirstAt (writeIs S.k a s) S.nw (-1)) (hl : S.nl ≤ 200) (j : Nat) (hj : j < S.nl) (hL : FirstAt (lockIs S.l a) S.nl j) :
    Calls Tryz.prog 56 #[.pointer (some ⟨b, 0, none⟩), .agg #[.int .i64 a, .int .i64 s, .int .i64 u]] w fun e w' => e = .returned (.bool (decide (S.l (j * 5 + 1) = s ∧ S.l (j * 5 + 2) = 1))) ∧ Below w.heap.size w w' := by
  have HL : Hid (FirstAt (lockIs S.l a) S.nl j) := hL
  obtain ⟨st, hst⟩ : ∃ x, S.l (j * 5 + 1) = x := ⟨_, rfl⟩
  obtain ⟨kd, hkd⟩ : ∃ x, S.l (j * 5 + 2) = x := ⟨_, rfl⟩
  rw [hst, hkd]
  obtain ⟨r, hr⟩ : ∃ x, decide (st = s ∧ kd = 1) = x := ⟨_, rfl⟩
  rw [hr]
  have HR : Hid (decide (st = s ∧ kd = 1) = r) := hr
  have HV : Hid (S.l (j * 5 + 1) = st ∧ S.l (j * 5 + 2) = kd) := ⟨hst, hkd⟩
  clear hL hst hkd hr
  have HF : Hid (FirstAt (writeIs S.k a s) S.nw (-1)) := hf
  clear hf
  obtain ⟨a0, c0, a1, c1, a2, c2, rfl, rfl, rfl⟩ := h.2.form
  have H : Hid (Lies (w.alloc (.cells #[.int .i64 a, .int .i64 s, .int .i64 u] 75)) b S (.slice a0 S.nc c0) (.slice a1 S.nl c1) (.slice a2 S.nw c2)) := h.later (below_alloc _ _)
  have HB : Hid (Below w.heap.size w (w.alloc (.cells #[.int .i64 a, .int .i64 s, .int .i64 u] 75))) := below_alloc _ _
  have e1 := H.out.1.2.1
  have e2 := H.out.1.2.2
  have hbl := h.lt
  clear h
  go_enter Tryz.func56, Tryz.ntmps56
  go_wp2_with fail
  refine (l2Write_is S b _ _ _ a s (-1) _ H.out hn HF.out).mono ?_
  rintro e w1 ⟨rfl, rfl⟩
  go_wp2_with fail
  refine (l2Lock_is S b _ _ _ a j _ H.out hl HL.out).mono ?_
  rintro e w1 ⟨rfl, rfl⟩
  obtain ⟨g, o, rfl, _, hg, y0, y1, y2, y3, y4⟩ := H.out.2.2.1.at5 hj
  rw [HV.out.1] at y1
  rw [HV.out.2] at y2
  have hjn : (j : Int) < (S.nl : Int) := by omega
  have h0 : NeedEnv w b (.slice (some ⟨g, o, none⟩) S.nl c1) g o j w.heap.size st kd s (w.alloc (.cells #[.int .i64 a, .int .i64 s, .int .i64 u] 75)).drew := ⟨⟨H.out.1.2.1, y1, y2, World.cell?_alloc_mark w _ _ _ 1⟩, HB.out.drew⟩
  clear y0 y1 y2 y3 y4 HV HF HL
  go_wp2_with fail
  by_cases q1 : st = s
  case neg =>
    have d1 : (st == s) = false := beq_eq_false_iff_ne.2 q1
    have E : Hid (r = false) := by rw [← HR.out]; exact decide_eq_false (fun q => q1 q.1)
    refine wp_region_held_drew (S := NeedEnv w b (.slice (some ⟨g, o, none⟩) S.nl c1) g o j w.heap.size st kd s) (by kernel_rfl) h0 (fun hS => ?_)
    clear h0 q1 e1 e2 H HB HR
    refine tkH 0 ?_ hS (fun wx hx => ?_) ?_; rotate_left
    · obtain ⟨⟨hx0, hx1, hx2, hx3⟩, _⟩ := hx; go_simp; try with_reducible rfl
    refine tkH 1 ?_ hS (fun wx hx => ?_) ?_; rotate_left
    · obtain ⟨⟨hx0, hx1, hx2, hx3⟩, _⟩ := hx; go_simp; try with_reducible rfl
    refine tkH 2 ?_ hS (fun wx hx => ?_) ?_; rotate_left
    · obtain ⟨⟨hx0, hx1, hx2, hx3⟩, _⟩ := hx; go_simp; try with_reducible rfl
    refine tkH 3 ?_ hS (fun wx hx => ?_) ?_; rotate_left
    · obtain ⟨⟨hx0, hx1, hx2, hx3⟩, _⟩ := hx; go_simp; try with_reducible rfl
    refine tkH 4 ?_ hS (fun wx hx => ?_) ?_; rotate_left
    · obtain ⟨⟨hx0, hx1, hx2, hx3⟩, _⟩ := hx; go_simp; try with_reducible rfl
    refine tkH 5 ?_ hS (fun wx hx => ?_) ?_; rotate_left
    · obtain ⟨⟨hx0, hx1, hx2, hx3⟩, _⟩ := hx; go_simp; try with_reducible rfl
    refine tkH 6 ?_ hS (fun wx hx => ?_) ?_; rotate_left
    · obtain ⟨⟨hx0, hx1, hx2, hx3⟩, _⟩ := hx; go_simp; try with_reducible rfl
    refine tkH 7 ?_ hS (fun wx hx => ?_) ?_; rotate_left
    · obtain ⟨⟨hx0, hx1, hx2, hx3⟩, _⟩ := hx; go_simp; try with_reducible rfl
    refine tkH 8 ?_ hS (fun wx hx => ?_) ?_; rotate_left
    · obtain ⟨⟨hx0, hx1, hx2, hx3⟩, _⟩ := hx; go_simp; try with_reducible rfl
    refine tkH 9 ?_ hS (fun wx hx => ?_) ?_; rotate_left
    · obtain ⟨⟨hx0, hx1, hx2, hx3⟩, _⟩ := hx; go_simp; try with_reducible rfl
    refine tkH 10 ?_ hS (fun wx hx => ?_) ?_; rotate_left
    · obtain ⟨⟨hx0, hx1, hx2, hx3⟩, _⟩ := hx; go_simp; try with_reducible rfl
    refine tkH 11 ?_ hS (fun wx hx => ?_) ?_; rotate_left
    · obtain ⟨⟨hx0, hx1, hx2, hx3⟩, _⟩ := hx; go_simp; try with_reducible rfl
    refine tkH 12 ?_ hS (fun wx hx => ?_) ?_; rotate_left
    · obtain ⟨⟨hx0, hx1, hx2, hx3⟩, _⟩ := hx; go_simp; try with_reducible rfl
    refine tkH 13 ?_ hS (fun wx hx => ?_) ?_; rotate_left
    · obtain ⟨⟨hx0, hx1, hx2, hx3⟩, _⟩ := hx; go_simp; try with_reducible rfl
    refine tkH 14 ?_ hS (fun wx hx => ?_) ?_; rotate_left
    · obtain ⟨⟨hx0, hx1, hx2, hx3⟩, _⟩ := hx; go_simp; try with_reducible rfl
    refine tkH 15 ?_ hS (fun wx hx => ?_) ?_; rotate_left
    · obtain ⟨⟨hx0, hx1, hx2, hx3⟩, _⟩ := hx; go_simp; try with_reducible rfl
    refine noH 16 hS ?_
    refine noH 17 hS ?_
    refine noH 18 hS ?_
    refine noH 19 hS ?_
    refine noH 20 hS ?_
    refine noH 21 hS ?_
    refine noH 22 hS ?_
    refine noH 23 hS ?_
    refine noH 24 hS ?_
    refine tkH 25 ?_ hS (fun wx hx => ?_) ?_; rotate_left
    · obtain ⟨⟨hx0, hx1, hx2, hx3⟩, _⟩ := hx; go_simp; try with_reducible rfl
    refine tkH 26 ?_ hS (fun wx hx => ?_) ?_; rotate_left
    · obtain ⟨⟨hx0, hx1, hx2, hx3⟩, _⟩ := hx; go_simp; try with_reducible rfl
    refine wpAnyH_done (by kernel_rfl) ?_ _
    go_simp
    go_wp2
    go_ret
    exact ⟨by rw [E.out]; rfl, hS.2⟩
  subst q1
  by_cases q2 : kd = 1
  case pos =>
    subst q2
    have E : Hid (r = true) := by rw [← HR.out]; exact decide_eq_true ⟨rfl, rfl⟩
    refine wp_region_held_drew (S := NeedEnv w b (.slice (some ⟨g, o, none⟩) S.nl c1) g o j w.heap.size st 1 st) (by kernel_rfl) h0 (fun hS => ?_)
    clear h0 e1 e2 H HB HR
    refine tkH 0 ?_ hS (fun wx hx => ?_) ?_; rotate_left
    · obtain ⟨⟨hx0, hx1, hx2, hx3⟩, _⟩ := hx; go_simp; try with_reducible rfl
    refine tkH 1 ?_ hS (fun wx hx => ?_) ?_; rotate_left
    · obtain ⟨⟨hx0, hx1, hx2, hx3⟩, _⟩ := hx; go_simp; try with_reducible rfl
    refine tkH 2 ?_ hS (fun wx hx => ?_) ?_; rotate_left
    · obtain ⟨⟨hx0, hx1, hx2, hx3⟩, _⟩ := hx; go_simp; try with_reducible rfl
    refine tkH 3 ?_ hS (fun wx hx => ?_) ?_; rotate_left
    · obtain ⟨⟨hx0, hx1, hx2, hx3⟩, _⟩ := hx; go_simp; try with_reducible rfl
    refine tkH 4 ?_ hS (fun wx hx => ?_) ?_; rotate_left
    · obtain ⟨⟨hx0, hx1, hx2, hx3⟩, _⟩ := hx; go_simp; try with_reducible rfl
    refine tkH 5 ?_ hS (fun wx hx => ?_) ?_; rotate_left
    · obtain ⟨⟨hx0, hx1, hx2, hx3⟩, _⟩ := hx; go_simp; try with_reducible rfl
    refine tkH 6 ?_ hS (fun wx hx => ?_) ?_; rotate_left
    · obtain ⟨⟨hx0, hx1, hx2, hx3⟩, _⟩ := hx; go_simp; try with_reducible rfl
    refine tkH 7 ?_ hS (fun wx hx => ?_) ?_; rotate_left
    · obtain ⟨⟨hx0, hx1, hx2, hx3⟩, _⟩ := hx; go_simp; try with_reducible rfl
    refine tkH 8 ?_ hS (fun wx hx => ?_) ?_; rotate_left
    · obtain ⟨⟨hx0, hx1, hx2, hx3⟩, _⟩ := hx; go_simp; try with_reducible rfl
    refine tkH 9 ?_ hS (fun wx hx => ?_) ?_; rotate_left
    · obtain ⟨⟨hx0, hx1, hx2, hx3⟩, _⟩ := hx; go_simp; try with_reducible rfl
    refine tkH 10 ?_ hS (fun wx hx => ?_) ?_; rotate_left
    · obtain ⟨⟨hx0, hx1, hx2, hx3⟩, _⟩ := hx; go_simp; try with_reducible rfl
    refine tkH 11 ?_ hS (fun wx hx => ?_) ?_; rotate_left
    · obtain ⟨⟨hx0, hx1, hx2, hx3⟩, _⟩ := hx; go_simp; try with_reducible rfl
    refine tkH 12 ?_ hS (fun wx hx => ?_) ?_; rotate_left
    · obtain ⟨⟨hx0, hx1, hx2, hx3⟩, _⟩ := hx; go_simp; try with_reducible rfl
    refine tkH 13 ?_ hS (fun wx hx => ?_) ?_; rotate_left
    · obtain ⟨⟨hx0, hx1, hx2, hx3⟩, _⟩ := hx; go_simp; try with_reducible rfl
    refine tkH 14 ?_ hS (fun wx hx => ?_) ?_; rotate_left
    · obtain ⟨⟨hx0, hx1, hx2, hx3⟩, _⟩ := hx; go_simp; try with_reducible rfl
    refine tkH 15 ?_ hS (fun wx hx => ?_) ?_; rotate_left
    · obtain ⟨⟨hx0, hx1, hx2, hx3⟩, _⟩ := hx; go_simp; try with_reducible rfl
    refine tkH 16 ?_ hS (fun wx hx => ?_) ?_; rotate_left
    · obtain ⟨⟨hx0, hx1, hx2, hx3⟩, _⟩ := hx; go_simp; try with_reducible rfl
    refine tkH 17 ?_ hS (fun wx hx => ?_) ?_; rotate_left
    · obtain ⟨⟨hx0, hx1, hx2, hx3⟩, _⟩ := hx; go_simp; try with_reducible rfl
    refine tkH 18 ?_ hS (fun wx hx => ?_) ?_; rotate_left
    · obtain ⟨⟨hx0, hx1, hx2, hx3⟩, _⟩ := hx; go_simp; try with_reducible rfl
    refine tkH 19 ?_ hS (fun wx hx => ?_) ?_; rotate_left
    · obtain ⟨⟨hx0, hx1, hx2, hx3⟩, _⟩ := hx; go_simp; try with_reducible rfl
    refine tkH 20 ?_ hS (fun wx hx => ?_) ?_; rotate_left
    · obtain ⟨⟨hx0, hx1, hx2, hx3⟩, _⟩ := hx; go_simp; try with_reducible rfl
    refine tkH 21 ?_ hS (fun wx hx => ?_) ?_; rotate_left
    · obtain ⟨⟨hx0, hx1, hx2, hx3⟩, _⟩ := hx; go_simp; try with_reducible rfl
    refine tkH 22 ?_ hS (fun wx hx => ?_) ?_; rotate_left
    · obtain ⟨⟨hx0, hx1, hx2, hx3⟩, _⟩ := hx; go_simp; try with_reducible rfl
    refine tkH 23 ?_ hS (fun wx hx => ?_) ?_; rotate_left
    · obtain ⟨⟨hx0, hx1, hx2, hx3⟩, _⟩ := hx; go_simp; try with_reducible rfl
    refine tkH 24 ?_ hS (fun wx hx => ?_) ?_; rotate_left
    · obtain ⟨⟨hx0, hx1, hx2, hx3⟩, _⟩ := hx; go_simp; try with_reducible rfl
    refine tkH 25 ?_ hS (fun wx hx => ?_) ?_; rotate_left
    · obtain ⟨⟨hx0, hx1, hx2, hx3⟩, _⟩ := hx; go_simp; try with_reducible rfl
    refine tkH 26 ?_ hS (fun wx hx => ?_) ?_; rotate_left
    · obtain ⟨⟨hx0, hx1, hx2, hx3⟩, _⟩ := hx; go_simp; try with_reducible rfl
    refine wpAnyH_done (by kernel_rfl) ?_ _
    go_simp
    go_wp2
    go_ret
    exact ⟨by rw [E.out]; rfl, hS.2⟩
  case neg =>
    have d2 : (kd == 1) = false := beq_eq_false_iff_ne.2 q2
    have E : Hid (r = false) := by rw [← HR.out]; exact decide_eq_false (fun q => q2 q.2)
    refine wp_region_held_drew (S := NeedEnv w b (.slice (some ⟨g, o, none⟩) S.nl c1) g o j w.heap.size st kd st) (by kernel_rfl) h0 (fun hS => ?_)
    clear h0 q2 e1 e2 H HB HR
    refine tkH 0 ?_ hS (fun wx hx => ?_) ?_; rotate_left
    · obtain ⟨⟨hx0, hx1, hx2, hx3⟩, _⟩ := hx; go_simp; try with_reducible rfl
    refine tkH 1 ?_ hS (fun wx hx => ?_) ?_; rotate_left
    · obtain ⟨⟨hx0, hx1, hx2, hx3⟩, _⟩ := hx; go_simp; try with_reducible rfl
    refine tkH 2 ?_ hS (fun wx hx => ?_) ?_; rotate_left
    · obtain ⟨⟨hx0, hx1, hx2, hx3⟩, _⟩ := hx; go_simp; try with_reducible rfl
    refine tkH 3 ?_ hS (fun wx hx => ?_) ?_; rotate_left
    · obtain ⟨⟨hx0, hx1, hx2, hx3⟩, _⟩ := hx; go_simp; try with_reducible rfl
    refine tkH 4 ?_ hS (fun wx hx => ?_) ?_; rotate_left
    · obtain ⟨⟨hx0, hx1, hx2, hx3⟩, _⟩ := hx; go_simp; try with_reducible rfl
    refine tkH 5 ?_ hS (fun wx hx => ?_) ?_; rotate_left
    · obtain ⟨⟨hx0, hx1, hx2, hx3⟩, _⟩ := hx; go_simp; try with_reducible rfl
    refine tkH 6 ?_ hS (fun wx hx => ?_) ?_; rotate_left
    · obtain ⟨⟨hx0, hx1, hx2, hx3⟩, _⟩ := hx; go_simp; try with_reducible rfl
    refine tkH 7 ?_ hS (fun wx hx => ?_) ?_; rotate_left
    · obtain ⟨⟨hx0, hx1, hx2, hx3⟩, _⟩ := hx; go_simp; try with_reducible rfl
    refine tkH 8 ?_ hS (fun wx hx => ?_) ?_; rotate_left
    · obtain ⟨⟨hx0, hx1, hx2, hx3⟩, _⟩ := hx; go_simp; try with_reducible rfl
    refine tkH 9 ?_ hS (fun wx hx => ?_) ?_; rotate_left
    · obtain ⟨⟨hx0, hx1, hx2, hx3⟩, _⟩ := hx; go_simp; try with_reducible rfl
    refine tkH 10 ?_ hS (fun wx hx => ?_) ?_; rotate_left
    · obtain ⟨⟨hx0, hx1, hx2, hx3⟩, _⟩ := hx; go_simp; try with_reducible rfl
    refine tkH 11 ?_ hS (fun wx hx => ?_) ?_; rotate_left
    · obtain ⟨⟨hx0, hx1, hx2, hx3⟩, _⟩ := hx; go_simp; try with_reducible rfl
    refine tkH 12 ?_ hS (fun wx hx => ?_) ?_; rotate_left
    · obtain ⟨⟨hx0, hx1, hx2, hx3⟩, _⟩ := hx; go_simp; try with_reducible rfl
    refine tkH 13 ?_ hS (fun wx hx => ?_) ?_; rotate_left
    · obtain ⟨⟨hx0, hx1, hx2, hx3⟩, _⟩ := hx; go_simp; try with_reducible rfl
    refine tkH 14 ?_ hS (fun wx hx => ?_) ?_; rotate_left
    · obtain ⟨⟨hx0, hx1, hx2, hx3⟩, _⟩ := hx; go_simp; try with_reducible rfl
    refine tkH 15 ?_ hS (fun wx hx => ?_) ?_; rotate_left
    · obtain ⟨⟨hx0, hx1, hx2, hx3⟩, _⟩ := hx; go_simp; try with_reducible rfl
    refine tkH 16 ?_ hS (fun wx hx => ?_) ?_; rotate_left
    · obtain ⟨⟨hx0, hx1, hx2, hx3⟩, _⟩ := hx; go_simp; try with_reducible rfl
    refine tkH 17 ?_ hS (fun wx hx => ?_) ?_; rotate_left
    · obtain ⟨⟨hx0, hx1, hx2, hx3⟩, _⟩ := hx; go_simp; try with_reducible rfl
    refine tkH 18 ?_ hS (fun wx hx => ?_) ?_; rotate_left
    · obtain ⟨⟨hx0, hx1, hx2, hx3⟩, _⟩ := hx; go_simp; try with_reducible rfl
    refine tkH 19 ?_ hS (fun wx hx => ?_) ?_; rotate_left
    · obtain ⟨⟨hx0, hx1, hx2, hx3⟩, _⟩ := hx; go_simp; try with_reducible rfl
    refine tkH 20 ?_ hS (fun wx hx => ?_) ?_; rotate_left
    · obtain ⟨⟨hx0, hx1, hx2, hx3⟩, _⟩ := hx; go_simp; try with_reducible rfl
    refine tkH 21 ?_ hS (fun wx hx => ?_) ?_; rotate_left
    · obtain ⟨⟨hx0, hx1, hx2, hx3⟩, _⟩ := hx; go_simp; try with_reducible rfl
    refine tkH 22 ?_ hS (fun wx hx => ?_) ?_; rotate_left
    · obtain ⟨⟨hx0, hx1, hx2, hx3⟩, _⟩ := hx; go_simp; try with_reducible rfl
    refine tkH 23 ?_ hS (fun wx hx => ?_) ?_; rotate_left
    · obtain ⟨⟨hx0, hx1, hx2, hx3⟩, _⟩ := hx; go_simp; try with_reducible rfl
    refine tkH 24 ?_ hS (fun wx hx => ?_) ?_; rotate_left
    · obtain ⟨⟨hx0, hx1, hx2, hx3⟩, _⟩ := hx; go_simp; try with_reducible rfl
    refine tkH 25 ?_ hS (fun wx hx => ?_) ?_; rotate_left
    · obtain ⟨⟨hx0, hx1, hx2, hx3⟩, _⟩ := hx; go_simp; try with_reducible rfl
    refine tkH 26 ?_ hS (fun wx hx => ?_) ?_; rotate_left
    · obtain ⟨⟨hx0, hx1, hx2, hx3⟩, _⟩ := hx; go_simp; try with_reducible rfl
    refine wpAnyH_done (by kernel_rfl) ?_ _
    go_simp
    go_wp2
    go_ret
    exact ⟨by rw [E.out]; rfl, hS.2⟩

set_option maxRecDepth 100000 in
set_option maxHeartbeats 4000000 in
theorem l4Needed_other_free (S : Sto) (b : Nat) (v0 v1 v2 : Value) (a s u : Int) (w : World) (h : Lies w b S v0 v1 v2) (hn : S.nw ≤ 200) (i : Nat) (hi : i < S.nw ∧ S.k (i * 4 + 3) ≠ 1) (hf : FirstAt (writeIs S.k a s) S.nw i) (hl : S.nl ≤ 200) (hL : FirstAt (lockIs S.l a) S.nl (-1)) :
    Calls Tryz.prog 56 #[.pointer (some ⟨b, 0, none⟩), .agg #[.int .i64 a, .int .i64 s, .int .i64 u]] w fun e w' => e = .returned (.bool false) ∧ Below w.heap.size w w' := by
  have HL : Hid (FirstAt (lockIs S.l a) S.nl (-1)) := hL
  clear hL
  have HF : Hid (FirstAt (writeIs S.k a s) S.nw i) := hf
  obtain ⟨hi, hk⟩ := hi
  clear hf
  obtain ⟨a0, c0, a1, c1, a2, c2, rfl, rfl, rfl⟩ := h.2.form
  have H : Hid (Lies (w.alloc (.cells #[.int .i64 a, .int .i64 s, .int .i64 u] 75)) b S (.slice a0 S.nc c0) (.slice a1 S.nl c1) (.slice a2 S.nw c2)) := h.later (below_alloc _ _)
  have HB : Hid (Below w.heap.size w (w.alloc (.cells #[.int .i64 a, .int .i64 s, .int .i64 u] 75))) := below_alloc _ _
  have e1 := H.out.1.2.1
  have e2 := H.out.1.2.2
  have hbl := h.lt
  clear h
  obtain ⟨g2, o2, rfl, _, hg2, x0, x1, x2, x3⟩ := H.out.2.2.2.at4 hi
  obtain ⟨kk, hkk⟩ : ∃ x, S.k (i * 4 + 3) = x := ⟨_, rfl⟩
  rw [hkk] at x3 hk
  have hin : (i : Int) < (S.nw : Int) := by omega
  have dk : (kk == 1) = false := beq_eq_false_iff_ne.2 hk
  clear hk x0 x1 x2 hkk
  go_enter Tryz.func56, Tryz.ntmps56
  go_wp2_with fail
  refine (l2Write_is S b _ _ _ a s i _ H.out hn HF.out).mono ?_
  rintro e w1 ⟨rfl, rfl⟩
  go_wp2_with fail
  refine (l2Lock_is S b _ _ _ a (-1) _ H.out hl HL.out).mono ?_
  rintro e w1 ⟨rfl, rfl⟩
  have h0 : Below w.heap.size w (w.alloc (.cells #[.int .i64 a, .int .i64 s, .int .i64 u] 75)).drew := HB.out.drew
  go_wp2_with fail
  refine wp_region_held_drew (S := fun x => Below w.heap.size w x) (by kernel_rfl) h0 (fun hS => ?_)
  clear h0
  refine tkH 0 ?_ hS (fun wx hx => ?_) ?_; rotate_left
  · go_simp; try with_reducible rfl
  refine tkH 1 ?_ hS (fun wx hx => ?_) ?_; rotate_left
  · go_simp; try with_reducible rfl
  refine tkH 2 ?_ hS (fun wx hx => ?_) ?_; rotate_left
  · go_simp; try with_reducible rfl
  refine noH 3 hS ?_
  refine noH 4 hS ?_
  refine noH 5 hS ?_
  refine noH 6 hS ?_
  refine noH 7 hS ?_
  refine noH 8 hS ?_
  refine noH 9 hS ?_
  refine noH 10 hS ?_
  refine noH 11 hS ?_
  refine noH 12 hS ?_
  refine noH 13 hS ?_
  refine tkH 14 ?_ hS (fun wx hx => ?_) ?_; rotate_left
  · go_simp; try with_reducible rfl
  refine tkH 15 ?_ hS (fun wx hx => ?_) ?_; rotate_left
  · go_simp; try with_reducible rfl
  refine noH 16 hS ?_
  refine noH 17 hS ?_
  refine noH 18 hS ?_
  refine noH 19 hS ?_
  refine noH 20 hS ?_
  refine noH 21 hS ?_
  refine noH 22 hS ?_
  refine noH 23 hS ?_
  refine noH 24 hS ?_
  refine tkH 25 ?_ hS (fun wx hx => ?_) ?_; rotate_left
  · go_simp; try with_reducible rfl
  refine tkH 26 ?_ hS (fun wx hx => ?_) ?_; rotate_left
  · go_simp; try with_reducible rfl
  refine wpAnyH_done (by kernel_rfl) ?_ _
  go_simp
  go_wp2
  go_ret
  exact ⟨rfl, hS⟩

set_option maxRecDepth 100000 in
set_option maxHeartbeats 8000000 in
theorem l4Needed_other_lock (S : Sto) (b : Nat) (v0 v1 v2 : Value) (a s u : Int) (w : World) (h : Lies w b S v0 v1 v2) (hn : S.nw ≤ 200) (i : Nat) (hi : i < S.nw ∧ S.k (i * 4 + 3) ≠ 1) (hf : FirstAt (writeIs S.k a s) S.nw i) (hl : S.nl ≤ 200) (j : Nat) (hj : j < S.nl) (hL : FirstAt (lockIs S.l a) S.nl j) :
    Calls Tryz.prog 56 #[.pointer (some ⟨b, 0, none⟩), .agg #[.int .i64 a, .int .i64 s, .int .i64 u]] w fun e w' => e = .returned (.bool (decide (S.l (j * 5 + 1) = s ∧ S.l (j * 5 + 2) = 1))) ∧ Below w.heap.size w w' := by
  have HL : Hid (FirstAt (lockIs S.l a) S.nl j) := hL
  obtain ⟨st, hst⟩ : ∃ x, S.l (j * 5 + 1) = x := ⟨_, rfl⟩
  obtain ⟨kd, hkd⟩ : ∃ x, S.l (j * 5 + 2) = x := ⟨_, rfl⟩
  rw [hst, hkd]
  obtain ⟨r, hr⟩ : ∃ x, decide (st = s ∧ kd = 1) = x := ⟨_, rfl⟩
  rw [hr]
  have HR : Hid (decide (st = s ∧ kd = 1) = r) := hr
  have HV : Hid (S.l (j * 5 + 1) = st ∧ S.l (j * 5 + 2) = kd) := ⟨hst, hkd⟩
  clear hL hst hkd hr
  have HF : Hid (FirstAt (writeIs S.k a s) S.nw i) := hf
  obtain ⟨hi, hk⟩ := hi
  clear hf
  obtain ⟨a0, c0, a1, c1, a2, c2, rfl, rfl, rfl⟩ := h.2.form
  have H : Hid (Lies (w.alloc (.cells #[.int .i64 a, .int .i64 s, .int .i64 u] 75)) b S (.slice a0 S.nc c0) (.slice a1 S.nl c1) (.slice a2 S.nw c2)) := h.later (below_alloc _ _)
  have HB : Hid (Below w.heap.size w (w.alloc (.cells #[.int .i64 a, .int .i64 s, .int .i64 u] 75))) := below_alloc _ _
  have e1 := H.out.1.2.1
  have e2 := H.out.1.2.2
  have hbl := h.lt
  clear h
  obtain ⟨g2, o2, rfl, _, hg2, x0, x1, x2, x3⟩ := H.out.2.2.2.at4 hi
  obtain ⟨kk, hkk⟩ : ∃ x, S.k (i * 4 + 3) = x := ⟨_, rfl⟩
  rw [hkk] at x3 hk
  have hin : (i : Int) < (S.nw : Int) := by omega
  have dk : (kk == 1) = false := beq_eq_false_iff_ne.2 hk
  clear hk x0 x1 x2 hkk
  go_enter Tryz.func56, Tryz.ntmps56
  go_wp2_with fail
  refine (l2Write_is S b _ _ _ a s i _ H.out hn HF.out).mono ?_
  rintro e w1 ⟨rfl, rfl⟩
  go_wp2_with fail
  refine (l2Lock_is S b _ _ _ a j _ H.out hl HL.out).mono ?_
  rintro e w1 ⟨rfl, rfl⟩
  obtain ⟨g, o, rfl, _, hg, y0, y1, y2, y3, y4⟩ := H.out.2.2.1.at5 hj
  rw [HV.out.1] at y1
  rw [HV.out.2] at y2
  have hjn : (j : Int) < (S.nl : Int) := by omega
  have h0 : NeedEnv w b (.slice (some ⟨g, o, none⟩) S.nl c1) g o j w.heap.size st kd s (w.alloc (.cells #[.int .i64 a, .int .i64 s, .int .i64 u] 75)).drew := ⟨⟨H.out.1.2.1, y1, y2, World.cell?_alloc_mark w _ _ _ 1⟩, HB.out.drew⟩
  clear y0 y1 y2 y3 y4 HV HF HL
  go_wp2_with fail
  by_cases q1 : st = s
  case neg =>
    have d1 : (st == s) = false := beq_eq_false_iff_ne.2 q1
    have E : Hid (r = false) := by rw [← HR.out]; exact decide_eq_false (fun q => q1 q.1)
    refine wp_region_held_drew (S := NeedEnv w b (.slice (some ⟨g, o, none⟩) S.nl c1) g o j w.heap.size st kd s) (by kernel_rfl) h0 (fun hS => ?_)
    clear h0 q1 e1 e2 H HB HR
    refine tkH 0 ?_ hS (fun wx hx => ?_) ?_; rotate_left
    · obtain ⟨⟨hx0, hx1, hx2, hx3⟩, _⟩ := hx; go_simp; try with_reducible rfl
    refine tkH 1 ?_ hS (fun wx hx => ?_) ?_; rotate_left
    · obtain ⟨⟨hx0, hx1, hx2, hx3⟩, _⟩ := hx; go_simp; try with_reducible rfl
    refine tkH 2 ?_ hS (fun wx hx => ?_) ?_; rotate_left
    · obtain ⟨⟨hx0, hx1, hx2, hx3⟩, _⟩ := hx; go_simp; try with_reducible rfl
    refine tkH 3 ?_ hS (fun wx hx => ?_) ?_; rotate_left
    · obtain ⟨⟨hx0, hx1, hx2, hx3⟩, _⟩ := hx; go_simp; try with_reducible rfl
    refine tkH 4 ?_ hS (fun wx hx => ?_) ?_; rotate_left
    · obtain ⟨⟨hx0, hx1, hx2, hx3⟩, _⟩ := hx; go_simp; try with_reducible rfl
    refine tkH 5 ?_ hS (fun wx hx => ?_) ?_; rotate_left
    · obtain ⟨⟨hx0, hx1, hx2, hx3⟩, _⟩ := hx; go_simp; try with_reducible rfl
    refine tkH 6 ?_ hS (fun wx hx => ?_) ?_; rotate_left
    · obtain ⟨⟨hx0, hx1, hx2, hx3⟩, _⟩ := hx; go_simp; try with_reducible rfl
    refine tkH 7 ?_ hS (fun wx hx => ?_) ?_; rotate_left
    · obtain ⟨⟨hx0, hx1, hx2, hx3⟩, _⟩ := hx; go_simp; try with_reducible rfl
    refine tkH 8 ?_ hS (fun wx hx => ?_) ?_; rotate_left
    · obtain ⟨⟨hx0, hx1, hx2, hx3⟩, _⟩ := hx; go_simp; try with_reducible rfl
    refine tkH 9 ?_ hS (fun wx hx => ?_) ?_; rotate_left
    · obtain ⟨⟨hx0, hx1, hx2, hx3⟩, _⟩ := hx; go_simp; try with_reducible rfl
    refine tkH 10 ?_ hS (fun wx hx => ?_) ?_; rotate_left
    · obtain ⟨⟨hx0, hx1, hx2, hx3⟩, _⟩ := hx; go_simp; try with_reducible rfl
    refine tkH 11 ?_ hS (fun wx hx => ?_) ?_; rotate_left
    · obtain ⟨⟨hx0, hx1, hx2, hx3⟩, _⟩ := hx; go_simp; try with_reducible rfl
    refine tkH 12 ?_ hS (fun wx hx => ?_) ?_; rotate_left
    · obtain ⟨⟨hx0, hx1, hx2, hx3⟩, _⟩ := hx; go_simp; try with_reducible rfl
    refine tkH 13 ?_ hS (fun wx hx => ?_) ?_; rotate_left
    · obtain ⟨⟨hx0, hx1, hx2, hx3⟩, _⟩ := hx; go_simp; try with_reducible rfl
    refine tkH 14 ?_ hS (fun wx hx => ?_) ?_; rotate_left
    · obtain ⟨⟨hx0, hx1, hx2, hx3⟩, _⟩ := hx; go_simp; try with_reducible rfl
    refine tkH 15 ?_ hS (fun wx hx => ?_) ?_; rotate_left
    · obtain ⟨⟨hx0, hx1, hx2, hx3⟩, _⟩ := hx; go_simp; try with_reducible rfl
    refine noH 16 hS ?_
    refine noH 17 hS ?_
    refine noH 18 hS ?_
    refine noH 19 hS ?_
    refine noH 20 hS ?_
    refine noH 21 hS ?_
    refine noH 22 hS ?_
    refine noH 23 hS ?_
    refine noH 24 hS ?_
    refine tkH 25 ?_ hS (fun wx hx => ?_) ?_; rotate_left
    · obtain ⟨⟨hx0, hx1, hx2, hx3⟩, _⟩ := hx; go_simp; try with_reducible rfl
    refine tkH 26 ?_ hS (fun wx hx => ?_) ?_; rotate_left
    · obtain ⟨⟨hx0, hx1, hx2, hx3⟩, _⟩ := hx; go_simp; try with_reducible rfl
    refine wpAnyH_done (by kernel_rfl) ?_ _
    go_simp
    go_wp2
    go_ret
    exact ⟨by rw [E.out]; rfl, hS.2⟩
  subst q1
  by_cases q2 : kd = 1
  case pos =>
    subst q2
    have E : Hid (r = true) := by rw [← HR.out]; exact decide_eq_true ⟨rfl, rfl⟩
    refine wp_region_held_drew (S := NeedEnv w b (.slice (some ⟨g, o, none⟩) S.nl c1) g o j w.heap.size st 1 st) (by kernel_rfl) h0 (fun hS => ?_)
    clear h0 e1 e2 H HB HR
    refine tkH 0 ?_ hS (fun wx hx => ?_) ?_; rotate_left
    · obtain ⟨⟨hx0, hx1, hx2, hx3⟩, _⟩ := hx; go_simp; try with_reducible rfl
    refine tkH 1 ?_ hS (fun wx hx => ?_) ?_; rotate_left
    · obtain ⟨⟨hx0, hx1, hx2, hx3⟩, _⟩ := hx; go_simp; try with_reducible rfl
    refine tkH 2 ?_ hS (fun wx hx => ?_) ?_; rotate_left
    · obtain ⟨⟨hx0, hx1, hx2, hx3⟩, _⟩ := hx; go_simp; try with_reducible rfl
    refine tkH 3 ?_ hS (fun wx hx => ?_) ?_; rotate_left
    · obtain ⟨⟨hx0, hx1, hx2, hx3⟩, _⟩ := hx; go_simp; try with_reducible rfl
    refine tkH 4 ?_ hS (fun wx hx => ?_) ?_; rotate_left
    · obtain ⟨⟨hx0, hx1, hx2, hx3⟩, _⟩ := hx; go_simp; try with_reducible rfl
    refine tkH 5 ?_ hS (fun wx hx => ?_) ?_; rotate_left
    · obtain ⟨⟨hx0, hx1, hx2, hx3⟩, _⟩ := hx; go_simp; try with_reducible rfl
    refine tkH 6 ?_ hS (fun wx hx => ?_) ?_; rotate_left
    · obtain ⟨⟨hx0, hx1, hx2, hx3⟩, _⟩ := hx; go_simp; try with_reducible rfl
    refine tkH 7 ?_ hS (fun wx hx => ?_) ?_; rotate_left
    · obtain ⟨⟨hx0, hx1, hx2, hx3⟩, _⟩ := hx; go_simp; try with_reducible rfl
    refine tkH 8 ?_ hS (fun wx hx => ?_) ?_; rotate_left
    · obtain ⟨⟨hx0, hx1, hx2, hx3⟩, _⟩ := hx; go_simp; try with_reducible rfl
    refine tkH 9 ?_ hS (fun wx hx => ?_) ?_; rotate_left
    · obtain ⟨⟨hx0, hx1, hx2, hx3⟩, _⟩ := hx; go_simp; try with_reducible rfl
    refine tkH 10 ?_ hS (fun wx hx => ?_) ?_; rotate_left
    · obtain ⟨⟨hx0, hx1, hx2, hx3⟩, _⟩ := hx; go_simp; try with_reducible rfl
    refine tkH 11 ?_ hS (fun wx hx => ?_) ?_; rotate_left
    · obtain ⟨⟨hx0, hx1, hx2, hx3⟩, _⟩ := hx; go_simp; try with_reducible rfl
    refine tkH 12 ?_ hS (fun wx hx => ?_) ?_; rotate_left
    · obtain ⟨⟨hx0, hx1, hx2, hx3⟩, _⟩ := hx; go_simp; try with_reducible rfl
    refine tkH 13 ?_ hS (fun wx hx => ?_) ?_; rotate_left
    · obtain ⟨⟨hx0, hx1, hx2, hx3⟩, _⟩ := hx; go_simp; try with_reducible rfl
    refine tkH 14 ?_ hS (fun wx hx => ?_) ?_; rotate_left
    · obtain ⟨⟨hx0, hx1, hx2, hx3⟩, _⟩ := hx; go_simp; try with_reducible rfl
    refine tkH 15 ?_ hS (fun wx hx => ?_) ?_; rotate_left
    · obtain ⟨⟨hx0, hx1, hx2, hx3⟩, _⟩ := hx; go_simp; try with_reducible rfl
    refine tkH 16 ?_ hS (fun wx hx => ?_) ?_; rotate_left
    · obtain ⟨⟨hx0, hx1, hx2, hx3⟩, _⟩ := hx; go_simp; try with_reducible rfl
    refine tkH 17 ?_ hS (fun wx hx => ?_) ?_; rotate_left
    · obtain ⟨⟨hx0, hx1, hx2, hx3⟩, _⟩ := hx; go_simp; try with_reducible rfl
    refine tkH 18 ?_ hS (fun wx hx => ?_) ?_; rotate_left
    · obtain ⟨⟨hx0, hx1, hx2, hx3⟩, _⟩ := hx; go_simp; try with_reducible rfl
    refine tkH 19 ?_ hS (fun wx hx => ?_) ?_; rotate_left
    · obtain ⟨⟨hx0, hx1, hx2, hx3⟩, _⟩ := hx; go_simp; try with_reducible rfl
    refine tkH 20 ?_ hS (fun wx hx => ?_) ?_; rotate_left
    · obtain ⟨⟨hx0, hx1, hx2, hx3⟩, _⟩ := hx; go_simp; try with_reducible rfl
    refine tkH 21 ?_ hS (fun wx hx => ?_) ?_; rotate_left
    · obtain ⟨⟨hx0, hx1, hx2, hx3⟩, _⟩ := hx; go_simp; try with_reducible rfl
    refine tkH 22 ?_ hS (fun wx hx => ?_) ?_; rotate_left
    · obtain ⟨⟨hx0, hx1, hx2, hx3⟩, _⟩ := hx; go_simp; try with_reducible rfl
    refine tkH 23 ?_ hS (fun wx hx => ?_) ?_; rotate_left
    · obtain ⟨⟨hx0, hx1, hx2, hx3⟩, _⟩ := hx; go_simp; try with_reducible rfl
    refine tkH 24 ?_ hS (fun wx hx => ?_) ?_; rotate_left
    · obtain ⟨⟨hx0, hx1, hx2, hx3⟩, _⟩ := hx; go_simp; try with_reducible rfl
    refine tkH 25 ?_ hS (fun wx hx => ?_) ?_; rotate_left
    · obtain ⟨⟨hx0, hx1, hx2, hx3⟩, _⟩ := hx; go_simp; try with_reducible rfl
    refine tkH 26 ?_ hS (fun wx hx => ?_) ?_; rotate_left
    · obtain ⟨⟨hx0, hx1, hx2, hx3⟩, _⟩ := hx; go_simp; try with_reducible rfl
    refine wpAnyH_done (by kernel_rfl) ?_ _
    go_simp
    go_wp2
    go_ret
    exact ⟨by rw [E.out]; rfl, hS.2⟩
  case neg =>
    have d2 : (kd == 1) = false := beq_eq_false_iff_ne.2 q2
    have E : Hid (r = false) := by rw [← HR.out]; exact decide_eq_false (fun q => q2 q.2)
    refine wp_region_held_drew (S := NeedEnv w b (.slice (some ⟨g, o, none⟩) S.nl c1) g o j w.heap.size st kd st) (by kernel_rfl) h0 (fun hS => ?_)
    clear h0 q2 e1 e2 H HB HR
    refine tkH 0 ?_ hS (fun wx hx => ?_) ?_; rotate_left
    · obtain ⟨⟨hx0, hx1, hx2, hx3⟩, _⟩ := hx; go_simp; try with_reducible rfl
    refine tkH 1 ?_ hS (fun wx hx => ?_) ?_; rotate_left
    · obtain ⟨⟨hx0, hx1, hx2, hx3⟩, _⟩ := hx; go_simp; try with_reducible rfl
    refine tkH 2 ?_ hS (fun wx hx => ?_) ?_; rotate_left
    · obtain ⟨⟨hx0, hx1, hx2, hx3⟩, _⟩ := hx; go_simp; try with_reducible rfl
    refine tkH 3 ?_ hS (fun wx hx => ?_) ?_; rotate_left
    · obtain ⟨⟨hx0, hx1, hx2, hx3⟩, _⟩ := hx; go_simp; try with_reducible rfl
    refine tkH 4 ?_ hS (fun wx hx => ?_) ?_; rotate_left
    · obtain ⟨⟨hx0, hx1, hx2, hx3⟩, _⟩ := hx; go_simp; try with_reducible rfl
    refine tkH 5 ?_ hS (fun wx hx => ?_) ?_; rotate_left
    · obtain ⟨⟨hx0, hx1, hx2, hx3⟩, _⟩ := hx; go_simp; try with_reducible rfl
    refine tkH 6 ?_ hS (fun wx hx => ?_) ?_; rotate_left
    · obtain ⟨⟨hx0, hx1, hx2, hx3⟩, _⟩ := hx; go_simp; try with_reducible rfl
    refine tkH 7 ?_ hS (fun wx hx => ?_) ?_; rotate_left
    · obtain ⟨⟨hx0, hx1, hx2, hx3⟩, _⟩ := hx; go_simp; try with_reducible rfl
    refine tkH 8 ?_ hS (fun wx hx => ?_) ?_; rotate_left
    · obtain ⟨⟨hx0, hx1, hx2, hx3⟩, _⟩ := hx; go_simp; try with_reducible rfl
    refine tkH 9 ?_ hS (fun wx hx => ?_) ?_; rotate_left
    · obtain ⟨⟨hx0, hx1, hx2, hx3⟩, _⟩ := hx; go_simp; try with_reducible rfl
    refine tkH 10 ?_ hS (fun wx hx => ?_) ?_; rotate_left
    · obtain ⟨⟨hx0, hx1, hx2, hx3⟩, _⟩ := hx; go_simp; try with_reducible rfl
    refine tkH 11 ?_ hS (fun wx hx => ?_) ?_; rotate_left
    · obtain ⟨⟨hx0, hx1, hx2, hx3⟩, _⟩ := hx; go_simp; try with_reducible rfl
    refine tkH 12 ?_ hS (fun wx hx => ?_) ?_; rotate_left
    · obtain ⟨⟨hx0, hx1, hx2, hx3⟩, _⟩ := hx; go_simp; try with_reducible rfl
    refine tkH 13 ?_ hS (fun wx hx => ?_) ?_; rotate_left
    · obtain ⟨⟨hx0, hx1, hx2, hx3⟩, _⟩ := hx; go_simp; try with_reducible rfl
    refine tkH 14 ?_ hS (fun wx hx => ?_) ?_; rotate_left
    · obtain ⟨⟨hx0, hx1, hx2, hx3⟩, _⟩ := hx; go_simp; try with_reducible rfl
    refine tkH 15 ?_ hS (fun wx hx => ?_) ?_; rotate_left
    · obtain ⟨⟨hx0, hx1, hx2, hx3⟩, _⟩ := hx; go_simp; try with_reducible rfl
    refine tkH 16 ?_ hS (fun wx hx => ?_) ?_; rotate_left
    · obtain ⟨⟨hx0, hx1, hx2, hx3⟩, _⟩ := hx; go_simp; try with_reducible rfl
    refine tkH 17 ?_ hS (fun wx hx => ?_) ?_; rotate_left
    · obtain ⟨⟨hx0, hx1, hx2, hx3⟩, _⟩ := hx; go_simp; try with_reducible rfl
    refine tkH 18 ?_ hS (fun wx hx => ?_) ?_; rotate_left
    · obtain ⟨⟨hx0, hx1, hx2, hx3⟩, _⟩ := hx; go_simp; try with_reducible rfl
    refine tkH 19 ?_ hS (fun wx hx => ?_) ?_; rotate_left
    · obtain ⟨⟨hx0, hx1, hx2, hx3⟩, _⟩ := hx; go_simp; try with_reducible rfl
    refine tkH 20 ?_ hS (fun wx hx => ?_) ?_; rotate_left
    · obtain ⟨⟨hx0, hx1, hx2, hx3⟩, _⟩ := hx; go_simp; try with_reducible rfl
    refine tkH 21 ?_ hS (fun wx hx => ?_) ?_; rotate_left
    · obtain ⟨⟨hx0, hx1, hx2, hx3⟩, _⟩ := hx; go_simp; try with_reducible rfl
    refine tkH 22 ?_ hS (fun wx hx => ?_) ?_; rotate_left
    · obtain ⟨⟨hx0, hx1, hx2, hx3⟩, _⟩ := hx; go_simp; try with_reducible rfl
    refine tkH 23 ?_ hS (fun wx hx => ?_) ?_; rotate_left
    · obtain ⟨⟨hx0, hx1, hx2, hx3⟩, _⟩ := hx; go_simp; try with_reducible rfl
    refine tkH 24 ?_ hS (fun wx hx => ?_) ?_; rotate_left
    · obtain ⟨⟨hx0, hx1, hx2, hx3⟩, _⟩ := hx; go_simp; try with_reducible rfl
    refine tkH 25 ?_ hS (fun wx hx => ?_) ?_; rotate_left
    · obtain ⟨⟨hx0, hx1, hx2, hx3⟩, _⟩ := hx; go_simp; try with_reducible rfl
    refine tkH 26 ?_ hS (fun wx hx => ?_) ?_; rotate_left
    · obtain ⟨⟨hx0, hx1, hx2, hx3⟩, _⟩ := hx; go_simp; try with_reducible rfl
    refine wpAnyH_done (by kernel_rfl) ?_ _
    go_simp
    go_wp2
    go_ret
    exact ⟨by rw [E.out]; rfl, hS.2⟩

theorem l4Needed_is (S : Sto) (b : Nat) (v0 v1 v2 : Value) (a s u : Int) (r : Bool) (w : World) (h : Lies w b S v0 v1 v2) (hn : S.nw ≤ 200) (hl : S.nl ≤ 200) (hr : r = true ↔ neededAt S.nl S.l S.nw S.k a s) :
    Calls Tryz.prog 56 #[.pointer (some ⟨b, 0, none⟩), .agg #[.int .i64 a, .int .i64 s, .int .i64 u]] w fun e w' => e = .returned (.bool r) ∧ Below w.heap.size w w' := by
  unfold neededAt at hr
  rcases l4Needed_ways S a s with ⟨i, hi, hf⟩ | ⟨r', hf, hk⟩
  · rw [hr.2 (Or.inl ⟨i, hf, hi.2⟩)]
    exact l4Needed_put S b v0 v1 v2 a s u i w h hn hi hf
  · have nw : ¬ ∃ i : Nat, FirstAt (writeIs S.k a s) S.nw i ∧ S.k (i * 4 + 3) = 1 := by
      rintro ⟨i, hi, h1⟩
      have := hf.one hi
      rcases hk with e | ⟨j, _, e, hj⟩
      · omega
      · obtain rfl : i = j := by omega
        exact hj h1
    obtain ⟨q, hq⟩ := FirstAt.get (lockIs S.l a) S.nl
    have hq' := hq
    rcases hq' with ⟨e, hno⟩ | ⟨j, hj, e, _, _⟩
    · subst e
      have : r = false := by
        cases r with
        | false => rfl
        | true =>
          rcases hr.1 rfl with x | ⟨j, hj, _⟩
          · exact absurd x nw
          · have := hq.one hj
            omega
      subst this
      rcases hk with rfl | ⟨i, hi, rfl, hne⟩
      · exact l4Needed_none_free S b v0 v1 v2 a s u w h hn hf hl hq
      · exact l4Needed_other_free S b v0 v1 v2 a s u w h hn i ⟨hi, hne⟩ hf hl hq
    · subst e
      have : r = decide (S.l (j * 5 + 1) = s ∧ S.l (j * 5 + 2) = 1) := by
        by_cases x : S.l (j * 5 + 1) = s ∧ S.l (j * 5 + 2) = 1
        · rw [decide_eq_true x]
          exact hr.2 (Or.inr ⟨j, hq, x.1, x.2⟩)
        · rw [decide_eq_false x]
          cases r with
          | false => rfl
          | true =>
            rcases hr.1 rfl with y | ⟨j', hj', y1, y2⟩
            · exact absurd y nw
            · have := hq.one hj'
              obtain rfl : j = j' := by omega
              exact absurd ⟨y1, y2⟩ x
      subst this
      rcases hk with rfl | ⟨i, hi, rfl, hne⟩
      · exact l4Needed_none_lock S b v0 v1 v2 a s u w h hn hf hl j hj hq
      · exact l4Needed_other_lock S b v0 v1 v2 a s u w h hn i ⟨hi, hne⟩ hf hl j hj hq
end

section
open Go.RowKit
theorem Done.above {x : World} {lo hi m n : Nat} {F : Nat → Int} {u : Value} (h : Done x lo hi m n F u) {a : Addr} (ha : hi ≤ a.block) (v : Value) : Done (x.setCell a v) lo hi m n F u :=
  h.within (B := hi) (E := a.block + 1) ⟨rfl, rfl, rfl, by simp, fun k _ ho => Below.heap_setCell x _ v k (by omega)⟩ (Nat.le_refl _)
theorem row_own {w : World} {B m n : Nat} {F : Nat → Int} {u : Value} (hr : Row w B m n F u) (hn : 0 < n) : ∃ k, u.ownBlock = some k ∧ B ≤ k := by
  obtain ⟨ao, cp, rfl, hr⟩ := hr
  obtain ⟨g, o, rfl, hB, _⟩ := hr hn
  exact ⟨g, rfl, hB⟩
theorem apart_sw {w : World} {S : Sto} {u0 u1 u2 : Value} {lo z z' z2 hi : Nat} (hz : z ≤ z') (hz2 : z ≤ z2) (h0 : Done w z2 hi 3 S.nc S.c u0) (h1 : Done w lo z 5 S.nl S.l u1) (h2 : Done w z' z2 4 S.nw S.k u2) : ApartD S u0 u1 u2 := by
  refine ⟨fun ha hb e => ?_, fun ha hb e => ?_, fun ha hb e => ?_⟩
  · obtain ⟨k, hk, q⟩ := row_own h0.1.1 ha
    have := h1.2 hb k (e ▸ hk); omega
  · obtain ⟨k, hk, q⟩ := row_own h0.1.1 ha
    have := h2.2 hb k (e ▸ hk); omega
  · obtain ⟨k, hk, q⟩ := row_own h2.1.1 hb
    have := h1.2 ha k (e ▸ hk); omega
/-- What l4Sweep stands on: its result, the store that it makes (in block z), and the rows of the copy. -/
def SgEnv (w : World) (S : Sto) (z : Nat) (u0 u1 u2 : Value) (x : World) : Prop := (Blk3 x w.heap.size (.slice none 0 0) (.slice none 0 0) (.slice none 0 0) ∧ Blk3 x z u0 u1 u2) ∧ (Done x (w.heap.size + 1) z 3 S.nc S.c u0 ∧ Done x (w.heap.size + 1) z 5 S.nl S.l u1) ∧ w.heap.size + 1 ≤ z ∧ Below w.heap.size w x
theorem own_lt {x : World} {B m n : Nat} {F : Nat → Int} {v : Value} (h : Row x B m n F v) (hn : 0 < n) : ∀ k, v.ownBlock = some k → k < x.heap.size := by
  obtain ⟨ao, cp, rfl, hr⟩ := h
  obtain ⟨g, o, rfl, _, hg, _⟩ := hr hn
  intro k hk
  simp [Value.ownBlock] at hk
  omega
theorem SgEnv.within {w x x' : World} {S : Sto} {z : Nat} {u0 u1 u2 : Value} {B E : Nat} (h : SgEnv w S z u0 u1 u2 x) (hw : Within B E x x') (hB : z + 1 ≤ B) : SgEnv w S z u0 u1 u2 x' :=
  have hz := h.2.2.1
  ⟨⟨h.1.1.within hw (Or.inl (by omega)), h.1.2.within hw (Or.inl (by omega))⟩, ⟨h.2.1.1.within hw (by omega), h.2.1.2.within hw (by omega)⟩, hz, hw.below h.2.2.2 (by omega)⟩
theorem SgEnv.later {w x x' : World} {S : Sto} {z : Nat} {u0 u1 u2 : Value} (h : SgEnv w S z u0 u1 u2 x) (hb : Below x.heap.size x x') : SgEnv w S z u0 u1 u2 x' := h.within (Within.grow (B := z + 1) (E := z + 1) hb) (Nat.le_refl _)
theorem SgEnv.set2 {w x : World} {S : Sto} {z : Nat} {u0 u1 u2 : Value} (h : SgEnv w S z u0 u1 u2 x) (u : Value) : SgEnv w S z u0 u1 u (x.setCell ⟨z, 2, none⟩ u) := by
  have hz := h.2.2.1
  have hw : Within z (z + 1) x (x.setCell ⟨z, 2, none⟩ u) := ⟨rfl, rfl, rfl, by simp, fun k _ ho => Below.heap_setCell x _ u k (by simp; omega)⟩
  exact ⟨⟨h.1.1.setFar (by simp; omega) _, h.1.2.set2 _⟩, ⟨h.2.1.1.within hw (Nat.le_refl _), h.2.1.2.within hw (Nat.le_refl _)⟩, hz, h.2.2.2.setCell (by simp; omega) _⟩
/-- The store that is made, with the writes that stay. -/
noncomputable def midS (S : Sto) (safe : Int) : Sto := ⟨S.nc, S.c, S.nl, S.l, swN S.nw S.k safe, swF S.nw S.k safe⟩
def Sg2 (w : World) (S : Sto) (safe : Int) (z z2 : Nat) (u0 u1 u2 : Value) (x : World) : Prop := SgEnv w S z u0 u1 u2 x ∧ Done x (z + 1) z2 4 (swN S.nw S.k safe) (swF S.nw S.k safe) u2 ∧ z + 1 ≤ z2 ∧ z2 ≤ x.heap.size
theorem Sg2.within {w x x' : World} {S : Sto} {safe : Int} {z z2 : Nat} {u0 u1 u2 : Value} {B E : Nat} (h : Sg2 w S safe z z2 u0 u1 u2 x) (hw : Within B E x x') (hB : z2 ≤ B) : Sg2 w S safe z z2 u0 u1 u2 x' := ⟨h.1.within hw (Nat.le_trans h.2.2.1 hB), h.2.1.within hw hB, h.2.2.1, Nat.le_trans h.2.2.2 hw.size⟩
theorem Sg2.later {w x x' : World} {S : Sto} {safe : Int} {z z2 : Nat} {u0 u1 u2 : Value} (h : Sg2 w S safe z z2 u0 u1 u2 x) (hb : Below x.heap.size x x') : Sg2 w S safe z z2 u0 u1 u2 x' := h.within (Within.grow (B := z2) (E := z2) hb) (Nat.le_refl _)
theorem Sg2.lies {w x : World} {S : Sto} {safe : Int} {z z2 : Nat} {u0 u1 u2 : Value} (h : Sg2 w S safe z z2 u0 u1 u2 x) : Lies x z (midS S safe) u0 u1 u2 := ⟨h.1.1.2.1, h.1.2.1.1.1.1.mono (Nat.zero_le _), h.1.2.1.2.1.1.mono (Nat.zero_le _), h.2.1.1.1.mono (Nat.zero_le _)⟩
set_option maxRecDepth 100000 in
set_option maxHeartbeats 16000000 in
theorem l4Sweep_is (S : Sto) (b : Nat) (v0 v1 v2 : Value) (safe : Int) (w : World) (h : Lies w b S v0 v1 v2) (hz : storeF S = 0) :
    Calls Tryz.prog 25 #[.pointer (some ⟨b, 0, none⟩), .int .i64 safe] w (NewSto w (sweepS S safe)) := by
  obtain ⟨a0, c0, a1, c1, a2, c2, rfl, rfl, rfl⟩ := h.2.form
  obtain ⟨⟨hn0, hn1, hn2⟩, z0, z1, z2, hN, hO⟩ := storeF_zero hz
  have H : Hid (Lies (w.alloc (.cells #[.slice none 0 0, .slice none 0 0, .slice none 0 0] 28)) b S (.slice a0 S.nc c0) (.slice a1 S.nl c1) (.slice a2 S.nw c2)) := h.later (below_alloc _ _)
  have H0 : Hid (Lies w b S (.slice a0 S.nc c0) (.slice a1 S.nl c1) (.slice a2 S.nw c2)) := h
  have HZ : Hid (storeF S = 0 ∧ scan (writeF S.k) S.nw = 0) := ⟨hz, z2⟩
  obtain ⟨p0, p1, p2⟩ := H.out.1
  have hb := h.lt
  clear h hz z0 z1 z2 hN hO
  obtain ⟨sel, hsel⟩ : ∃ f, f = selD S.k 4 (sweptD S.k S.nw safe) := ⟨_, rfl⟩
  have hle : ∀ k, (sel k).length ≤ k := fun k => by rw [hsel]; exact selD_le _ _ _ _
  have hs0 : sel 0 = [] := by rw [hsel]; rfl
  have HY : Hid (∀ k, k < S.nw → stayW S.k S.nw safe k → sel (k + 1) = sel k ++ [[S.k (k * 4), S.k (k * 4 + 1), S.k (k * 4 + 2), S.k (k * 4 + 3)]]) := fun k hk hs => by rw [hsel, selD_kept ((stay_is HZ.out.2 hk).2 hs)]; rfl
  have HX : Hid (∀ k, k < S.nw → ¬ stayW S.k S.nw safe k → sel (k + 1) = sel k) := fun k hk hs => by rw [hsel, selD_gone ((stay_not HZ.out.2 hk).2 hs)]
  have HE : Hid (sel = selD S.k 4 (sweptD S.k S.nw safe)) := hsel
  clear hsel
  obtain ⟨i0, hi0, hz00, hz10, hz20⟩ := info_parts info_Cell
  obtain ⟨i2, hi2, hz02, hz12, hz22⟩ := info_parts info_Write
  unfold NewSto
  go_enter Tryz.func25, Tryz.ntmps25
  go_wp2_with fail
  refine (l2Copy_is S _ _ _ 0 _ H.out.2 ⟨by omega, by omega, by omega⟩).mono ?_
  rintro e w1 ⟨d0, e0, d1, e1, d2, e2, rfl, ⟨s3, f3, a3⟩, q1⟩
  rw [World.size_alloc] at s3
  obtain ⟨z, hz⟩ : ∃ z, w1.heap.size = z := ⟨_, rfl⟩
  have hzw : w.heap.size + 1 ≤ z := by rw [← hz]; have := q1.size; rw [World.size_alloc] at this; exact this
  have HC : Hid (SgEnv w S z (.slice d0 S.nc e0) (.slice d1 S.nl e1) (.slice none 0 0) (w1.alloc (.cells #[.slice d0 S.nc e0, .slice d1 S.nl e1, .slice none 0 0] 28))) := by
    subst hz
    refine ⟨⟨((Blk3.new w _ _ _ _).later q1).alloc _, Blk3.new w1 _ _ _ _⟩, ⟨?_, ?_⟩, hzw, ((below_alloc _ _).trans (q1.mono (by simp))).alloc (by omega) _⟩
    · exact Done.later (x := w1) ⟨⟨s3.1, f3.1⟩, fun h0 k hk => own_lt s3.1 h0 k hk⟩ (below_alloc _ _)
    · exact Done.later (x := w1) ⟨⟨s3.2.1, f3.2.1⟩, fun h0 k hk => own_lt s3.2.1 h0 k hk⟩ (below_alloc _ _)
  clear s3 f3 a3 q1 p0 p1 p2 H
  go_wp2
  go_loopw [6] (fun i wr => ∃ (k : Nat) (ao : Option Addr) (cp : Nat), i = .int .i64 k ∧ k ≤ S.nw ∧ Hid (SgEnv w S z (.slice d0 S.nc e0) (.slice d1 S.nl e1) (.slice ao (sel k).length cp) wr ∧ OwnM wr (z + 1) 38 4 (.slice ao (sel k).length cp) (sel k).length (sel k).flatten)) (fun i _ => S.nw - (intOf i).toNat)
  case atStart => exact ⟨0, none, 0, rfl, Nat.zero_le _, by unfold Hid; rw [hs0]; exact ⟨HC.out, OwnM.nil _ _ _ _⟩⟩
  case round =>
    clear HC
    obtain ⟨k, ao, cp, rfl, hk, HS⟩ := hrel
    have HL : Hid (Lies wr b S (.slice a0 S.nc c0) (.slice a1 S.nl c1) (.slice a2 S.nw c2)) := H0.out.later HS.out.1.2.2.2
    have p2 := HL.out.1.2.2
    have hbr := HL.out.lt
    by_cases hlt : k < S.nw
    case neg =>
      have en : k = S.nw := by omega
      subst en
      obtain ⟨aw, haw⟩ : ∃ d, d = ao := ⟨_, rfl⟩
      obtain ⟨cw, hcw⟩ : ∃ d, d = cp := ⟨_, rfl⟩
      subst haw hcw
      have eL : (sel S.nw).length = swN S.nw S.k safe := by rw [HE.out]; rfl
      have DD : Done wr (z + 1) wr.heap.size 4 (swN S.nw S.k safe) (swF S.nw S.k safe) (.slice aw (swN S.nw S.k safe) cw) := by
        have := HS.out.2.done (by rw [HE.out]; exact flat_len _ (selD_len _ _ _ _))
        rw [eL] at this
        rw [HE.out] at this
        exact this
      have hsn : swN S.nw S.k safe ≤ 200 := by rw [← eL]; exact Nat.le_trans (hle _) hn2
      have M0 : SgEnv w S z (.slice d0 S.nc e0) (.slice d1 S.nl e1) (.slice aw (swN S.nw S.k safe) cw) wr := by rw [← eL]; exact HS.out.1
      obtain ⟨y2, hy2⟩ : ∃ y, wr.heap.size = y := ⟨_, rfl⟩
      have hyz : z + 1 ≤ y2 := by rw [← hy2]; exact M0.1.2.lt
      have M1 : Hid (Sg2 w S safe z y2 (.slice d0 S.nc e0) (.slice d1 S.nl e1) (.slice aw (swN S.nw S.k safe) cw) (wr.alloc (.cells #[] 75)) ∧ OwnM (wr.alloc (.cells #[] 75)) y2 75 3 (.slice (some ⟨y2, 0, none⟩) 0 0) 0 []) := by
        rw [hy2] at DD
        refine ⟨Sg2.later (x := wr) ⟨M0, DD, hyz, Nat.le_of_eq hy2.symm⟩ (below_alloc _ _), ?_⟩
        rw [← hy2]
        exact own_empty wr _ _
      obtain ⟨nW, hnW⟩ : ∃ n, swN S.nw S.k safe = n := ⟨_, rfl⟩
      rw [hnW] at M1 hsn
      clear HS HX HY hs0 DD M0 eL HL hle
      obtain ⟨cel, hcel⟩ : ∃ f, f = selD S.c 3 (goneC (swP S safe)) := ⟨_, rfl⟩
      have hle : ∀ k, (cel k).length ≤ k := fun k => by rw [hcel]; exact selD_le _ _ _ _
      have hs0 : cel 0 = [] := by rw [hcel]; rfl
      have HY : Hid (∀ k, neededAt S.nl S.l (swN S.nw S.k safe) (swF S.nw S.k safe) (S.c (k * 3)) (S.c (k * 3 + 1)) → cel (k + 1) = cel k ++ [[S.c (k * 3), S.c (k * 3 + 1), S.c (k * 3 + 2)]]) := fun k hs => by rw [hcel, selD_kept ((gone_is HZ.out.1 k).2 hs)]; rfl
      have HX : Hid (∀ k, ¬ neededAt S.nl S.l (swN S.nw S.k safe) (swF S.nw S.k safe) (S.c (k * 3)) (S.c (k * 3 + 1)) → cel (k + 1) = cel k) := fun k hs => by
        rw [hcel]
        refine selD_gone ?_
        cases e : goneC (swP S safe) (struD S.c 3 k) with
        | true => rfl
        | false => exact absurd ((gone_is HZ.out.1 k).1 e) hs
      have HE2 : Hid (cel = selD S.c 3 (goneC (swP S safe)) ∧ swN S.nw S.k safe = nW) := ⟨hcel, hnW⟩
      clear hcel HE hnW
      go_wp2
      clear p2 hbr hlt
      go_loopw [8, 9] (fun c i wr => ∃ (k : Nat) (ao : Option Addr) (cp : Nat), c = .slice ao (cel k).length cp ∧ i = .int .i64 k ∧ k ≤ S.nc ∧ Hid (Sg2 w S safe z y2 (.slice d0 S.nc e0) (.slice d1 S.nl e1) (.slice aw nW cw) wr ∧ OwnM wr y2 75 3 (.slice ao (cel k).length cp) (cel k).length (cel k).flatten)) (fun _ i _ => S.nc - (intOf i).toNat)
      case atStart => exact ⟨0, some ⟨y2, 0, none⟩, 0, by rw [hs0]; rfl, rfl, Nat.zero_le _, by unfold Hid; rw [hs0]; exact M1.out⟩
      case round =>
        clear M1
        obtain ⟨k, ao, cp, rfl, rfl, hk, HS⟩ := hrel
        have HL : Hid (Lies wr b S (.slice a0 S.nc c0) (.slice a1 S.nl c1) (.slice a2 S.nw c2)) := H0.out.later HS.out.1.1.2.2.2
        have p0 := HL.out.1.1
        have hbr := HL.out.lt
        by_cases hlt : k < S.nc
        case neg =>
          have en : k = S.nc := by omega
          subst en
          have DC : Hid (Done wr y2 wr.heap.size 3 (sweepS S safe).nc (sweepS S safe).c (.slice ao (cel S.nc).length cp)) := by
            have := HS.out.2.done (by rw [HE2.out.1]; exact flat_len _ (selD_len _ _ _ _))
            rw [HE2.out.1] at this
            unfold Hid
            rw [HE2.out.1]
            exact this
          have DL : Hid (Done wr (w.heap.size + 1) z 5 (sweepS S safe).nl (sweepS S safe).l (.slice d1 S.nl e1)) := HS.out.1.1.2.1.2
          have DW : Hid (Done wr (z + 1) y2 4 (sweepS S safe).nw (sweepS S safe).k (.slice aw nW cw)) := HS.out.1.2.1
          have HB : Hid (Below w.heap.size w wr) := HS.out.1.1.2.2.2
          have hyz2 : z + 1 ≤ y2 ∧ y2 ≤ wr.heap.size := HS.out.1.2.2
          have hcn : Hid ((cel S.nc).length = (sweepS S safe).nc ∧ nW = (sweepS S safe).nw) := ⟨by rw [HE2.out.1]; rfl, HE2.out.2.symm⟩
          obtain ⟨⟨r0, r1, r2⟩, f0, f1, f2⟩ := HS.out.1.1.1.1
          obtain ⟨⟨t0, t1, t2⟩, h0, h1, h2⟩ := HS.out.1.1.1.2
          obtain ⟨nC, hnC⟩ : ∃ n, (cel S.nc).length = n := ⟨_, rfl⟩
          rw [hnC] at DC hcn
          rw [hnC]
          clear HS HX HY hs0 HE2 hle hnC
          go_wp2
          obtain ⟨hc1, hc2⟩ := hcn.out
          subst hc1 hc2
          have lo0 : w.heap.size < y2 := by omega
          have lo1 : w.heap.size < w.heap.size + 1 := by omega
          have lo2 : w.heap.size < z + 1 := by omega
          have hzy : z < y2 := by omega
          have K0 := (((DC.out.far (a := ⟨z, 0, none⟩) hzy (.slice ao (sweepS S safe).nc cp)).far (a := ⟨w.heap.size, 0, none⟩) lo0 (.slice ao (sweepS S safe).nc cp)).far (a := ⟨w.heap.size, 1, none⟩) lo0 (.slice d1 S.nl e1)).far (a := ⟨w.heap.size, 2, none⟩) lo0 (.slice aw (sweepS S safe).nw cw)
          have K1 := (((DL.out.above (a := ⟨z, 0, none⟩) (Nat.le_refl _) (.slice ao (sweepS S safe).nc cp)).far (a := ⟨w.heap.size, 0, none⟩) lo1 (.slice ao (sweepS S safe).nc cp)).far (a := ⟨w.heap.size, 1, none⟩) lo1 (.slice d1 S.nl e1)).far (a := ⟨w.heap.size, 2, none⟩) lo1 (.slice aw (sweepS S safe).nw cw)
          have K2 := (((DW.out.far (a := ⟨z, 0, none⟩) (Nat.lt_succ_self _) (.slice ao (sweepS S safe).nc cp)).far (a := ⟨w.heap.size, 0, none⟩) lo2 (.slice ao (sweepS S safe).nc cp)).far (a := ⟨w.heap.size, 1, none⟩) lo2 (.slice d1 S.nl e1)).far (a := ⟨w.heap.size, 2, none⟩) lo2 (.slice aw (sweepS S safe).nw cw)
          exact bodyPost_ret (v := .agg #[.slice ao (sweepS S safe).nc cp, .slice d1 S.nl e1, .slice aw (sweepS S safe).nw cw]) (by simp [results, Tryz.results25, go_sem, r0, r1, r2]) rfl ⟨ao, cp, d1, e1, aw, cw, rfl, ⟨⟨K0.1.1.mono (by omega), K1.1.1.mono (by omega), K2.1.1.mono (by omega)⟩, ⟨K0.1.2, K1.1.2, K2.1.2⟩, apart_sw (Nat.le_succ z) (by omega) K0 K1 K2⟩, (((HB.out.setCell (by show w.heap.size ≤ z; omega) _).setCell (Nat.le_refl _) _).setCell (Nat.le_refl _) _).setCell (Nat.le_refl _) _⟩
        obtain ⟨g, o, rfl, _, hg, x0, x1, x2⟩ := HL.out.2.1.at3 hlt
        obtain ⟨n0, N0⟩ : ∃ x, S.c (k * 3) = x := ⟨_, rfl⟩
        rw [N0] at x0
        obtain ⟨n1, N1⟩ : ∃ x, S.c (k * 3 + 1) = x := ⟨_, rfl⟩
        rw [N1] at x1
        obtain ⟨n2, N2⟩ : ∃ x, S.c (k * 3 + 2) = x := ⟨_, rfl⟩
        rw [N2] at x2
        have HY1 := HY.out k
        have HX1 := HX.out k
        rw [N0, N1] at HY1 HX1
        rw [N2] at HY1
        clear N0 N1 N2 HL
        by_cases hq : neededAt S.nl S.l (swN S.nw S.k safe) (swF S.nw S.k safe) n0 n1
        case neg =>
          have HS2 : Hid (cel (k + 1) = cel k) := HX1 hq
          have HQ : Hid (false = true ↔ neededAt (midS S safe).nl (midS S safe).l (midS S safe).nw (midS S safe).k n0 n1) := ⟨fun q => by simp at q, fun q => absurd q hq⟩
          have hmn : (midS S safe).nw ≤ 200 := by show swN S.nw S.k safe ≤ 200; rw [HE2.out.2]; exact hsn
          clear HY1 HX1 hq
          go_wp2_with fail
          refine (l4Needed_is (midS S safe) z _ _ _ n0 n1 n2 false _ HS.out.1.lies hmn hn1 HQ.out).mono ?_
          rintro e w2 ⟨rfl, q2⟩
          have M6 : Hid (Sg2 w S safe z y2 (.slice d0 S.nc e0) (.slice d1 S.nl e1) (.slice aw nW cw) w2 ∧ OwnM w2 y2 75 3 (.slice ao (cel (k + 1)).length cp) (cel (k + 1)).length (cel (k + 1)).flatten) := by
            unfold Hid
            rw [HS2.out]
            exact ⟨HS.out.1.later q2, HS.out.2.later q2⟩
          have hll : Hid ((cel (k + 1)).length = (cel k).length) := by unfold Hid; rw [HS2.out]
          clear HS HS2 q2
          go_wp2
          go_roundw
          case rel => exact ⟨k + 1, ao, cp, by rw [hll.out], by go_num, by omega, M6⟩
          case measure => simp [intOf]; omega
        have HS2 : Hid (cel (k + 1) = cel k ++ [[n0, n1, n2]]) := HY1 hq
        have HQ : Hid (neededAt (midS S safe).nl (midS S safe).l (midS S safe).nw (midS S safe).k n0 n1) := hq
        have hmn : (midS S safe).nw ≤ 200 := by show swN S.nw S.k safe ≤ 200; rw [HE2.out.2]; exact hsn
        clear HY1 HX1 hq
        go_wp2_with fail
        refine (l4Needed_is (midS S safe) z _ _ _ n0 n1 n2 true _ HS.out.1.lies hmn hn1 ⟨fun _ => HQ.out, fun _ => rfl⟩).mono ?_
        rintro e w2 ⟨rfl, q2⟩
        have HW : Hid (Sg2 w S safe z y2 (.slice d0 S.nc e0) (.slice d1 S.nl e1) (.slice aw nW cw) w2 ∧ OwnM w2 y2 75 3 (.slice ao (cel k).length cp) (cel k).length (cel k).flatten) := ⟨HS.out.1.later q2, HS.out.2.later q2⟩
        have g0 := (q2.cell (p := ⟨g, o + k * 3, none⟩) hg).trans x0
        have g1 := (q2.cell (p := ⟨g, o + k * 3 + 1, none⟩) hg).trans x1
        have g2 := (q2.cell (p := ⟨g, o + k * 3 + 2, none⟩) hg).trans x2
        have gp := (q2.cell (p := ⟨b, 0, none⟩) hbr).trans p0
        have hgw : g < w2.heap.size := Nat.lt_of_lt_of_le hg q2.size
        have HW2 : Hid (Sg2 w S safe z y2 (.slice d0 S.nc e0) (.slice d1 S.nl e1) (.slice aw nW cw) (w2.alloc (.cells #[.int .i64 n0, .int .i64 n1, .int .i64 n2] 75)) ∧ OwnM (w2.alloc (.cells #[.int .i64 n0, .int .i64 n1, .int .i64 n2] 75)) y2 75 3 (.slice ao (cel k).length cp) (cel k).length (cel k).flatten) := ⟨HW.out.1.later (below_alloc _ _), HW.out.2.later (below_alloc _ _)⟩
        have hown := HW2.out.2
        unfold OwnM at hown
        have hzs : y2 ≤ w2.heap.size := HW.out.1.2.2.2
        obtain ⟨nn, hnn⟩ : ∃ nn, (cel k).length = nn := ⟨_, rfl⟩
        have HNN : Hid ((cel k).length = nn) := hnn
        have hnle := hle k
        obtain ⟨LL, hLL⟩ : ∃ LL, (cel k).flatten = LL := ⟨_, rfl⟩
        have HLL : Hid ((cel k).flatten = LL) := hLL
        rw [hnn] at hown hnle
        rw [hnn]
        rw [hLL] at hown
        clear hnn hLL x0 x1 x2 p0 q2 HS
        go_wp2_with (at_builtin; refine wpList_append_own _ rfl _ _ 24 rfl y2 75 i0 (.agg #[.int .i64 0, .int .i64 0, .int .i64 0]) 3 24 Tryz.underlying24 hi0 hz00 hz10 hz20 rfl (by decide) _ _ _ rfl hown ⟨_, 0, none⟩ 1 1 [.int .i64 n0, .int .i64 n1, .int .i64 n2] rfl rfl ?c1 ?c2 ?c3 ?c4 ?c5 ?_)
        case c1 =>
          intro q u hq
          match q, hq with
          | 0, hq => simp at hq; subst hq; simp [Addr.add]
          | 1, hq => simp at hq; subst hq; simp [Addr.add]
          | 2, hq => simp at hq; subst hq; simp [Addr.add]
        case c2 =>
          intro u hu
          simp at hu
          rcases hu with rfl | rfl | rfl <;> rfl
        case c3 => unfold maxLen; omega
        case c4 => omega
        case c5 => exact Nat.le_trans hzs (by simp)
        intro v' w5 ho hg5 _
        have F2 : OwnM w5 y2 75 3 v' (cel (k + 1)).length (cel (k + 1)).flatten := by
          unfold OwnM
          rw [HS2.out, List.length_append, List.flatten_append, HNN.out, HLL.out, List.map_append]
          exact ho
        obtain ⟨ao', cp', rfl⟩ := F2.form
        have M6 : Hid (Sg2 w S safe z y2 (.slice d0 S.nc e0) (.slice d1 S.nl e1) (.slice aw nW cw) w5 ∧ OwnM w5 y2 75 3 (.slice ao' (cel (k + 1)).length cp') (cel (k + 1)).length (cel (k + 1)).flatten) := ⟨HW2.out.1.within (Within.of (B := y2) (E := (w2.alloc (.cells #[.int .i64 n0, .int .i64 n1, .int .i64 n2] 75)).heap.size) hg5 (fun g hg => HW2.out.2.block g (by rw [HNN.out]; exact hg))) (Nat.le_refl _), F2⟩
        clear HW HW2 hown F2 ho hg5
        go_wp2
        go_roundw
        case rel => exact ⟨k + 1, ao', cp', rfl, by go_num, by omega, M6⟩
        case measure => simp [intOf]; omega
    obtain ⟨g, o, rfl, _, hg, x0, x1, x2, x3⟩ := HL.out.2.2.2.at4 hlt
    obtain ⟨n0, N0⟩ : ∃ x, S.k (k * 4) = x := ⟨_, rfl⟩
    rw [N0] at x0
    obtain ⟨n1, N1⟩ : ∃ x, S.k (k * 4 + 1) = x := ⟨_, rfl⟩
    rw [N1] at x1
    obtain ⟨n2, N2⟩ : ∃ x, S.k (k * 4 + 2) = x := ⟨_, rfl⟩
    rw [N2] at x2
    obtain ⟨n3, N3⟩ : ∃ x, S.k (k * 4 + 3) = x := ⟨_, rfl⟩
    rw [N3] at x3
    have HY1 : stayW S.k S.nw safe k → sel (k + 1) = sel k ++ [[n0, n1, n2, n3]] := fun q => by rw [HY.out k hlt q, N0, N1, N2, N3]
    have HX1 := HX.out k hlt
    have SW : stayW S.k S.nw safe k ↔ safe < n1 ∨ lastW S.k S.nw n0 safe k ∧ n3 = 1 := by unfold stayW; rw [N0, N1, N3]
    have HL2 : Hid (Lies (wr.alloc (.cells #[.int .i64 n0, .int .i64 n1, .int .i64 n2, .int .i64 n3] 38)) b S (.slice a0 S.nc c0) (.slice a1 S.nl c1) (.slice (some ⟨g, o, none⟩) S.nw c2)) := HL.out.later (below_alloc _ _)
    have HW : Hid (SgEnv w S z (.slice d0 S.nc e0) (.slice d1 S.nl e1) (.slice ao (sel k).length cp) (wr.alloc (.cells #[.int .i64 n0, .int .i64 n1, .int .i64 n2, .int .i64 n3] 38)) ∧ OwnM (wr.alloc (.cells #[.int .i64 n0, .int .i64 n1, .int .i64 n2, .int .i64 n3] 38)) (z + 1) 38 4 (.slice ao (sel k).length cp) (sel k).length (sel k).flatten) := ⟨HS.out.1.later (below_alloc _ _), HS.out.2.later (below_alloc _ _)⟩
    clear HL HS N0 N1 N2 N3
    by_cases hc : safe < n1
    case pos =>
      have hd : decide (safe < n1) = true := decide_eq_true hc
      have HS2 : Hid (sel (k + 1) = sel k ++ [[n0, n1, n2, n3]]) := HY1 (SW.2 (Or.inl hc))
      clear HY1 HX1 SW HL2
      have HW2 : Hid (SgEnv w S z (.slice d0 S.nc e0) (.slice d1 S.nl e1) (.slice ao (sel k).length cp) ((wr.alloc (.cells #[.int .i64 n0, .int .i64 n1, .int .i64 n2, .int .i64 n3] 38)).alloc (.cells #[.int .i64 n0, .int .i64 n1, .int .i64 n2, .int .i64 n3] 38)) ∧ OwnM ((wr.alloc (.cells #[.int .i64 n0, .int .i64 n1, .int .i64 n2, .int .i64 n3] 38)).alloc (.cells #[.int .i64 n0, .int .i64 n1, .int .i64 n2, .int .i64 n3] 38)) (z + 1) 38 4 (.slice ao (sel k).length cp) (sel k).length (sel k).flatten) := ⟨HW.out.1.later (below_alloc _ _), HW.out.2.later (below_alloc _ _)⟩
      have hown := HW2.out.2
      unfold OwnM at hown
      have hzs : z + 1 ≤ (wr.alloc (.cells #[.int .i64 n0, .int .i64 n1, .int .i64 n2, .int .i64 n3] 38)).heap.size := HW.out.1.1.2.lt
      have t2 := HW.out.1.1.2.1.2.2
      obtain ⟨nn, hnn⟩ : ∃ nn, (sel k).length = nn := ⟨_, rfl⟩
      have HNN : Hid ((sel k).length = nn) := hnn
      have hnle := hle k
      obtain ⟨LL, hLL⟩ : ∃ LL, (sel k).flatten = LL := ⟨_, rfl⟩
      have HLL : Hid ((sel k).flatten = LL) := hLL
      rw [hnn] at hown t2 hnle
      rw [hLL] at hown
      clear hnn hLL
      go_wp2_with (at_builtin; refine wpList_append_own _ rfl _ _ 26 rfl (z + 1) 38 i2 (.agg #[.int .i64 0, .int .i64 0, .int .i64 0, .int .i64 0]) 4 32 Tryz.underlying26 hi2 hz02 hz12 hz22 rfl (by decide) _ _ _ rfl hown ⟨_, 0, none⟩ 1 1 [.int .i64 n0, .int .i64 n1, .int .i64 n2, .int .i64 n3] rfl rfl ?c1 ?c2 ?c3 ?c4 ?c5 ?_)
      case c1 =>
        intro q u hq
        match q, hq with
        | 0, hq => simp at hq; subst hq; simp [Addr.add]
        | 1, hq => simp at hq; subst hq; simp [Addr.add]
        | 2, hq => simp at hq; subst hq; simp [Addr.add]
        | 3, hq => simp at hq; subst hq; simp [Addr.add]
      case c2 =>
        intro u hu
        simp at hu
        rcases hu with rfl | rfl | rfl | rfl <;> rfl
      case c3 => unfold maxLen; omega
      case c4 => omega
      case c5 => exact Nat.le_trans hzs (by simp)
      intro v' w5 ho hg5 _
      have F2 : OwnM w5 (z + 1) 38 4 v' (sel (k + 1)).length (sel (k + 1)).flatten := by
        unfold OwnM
        rw [HS2.out, List.length_append, List.flatten_append, HNN.out, HLL.out, List.map_append]
        exact ho
      obtain ⟨ao', cp', rfl⟩ := F2.form
      have M5 : SgEnv w S z (.slice d0 S.nc e0) (.slice d1 S.nl e1) (.slice ao (sel k).length cp) w5 := HW2.out.1.within (Within.of (B := z + 1) (E := ((wr.alloc (.cells #[.int .i64 n0, .int .i64 n1, .int .i64 n2, .int .i64 n3] 38)).alloc (.cells #[.int .i64 n0, .int .i64 n1, .int .i64 n2, .int .i64 n3] 38)).heap.size) hg5 (fun g hg => HW2.out.2.block g (by rw [HNN.out]; exact hg))) (Nat.le_refl _)
      have M6 : Hid (SgEnv w S z (.slice d0 S.nc e0) (.slice d1 S.nl e1) (.slice ao' (sel (k + 1)).length cp') (w5.setCell ⟨z, 2, none⟩ (.slice ao' (sel (k + 1)).length cp')) ∧ OwnM (w5.setCell ⟨z, 2, none⟩ (.slice ao' (sel (k + 1)).length cp')) (z + 1) 38 4 (.slice ao' (sel (k + 1)).length cp') (sel (k + 1)).length (sel (k + 1)).flatten) := ⟨M5.set2 _, F2.far (by simp) _⟩
      have f5 := M5.1.2.2.2.2
      have t5 := M5.1.2.1.2.2
      clear HW HW2 hown M5 F2 ho hg5 t2
      go_wp2
      go_roundw
      case rel => exact ⟨k + 1, ao', cp', by go_num, by omega, M6⟩
      case measure => simp [intOf]; omega
    have hd : decide (safe < n1) = false := decide_eq_false hc
    rcases lastW_or S.k S.nw n0 safe with hno | ⟨j, hj⟩
    · have HS2 : Hid (sel (k + 1) = sel k) := HX1 (fun q => (SW.1 q).elim hc (fun r => hno k r.1))
      have HNO : Hid (∀ i, ¬ lastW S.k S.nw n0 safe i) := hno
      have hm : ((-1 : Int) == (k : Int)) = false := beq_eq_false_iff_ne.2 (by omega)
      clear HY1 HX1 SW hno
      go_wp2_with fail
      refine (l2Last_no S b _ _ _ n0 safe _ HL2.out hn2 HNO.out).mono ?_
      rintro e w2 ⟨rfl, q2⟩
      have HW : Hid (SgEnv w S z (.slice d0 S.nc e0) (.slice d1 S.nl e1) (.slice ao (sel k).length cp) w2 ∧ OwnM w2 (z + 1) 38 4 (.slice ao (sel k).length cp) (sel k).length (sel k).flatten) := ⟨HW.out.1.later q2, HW.out.2.later q2⟩
      have g0 : w2.cell? ⟨wr.heap.size, 0, none⟩ = some (.int .i64 n0) := (q2.cell (by simp)).trans (World.cell?_alloc_mark wr _ _ _ 0)
      have g1 : w2.cell? ⟨wr.heap.size, 1, none⟩ = some (.int .i64 n1) := (q2.cell (by simp)).trans (World.cell?_alloc_mark wr _ _ _ 1)
      have g2 : w2.cell? ⟨wr.heap.size, 2, none⟩ = some (.int .i64 n2) := (q2.cell (by simp)).trans (World.cell?_alloc_mark wr _ _ _ 2)
      have g3 : w2.cell? ⟨wr.heap.size, 3, none⟩ = some (.int .i64 n3) := (q2.cell (by simp)).trans (World.cell?_alloc_mark wr _ _ _ 3)
      have hws : wr.heap.size < w2.heap.size := by have := q2.size; rw [World.size_alloc] at this; omega
      clear q2
      have M6 : Hid (SgEnv w S z (.slice d0 S.nc e0) (.slice d1 S.nl e1) (.slice ao (sel (k + 1)).length cp) w2 ∧ OwnM w2 (z + 1) 38 4 (.slice ao (sel (k + 1)).length cp) (sel (k + 1)).length (sel (k + 1)).flatten) := by
        unfold Hid
        rw [HS2.out]
        exact HW.out
      clear HW HS2
      go_wp2
      go_roundw
      case rel => exact ⟨k + 1, ao, cp, by go_num, by omega, M6⟩
      case measure => simp [intOf]; omega
    · have HJ : Hid (lastW S.k S.nw n0 safe j) := hj
      by_cases hjk : j = k
      case neg =>
        have HS2 : Hid (sel (k + 1) = sel k) := HX1 (fun q => (SW.1 q).elim hc (fun r => hjk (hj.one r.1)))
        have hm : ((j : Int) == (k : Int)) = false := beq_eq_false_iff_ne.2 (by omega)
        clear HY1 HX1 SW hj
        go_wp2_with fail
        refine (l2Last_yes S b _ _ _ n0 safe j _ HL2.out hn2 HJ.out).mono ?_
        rintro e w2 ⟨rfl, q2⟩
        have HW : Hid (SgEnv w S z (.slice d0 S.nc e0) (.slice d1 S.nl e1) (.slice ao (sel k).length cp) w2 ∧ OwnM w2 (z + 1) 38 4 (.slice ao (sel k).length cp) (sel k).length (sel k).flatten) := ⟨HW.out.1.later q2, HW.out.2.later q2⟩
        have g0 : w2.cell? ⟨wr.heap.size, 0, none⟩ = some (.int .i64 n0) := (q2.cell (by simp)).trans (World.cell?_alloc_mark wr _ _ _ 0)
        have g1 : w2.cell? ⟨wr.heap.size, 1, none⟩ = some (.int .i64 n1) := (q2.cell (by simp)).trans (World.cell?_alloc_mark wr _ _ _ 1)
        have g2 : w2.cell? ⟨wr.heap.size, 2, none⟩ = some (.int .i64 n2) := (q2.cell (by simp)).trans (World.cell?_alloc_mark wr _ _ _ 2)
        have g3 : w2.cell? ⟨wr.heap.size, 3, none⟩ = some (.int .i64 n3) := (q2.cell (by simp)).trans (World.cell?_alloc_mark wr _ _ _ 3)
        have hws : wr.heap.size < w2.heap.size := by have := q2.size; rw [World.size_alloc] at this; omega
        clear q2
        have M6 : Hid (SgEnv w S z (.slice d0 S.nc e0) (.slice d1 S.nl e1) (.slice ao (sel (k + 1)).length cp) w2 ∧ OwnM w2 (z + 1) 38 4 (.slice ao (sel (k + 1)).length cp) (sel (k + 1)).length (sel (k + 1)).flatten) := by
          unfold Hid
          rw [HS2.out]
          exact HW.out
        clear HW HS2
        go_wp2
        go_roundw
        case rel => exact ⟨k + 1, ao, cp, by go_num, by omega, M6⟩
        case measure => simp [intOf]; omega
      subst hjk
      by_cases h3 : n3 = 1
      case neg =>
        have HS2 : Hid (sel (j + 1) = sel j) := HX1 (fun q => (SW.1 q).elim hc (fun r => h3 r.2))
        have hm : (n3 == 1) = false := beq_eq_false_iff_ne.2 h3
        clear HY1 HX1 SW hj h3
        obtain ⟨k, hkj⟩ : ∃ k, k = j := ⟨_, rfl⟩
        subst hkj
        go_wp2_with fail
        refine (l2Last_yes S b _ _ _ n0 safe k _ HL2.out hn2 HJ.out).mono ?_
        rintro e w2 ⟨rfl, q2⟩
        have HW : Hid (SgEnv w S z (.slice d0 S.nc e0) (.slice d1 S.nl e1) (.slice ao (sel k).length cp) w2 ∧ OwnM w2 (z + 1) 38 4 (.slice ao (sel k).length cp) (sel k).length (sel k).flatten) := ⟨HW.out.1.later q2, HW.out.2.later q2⟩
        have g0 : w2.cell? ⟨wr.heap.size, 0, none⟩ = some (.int .i64 n0) := (q2.cell (by simp)).trans (World.cell?_alloc_mark wr _ _ _ 0)
        have g1 : w2.cell? ⟨wr.heap.size, 1, none⟩ = some (.int .i64 n1) := (q2.cell (by simp)).trans (World.cell?_alloc_mark wr _ _ _ 1)
        have g2 : w2.cell? ⟨wr.heap.size, 2, none⟩ = some (.int .i64 n2) := (q2.cell (by simp)).trans (World.cell?_alloc_mark wr _ _ _ 2)
        have g3 : w2.cell? ⟨wr.heap.size, 3, none⟩ = some (.int .i64 n3) := (q2.cell (by simp)).trans (World.cell?_alloc_mark wr _ _ _ 3)
        have hws : wr.heap.size < w2.heap.size := by have := q2.size; rw [World.size_alloc] at this; omega
        clear q2
        have M6 : Hid (SgEnv w S z (.slice d0 S.nc e0) (.slice d1 S.nl e1) (.slice ao (sel (k + 1)).length cp) w2 ∧ OwnM w2 (z + 1) 38 4 (.slice ao (sel (k + 1)).length cp) (sel (k + 1)).length (sel (k + 1)).flatten) := by
          unfold Hid
          rw [HS2.out]
          exact HW.out
        clear HW HS2
        go_wp2
        go_roundw
        case rel => exact ⟨k + 1, ao, cp, by go_num, by omega, M6⟩
        case measure => simp [intOf]; omega
      have HS2 : Hid (sel (j + 1) = sel j ++ [[n0, n1, n2, n3]]) := HY1 (SW.2 (Or.inr ⟨hj, h3⟩))
      have hm : (n3 == 1) = true := beq_iff_eq.2 h3
      clear HY1 HX1 SW hj h3
      obtain ⟨k, hkj⟩ : ∃ k, k = j := ⟨_, rfl⟩
      subst hkj
      go_wp2_with fail
      refine (l2Last_yes S b _ _ _ n0 safe k _ HL2.out hn2 HJ.out).mono ?_
      rintro e w2 ⟨rfl, q2⟩
      have HW : Hid (SgEnv w S z (.slice d0 S.nc e0) (.slice d1 S.nl e1) (.slice ao (sel k).length cp) w2 ∧ OwnM w2 (z + 1) 38 4 (.slice ao (sel k).length cp) (sel k).length (sel k).flatten) := ⟨HW.out.1.later q2, HW.out.2.later q2⟩
      have g0 : w2.cell? ⟨wr.heap.size, 0, none⟩ = some (.int .i64 n0) := (q2.cell (by simp)).trans (World.cell?_alloc_mark wr _ _ _ 0)
      have g1 : w2.cell? ⟨wr.heap.size, 1, none⟩ = some (.int .i64 n1) := (q2.cell (by simp)).trans (World.cell?_alloc_mark wr _ _ _ 1)
      have g2 : w2.cell? ⟨wr.heap.size, 2, none⟩ = some (.int .i64 n2) := (q2.cell (by simp)).trans (World.cell?_alloc_mark wr _ _ _ 2)
      have g3 : w2.cell? ⟨wr.heap.size, 3, none⟩ = some (.int .i64 n3) := (q2.cell (by simp)).trans (World.cell?_alloc_mark wr _ _ _ 3)
      have hws : wr.heap.size < w2.heap.size := by have := q2.size; rw [World.size_alloc] at this; omega
      clear q2
      have HW2 : Hid (SgEnv w S z (.slice d0 S.nc e0) (.slice d1 S.nl e1) (.slice ao (sel k).length cp) (w2.alloc (.cells #[.int .i64 n0, .int .i64 n1, .int .i64 n2, .int .i64 n3] 38)) ∧ OwnM (w2.alloc (.cells #[.int .i64 n0, .int .i64 n1, .int .i64 n2, .int .i64 n3] 38)) (z + 1) 38 4 (.slice ao (sel k).length cp) (sel k).length (sel k).flatten) := ⟨HW.out.1.later (below_alloc _ _), HW.out.2.later (below_alloc _ _)⟩
      have hown := HW2.out.2
      unfold OwnM at hown
      have hzs : z + 1 ≤ w2.heap.size := HW.out.1.1.2.lt
      have t2 := HW.out.1.1.2.1.2.2
      obtain ⟨nn, hnn⟩ : ∃ nn, (sel k).length = nn := ⟨_, rfl⟩
      have HNN : Hid ((sel k).length = nn) := hnn
      have hnle := hle k
      obtain ⟨LL, hLL⟩ : ∃ LL, (sel k).flatten = LL := ⟨_, rfl⟩
      have HLL : Hid ((sel k).flatten = LL) := hLL
      rw [hnn] at hown t2 hnle
      rw [hLL] at hown
      clear hnn hLL
      go_wp2_with (at_builtin; refine wpList_append_own _ rfl _ _ 26 rfl (z + 1) 38 i2 (.agg #[.int .i64 0, .int .i64 0, .int .i64 0, .int .i64 0]) 4 32 Tryz.underlying26 hi2 hz02 hz12 hz22 rfl (by decide) _ _ _ rfl hown ⟨_, 0, none⟩ 1 1 [.int .i64 n0, .int .i64 n1, .int .i64 n2, .int .i64 n3] rfl rfl ?c1 ?c2 ?c3 ?c4 ?c5 ?_)
      case c1 =>
        intro q u hq
        match q, hq with
        | 0, hq => simp at hq; subst hq; simp [Addr.add]
        | 1, hq => simp at hq; subst hq; simp [Addr.add]
        | 2, hq => simp at hq; subst hq; simp [Addr.add]
        | 3, hq => simp at hq; subst hq; simp [Addr.add]
      case c2 =>
        intro u hu
        simp at hu
        rcases hu with rfl | rfl | rfl | rfl <;> rfl
      case c3 => unfold maxLen; omega
      case c4 => omega
      case c5 => exact Nat.le_trans hzs (by simp)
      intro v' w5 ho hg5 _
      have F2 : OwnM w5 (z + 1) 38 4 v' (sel (k + 1)).length (sel (k + 1)).flatten := by
        unfold OwnM
        rw [HS2.out, List.length_append, List.flatten_append, HNN.out, HLL.out, List.map_append]
        exact ho
      obtain ⟨ao', cp', rfl⟩ := F2.form
      have M5 : SgEnv w S z (.slice d0 S.nc e0) (.slice d1 S.nl e1) (.slice ao (sel k).length cp) w5 := HW2.out.1.within (Within.of (B := z + 1) (E := (w2.alloc (.cells #[.int .i64 n0, .int .i64 n1, .int .i64 n2, .int .i64 n3] 38)).heap.size) hg5 (fun g hg => HW2.out.2.block g (by rw [HNN.out]; exact hg))) (Nat.le_refl _)
      have M6 : Hid (SgEnv w S z (.slice d0 S.nc e0) (.slice d1 S.nl e1) (.slice ao' (sel (k + 1)).length cp') (w5.setCell ⟨z, 2, none⟩ (.slice ao' (sel (k + 1)).length cp')) ∧ OwnM (w5.setCell ⟨z, 2, none⟩ (.slice ao' (sel (k + 1)).length cp')) (z + 1) 38 4 (.slice ao' (sel (k + 1)).length cp') (sel (k + 1)).length (sel (k + 1)).flatten) := ⟨M5.set2 _, F2.far (by simp) _⟩
      have f5 := M5.1.2.2.2.2
      have t5 := M5.1.2.1.2.2
      clear HW HW2 hown M5 F2 ho hg5 t2
      go_wp2
      go_roundw
      case rel => exact ⟨k + 1, ao', cp', by go_num, by omega, M6⟩
      case measure => simp [intOf]; omega
end

section
open Go.RowKit
set_option maxRecDepth 100000 in
set_option maxHeartbeats 8000000 in
theorem specSweepStore_is (S : Sto) (v0 v1 v2 : Value) (safe c : Int) (R : Sto) (B : Nat) (w : World) (h : St w B S v0 v1 v2) (hA : SweepAns S safe c R) :
    Calls Tryz.prog 7 #[.agg #[v0, v1, v2], .int .i64 safe] w (ResSto w c R) := by
  obtain ⟨a0, c0, a1, c1, a2, c2, rfl, rfl, rfl⟩ := h.form
  have HE : Hid (CallSto w B S (.slice a0 S.nc c0) (.slice a1 S.nl c1) (.slice a2 S.nw c2) ((w.alloc (.cells #[.slice a0 S.nc c0, .slice a1 S.nl c1, .slice a2 S.nw c2] 28)).alloc (.cells #[.int .i64 0, .slice none 0 0, .slice none 0 0, .slice none 0 0] 32))) := CallSto.new h _ _
  clear h
  unfold ResSto
  rcases hA with ⟨hz, rfl, rfl⟩ | ⟨hz, ht, rfl, rfl⟩ | ⟨hz, ht, hh, rfl, rfl⟩ | ⟨hz, ht, hh, rfl, rfl⟩
  · obtain ⟨f, hf⟩ : ∃ f, storeF S = f := ⟨_, rfl⟩
    have HF : Hid (storeF S = f) := hf
    have hfn : (f == 0) = false := beq_eq_false_iff_ne.2 (by rw [← hf]; exact hz)
    rw [hf]
    clear hz hf
    go_enter Tryz.func7, Tryz.ntmps7
    go_wp2_with fail
    refine (l2Fault_any S w.heap.size _ _ _ _ ⟨HE.out.1.1, HE.out.2.2.1.mono (Nat.zero_le _)⟩).mono ?_
    rw [HF.out]
    rintro e w1 ⟨rfl, q1⟩
    have HE : Hid (CallSto w B S (.slice a0 S.nc c0) (.slice a1 S.nl c1) (.slice a2 S.nw c2) w1) := HE.out.later q1
    obtain ⟨⟨⟨p0, p1, p2⟩, _⟩, ⟨⟨r0, r1, r2, r3⟩, f0, f1, f2, f3⟩, _⟩ := HE.out
    clear q1
    go_wp2_with fail
    refine (l3Bad_is f _).mono ?_
    rintro e w4 ⟨d0, e0, d1, e1, d2, e2, rfl, ⟨s3, f3', a3⟩, q4⟩
    have z3 : Hid (w.heap.size + 2 ≤ w1.heap.size) := HE.out.2.1.lt
    have S3 : Hid ((St w4 (w.heap.size + 2) emptyS (.slice d0 emptyS.nc e0) (.slice d1 emptyS.nl e1) (.slice d2 emptyS.nw e2) ∧ FreeS w4 emptyS (.slice d0 emptyS.nc e0) (.slice d1 emptyS.nl e1) (.slice d2 emptyS.nw e2)) ∧ ApartD emptyS (.slice d0 emptyS.nc e0) (.slice d1 emptyS.nl e1) (.slice d2 emptyS.nw e2)) := ⟨⟨s3.mono z3.out, f3'⟩, a3⟩
    have HBW : Hid (Below w.heap.size w w4) := HE.out.2.2.2.trans (q4.mono HE.out.2.2.2.size)
    obtain ⟨⟨r0, r1, r2, r3⟩, f0, f1, f2, f3⟩ := HE.out.2.1.later q4
    clear s3 f3' a3 q4
    have hlo : (w.heap.size + 1 : Nat) < w.heap.size + 2 := Nat.lt_succ_self _
    go_wp2
    exact bodyPost_ret (v := .agg #[.int .i64 f, .slice d0 emptyS.nc e0, .slice d1 emptyS.nl e1, .slice d2 emptyS.nw e2]) (by simp [results, Tryz.results7, go_sem, r0, r1, r2, r3]) rfl ⟨d0, e0, d1, e1, d2, e2, rfl, ⟨((((S3.out.1.1.far hlo _).far hlo _).far hlo _).far hlo _).mono (by omega), (((S3.out.1.2.far _ _).far _ _).far _ _).far _ _, S3.out.2⟩, (((HBW.out.setCell (Nat.le_succ _) _).setCell (Nat.le_succ _) _).setCell (Nat.le_succ _) _).setCell (Nat.le_succ _) _⟩
  · have HA : Hid (storeF S = 0) := hz
    have HT : Hid (decide (1 ≤ safe ∧ safe ≤ 100000) = false) := decide_eq_false ht
    clear hz ht
    go_enter Tryz.func7, Tryz.ntmps7
    go_wp2_with fail
    refine (l2Fault_any S w.heap.size _ _ _ _ ⟨HE.out.1.1, HE.out.2.2.1.mono (Nat.zero_le _)⟩).mono ?_
    rw [HA.out]
    rintro e w1 ⟨rfl, q1⟩
    have HE : Hid (CallSto w B S (.slice a0 S.nc c0) (.slice a1 S.nl c1) (.slice a2 S.nw c2) w1) := HE.out.later q1
    obtain ⟨⟨⟨p0, p1, p2⟩, _⟩, ⟨⟨r0, r1, r2, r3⟩, f0, f1, f2, f3⟩, _⟩ := HE.out
    clear q1
    go_wp2_with fail
    refine (l2Ts_is safe false HT.out _).mono ?_
    rintro e w1' ⟨rfl, rfl⟩
    go_wp2_with fail
    refine (l3Bad_is 3 _).mono ?_
    rintro e w4 ⟨d0, e0, d1, e1, d2, e2, rfl, ⟨s3, f3', a3⟩, q4⟩
    have z3 : Hid (w.heap.size + 2 ≤ w1'.heap.size) := HE.out.2.1.lt
    have S3 : Hid ((St w4 (w.heap.size + 2) emptyS (.slice d0 emptyS.nc e0) (.slice d1 emptyS.nl e1) (.slice d2 emptyS.nw e2) ∧ FreeS w4 emptyS (.slice d0 emptyS.nc e0) (.slice d1 emptyS.nl e1) (.slice d2 emptyS.nw e2)) ∧ ApartD emptyS (.slice d0 emptyS.nc e0) (.slice d1 emptyS.nl e1) (.slice d2 emptyS.nw e2)) := ⟨⟨s3.mono z3.out, f3'⟩, a3⟩
    have HBW : Hid (Below w.heap.size w w4) := HE.out.2.2.2.trans (q4.mono HE.out.2.2.2.size)
    obtain ⟨⟨r0, r1, r2, r3⟩, f0, f1, f2, f3⟩ := HE.out.2.1.later q4
    clear s3 f3' a3 q4
    have hlo : (w.heap.size + 1 : Nat) < w.heap.size + 2 := Nat.lt_succ_self _
    go_wp2
    exact bodyPost_ret (v := .agg #[.int .i64 3, .slice d0 emptyS.nc e0, .slice d1 emptyS.nl e1, .slice d2 emptyS.nw e2]) (by simp [results, Tryz.results7, go_sem, r0, r1, r2, r3]) rfl ⟨d0, e0, d1, e1, d2, e2, rfl, ⟨((((S3.out.1.1.far hlo _).far hlo _).far hlo _).far hlo _).mono (by omega), (((S3.out.1.2.far _ _).far _ _).far _ _).far _ _, S3.out.2⟩, (((HBW.out.setCell (Nat.le_succ _) _).setCell (Nat.le_succ _) _).setCell (Nat.le_succ _) _).setCell (Nat.le_succ _) _⟩
  · have HA : Hid (storeF S = 0) := hz
    have hn := (storeF_zero hz).1.2.1
    have HT : Hid (decide (1 ≤ safe ∧ safe ≤ 100000) = true) := decide_eq_true ht
    have HH : Hid (¬ ∀ i, i < S.nl → safe < S.l (i * 5 + 1)) := fun q => (held_is S.l safe S.nl).1 q hh
    clear hz ht hh
    go_enter Tryz.func7, Tryz.ntmps7
    go_wp2_with fail
    refine (l2Fault_any S w.heap.size _ _ _ _ ⟨HE.out.1.1, HE.out.2.2.1.mono (Nat.zero_le _)⟩).mono ?_
    rw [HA.out]
    rintro e w1 ⟨rfl, q1⟩
    have HE : Hid (CallSto w B S (.slice a0 S.nc c0) (.slice a1 S.nl c1) (.slice a2 S.nw c2) w1) := HE.out.later q1
    obtain ⟨⟨⟨p0, p1, p2⟩, _⟩, ⟨⟨r0, r1, r2, r3⟩, f0, f1, f2, f3⟩, _⟩ := HE.out
    clear q1
    go_wp2_with fail
    refine (l2Ts_is safe true HT.out _).mono ?_
    rintro e w1' ⟨rfl, rfl⟩
    go_wp2
    clear p0 p1 p2 r0 r1 r2 r3 f0 f1 f2 f3
    obtain ⟨wx, hwx⟩ : ∃ x, x = w1' := ⟨_, rfl⟩
    subst hwx
    go_loop [6] (fun i => ∃ k : Nat, k ≤ S.nl ∧ i = .int .i64 k ∧ Hid (∀ i, i < k → safe < S.l (i * 5 + 1))) (fun i => S.nl - (intOf i).toNat)
    case atStart => exact ⟨0, Nat.zero_le _, rfl, fun i hi => absurd hi (Nat.not_lt_zero i)⟩
    case round =>
      obtain ⟨k, hk, rfl, HS⟩ := hrel
      obtain ⟨p0, p1, p2⟩ := HE.out.1.1
      by_cases hlt : k < S.nl
      case neg => exact absurd (fun i hi => HS.out i (by omega)) HH.out
      obtain ⟨g, o, rfl, _, hg, x0, x1, x2, x3, x4⟩ := HE.out.2.2.1.2.1.at5 hlt
      obtain ⟨n1, N1⟩ : ∃ x, S.l (k * 5 + 1) = x := ⟨_, rfl⟩
      rw [N1] at x1
      by_cases h1 : n1 ≤ safe
      · have hd : decide (n1 ≤ safe) = true := decide_eq_true h1
        clear N1 HS h1 x0 x2 x3 x4
        go_wp2_with fail
        refine (l3Bad_is 7 _).mono ?_
        rintro e w4 ⟨d0, e0, d1, e1, d2, e2, rfl, ⟨s3, f3', a3⟩, q4⟩
        have z3 : Hid (w.heap.size + 2 ≤ wx.heap.size) := HE.out.2.1.lt
        have S3 : Hid ((St w4 (w.heap.size + 2) emptyS (.slice d0 emptyS.nc e0) (.slice d1 emptyS.nl e1) (.slice d2 emptyS.nw e2) ∧ FreeS w4 emptyS (.slice d0 emptyS.nc e0) (.slice d1 emptyS.nl e1) (.slice d2 emptyS.nw e2)) ∧ ApartD emptyS (.slice d0 emptyS.nc e0) (.slice d1 emptyS.nl e1) (.slice d2 emptyS.nw e2)) := ⟨⟨s3.mono z3.out, f3'⟩, a3⟩
        have HBW : Hid (Below w.heap.size w w4) := HE.out.2.2.2.trans (q4.mono HE.out.2.2.2.size)
        obtain ⟨⟨r0, r1, r2, r3⟩, f0, f1, f2, f3⟩ := HE.out.2.1.later q4
        clear s3 f3' a3 q4
        have hlo : (w.heap.size + 1 : Nat) < w.heap.size + 2 := Nat.lt_succ_self _
        go_wp2
        exact bodyPost_ret (v := .agg #[.int .i64 7, .slice d0 emptyS.nc e0, .slice d1 emptyS.nl e1, .slice d2 emptyS.nw e2]) (by simp [results, Tryz.results7, go_sem, r0, r1, r2, r3]) rfl ⟨d0, e0, d1, e1, d2, e2, rfl, ⟨((((S3.out.1.1.far hlo _).far hlo _).far hlo _).far hlo _).mono (by omega), (((S3.out.1.2.far _ _).far _ _).far _ _).far _ _, S3.out.2⟩, (((HBW.out.setCell (Nat.le_succ _) _).setCell (Nat.le_succ _) _).setCell (Nat.le_succ _) _).setCell (Nat.le_succ _) _⟩
      · have hd : decide (n1 ≤ safe) = false := decide_eq_false h1
        have E : Hid (∀ i, i < k + 1 → safe < S.l (i * 5 + 1)) := fun i hi => by
          rcases Nat.lt_or_ge i k with q | q
          · exact HS.out i q
          · obtain rfl : i = k := by omega
            rw [N1]; omega
        clear N1 HS h1 x0 x2 x3 x4
        go_wp2
        go_round
        case rel => exact ⟨k + 1, by omega, by go_num, E⟩
        case measure => simp [intOf]; omega
  · have HA : Hid (storeF S = 0) := hz
    have hn := (storeF_zero hz).1.2.1
    have HT : Hid (decide (1 ≤ safe ∧ safe ≤ 100000) = true) := decide_eq_true ht
    have HH : Hid (∀ i, i < S.nl → safe < S.l (i * 5 + 1)) := (held_is S.l safe S.nl).2 hh
    have HP : Hid (∀ (b : Nat) (u0 u1 u2 : Value) (x : World), Lies x b S u0 u1 u2 → Calls Tryz.prog 25 #[.pointer (some ⟨b, 0, none⟩), .int .i64 safe] x (NewSto x (sweepS S safe))) := fun b u0 u1 u2 x hx => l4Sweep_is S b u0 u1 u2 safe x hx hz
    generalize sweepS S safe = R at HP ⊢
    clear hz ht hh
    go_enter Tryz.func7, Tryz.ntmps7
    go_wp2_with fail
    refine (l2Fault_any S w.heap.size _ _ _ _ ⟨HE.out.1.1, HE.out.2.2.1.mono (Nat.zero_le _)⟩).mono ?_
    rw [HA.out]
    rintro e w1 ⟨rfl, q1⟩
    have HE : Hid (CallSto w B S (.slice a0 S.nc c0) (.slice a1 S.nl c1) (.slice a2 S.nw c2) w1) := HE.out.later q1
    obtain ⟨⟨⟨p0, p1, p2⟩, _⟩, ⟨⟨r0, r1, r2, r3⟩, f0, f1, f2, f3⟩, _⟩ := HE.out
    clear q1
    go_wp2_with fail
    refine (l2Ts_is safe true HT.out _).mono ?_
    rintro e w1' ⟨rfl, rfl⟩
    go_wp2
    clear p0 p1 p2 r0 r1 r2 r3 f0 f1 f2 f3
    obtain ⟨wx, hwx⟩ : ∃ x, x = w1' := ⟨_, rfl⟩
    subst hwx
    go_loop [6] (fun i => ∃ k : Nat, k ≤ S.nl ∧ i = .int .i64 k) (fun i => S.nl - (intOf i).toNat)
    case atStart => exact ⟨0, Nat.zero_le _, rfl⟩
    case round =>
      obtain ⟨k, hk, rfl⟩ := hrel
      obtain ⟨p0, p1, p2⟩ := HE.out.1.1
      by_cases hlt : k < S.nl
      case neg =>
        obtain rfl : k = S.nl := by omega
        go_wp2_with fail
        refine (HP.out w.heap.size _ _ _ _ ⟨HE.out.1.1, HE.out.2.2.1.mono (Nat.zero_le _)⟩).mono ?_
        rintro e w3 ⟨d0, e0, d1, e1, d2, e2, rfl, ⟨s3, f3', a3⟩, q1⟩
        have zw : Hid (w.heap.size + 2 ≤ wx.heap.size) := HE.out.2.1.lt
        have S3 : Hid ((St w3 (w.heap.size + 2) R (.slice d0 R.nc e0) (.slice d1 R.nl e1) (.slice d2 R.nw e2) ∧ FreeS w3 R (.slice d0 R.nc e0) (.slice d1 R.nl e1) (.slice d2 R.nw e2)) ∧ ApartD R (.slice d0 R.nc e0) (.slice d1 R.nl e1) (.slice d2 R.nw e2)) := ⟨⟨s3.mono zw.out, f3'⟩, a3⟩
        clear p0 p1 p2 s3 f3' a3
        have HE : Hid (CallSto w B S (.slice a0 S.nc c0) (.slice a1 S.nl c1) (.slice a2 S.nw c2) w3) := HE.out.later q1
        obtain ⟨⟨⟨p0, p1, p2⟩, _⟩, ⟨⟨r0, r1, r2, r3⟩, f0, f1, f2, f3⟩, _⟩ := HE.out
        clear q1
        have hlo : (w.heap.size + 1 : Nat) < w.heap.size + 2 := Nat.lt_succ_self _
        go_wp2
        exact bodyPost_ret (v := .agg #[.int .i64 0, .slice d0 R.nc e0, .slice d1 R.nl e1, .slice d2 R.nw e2]) (by simp [results, Tryz.results7, go_sem, r0, r1, r2, r3]) rfl ⟨d0, e0, d1, e1, d2, e2, rfl, ⟨((((S3.out.1.1.far hlo _).far hlo _).far hlo _).far hlo _).mono (by omega), (((S3.out.1.2.far _ _).far _ _).far _ _).far _ _, S3.out.2⟩, (((HE.out.2.2.2.setCell (Nat.le_succ _) _).setCell (Nat.le_succ _) _).setCell (Nat.le_succ _) _).setCell (Nat.le_succ _) _⟩
      obtain ⟨g, o, rfl, _, hg, x0, x1, x2, x3, x4⟩ := HE.out.2.2.1.2.1.at5 hlt
      have hq := HH.out k hlt
      obtain ⟨n1, N1⟩ : ∃ x, S.l (k * 5 + 1) = x := ⟨_, rfl⟩
      rw [N1] at x1 hq
      have hd : decide (n1 ≤ safe) = false := decide_eq_false (by omega)
      clear N1 hq x0 x2 x3 x4
      go_wp2
      go_round
      case rel => exact ⟨k + 1, by omega, by go_num⟩
      case measure => simp [intOf]; omega
end

section
open Go.RowKit
end

section
open Go.RowKit
end
end Go.Proofs.YtnikdbebfofcaaaGreatDoor

namespace Go.Proofs.YtnikdbebfofcaaaGreatDoor
open Go.RowKit

def firstL (l : Nat → Int) (nl : Nat) (key : Int) (i : Nat) : Prop := i < nl ∧ lockIs l key i ∧ ∀ j, j < i → ¬ lockIs l key j
theorem firstL.one {l : Nat → Int} {n : Nat} {a : Int} {i j : Nat} (h : firstL l n a i) (h' : firstL l n a j) : i = j := by
  rcases Nat.lt_trichotomy i j with e | e | e
  · exact absurd h.2.1 (h'.2.2 i e)
  · exact e
  · exact absurd h'.2.1 (h.2.2 j e)
/-- Key has a lock with a start that is not above ts. -/
def blocks (l : Nat → Int) (nl : Nat) (key ts : Int) : Prop := ∃ i, firstL l nl key i ∧ l (i * 5 + 1) ≤ ts
theorem first_or (l : Nat → Int) (nl : Nat) (key : Int) : (∀ i, i < nl → ¬ lockIs l key i) ∨ ∃ i, firstL l nl key i := by
  obtain ⟨r, h⟩ := FirstAt.get (lockIs l key) nl
  rcases h with ⟨_, h⟩ | ⟨i, h1, _, h2, h3⟩
  · exact Or.inl h
  · exact Or.inr ⟨i, h1, h2, h3⟩
set_option maxRecDepth 100000 in
set_option maxHeartbeats 2000000 in
theorem blocked_isO (B b oo N : Nat) (m : Int → Int → Option Int) (nl : Nat) (l : Nat → Int) (nw : Nat) (k : Nat → Int) (g : Nat) (u1 u2 : Value) (key ts : Int) (w : World) (h : ColsO w B b oo N m nl l nw k g u1 u2) (hn : nl ≤ 200) (r : Bool) (hr : r = true ↔ blocks l nl key ts) :
    Calls Tryz.prog 58 #[.pointer (some ⟨b, oo, none⟩), .int .i64 key, .int .i64 ts] w fun e w' => e = .returned (.bool r) ∧ Below w.heap.size w w' := by
  have H : Hid (ColsO w B b oo N m nl l nw k g u1 u2) := h
  clear h
  rcases first_or l nl key with hno | ⟨i, hi⟩
  · have e : r = false := by
      cases r with
      | false => rfl
      | true => obtain ⟨i, h1, _⟩ := hr.1 rfl; exact absurd h1.2.1 (hno i h1.1)
    subst e
    have HN : Hid (∀ i, i < nl → ¬ lockIs l key i) := hno
    clear hno hr
    go_enter Tryz.func58, Tryz.ntmps58
    go_wp2_with fail
    refine (lockOf_anyO B b oo N m nl l nw k g u1 u2 key _ H.out hn).mono ?_
    rintro e w1 ⟨v, rfl, hT, q1⟩
    obtain rfl : v = .tuple #[.agg #[.int .i64 0, .int .i64 0, .int .i64 0, .int .i64 0, .int .i64 0], .bool false] := by
      rcases hT with ⟨i, hi, hp, _⟩ | ⟨_, e⟩
      · exact absurd hp (HN.out i hi)
      · exact e
    have Q : Hid (Below w.heap.size w (w1.alloc (.cells #[.int .i64 0, .int .i64 0, .int .i64 0, .int .i64 0, .int .i64 0] 61))) := q1.alloc q1.size _
    clear hT q1
    go_wp2
    go_ret
    exact ⟨rfl, Q.out⟩
  · obtain ⟨n0, N0⟩ : ∃ x, l (i * 5) = x := ⟨_, rfl⟩
    obtain ⟨n1, N1⟩ : ∃ x, l (i * 5 + 1) = x := ⟨_, rfl⟩
    obtain ⟨n2, N2⟩ : ∃ x, l (i * 5 + 2) = x := ⟨_, rfl⟩
    obtain ⟨n3, N3⟩ : ∃ x, l (i * 5 + 3) = x := ⟨_, rfl⟩
    obtain ⟨n4, N4⟩ : ∃ x, l (i * 5 + 4) = x := ⟨_, rfl⟩
    have e : r = decide (n1 ≤ ts) := by
      by_cases h1 : n1 ≤ ts
      · rw [decide_eq_true h1]; exact hr.2 ⟨i, hi, by rw [N1]; exact h1⟩
      · rw [decide_eq_false h1]
        cases r with
        | false => rfl
        | true => obtain ⟨j, hj, h2⟩ := hr.1 rfl; obtain rfl := hj.one hi; rw [N1] at h2; exact absurd h2 h1
    have HI : Hid (firstL l nl key i) := hi
    have NN : Hid (l (i * 5) = n0 ∧ l (i * 5 + 1) = n1 ∧ l (i * 5 + 2) = n2 ∧ l (i * 5 + 3) = n3 ∧ l (i * 5 + 4) = n4) := ⟨N0, N1, N2, N3, N4⟩
    clear N0 N1 N2 N3 N4 hi hr
    subst e
    go_enter Tryz.func58, Tryz.ntmps58
    go_wp2_with fail
    refine (lockOf_anyO B b oo N m nl l nw k g u1 u2 key _ H.out hn).mono ?_
    rintro e w1 ⟨v, rfl, hT, q1⟩
    obtain rfl : v = .tuple #[.agg #[.int .i64 n0, .int .i64 n1, .int .i64 n2, .int .i64 n3, .int .i64 n4], .bool true] := by
      rcases hT with ⟨j, hj, hp, hq, e⟩ | ⟨h, _⟩
      · obtain rfl := firstL.one ⟨hj, hp, hq⟩ HI.out
        rw [e, NN.out.1, NN.out.2.1, NN.out.2.2.1, NN.out.2.2.2.1, NN.out.2.2.2.2]
      · exact absurd HI.out.2.1 (h i HI.out.1)
    have Q : Hid (Below w.heap.size w (w1.alloc (.cells #[.int .i64 n0, .int .i64 n1, .int .i64 n2, .int .i64 n3, .int .i64 n4] 61))) := q1.alloc q1.size _
    clear hT q1
    go_wp2
    go_ret
    exact ⟨rfl, Q.out⟩
end Go.Proofs.YtnikdbebfofcaaaGreatDoor

namespace Go.Proofs.YtnikdbebfofcaaaGreatDoor
open Go.RowKit

/-- 'm[k]'. -/
theorem PM.look0 {w : World} {b n : Nat} {m : Int → Int → Option Int} (h : PM w b n m) {x y : Int} (hx : Wf x) (hy : Wf y) :
    (Instr.lookup 82 (.map (some b)) (.agg #[.int .i64 x, .int .i64 y]) false).run Tryz.prog w = .ok (.int .i64 ((m x y).getD 0)) w := by
  obtain ⟨D, h, r⟩ := h
  obtain ⟨c, hrun, hat, _⟩ := h.lookup_int placeKeyed Tryz.underlying82 Tryz.underlying2 (zero_i64 w) (keyOf_place hx hy)
  rw [hrun]
  rw [(r x y hx hy).2] at hat
  simp at hat
  rw [hat]
def GetEnv (w : World) (b oo g N : Nat) (m : Int → Int → Option Int) (L : Nat) (st : Int) (x : World) : Prop := x.cell? ⟨b, oo, none⟩ = some (.map (some g)) ∧ x.cell? ⟨L, 2, none⟩ = some (.int .i64 st) ∧ PM x g N m ∧ Below w.heap.size w x
set_option maxRecDepth 100000 in
set_option maxHeartbeats 4000000 in
theorem get_blockedO (B b oo N : Nat) (m : Int → Int → Option Int) (nl : Nat) (l : Nat → Int) (nw : Nat) (k : Nat → Int) (g : Nat) (u1 u2 : Value) (key ts : Int) (w : World) (h : ColsO w B b oo N m nl l nw k g u1 u2) (hn : nl ≤ 200) (hb : blocks l nl key ts) :
    Calls Tryz.prog 27 #[.pointer (some ⟨b, oo, none⟩), .int .i64 key, .int .i64 ts] w fun e w' => e = .returned (.tuple #[.int .i64 0, .bool false, .iface 91 (.agg #[.int .i64 1])]) ∧ Below w.heap.size w w' := by
  have H : Hid (ColsO w B b oo N m nl l nw k g u1 u2) := h
  have HB : Hid (true = true ↔ blocks l nl key ts) := ⟨fun _ => hb, fun _ => rfl⟩
  have HB2 : Hid (blocks l nl key ts) := hb
  clear h hb HB
  go_enter Tryz.func27, Tryz.ntmps27
  go_wp2_with fail
  refine (blocked_isO B b oo N m nl l nw k g u1 u2 key ts _ H.out hn true ⟨fun _ => HB2.out, fun _ => rfl⟩).mono ?_
  rintro e w1 ⟨rfl, q1⟩
  have Q : Hid (Below w.heap.size w w1) := q1
  clear q1
  go_wp2
  go_ret3
  exact ⟨rfl, Q.out⟩
theorem get_blocked (B b N : Nat) (m : Int → Int → Option Int) (nl : Nat) (l : Nat → Int) (nw : Nat) (k : Nat → Int) (g : Nat) (u1 u2 : Value) (key ts : Int) (w : World) (h : Cols w B b N m nl l nw k g u1 u2) (hn : nl ≤ 200) (hb : blocks l nl key ts) :
    Calls Tryz.prog 27 #[.pointer (some ⟨b, 0, none⟩), .int .i64 key, .int .i64 ts] w fun e w' => e = .returned (.tuple #[.int .i64 0, .bool false, .iface 91 (.agg #[.int .i64 1])]) ∧ Below w.heap.size w w' := get_blockedO B b 0 N m nl l nw k g u1 u2 key ts w h hn hb
set_option maxRecDepth 100000 in
set_option maxHeartbeats 4000000 in
theorem get_noneO (B b oo N : Nat) (m : Int → Int → Option Int) (nl : Nat) (l : Nat → Int) (nw : Nat) (k : Nat → Int) (g : Nat) (u1 u2 : Value) (key ts : Int) (w : World) (h : ColsO w B b oo N m nl l nw k g u1 u2) (hn : nl ≤ 200) (hn2 : nw ≤ 200) (hk : ∀ i, i < nw → 1 ≤ k (i * 4 + 3)) (hb : ¬ blocks l nl key ts) (hl : ∀ i, lastW k nw key ts i → k (i * 4 + 3) ≠ 1) :
    Calls Tryz.prog 27 #[.pointer (some ⟨b, oo, none⟩), .int .i64 key, .int .i64 ts] w fun e w' => e = .returned (.tuple #[.int .i64 0, .bool false, .nilIface]) ∧ Below w.heap.size w w' := by
  have H : Hid (ColsO w B b oo N m nl l nw k g u1 u2) := h
  have HB : Hid (false = true ↔ blocks l nl key ts) := ⟨fun q => absurd q (by decide), fun q => absurd q hb⟩
  have HK : Hid (∀ i, i < nw → 1 ≤ k (i * 4 + 3)) := hk
  have HL : Hid (∀ i, lastW k nw key ts i → k (i * 4 + 3) ≠ 1) := hl
  clear h hb hk hl
  go_enter Tryz.func27, Tryz.ntmps27
  go_wp2_with fail
  refine (blocked_isO B b oo N m nl l nw k g u1 u2 key ts _ H.out hn false HB.out).mono ?_
  rintro e w1 ⟨rfl, q1⟩
  have Q : Hid (Below w.heap.size w w1) := q1
  have H1 : Hid (ColsO w1 B b oo N m nl l nw k g u1 u2) := H.out.later q1
  clear q1 H
  go_wp2_with fail
  refine (lastWrite_anyO B b oo N m nl l nw k g u1 u2 key ts _ H1.out hn2 HK.out).mono ?_
  rintro e w2 ⟨v, rfl, hT, q2⟩
  rcases hT with ⟨i, hi, rfl⟩ | ⟨_, rfl⟩
  · have h3 := HL.out i hi
    obtain ⟨n0, N0⟩ : ∃ x, k (i * 4) = x := ⟨_, rfl⟩
    obtain ⟨n1, N1⟩ : ∃ x, k (i * 4 + 1) = x := ⟨_, rfl⟩
    obtain ⟨n2, N2⟩ : ∃ x, k (i * 4 + 2) = x := ⟨_, rfl⟩
    obtain ⟨n3, N3⟩ : ∃ x, k (i * 4 + 3) = x := ⟨_, rfl⟩
    rw [N0, N1, N2, N3]
    rw [N3] at h3
    have d3 : (n3 == 1) = false := beq_eq_false_iff_ne.2 h3
    have Q2 : Hid (Below w.heap.size w (w2.alloc (.cells #[.int .i64 n0, .int .i64 n1, .int .i64 n2, .int .i64 n3] 38))) := (Q.out.trans (q2.mono Q.out.size)).alloc (by have := Q.out.size; have := q2.size; omega) _
    clear q2 N0 N1 N2 N3 h3 Q
    go_wp2
    go_ret3
    exact ⟨rfl, Q2.out⟩
  · have Q2 : Hid (Below w.heap.size w (w2.alloc (.cells #[.int .i64 0, .int .i64 0, .int .i64 0, .int .i64 0] 38))) := (Q.out.trans (q2.mono Q.out.size)).alloc (by have := Q.out.size; have := q2.size; omega) _
    clear q2 Q
    go_wp2
    go_ret3
    exact ⟨rfl, Q2.out⟩
theorem get_none (B b N : Nat) (m : Int → Int → Option Int) (nl : Nat) (l : Nat → Int) (nw : Nat) (k : Nat → Int) (g : Nat) (u1 u2 : Value) (key ts : Int) (w : World) (h : Cols w B b N m nl l nw k g u1 u2) (hn : nl ≤ 200) (hn2 : nw ≤ 200) (hk : ∀ i, i < nw → 1 ≤ k (i * 4 + 3)) (hb : ¬ blocks l nl key ts) (hl : ∀ i, lastW k nw key ts i → k (i * 4 + 3) ≠ 1) :
    Calls Tryz.prog 27 #[.pointer (some ⟨b, 0, none⟩), .int .i64 key, .int .i64 ts] w fun e w' => e = .returned (.tuple #[.int .i64 0, .bool false, .nilIface]) ∧ Below w.heap.size w w' := get_noneO B b 0 N m nl l nw k g u1 u2 key ts w h hn hn2 hk hb hl
set_option maxRecDepth 100000 in
set_option maxHeartbeats 4000000 in
theorem get_someO (B b oo N : Nat) (m : Int → Int → Option Int) (nl : Nat) (l : Nat → Int) (nw : Nat) (k : Nat → Int) (g : Nat) (u1 u2 : Value) (key ts : Int) (i : Nat) (v : Int) (w : World) (h : ColsO w B b oo N m nl l nw k g u1 u2) (hn : nl ≤ 200) (hn2 : nw ≤ 200) (hk : ∀ i, i < nw → 1 ≤ k (i * 4 + 3)) (hb : ¬ blocks l nl key ts) (hl : lastW k nw key ts i) (h1 : k (i * 4 + 3) = 1) (hw0 : Wf key) (hw1 : Wf (k (i * 4 + 2))) (hm : m key (k (i * 4 + 2)) = some v) :
    Calls Tryz.prog 27 #[.pointer (some ⟨b, oo, none⟩), .int .i64 key, .int .i64 ts] w fun e w' => e = .returned (.tuple #[.int .i64 v, .bool true, .nilIface]) ∧ Below w.heap.size w w' := by
  have H : Hid (ColsO w B b oo N m nl l nw k g u1 u2) := h
  have HB : Hid (false = true ↔ blocks l nl key ts) := ⟨fun q => absurd q (by decide), fun q => absurd q hb⟩
  have HK : Hid (∀ i, i < nw → 1 ≤ k (i * 4 + 3)) := hk
  have HL : Hid (lastW k nw key ts i) := hl
  obtain ⟨n0, N0⟩ : ∃ x, k (i * 4) = x := ⟨_, rfl⟩
  obtain ⟨n1, N1⟩ : ∃ x, k (i * 4 + 1) = x := ⟨_, rfl⟩
  obtain ⟨n2, N2⟩ : ∃ x, k (i * 4 + 2) = x := ⟨_, rfl⟩
  obtain ⟨n3, N3⟩ : ∃ x, k (i * 4 + 3) = x := ⟨_, rfl⟩
  rw [N2] at hm hw1
  rw [N3] at h1
  subst h1
  have NN : Hid (k (i * 4) = n0 ∧ k (i * 4 + 1) = n1 ∧ k (i * 4 + 2) = n2 ∧ k (i * 4 + 3) = 1) := ⟨N0, N1, N2, N3⟩
  have HM : Hid (m key n2 = some v) := hm
  clear h hb hk hl N0 N1 N2 N3 hm
  go_enter Tryz.func27, Tryz.ntmps27
  go_wp2_with fail
  refine (blocked_isO B b oo N m nl l nw k g u1 u2 key ts _ H.out hn false HB.out).mono ?_
  rintro e w1 ⟨rfl, q1⟩
  have Q : Hid (Below w.heap.size w w1) := q1
  have H1 : Hid (ColsO w1 B b oo N m nl l nw k g u1 u2) := H.out.later q1
  clear q1 H
  go_wp2_with fail
  refine (lastWrite_anyO B b oo N m nl l nw k g u1 u2 key ts _ H1.out hn2 HK.out).mono ?_
  rintro e w2 ⟨v', rfl, hT, q2⟩
  obtain rfl : v' = .tuple #[.agg #[.int .i64 n0, .int .i64 n1, .int .i64 n2, .int .i64 1], .bool true] := by
    rcases hT with ⟨j, hj, e⟩ | ⟨h, _⟩
    · obtain rfl := hj.one HL.out
      rw [e, NN.out.1, NN.out.2.1, NN.out.2.2.1, NN.out.2.2.2]
    · exact absurd HL.out (h i)
  have h0 : GetEnv w b oo g N m w2.heap.size n2 (w2.alloc (.cells #[.int .i64 n0, .int .i64 n1, .int .i64 n2, .int .i64 1] 38)).drew := ⟨((H1.out.later q2).2.2.1.alloc _).1.1, World.cell?_alloc_mark w2 _ _ _ 2, ((H1.out.later q2).2.2.2.1.alloc _), ((Q.out.trans (q2.mono Q.out.size)).alloc (by have := Q.out.size; have := q2.size; omega) _).drew⟩
  clear q2 hT Q H1
  go_wp2_with fail
  refine wp_region_held_drew (S := GetEnv w b oo g N m w2.heap.size n2) (by kernel_rfl) h0 (fun hS => ?_)
  clear h0
  refine tkH 0 ?_ hS (fun wx hx => ?_) ?_; rotate_left
  · obtain ⟨hx0, hx1, hx2, _⟩ := hx; have hxl := hx2.look0 hw0 hw1; clear hx2; go_simp; try with_reducible rfl
  refine tkH 1 ?_ hS (fun wx hx => ?_) ?_; rotate_left
  · obtain ⟨hx0, hx1, hx2, _⟩ := hx; have hxl := hx2.look0 hw0 hw1; clear hx2; go_simp; try with_reducible rfl
  refine tkH 2 ?_ hS (fun wx hx => ?_) ?_; rotate_left
  · obtain ⟨hx0, hx1, hx2, _⟩ := hx; have hxl := hx2.look0 hw0 hw1; clear hx2; go_simp; try with_reducible rfl
  refine tkH 3 ?_ hS (fun wx hx => ?_) ?_; rotate_left
  · obtain ⟨hx0, hx1, hx2, _⟩ := hx; have hxl := hx2.look0 hw0 hw1; clear hx2; go_simp; try with_reducible rfl
  refine tkH 4 ?_ hS (fun wx hx => ?_) ?_; rotate_left
  · obtain ⟨hx0, hx1, hx2, _⟩ := hx; have hxl := hx2.look0 hw0 hw1; clear hx2; go_simp; try with_reducible rfl
  refine tkH 5 ?_ hS (fun wx hx => ?_) ?_; rotate_left
  · obtain ⟨hx0, hx1, hx2, _⟩ := hx; have hxl := hx2.look0 hw0 hw1; clear hx2; go_simp; try with_reducible rfl
  refine tkH 6 ?_ hS (fun wx hx => ?_) ?_; rotate_left
  · obtain ⟨hx0, hx1, hx2, _⟩ := hx; have hxl := hx2.look0 hw0 hw1; clear hx2; go_simp; try with_reducible rfl
  refine tkH 7 ?_ hS (fun wx hx => ?_) ?_; rotate_left
  · obtain ⟨hx0, hx1, hx2, _⟩ := hx; have hxl := hx2.look0 hw0 hw1; clear hx2; go_simp; try with_reducible rfl
  refine tkH 8 ?_ hS (fun wx hx => ?_) ?_; rotate_left
  · obtain ⟨hx0, hx1, hx2, _⟩ := hx; have hxl := hx2.look0 hw0 hw1; clear hx2; go_simp; try with_reducible rfl
  refine tkH 9 ?_ hS (fun wx hx => ?_) ?_; rotate_left
  · obtain ⟨hx0, hx1, hx2, _⟩ := hx; have hxl := hx2.look0 hw0 hw1; clear hx2; go_simp; try with_reducible rfl
  refine tkH 10 ?_ hS (fun wx hx => ?_) ?_; rotate_left
  · obtain ⟨hx0, hx1, hx2, _⟩ := hx; have hxl := hx2.look0 hw0 hw1; clear hx2; go_simp; try with_reducible rfl
  refine tkH 11 ?_ hS (fun wx hx => ?_) ?_; rotate_left
  · obtain ⟨hx0, hx1, hx2, _⟩ := hx; have hxl := hx2.look0 hw0 hw1; clear hx2; go_simp; try with_reducible rfl
  refine wpAnyH_done (by kernel_rfl) ?_ _
  rw [HM.out]
  go_simp
  go_wp2
  go_ret3
  exact ⟨rfl, hS.2.2.2⟩
theorem get_some (B b N : Nat) (m : Int → Int → Option Int) (nl : Nat) (l : Nat → Int) (nw : Nat) (k : Nat → Int) (g : Nat) (u1 u2 : Value) (key ts : Int) (i : Nat) (v : Int) (w : World) (h : Cols w B b N m nl l nw k g u1 u2) (hn : nl ≤ 200) (hn2 : nw ≤ 200) (hk : ∀ i, i < nw → 1 ≤ k (i * 4 + 3)) (hb : ¬ blocks l nl key ts) (hl : lastW k nw key ts i) (h1 : k (i * 4 + 3) = 1) (hw0 : Wf key) (hw1 : Wf (k (i * 4 + 2))) (hm : m key (k (i * 4 + 2)) = some v) :
    Calls Tryz.prog 27 #[.pointer (some ⟨b, 0, none⟩), .int .i64 key, .int .i64 ts] w fun e w' => e = .returned (.tuple #[.int .i64 v, .bool true, .nilIface]) ∧ Below w.heap.size w w' := get_someO B b 0 N m nl l nw k g u1 u2 key ts i v w h hn hn2 hk hb hl h1 hw0 hw1 hm
end Go.Proofs.YtnikdbebfofcaaaGreatDoor

namespace Go.Proofs.YtnikdbebfofcaaaGreatDoor
open Go.RowKit

def isTs (ts : Int) : Prop := 1 ≤ ts ∧ ts ≤ 100000
/-- The last put or delete of key up to ts is a put; its cell is cell j. -/
def reads (S : Sto) (key ts : Int) (i j : Nat) : Prop := lastW S.k S.nw key ts i ∧ S.k (i * 4 + 3) = 1 ∧ j < S.nc ∧ cellIs S.c key (S.k (i * 4 + 2)) j
/-- What GetAt answers. -/
def GetAns (S : Sto) (key ts c : Int) (has : Bool) (v : Int) : Prop :=
  (askF S key ≠ 0 ∧ c = askF S key ∧ has = false ∧ v = 0) ∨ (askF S key = 0 ∧ ¬ isTs ts ∧ c = 3 ∧ has = false ∧ v = 0) ∨
  (askF S key = 0 ∧ isTs ts ∧ blocks S.l S.nl key ts ∧ c = 7 ∧ has = false ∧ v = 0) ∨
  (askF S key = 0 ∧ isTs ts ∧ ¬ blocks S.l S.nl key ts ∧ (∀ i, lastW S.k S.nw key ts i → S.k (i * 4 + 3) ≠ 1) ∧ c = 0 ∧ has = false ∧ v = 0) ∨
  (askF S key = 0 ∧ isTs ts ∧ ¬ blocks S.l S.nl key ts ∧ ∃ i j, reads S key ts i j ∧ c = 0 ∧ has = true ∧ v = S.c (j * 3 + 2))
theorem GetAns.get (S : Sto) (key ts : Int) : ∃ c has v, GetAns S key ts c has v := by
  by_cases hz : askF S key = 0
  case neg => exact ⟨_, _, _, Or.inl ⟨hz, rfl, rfl, rfl⟩⟩
  by_cases ht : isTs ts
  case neg => exact ⟨_, _, _, Or.inr (Or.inl ⟨hz, ht, rfl, rfl, rfl⟩)⟩
  by_cases hb : blocks S.l S.nl key ts
  · exact ⟨_, _, _, Or.inr (Or.inr (Or.inl ⟨hz, ht, hb, rfl, rfl, rfl⟩))⟩
  by_cases hl : ∀ i, lastW S.k S.nw key ts i → S.k (i * 4 + 3) ≠ 1
  · exact ⟨_, _, _, Or.inr (Or.inr (Or.inr (Or.inl ⟨hz, ht, hb, hl, rfl, rfl, rfl⟩)))⟩
  have he : ∃ i, lastW S.k S.nw key ts i ∧ S.k (i * 4 + 3) = 1 := Classical.byContradiction fun q => hl (fun i hi e => q ⟨i, hi, e⟩)
  obtain ⟨i, hi, h1⟩ := he
  obtain ⟨j, hj, hc⟩ := (storeF_zero (askF_zero hz).1).2.2.2.2.1.1 i hi.1 h1
  rw [hi.2.1.1] at hc
  exact ⟨_, _, _, Or.inr (Or.inr (Or.inr (Or.inr ⟨hz, ht, hb, i, j, ⟨hi, h1, hj, hc⟩, rfl, rfl, rfl⟩)))⟩
def GetCall (w : World) (B : Nat) (S : Sto) (v0 v1 v2 r0 r1 r2 : Value) (x : World) : Prop := Blk3 x w.heap.size v0 v1 v2 ∧ Blk3 x (w.heap.size + 1) r0 r1 r2 ∧ St x B S v0 v1 v2 ∧ Below w.heap.size w x
theorem GetCall.later {w x x' : World} {B : Nat} {S : Sto} {v0 v1 v2 r0 r1 r2 : Value} (h : GetCall w B S v0 v1 v2 r0 r1 r2 x) (hb : Below x.heap.size x x') : GetCall w B S v0 v1 v2 r0 r1 r2 x' :=
  ⟨h.1.later hb, h.2.1.later hb, h.2.2.1.later hb, h.2.2.2.trans (hb.mono h.2.2.2.size)⟩
theorem GetCall.new {w : World} {B : Nat} {S : Sto} {v0 v1 v2 : Value} (h : St w B S v0 v1 v2) (r0 r1 r2 : Value) (t t' : TypeId) : GetCall w B S v0 v1 v2 r0 r1 r2 ((w.alloc (.cells #[v0, v1, v2] t)).alloc (.cells #[r0, r1, r2] t')) := by
  refine ⟨(Blk3.new w _ _ _ _).alloc _, ?_, (h.alloc _).alloc _, (below_alloc _ _).alloc (by simp) _⟩
  have := Blk3.new (w.alloc (.cells #[v0, v1, v2] t)) r0 r1 r2 t'
  rwa [World.size_alloc] at this
set_option maxRecDepth 100000 in
set_option maxHeartbeats 4000000 in
theorem implGetAt_is (S : Sto) (v0 v1 v2 : Value) (key ts c : Int) (has : Bool) (v : Int) (B : Nat) (w : World) (h : St w B S v0 v1 v2) (hL : Laid w) (hA : GetAns S key ts c has v) :
    Calls Tryz.prog 8 #[.agg #[v0, v1, v2], .int .i64 key, .int .i64 ts] w fun e w' => e = .returned (.agg #[.int .i64 c, .bool has, .int .i64 v]) ∧ Below w.heap.size w w' := by
  obtain ⟨a0, c0, a1, c1, a2, c2, rfl, rfl, rfl⟩ := h.form
  have HE : Hid (GetCall w B S (.slice a0 S.nc c0) (.slice a1 S.nl c1) (.slice a2 S.nw c2) (.int .i64 0) (.bool false) (.int .i64 0) ((w.alloc (.cells #[.slice a0 S.nc c0, .slice a1 S.nl c1, .slice a2 S.nw c2] 28)).alloc (.cells #[.int .i64 0, .bool false, .int .i64 0] 35))) := GetCall.new h _ _ _ _ _
  have HL : Hid (Laid w) := hL
  clear h hL
  rcases hA with ⟨hz, rfl, rfl, rfl⟩ | ⟨hz, ht, rfl, rfl, rfl⟩ | ⟨hz, ht, hb, rfl, rfl, rfl⟩ | ⟨hz, ht, hb, hl, rfl, rfl, rfl⟩ | ⟨hz, ht, hb, i, j, hr, rfl, rfl, rfl⟩
  · obtain ⟨f, hf⟩ : ∃ f, askF S key = f := ⟨_, rfl⟩
    have HF : Hid (askF S key = f) := hf
    have hfn : (f == 0) = false := beq_eq_false_iff_ne.2 (by rw [← hf]; exact hz)
    rw [hf]
    clear hz hf
    go_enter Tryz.func8, Tryz.ntmps8
    go_wp2_with fail
    refine (askFault_any S _ _ _ key B _ HE.out.2.2.1).mono ?_
    rw [HF.out]
    rintro e w1 ⟨rfl, q1⟩
    have HE : Hid (GetCall w B S (.slice a0 S.nc c0) (.slice a1 S.nl c1) (.slice a2 S.nw c2) (.int .i64 0) (.bool false) (.int .i64 0) w1) := HE.out.later q1
    obtain ⟨⟨⟨p0, p1, p2⟩, _⟩, ⟨⟨r0, r1, r2⟩, f0, f1, f2⟩, _⟩ := HE.out
    clear q1
    go_wp2
    exact bodyPost_ret (v := .agg #[.int .i64 f, .bool false, .int .i64 0]) (by simp [results, Tryz.results8, go_sem, r0, r1, r2]) rfl ⟨rfl, ((HE.out.2.2.2.setCell (Nat.le_succ _) _).setCell (Nat.le_succ _) _).setCell (Nat.le_succ _) _⟩
  · have HA : Hid (askF S key = 0) := hz
    have HT : Hid (decide (1 ≤ ts ∧ ts ≤ 100000) = false) := decide_eq_false ht
    clear hz ht
    go_enter Tryz.func8, Tryz.ntmps8
    go_wp2_with fail
    refine (askFault_any S _ _ _ key B _ HE.out.2.2.1).mono ?_
    rw [HA.out]
    rintro e w1 ⟨rfl, q1⟩
    have HE : Hid (GetCall w B S (.slice a0 S.nc c0) (.slice a1 S.nl c1) (.slice a2 S.nw c2) (.int .i64 0) (.bool false) (.int .i64 0) w1) := HE.out.later q1
    obtain ⟨⟨⟨p0, p1, p2⟩, _⟩, ⟨⟨r0, r1, r2⟩, f0, f1, f2⟩, _⟩ := HE.out
    clear q1
    go_wp2_with fail
    refine (isTime_is _ false HT.out _).mono ?_
    rintro e w1' ⟨rfl, rfl⟩
    go_wp2
    exact bodyPost_ret (v := .agg #[.int .i64 3, .bool false, .int .i64 0]) (by simp [results, Tryz.results8, go_sem, r0, r1, r2]) rfl ⟨rfl, ((HE.out.2.2.2.setCell (Nat.le_succ _) _).setCell (Nat.le_succ _) _).setCell (Nat.le_succ _) _⟩
  · have Z := storeF_zero (askF_zero hz).1
    have HZ : Hid (scan (cellF S.c) S.nc = 0 ∧ (S.nc ≤ 200 ∧ S.nl ≤ 200 ∧ S.nw ≤ 200)) := ⟨Z.2.1, Z.1⟩
    have HK : Hid (∀ i, i < S.nw → 1 ≤ S.k (i * 4 + 3)) := fun i hi => (writeF_zero (scan_zero Z.2.2.2.1 i hi)).2.2.2.2.2.1
    have HA : Hid (askF S key = 0) := hz
    have HT : Hid (decide (1 ≤ ts ∧ ts ≤ 100000) = true) := decide_eq_true ht
    have HB : Hid (blocks S.l S.nl key ts) := hb
    clear hz ht hb Z
    go_enter Tryz.func8, Tryz.ntmps8
    go_wp2_with fail
    refine (askFault_any S _ _ _ key B _ HE.out.2.2.1).mono ?_
    rw [HA.out]
    rintro e w1 ⟨rfl, q1⟩
    have HE : Hid (GetCall w B S (.slice a0 S.nc c0) (.slice a1 S.nl c1) (.slice a2 S.nw c2) (.int .i64 0) (.bool false) (.int .i64 0) w1) := HE.out.later q1
    obtain ⟨⟨⟨p0, p1, p2⟩, _⟩, ⟨⟨r0, r1, r2⟩, f0, f1, f2⟩, _⟩ := HE.out
    clear q1
    go_wp2_with fail
    refine (isTime_is _ true HT.out _).mono ?_
    rintro e w1' ⟨rfl, rfl⟩
    go_wp2_with fail
    refine (columnsOf_any S B _ _ _ _ HE.out.2.2.1 HZ.out.2.1 HZ.out.2.2.1 HZ.out.2.2.2 HZ.out.1).mono ?_
    rintro e w2 ⟨b, g, u1, u2, rfl, HC, q1⟩
    clear p0 p1 p2 r0 r1 r2 f0 f1 f2
    have HE : Hid (GetCall w B S (.slice a0 S.nc c0) (.slice a1 S.nl c1) (.slice a2 S.nw c2) (.int .i64 0) (.bool false) (.int .i64 0) w2) := HE.out.later q1
    obtain ⟨⟨⟨p0, p1, p2⟩, _⟩, ⟨⟨r0, r1, r2⟩, f0, f1, f2⟩, _⟩ := HE.out
    clear q1
    go_wp2_with fail
    refine (get_blocked _ b _ _ S.nl S.l _ _ g u1 u2 key ts _ HC HZ.out.2.2.1 HB.out).mono ?_
    rintro e w3 ⟨rfl, q1⟩
    clear p0 p1 p2 r0 r1 r2 f0 f1 f2
    have HE : Hid (GetCall w B S (.slice a0 S.nc c0) (.slice a1 S.nl c1) (.slice a2 S.nw c2) (.int .i64 0) (.bool false) (.int .i64 0) w3) := HE.out.later q1
    obtain ⟨⟨⟨p0, p1, p2⟩, _⟩, ⟨⟨r0, r1, r2⟩, f0, f1, f2⟩, _⟩ := HE.out
    clear q1
    clear HC
    go_wp2_with fail
    refine (refusalCode_hit 1 7 (Or.inr (Or.inl ⟨rfl, rfl⟩)) _ (HL.out.later HE.out.2.2.2)).mono ?_
    rintro e w4 ⟨rfl, q1⟩
    clear p0 p1 p2 r0 r1 r2 f0 f1 f2
    have HE : Hid (GetCall w B S (.slice a0 S.nc c0) (.slice a1 S.nl c1) (.slice a2 S.nw c2) (.int .i64 0) (.bool false) (.int .i64 0) w4) := HE.out.later q1
    obtain ⟨⟨⟨p0, p1, p2⟩, _⟩, ⟨⟨r0, r1, r2⟩, f0, f1, f2⟩, _⟩ := HE.out
    clear q1
    go_wp2
    exact bodyPost_ret (v := .agg #[.int .i64 7, .bool false, .int .i64 0]) (by simp [results, Tryz.results8, go_sem, r0, r1, r2]) rfl ⟨rfl, ((HE.out.2.2.2.setCell (Nat.le_succ _) _).setCell (Nat.le_succ _) _).setCell (Nat.le_succ _) _⟩
  · have Z := storeF_zero (askF_zero hz).1
    have HZ : Hid (scan (cellF S.c) S.nc = 0 ∧ (S.nc ≤ 200 ∧ S.nl ≤ 200 ∧ S.nw ≤ 200)) := ⟨Z.2.1, Z.1⟩
    have HK : Hid (∀ i, i < S.nw → 1 ≤ S.k (i * 4 + 3)) := fun i hi => (writeF_zero (scan_zero Z.2.2.2.1 i hi)).2.2.2.2.2.1
    have HA : Hid (askF S key = 0) := hz
    have HT : Hid (decide (1 ≤ ts ∧ ts ≤ 100000) = true) := decide_eq_true ht
    have HB : Hid (¬ blocks S.l S.nl key ts ∧ ∀ i, lastW S.k S.nw key ts i → S.k (i * 4 + 3) ≠ 1) := ⟨hb, hl⟩
    clear hz ht hb hl Z
    go_enter Tryz.func8, Tryz.ntmps8
    go_wp2_with fail
    refine (askFault_any S _ _ _ key B _ HE.out.2.2.1).mono ?_
    rw [HA.out]
    rintro e w1 ⟨rfl, q1⟩
    have HE : Hid (GetCall w B S (.slice a0 S.nc c0) (.slice a1 S.nl c1) (.slice a2 S.nw c2) (.int .i64 0) (.bool false) (.int .i64 0) w1) := HE.out.later q1
    obtain ⟨⟨⟨p0, p1, p2⟩, _⟩, ⟨⟨r0, r1, r2⟩, f0, f1, f2⟩, _⟩ := HE.out
    clear q1
    go_wp2_with fail
    refine (isTime_is _ true HT.out _).mono ?_
    rintro e w1' ⟨rfl, rfl⟩
    go_wp2_with fail
    refine (columnsOf_any S B _ _ _ _ HE.out.2.2.1 HZ.out.2.1 HZ.out.2.2.1 HZ.out.2.2.2 HZ.out.1).mono ?_
    rintro e w2 ⟨b, g, u1, u2, rfl, HC, q1⟩
    clear p0 p1 p2 r0 r1 r2 f0 f1 f2
    have HE : Hid (GetCall w B S (.slice a0 S.nc c0) (.slice a1 S.nl c1) (.slice a2 S.nw c2) (.int .i64 0) (.bool false) (.int .i64 0) w2) := HE.out.later q1
    obtain ⟨⟨⟨p0, p1, p2⟩, _⟩, ⟨⟨r0, r1, r2⟩, f0, f1, f2⟩, _⟩ := HE.out
    clear q1
    go_wp2_with fail
    refine (get_none _ b _ _ S.nl S.l S.nw S.k g u1 u2 key ts _ HC HZ.out.2.2.1 HZ.out.2.2.2 HK.out HB.out.1 HB.out.2).mono ?_
    rintro e w3 ⟨rfl, q1⟩
    clear p0 p1 p2 r0 r1 r2 f0 f1 f2
    have HE : Hid (GetCall w B S (.slice a0 S.nc c0) (.slice a1 S.nl c1) (.slice a2 S.nw c2) (.int .i64 0) (.bool false) (.int .i64 0) w3) := HE.out.later q1
    obtain ⟨⟨⟨p0, p1, p2⟩, _⟩, ⟨⟨r0, r1, r2⟩, f0, f1, f2⟩, _⟩ := HE.out
    clear q1
    clear HC
    go_wp2_with fail
    refine (refusalCode_nil _).mono ?_
    rintro e w4 ⟨rfl, q1⟩
    clear p0 p1 p2 r0 r1 r2 f0 f1 f2
    have HE : Hid (GetCall w B S (.slice a0 S.nc c0) (.slice a1 S.nl c1) (.slice a2 S.nw c2) (.int .i64 0) (.bool false) (.int .i64 0) w4) := HE.out.later q1
    obtain ⟨⟨⟨p0, p1, p2⟩, _⟩, ⟨⟨r0, r1, r2⟩, f0, f1, f2⟩, _⟩ := HE.out
    clear q1
    go_wp2
    exact bodyPost_ret (v := .agg #[.int .i64 0, .bool false, .int .i64 0]) (by simp [results, Tryz.results8, go_sem, r0, r1, r2]) rfl ⟨rfl, ((HE.out.2.2.2.setCell (Nat.le_succ _) _).setCell (Nat.le_succ _) _).setCell (Nat.le_succ _) _⟩
  · have Z := storeF_zero (askF_zero hz).1
    have HZ : Hid (scan (cellF S.c) S.nc = 0 ∧ (S.nc ≤ 200 ∧ S.nl ≤ 200 ∧ S.nw ≤ 200)) := ⟨Z.2.1, Z.1⟩
    have HK : Hid (∀ i, i < S.nw → 1 ≤ S.k (i * 4 + 3)) := fun i hi => (writeF_zero (scan_zero Z.2.2.2.1 i hi)).2.2.2.2.2.1
    have HA : Hid (askF S key = 0) := hz
    have hw0 : Wf key := wf_small (faultOf_zero (askF_zero hz).2).1 (by have := (faultOf_zero (askF_zero hz).2).2; omega)
    have hw1 : Wf (S.k (i * 4 + 2)) := by have := writeF_zero (scan_zero Z.2.2.2.1 i hr.1.1); exact wf_small (by omega) (by omega)
    have HT : Hid (decide (1 ≤ ts ∧ ts ≤ 100000) = true) := decide_eq_true ht
    have HB : Hid (¬ blocks S.l S.nl key ts) := hb
    have HR : Hid (lastW S.k S.nw key ts i ∧ S.k (i * 4 + 3) = 1) := ⟨hr.1, hr.2.1⟩
    have hm := cellM_at Z.2.1 hr.2.2.1 hr.2.2.2
    obtain ⟨v, hv⟩ : ∃ v, S.c (j * 3 + 2) = v := ⟨_, rfl⟩
    rw [hv] at hm
    rw [hv]
    have HM : Hid (cellM S S.nc key (S.k (i * 4 + 2)) = some v) := hm
    clear hz ht hb hr Z hm hv
    go_enter Tryz.func8, Tryz.ntmps8
    go_wp2_with fail
    refine (askFault_any S _ _ _ key B _ HE.out.2.2.1).mono ?_
    rw [HA.out]
    rintro e w1 ⟨rfl, q1⟩
    have HE : Hid (GetCall w B S (.slice a0 S.nc c0) (.slice a1 S.nl c1) (.slice a2 S.nw c2) (.int .i64 0) (.bool false) (.int .i64 0) w1) := HE.out.later q1
    obtain ⟨⟨⟨p0, p1, p2⟩, _⟩, ⟨⟨r0, r1, r2⟩, f0, f1, f2⟩, _⟩ := HE.out
    clear q1
    go_wp2_with fail
    refine (isTime_is _ true HT.out _).mono ?_
    rintro e w1' ⟨rfl, rfl⟩
    go_wp2_with fail
    refine (columnsOf_any S B _ _ _ _ HE.out.2.2.1 HZ.out.2.1 HZ.out.2.2.1 HZ.out.2.2.2 HZ.out.1).mono ?_
    rintro e w2 ⟨b, g, u1, u2, rfl, HC, q1⟩
    clear p0 p1 p2 r0 r1 r2 f0 f1 f2
    have HE : Hid (GetCall w B S (.slice a0 S.nc c0) (.slice a1 S.nl c1) (.slice a2 S.nw c2) (.int .i64 0) (.bool false) (.int .i64 0) w2) := HE.out.later q1
    obtain ⟨⟨⟨p0, p1, p2⟩, _⟩, ⟨⟨r0, r1, r2⟩, f0, f1, f2⟩, _⟩ := HE.out
    clear q1
    go_wp2_with fail
    refine (get_some _ b _ _ S.nl S.l S.nw S.k g u1 u2 key ts i v _ HC HZ.out.2.2.1 HZ.out.2.2.2 HK.out HB.out HR.out.1 HR.out.2 hw0 hw1 HM.out).mono ?_
    rintro e w3 ⟨rfl, q1⟩
    clear p0 p1 p2 r0 r1 r2 f0 f1 f2
    have HE : Hid (GetCall w B S (.slice a0 S.nc c0) (.slice a1 S.nl c1) (.slice a2 S.nw c2) (.int .i64 0) (.bool false) (.int .i64 0) w3) := HE.out.later q1
    obtain ⟨⟨⟨p0, p1, p2⟩, _⟩, ⟨⟨r0, r1, r2⟩, f0, f1, f2⟩, _⟩ := HE.out
    clear q1
    clear HC
    go_wp2_with fail
    refine (refusalCode_nil _).mono ?_
    rintro e w4 ⟨rfl, q1⟩
    clear p0 p1 p2 r0 r1 r2 f0 f1 f2
    have HE : Hid (GetCall w B S (.slice a0 S.nc c0) (.slice a1 S.nl c1) (.slice a2 S.nw c2) (.int .i64 0) (.bool false) (.int .i64 0) w4) := HE.out.later q1
    obtain ⟨⟨⟨p0, p1, p2⟩, _⟩, ⟨⟨r0, r1, r2⟩, f0, f1, f2⟩, _⟩ := HE.out
    clear q1
    go_wp2
    exact bodyPost_ret (v := .agg #[.int .i64 0, .bool true, .int .i64 v]) (by simp [results, Tryz.results8, go_sem, r0, r1, r2]) rfl ⟨rfl, ((HE.out.2.2.2.setCell (Nat.le_succ _) _).setCell (Nat.le_succ _) _).setCell (Nat.le_succ _) _⟩
end Go.Proofs.YtnikdbebfofcaaaGreatDoor

namespace Go.Proofs.YtnikdbebfofcaaaGreatDoor
open Go.RowKit

/-- A code and a value. -/
def ResInt (w : World) (c v : Int) (e : Ending) (w' : World) : Prop := e = .returned (.agg #[.int .i64 c, .int .i64 v]) ∧ Below w.heap.size w w'
end Go.Proofs.YtnikdbebfofcaaaGreatDoor

namespace Go.Proofs.YtnikdbebfofcaaaGreatDoor
open Go.RowKit

def OldAns (S : Sto) (c v : Int) : Prop := (storeF S ≠ 0 ∧ c = storeF S ∧ v = 0) ∨ (storeF S = 0 ∧ ((S.nl = 0 ∧ c = 4 ∧ v = 0) ∨ (0 < S.nl ∧ c = 0 ∧ v = lowL S.l S.nl)))
theorem OldAns.get (S : Sto) : ∃ c v, OldAns S c v := by
  by_cases h : storeF S = 0
  · rcases Nat.eq_zero_or_pos S.nl with e | e
    · exact ⟨_, _, Or.inr ⟨h, Or.inl ⟨e, rfl, rfl⟩⟩⟩
    · exact ⟨_, _, Or.inr ⟨h, Or.inr ⟨e, rfl, rfl⟩⟩⟩
  · exact ⟨_, _, Or.inl ⟨h, rfl, rfl⟩⟩
set_option maxRecDepth 100000 in
set_option maxHeartbeats 4000000 in
theorem implOldestLock_is (S : Sto) (v0 v1 v2 : Value) (c v : Int) (B : Nat) (w : World) (h : St w B S v0 v1 v2) (hA : OldAns S c v) :
    Calls Tryz.prog 9 #[.agg #[v0, v1, v2]] w (ResInt w c v) := by
  obtain ⟨a0, c0, a1, c1, a2, c2, rfl, rfl, rfl⟩ := h.form
  have HE : Hid (CallEnv w B S (.slice a0 S.nc c0) (.slice a1 S.nl c1) (.slice a2 S.nw c2) (.int .i64 0) (.int .i64 0) ((w.alloc (.cells #[.slice a0 S.nc c0, .slice a1 S.nl c1, .slice a2 S.nw c2] 28)).alloc (.cells #[.int .i64 0, .int .i64 0] 40))) := CallEnv.new h _ _ _ _
  clear h
  unfold ResInt
  rcases hA with ⟨hz, rfl, rfl⟩ | ⟨hz, ⟨h0, rfl, rfl⟩ | ⟨h0, rfl, rfl⟩⟩
  · obtain ⟨f, hf⟩ : ∃ f, storeF S = f := ⟨_, rfl⟩
    rw [hf]
    have HF : Hid (storeF S = f) := hf
    have hfn : (f == 0) = false := beq_eq_false_iff_ne.2 (by rw [← hf]; exact hz)
    clear hz hf
    go_enter Tryz.func9, Tryz.ntmps9
    go_wp2_with fail
    refine (implFault_any S _ _ _ B _ HE.out.2.2.1).mono ?_
    rw [HF.out]
    rintro e w1 ⟨rfl, q1⟩
    have HE : Hid (CallEnv w B S (.slice a0 S.nc c0) (.slice a1 S.nl c1) (.slice a2 S.nw c2) (.int .i64 0) (.int .i64 0) w1) := HE.out.later q1
    obtain ⟨⟨⟨p0, p1, p2⟩, _⟩, ⟨⟨r0, r1⟩, f0, f1⟩, _⟩ := HE.out
    clear q1
    go_wp2
    exact bodyPost_ret (v := .agg #[.int .i64 f, .int .i64 0]) (by simp [results, Tryz.results9, go_sem, r0, r1]) rfl ⟨rfl, (HE.out.2.2.2.setCell (Nat.le_succ _) _).setCell (Nat.le_succ _) _⟩
  · have Z := storeF_zero hz
    have HZ : Hid (scan (cellF S.c) S.nc = 0 ∧ (S.nc ≤ 200 ∧ S.nl ≤ 200 ∧ S.nw ≤ 200)) := ⟨Z.2.1, Z.1⟩
    have HA : Hid (storeF S = 0) := hz
    clear Z hz
    have HO : Hid (decide (0 < S.nl) = false) := decide_eq_false (by omega)
    clear h0
    go_enter Tryz.func9, Tryz.ntmps9
    go_wp2_with fail
    refine (implFault_any S _ _ _ B _ HE.out.2.2.1).mono ?_
    rw [HA.out]
    rintro e w1 ⟨rfl, q1⟩
    have HE : Hid (CallEnv w B S (.slice a0 S.nc c0) (.slice a1 S.nl c1) (.slice a2 S.nw c2) (.int .i64 0) (.int .i64 0) w1) := HE.out.later q1
    obtain ⟨⟨⟨p0, p1, p2⟩, _⟩, ⟨⟨r0, r1⟩, f0, f1⟩, _⟩ := HE.out
    clear q1
    go_wp2_with fail
    refine (columnsOf_any S B _ _ _ _ HE.out.2.2.1 HZ.out.2.1 HZ.out.2.2.1 HZ.out.2.2.2 HZ.out.1).mono ?_
    rintro e w2 ⟨b, g, u1, u2, rfl, hC, q1⟩
    clear p0 p1 p2 r0 r1 f0 f1
    have HC : Hid (Cols w2 w1.heap.size b S.nc (cellM S S.nc) S.nl S.l S.nw S.k g u1 u2) := hC
    have HE : Hid (CallEnv w B S (.slice a0 S.nc c0) (.slice a1 S.nl c1) (.slice a2 S.nw c2) (.int .i64 0) (.int .i64 0) w2) := HE.out.later q1
    clear q1 hC
    go_wp2_with fail
    refine (oldestStart_is _ b _ _ _ _ _ _ g u1 u2 _ HC.out HZ.out.2.2.1).mono ?_
    rw [HO.out]
    rintro e w3 ⟨rfl, q1⟩
    have HE : Hid (CallEnv w B S (.slice a0 S.nc c0) (.slice a1 S.nl c1) (.slice a2 S.nw c2) (.int .i64 0) (.int .i64 0) w3) := HE.out.later q1
    obtain ⟨⟨⟨p0, p1, p2⟩, _⟩, ⟨⟨r0, r1⟩, f0, f1⟩, _⟩ := HE.out
    clear q1
    go_wp2
    exact bodyPost_ret (v := .agg #[.int .i64 4, .int .i64 0]) (by simp [results, Tryz.results9, go_sem, r0, r1]) rfl ⟨rfl, (HE.out.2.2.2.setCell (Nat.le_succ _) _).setCell (Nat.le_succ _) _⟩
  · have Z := storeF_zero hz
    have HZ : Hid (scan (cellF S.c) S.nc = 0 ∧ (S.nc ≤ 200 ∧ S.nl ≤ 200 ∧ S.nw ≤ 200)) := ⟨Z.2.1, Z.1⟩
    have HA : Hid (storeF S = 0) := hz
    clear Z hz
    have HO : Hid (decide (0 < S.nl) = true) := decide_eq_true h0
    clear h0
    go_enter Tryz.func9, Tryz.ntmps9
    go_wp2_with fail
    refine (implFault_any S _ _ _ B _ HE.out.2.2.1).mono ?_
    rw [HA.out]
    rintro e w1 ⟨rfl, q1⟩
    have HE : Hid (CallEnv w B S (.slice a0 S.nc c0) (.slice a1 S.nl c1) (.slice a2 S.nw c2) (.int .i64 0) (.int .i64 0) w1) := HE.out.later q1
    obtain ⟨⟨⟨p0, p1, p2⟩, _⟩, ⟨⟨r0, r1⟩, f0, f1⟩, _⟩ := HE.out
    clear q1
    go_wp2_with fail
    refine (columnsOf_any S B _ _ _ _ HE.out.2.2.1 HZ.out.2.1 HZ.out.2.2.1 HZ.out.2.2.2 HZ.out.1).mono ?_
    rintro e w2 ⟨b, g, u1, u2, rfl, hC, q1⟩
    clear p0 p1 p2 r0 r1 f0 f1
    have HC : Hid (Cols w2 w1.heap.size b S.nc (cellM S S.nc) S.nl S.l S.nw S.k g u1 u2) := hC
    have HE : Hid (CallEnv w B S (.slice a0 S.nc c0) (.slice a1 S.nl c1) (.slice a2 S.nw c2) (.int .i64 0) (.int .i64 0) w2) := HE.out.later q1
    clear q1 hC
    go_wp2_with fail
    refine (oldestStart_is _ b _ _ _ _ _ _ g u1 u2 _ HC.out HZ.out.2.2.1).mono ?_
    rw [HO.out]
    rintro e w3 ⟨rfl, q1⟩
    have HE : Hid (CallEnv w B S (.slice a0 S.nc c0) (.slice a1 S.nl c1) (.slice a2 S.nw c2) (.int .i64 0) (.int .i64 0) w3) := HE.out.later q1
    obtain ⟨⟨⟨p0, p1, p2⟩, _⟩, ⟨⟨r0, r1⟩, f0, f1⟩, _⟩ := HE.out
    clear q1
    go_wp2
    exact bodyPost_ret (v := .agg #[.int .i64 0, .int .i64 (lowL S.l S.nl)]) (by simp [results, Tryz.results9, go_sem, r0, r1]) rfl ⟨rfl, (HE.out.2.2.2.setCell (Nat.le_succ _) _).setCell (Nat.le_succ _) _⟩
theorem min_is (a b r : Int) (hr : (if b < a then b else a) = r) (w : World) :
    Calls Tryz.prog 45 #[.int .i64 a, .int .i64 b] w fun e w' => e = .returned (.int .i64 r) ∧ w' = w := by
  by_cases h : a < b
  · obtain rfl : a = r := by rw [← hr, if_neg (by omega)]
    clear hr
    go_enter Tryz.func45, Tryz.ntmps45
    go_wp2
    go_ret
    exact ⟨rfl, rfl⟩
  · obtain rfl : b = r := by
      rw [← hr]
      by_cases e : b < a
      · rw [if_pos e]
      · rw [if_neg e]; omega
    have d : decide (a < b) = false := decide_eq_false h
    clear hr h
    go_enter Tryz.func45, Tryz.ntmps45
    go_wp2
    go_ret
    exact ⟨rfl, rfl⟩
set_option maxRecDepth 100000 in
set_option maxHeartbeats 4000000 in
theorem specOldestLock_is (S : Sto) (v0 v1 v2 : Value) (c v : Int) (B : Nat) (w : World) (h : St w B S v0 v1 v2) (hA : OldAns S c v) :
    Calls Tryz.prog 18 #[.agg #[v0, v1, v2]] w (ResInt w c v) := by
  obtain ⟨a0, c0, a1, c1, a2, c2, rfl, rfl, rfl⟩ := h.form
  have HE : Hid (CallEnv w B S (.slice a0 S.nc c0) (.slice a1 S.nl c1) (.slice a2 S.nw c2) (.int .i64 0) (.int .i64 0) ((w.alloc (.cells #[.slice a0 S.nc c0, .slice a1 S.nl c1, .slice a2 S.nw c2] 28)).alloc (.cells #[.int .i64 0, .int .i64 0] 40))) := CallEnv.new h _ _ _ _
  clear h
  unfold ResInt
  rcases hA with ⟨hz, rfl, rfl⟩ | ⟨hz, ⟨h0, rfl, rfl⟩ | ⟨h0, rfl, rfl⟩⟩
  · obtain ⟨f, hf⟩ : ∃ f, storeF S = f := ⟨_, rfl⟩
    rw [hf]
    have HF : Hid (storeF S = f) := hf
    have hfn : (f == 0) = false := beq_eq_false_iff_ne.2 (by rw [← hf]; exact hz)
    clear hz hf
    go_enter Tryz.func18, Tryz.ntmps18
    go_wp2_with fail
    refine (l2Fault_any S w.heap.size _ _ _ _ ⟨HE.out.1.1, HE.out.2.2.1.mono (Nat.zero_le _)⟩).mono ?_
    rw [HF.out]
    rintro e w1 ⟨rfl, q1⟩
    have HE : Hid (CallEnv w B S (.slice a0 S.nc c0) (.slice a1 S.nl c1) (.slice a2 S.nw c2) (.int .i64 0) (.int .i64 0) w1) := HE.out.later q1
    obtain ⟨⟨⟨p0, p1, p2⟩, _⟩, ⟨⟨r0, r1⟩, f0, f1⟩, _⟩ := HE.out
    clear q1
    go_wp2
    exact bodyPost_ret (v := .agg #[.int .i64 f, .int .i64 0]) (by simp [results, Tryz.results18, go_sem, r0, r1]) rfl ⟨rfl, (HE.out.2.2.2.setCell (Nat.le_succ _) _).setCell (Nat.le_succ _) _⟩
  · have Z := storeF_zero hz
    have HZ : Hid (scan (cellF S.c) S.nc = 0 ∧ (S.nc ≤ 200 ∧ S.nl ≤ 200 ∧ S.nw ≤ 200)) := ⟨Z.2.1, Z.1⟩
    have HA : Hid (storeF S = 0) := hz
    clear Z hz
    have d0 : ((S.nl : Int) == 0) = true := by rw [h0]; rfl
    clear h0
    go_enter Tryz.func18, Tryz.ntmps18
    go_wp2_with fail
    refine (l2Fault_any S w.heap.size _ _ _ _ ⟨HE.out.1.1, HE.out.2.2.1.mono (Nat.zero_le _)⟩).mono ?_
    rw [HA.out]
    rintro e w1 ⟨rfl, q1⟩
    have HE : Hid (CallEnv w B S (.slice a0 S.nc c0) (.slice a1 S.nl c1) (.slice a2 S.nw c2) (.int .i64 0) (.int .i64 0) w1) := HE.out.later q1
    obtain ⟨⟨⟨p0, p1, p2⟩, _⟩, ⟨⟨r0, r1⟩, f0, f1⟩, _⟩ := HE.out
    clear q1
    go_wp2
    exact bodyPost_ret (v := .agg #[.int .i64 4, .int .i64 0]) (by simp [results, Tryz.results18, go_sem, r0, r1]) rfl ⟨rfl, (HE.out.2.2.2.setCell (Nat.le_succ _) _).setCell (Nat.le_succ _) _⟩
  · have Z := storeF_zero hz
    have HZ : Hid (scan (cellF S.c) S.nc = 0 ∧ (S.nc ≤ 200 ∧ S.nl ≤ 200 ∧ S.nw ≤ 200)) := ⟨Z.2.1, Z.1⟩
    have HA : Hid (storeF S = 0) := hz
    clear Z hz
    have d0 : ((S.nl : Int) == 0) = false := beq_eq_false_iff_ne.2 (by omega)
    have hn := HZ.out.2.2.1
    go_enter Tryz.func18, Tryz.ntmps18
    go_wp2_with fail
    refine (l2Fault_any S w.heap.size _ _ _ _ ⟨HE.out.1.1, HE.out.2.2.1.mono (Nat.zero_le _)⟩).mono ?_
    rw [HA.out]
    rintro e w1 ⟨rfl, q1⟩
    have HE : Hid (CallEnv w B S (.slice a0 S.nc c0) (.slice a1 S.nl c1) (.slice a2 S.nw c2) (.int .i64 0) (.int .i64 0) w1) := HE.out.later q1
    obtain ⟨⟨⟨p0, p1, p2⟩, _⟩, ⟨⟨r0, r1⟩, f0, f1⟩, _⟩ := HE.out
    clear q1
    obtain ⟨g0, o0, ha0, _, hg0, _, z1, _⟩ := HE.out.2.2.1.2.1.at5 h0
    subst ha0
    have hi0 : (0 : Int) < (S.nl : Int) := by omega
    simp only [Nat.zero_mul, Nat.add_zero, Nat.zero_add] at z1
    go_wp2
    go_loopw [4, 5] (fun n i wr => ∃ q : Nat, 1 ≤ q ∧ q ≤ S.nl ∧ i = .int .i64 q ∧ n = .int .i64 (lowL S.l q) ∧ Hid (wr = w1)) (fun _ i _ => S.nl - (intOf i).toNat)
    case atStart => exact ⟨1, Nat.le_refl _, h0, rfl, rfl, rfl⟩
    case round =>
      obtain ⟨q, hq0, hq, rfl, rfl, HW⟩ := hrel
      obtain rfl := HW.out
      clear z1
      by_cases hlt : q < S.nl
      case neg =>
        obtain rfl : q = S.nl := by omega
        go_wp2
        exact bodyPost_ret (v := .agg #[.int .i64 0, .int .i64 (lowL S.l S.nl)]) (by simp [results, Tryz.results18, go_sem, r0, r1]) rfl ⟨rfl, (HE.out.2.2.2.setCell (Nat.le_succ _) _).setCell (Nat.le_succ _) _⟩
      obtain ⟨g', o, hgo, _, hg, x0, x1, x2, x3, x4⟩ := HE.out.2.2.1.2.1.at5 hlt
      simp at hgo
      obtain ⟨rfl, rfl⟩ := hgo
      obtain ⟨n1, N1⟩ : ∃ x, S.l (q * 5 + 1) = x := ⟨_, rfl⟩
      rw [N1] at x1
      obtain ⟨y, hy⟩ : ∃ y, lowL S.l q = y := ⟨_, rfl⟩
      have E : Hid ((if n1 < y then n1 else y) = lowL S.l (q + 1)) := by
        unfold Hid
        match q, hq0, N1, hy with
        | p + 1, _, N1, hy => rw [lowL, N1, hy]
      rw [hy]
      clear N1 hy
      go_wp2_with fail
      refine (min_is y n1 _ E.out _).mono ?_
      rintro e w2 ⟨rfl, rfl⟩
      go_wp2
      go_roundw
      case rel => exact ⟨q + 1, by omega, by omega, by go_num, rfl, trivial⟩
      case measure => simp [intOf]; omega
end Go.Proofs.YtnikdbebfofcaaaGreatDoor

