/-
 Own text, merged of ColsU, StorP, PartD, ColsF, ColsG, ColsK, DelB, AppR.
-/
import Derived.Test.YtiadbiiiikhfaaaGreatDoorPk1
namespace Go.Proofs.YtiadbiiiikhfaaaGreatDoor
open Go.RowKit Go.Maps

theorem scan_zero {g : Nat → Int} : ∀ {n : Nat}, scan g n = 0 → ∀ i, i < n → g i = 0
 | 0, _, i, hi => by omega
 | n + 1, h, i, hi => by
  unfold scan at h
  by_cases e : scan g n = 0
  ·rw [if_pos e] at h
   by_cases hin : i = n
   ·subst hin; exact h
   ·exact scan_zero e i (by omega)
  ·rw [if_neg e] at h; exact absurd h e
theorem faultOf_zero {a : Int} (h : faultOf a = 0) : 0 ≤ a ∧ a ≤ 199 := by
 by_cases e : a < 0 ∨ 199 < a
 ·rw [faultOf_range e] at h; exact absurd h (by decide)
 ·omega
theorem cellF_zero {c : Nat → Int} {i : Nat} (h : cellF c i = 0) : faultOf (c (i * 3)) = 0 ∧ 1 ≤ c (i * 3 + 1) ∧ c (i * 3 + 1) ≤ 100000 ∧ 0 ≤ c (i * 3 + 2) ∧ c (i * 3 + 2) ≤ 9999 := by
 unfold cellF at h
 by_cases h0 : faultOf (c (i * 3)) = 0
 ·rw [if_neg (fun q => q h0)] at h
  refine ⟨h0, ?_⟩
  by_cases h1 : 1 ≤ c (i * 3 + 1) ∧ c (i * 3 + 1) ≤ 100000 ∧ 0 ≤ c (i * 3 + 2) ∧ c (i * 3 + 2) ≤ 9999
  ·exact h1
  ·rw [if_pos h1] at h; exact absurd h (by decide)
 ·rw [if_pos h0] at h; exact absurd h h0
theorem lockF_zero {l : Nat → Int} {i : Nat} (h : lockF l i = 0) : faultOf (l (i * 5)) = 0 ∧ 1 ≤ l (i * 5 + 1) ∧ l (i * 5 + 1) ≤ 100000 := by
 unfold lockF at h
 by_cases h0 : faultOf (l (i * 5)) = 0
 ·rw [if_neg (fun q => q h0)] at h
  refine ⟨h0, ?_⟩
  by_cases h2 : faultOf (l (i * 5 + 3)) = 0
  ·rw [if_neg (fun q => q h2)] at h
   by_cases h1 : 1 ≤ l (i * 5 + 1) ∧ l (i * 5 + 1) ≤ 100000 ∧ 1 ≤ l (i * 5 + 2) ∧ l (i * 5 + 2) ≤ 3 ∧ 0 ≤ l (i * 5 + 4) ∧ l (i * 5 + 4) ≤ 100000
   ·exact ⟨h1.1, h1.2.1⟩
   ·rw [if_pos h1] at h; exact absurd h (by decide)
  ·rw [if_pos h2] at h; exact absurd h h2
 ·rw [if_pos h0] at h; exact absurd h h0
theorem writeF_zero {k : Nat → Int} {i : Nat} (h : writeF k i = 0) : faultOf (k (i * 4)) = 0 ∧ 1 ≤ k (i * 4 + 1) ∧ k (i * 4 + 1) ≤ 100000 ∧ 1 ≤ k (i * 4 + 2) ∧ k (i * 4 + 2) ≤ 100000 ∧ 1 ≤ k (i * 4 + 3) ∧ k (i * 4 + 3) ≤ 4 := by
 unfold writeF at h
 by_cases h0 : faultOf (k (i * 4)) = 0
 ·rw [if_neg (fun q => q h0)] at h
  refine ⟨h0, ?_⟩
  by_cases h1 : 1 ≤ k (i * 4 + 1) ∧ k (i * 4 + 1) ≤ 100000 ∧ 1 ≤ k (i * 4 + 2) ∧ k (i * 4 + 2) ≤ 100000 ∧ 1 ≤ k (i * 4 + 3) ∧ k (i * 4 + 3) ≤ 4
  ·exact h1
  ·rw [if_pos h1] at h; exact absurd h (by decide)
 ·rw [if_pos h0] at h; exact absurd h h0
theorem below_grown {B b : Nat} {w x x' : World} (h : Below B w x) (hB : B ≤ x.heap.size) (hb : B ≤ b) (g : x.grownBy x' (some b)) : Below B w x' :=
 ⟨g.os.trans h.os, g.tape.trans h.tape, g.output.trans h.output, Nat.le_trans h.size g.size, fun i hi => (g.block i (by omega) (by intro e; injection e with e; omega)).trans (h.block i hi)⟩
theorem run_makeMap_i64 (n : Int) (w : World) : (Instr.makeMap 101 (some (.int .i64 n))).run Tryz.prog w = .ok (.map (some w.heap.size)) (w.alloc (.map #[] 0)) := by
 simp [Instr.makeMap, run_underlying Tryz.underlying101, asInt, asIntOf, Result.andThen]
theorem small_maxLen {n : Nat} (h : n ≤ 200) : n < maxLen := Nat.lt_of_le_of_lt h (by decide)
set_option maxRecDepth 100000 in
theorem cellsByPlace_any (S : Sto) (v : Value) (B : Nat) (w : World) (h : Row w B 3 S.nc S.c v) (hn : S.nc ≤ 200) (hz : scan (cellF S.c) S.nc = 0) :
  Calls Tryz.prog 74 #[v] w fun e w' => e = .returned (.map (some w.heap.size)) ∧ PM w' w.heap.size S.nc (cellM S S.nc) ∧ Below w.heap.size w w' := by
 obtain ⟨ao, cp, rfl⟩ := h.form
 have H : Hid (Row w B 3 S.nc S.c (.slice ao S.nc cp)) := h
 have HZ : Hid (∀ i, i < S.nc → cellF S.c i = 0) := scan_zero hz
 clear h hz
 have hmm := run_makeMap_i64
 go_enter Tryz.func74, Tryz.ntmps74
 go_wp2
 go_loopw [11] (fun i wr => ∃ k : Nat, k ≤ S.nc ∧ i = .int .i64 k ∧ Hid (PM wr w.heap.size k (cellM S k)) ∧ Below w.heap.size w wr) (fun i _ => S.nc - (intOf i).toNat)
 case atStart => exact ⟨0, Nat.zero_le _, rfl, PM.made w, below_alloc _ _⟩
 case round =>
  obtain ⟨k, hk, rfl, HM, hbw⟩ := hrel
  by_cases hlt : k < S.nc
  case neg =>
   obtain rfl : k = S.nc := by omega
   go_wp2
   go_ret
   exact ⟨rfl, HM.out, hbw⟩
  obtain ⟨g, o, rfl, _, hg, x0, x1, x2⟩ := (H.out.later hbw).at3 hlt
  have HC := cellF_zero (HZ.out k hlt)
  have hk2 := faultOf_zero HC.1
  obtain ⟨n0, N0⟩ : ∃ x, S.c (k * 3) = x := ⟨_, rfl⟩
  obtain ⟨n1, N1⟩ : ∃ x, S.c (k * 3 + 1) = x := ⟨_, rfl⟩
  obtain ⟨n2, N2⟩ : ∃ x, S.c (k * 3 + 2) = x := ⟨_, rfl⟩
  rw [N0] at x0 hk2
  rw [N1] at x1
  rw [N2] at x2
  rw [N1, N2] at HC
  have hP := HM.out.alloc (.cells #[.int .i64 n0, .int .i64 n1, .int .i64 n2] 93)
  have hw0 : Wf n0 := wf_small hk2.1 (by omega)
  have hw1 : Wf n1 := wf_small (by omega) HC.2.2.1
  have hw2 : Wf n2 := wf_small HC.2.2.2.1 (by omega)
  have hb2 := hbw.alloc hbw.size (.cells #[.int .i64 n0, .int .i64 n1, .int .i64 n2] 93)
  have NN : Hid (S.c (k * 3) = n0 ∧ S.c (k * 3 + 1) = n1 ∧ S.c (k * 3 + 2) = n2) := ⟨N0, N1, N2⟩
  clear N0 N1 N2 HC hk2
  go_wp2_with (first | (at_mapUpdate; refine wpList_put _ rfl _ _ _ rfl w.heap.size k _ rfl hP (small_maxLen (Nat.le_trans hk hn)) n0 n1 n2 rfl rfl hw0 hw1 hw2 ?_; intro w1 hP1 hg1) | go_in)
  go_roundw
  case rel => exact ⟨k + 1, by omega, by go_num, by rw [← NN.out.1, ← NN.out.2.1, ← NN.out.2.2] at hP1; exact hP1, below_grown hb2 (Nat.le_trans hbw.size (by simp)) (Nat.le_refl _) hg1⟩
  case measure => simp [intOf]; omega
end Go.Proofs.YtiadbiiiikhfaaaGreatDoor

namespace Go.Proofs.YtiadbiiiikhfaaaGreatDoor
open Go.RowKit Go.Maps

open Classical in
/-- What is asked first: the store's fault, then the key's. -/
noncomputable def askF (S : Sto) (key : Int) : Int := if storeF S ≠ 0 then storeF S else faultOf key
theorem storeF_zero {S : Sto} (h : storeF S = 0) : (S.nc ≤ 200 ∧ S.nl ≤ 200 ∧ S.nw ≤ 200) ∧ scan (cellF S.c) S.nc = 0 ∧ scan (lockF S.l) S.nl = 0 ∧ scan (writeF S.k) S.nw = 0 ∧ needs S ∧ once S := by
 unfold storeF at h
 by_cases h0 : 200 < S.nc ∨ 200 < S.nl ∨ 200 < S.nw
 ·rw [if_pos h0] at h; exact absurd h (by decide)
 rw [if_neg h0] at h
 by_cases h1 : scan (cellF S.c) S.nc = 0
 case neg => rw [if_pos h1] at h; exact absurd h h1
 rw [if_neg (fun q => q h1)] at h
 by_cases h2 : scan (lockF S.l) S.nl = 0
 case neg => rw [if_pos h2] at h; exact absurd h h2
 rw [if_neg (fun q => q h2)] at h
 by_cases h3 : scan (writeF S.k) S.nw = 0
 case neg => rw [if_pos h3] at h; exact absurd h h3
 rw [if_neg (fun q => q h3)] at h
 by_cases h4 : needs S
 case neg => rw [if_pos h4] at h; exact absurd h (by decide)
 rw [if_neg (fun q => q h4)] at h
 by_cases h5 : once S
 case neg => rw [if_pos h5] at h; exact absurd h (by decide)
 exact ⟨⟨by omega, by omega, by omega⟩, h1, h2, h3, h4, h5⟩
theorem askF_zero {S : Sto} {key : Int} (h : askF S key = 0) : storeF S = 0 ∧ faultOf key = 0 := by
 unfold askF at h
 by_cases h0 : storeF S = 0
 ·rw [if_neg (fun q => q h0)] at h; exact ⟨h0, h⟩
 ·rw [if_pos h0] at h; exact absurd h h0
/-- The order of two pairs of numbers. -/
def pairLt (a b c d : Int) : Prop := a < c ∨ a = c ∧ b < d
theorem pairLt.trans {a b c d e f : Int} (h : pairLt a b c d) (h' : pairLt c d e f) : pairLt a b e f := by unfold pairLt at *; omega
theorem pairLt.ne {a b c d : Int} (h : pairLt a b c d) : ¬ (a = c ∧ b = d) := by unfold pairLt at h; omega
theorem rise_pairs {p q : Nat → Int} {n : Nat} (h : ∀ i, i + 1 < n → pairLt (p i) (q i) (p (i + 1)) (q (i + 1))) : ∀ j, j < n → ∀ i, i < j → pairLt (p i) (q i) (p j) (q j)
 | 0, _, i, hi => by omega
 | j + 1, hj, i, hi => by
  rcases Nat.lt_or_ge i j with e | e
  ·exact (rise_pairs h j (by omega) i e).trans (h j hj)
  ·obtain rfl : i = j := by omega
   exact h i hj
theorem cellF_next {c : Nat → Int} {i : Nat} (h : cellF c (i + 1) = 0) : pairLt (c (i * 3)) (c (i * 3 + 1)) (c ((i + 1) * 3)) (c ((i + 1) * 3 + 1)) := by
 have hz := cellF_zero h
 unfold cellF at h
 rw [if_neg (fun q => q hz.1), if_neg (fun q => q hz.2)] at h
 by_cases e : 0 < i + 1 ∧ ¬ (c ((i + 1 - 1) * 3) < c ((i + 1) * 3) ∨ c ((i + 1 - 1) * 3) = c ((i + 1) * 3) ∧ c ((i + 1 - 1) * 3 + 1) < c ((i + 1) * 3 + 1))
 ·rw [if_pos e] at h; exact absurd h (by decide)
 ·exact Classical.byContradiction fun q => e ⟨Nat.succ_pos i, q⟩
theorem cells_rise {S : Sto} (h : scan (cellF S.c) S.nc = 0) : ∀ j, j < S.nc → ∀ i, i < j → pairLt (S.c (i * 3)) (S.c (i * 3 + 1)) (S.c (j * 3)) (S.c (j * 3 + 1)) :=
 rise_pairs (p := fun i => S.c (i * 3)) (q := fun i => S.c (i * 3 + 1)) (fun i hi => cellF_next (scan_zero h (i + 1) hi))
theorem puts_at {p q v : Nat → Int} {x y : Int} {j : Nat} (hj : p j = x ∧ q j = y) : ∀ n, j < n → (∀ i, j < i → i < n → ¬ (p i = x ∧ q i = y)) → puts p q v n x y = some (v j)
 | 0, h, _ => by omega
 | n + 1, h, hu => by
  unfold puts putM
  by_cases e : j = n
  ·subst e; rw [if_pos ⟨hj.1.symm, hj.2.symm⟩]
  ·rw [if_neg (fun r => hu n (by omega) (by omega) ⟨r.1.symm, r.2.symm⟩)]
   exact puts_at hj n (by omega) (fun i h1 h2 => hu i h1 (by omega))
theorem cellM_at {S : Sto} (h : scan (cellF S.c) S.nc = 0) {a b : Int} {j : Nat} (hj : j < S.nc) (e : cellIs S.c a b j) : cellM S S.nc a b = some (S.c (j * 3 + 2)) := by
 refine puts_at (p := fun i => S.c (i * 3)) (q := fun i => S.c (i * 3 + 1)) (v := fun i => S.c (i * 3 + 2)) e S.nc hj (fun i h1 h2 q => ?_)
 refine (cells_rise h i h2 j h1).ne ⟨e.1.trans q.1.symm, e.2.trans q.2.symm⟩
open Classical in
noncomputable def cellAtC (S : Sto) (key start : Int) : Int := if askF S key ≠ 0 then askF S key else if hasCell S S.nc key start then 0 else 4
open Classical in
noncomputable def cellAtV (S : Sto) (key start : Int) : Int := if askF S key ≠ 0 then 0 else (cellM S S.nc key start).getD 0
end Go.Proofs.YtiadbiiiikhfaaaGreatDoor

namespace Go.Proofs.YtiadbiiiikhfaaaGreatDoor
section
open Go.RowKit Go.Sort Go.Shelf Go.Lib
/-- x is w behind some draws, with new blocks. -/
def Grw (w x : World) : Prop := ∃ q os, x = grow (w.drewN q) os
theorem grw_two (w : World) (o o' : Obj) : Grw w ((w.alloc o).alloc o').drew := ⟨1, #[o] ++ #[o'], by rw [← grow_grow, ← alloc_eq_grow, ← alloc_eq_grow]; rfl⟩
theorem Grw.alloc_drew {w X : World} {o : Obj} (h : Grw w X.drew) : Grw w (X.alloc o).drew := by
 obtain ⟨q, os, e⟩ := h
 exact ⟨q, os ++ #[o], by rw [← grow_grow, ← e, ← alloc_eq_grow]; rfl⟩
def Four6 (w : World) (a0 a1 b0 b1 : Int) (x : World) : Prop := Four w a0 a1 b0 b1 x ∧ Grw w x
set_option maxRecDepth 100000 in
set_option maxHeartbeats 1000000 in
theorem compareCells_lays (x0 x1 x2 y0 y1 y2 : Int) (r : Int) (hr : orOf (cmpOf x0 y0) (cmpOf x1 y1) = r) (w : World) :
  Calls Tryz.prog 92 #[.agg #[.int .i64 x0, .int .i64 x1, .int .i64 x2], .agg #[.int .i64 y0, .int .i64 y1, .int .i64 y2]] w fun e w' => e = .returned (.int .i64 r) ∧ Grw w w' := by
 obtain ⟨c0, C0⟩ : ∃ c, Hid (cmpOf x0 y0 = c) := ⟨_, rfl⟩
 obtain ⟨c1, C1⟩ : ∃ c, Hid (cmpOf x1 y1 = c) := ⟨_, rfl⟩
 have HR : Hid (orOf c0 c1 = r) := by unfold Hid; rw [← C0.out, ← C1.out]; exact hr
 clear hr
 go_enter Tryz.func92, Tryz.ntmps92
 go_wp2_with fail
 have h0 : Four6 w x0 x1 y0 y1 (((w.alloc (.cells #[.int .i64 x0, .int .i64 x1, .int .i64 x2] 93)).alloc (.cells #[.int .i64 y0, .int .i64 y1, .int .i64 y2] 93)).drew) := ⟨⟨by simp, by simp, by simp, by simp, ((below_alloc _ _).alloc (by simp) _).drew⟩, grw_two _ _ _⟩
 refine wp_region_held_drew (S := Four6 w x0 x1 y0 y1) (by kernel_rfl) h0 (fun hS => ?_)
 clear h0
 refine tkH 0 ?_ hS (fun wx hx => ?_) ?_; rotate_left
 ·obtain ⟨⟨hx0, hx1, hx2, hx3, _⟩, _⟩ := hx; go_simp; try with_reducible rfl
 refine tkH 1 ?_ hS (fun wx hx => ?_) ?_; rotate_left
 ·obtain ⟨⟨hx0, hx1, hx2, hx3, _⟩, _⟩ := hx; go_simp; try with_reducible rfl
 refine tkH 2 ?_ hS (fun wx hx => ?_) ?_; rotate_left
 ·obtain ⟨⟨hx0, hx1, hx2, hx3, _⟩, _⟩ := hx; go_simp; try with_reducible rfl
 refine tkH 3 ?_ hS (fun wx hx => ?_) ?_; rotate_left
 ·obtain ⟨⟨hx0, hx1, hx2, hx3, _⟩, _⟩ := hx; go_simp; try with_reducible rfl
 refine tkH 5 ?_ hS (fun wx hx => ?_) ?_; rotate_left
 ·obtain ⟨⟨hx0, hx1, hx2, hx3, _⟩, _⟩ := hx; go_simp; try with_reducible rfl
 refine tkH 6 ?_ hS (fun wx hx => ?_) ?_; rotate_left
 ·obtain ⟨⟨hx0, hx1, hx2, hx3, _⟩, _⟩ := hx; go_simp; try with_reducible rfl
 refine tkH 7 ?_ hS (fun wx hx => ?_) ?_; rotate_left
 ·obtain ⟨⟨hx0, hx1, hx2, hx3, _⟩, _⟩ := hx; go_simp; try with_reducible rfl
 refine tkH 8 ?_ hS (fun wx hx => ?_) ?_; rotate_left
 ·obtain ⟨⟨hx0, hx1, hx2, hx3, _⟩, _⟩ := hx; go_simp; try with_reducible rfl
 refine rdH 4 (fun K hK => ?_)
 go_simp
 go_wp2_with fail
 refine (compare_is _ _ c0 C0.out _).mono ?_
 rintro e w1 ⟨rfl, rfl⟩
 have hS' := hS
 go_wp2_with fail
 refine hK.out _ _ hS' (fun hS => ?_)
 clear hK K hS'
 refine rdH 9 (fun K hK => ?_)
 go_simp
 go_wp2_with fail
 refine (compare_is _ _ c1 C1.out _).mono ?_
 rintro e w1 ⟨rfl, rfl⟩
 have hS' := hS
 go_wp2_with fail
 refine hK.out _ _ hS' (fun hS => ?_)
 clear hK K hS'
 refine rdH 10 (fun K hK => ?_)
 go_simp
 refine hK.out _ _ ⟨hS.1.later (below_alloc_drew _ _), hS.2.alloc_drew⟩ (fun hS => ?_)
 clear hK K
 refine rdH 11 (fun K hK => ?_)
 go_simp
 go_wp2_with fail
 refine (or_is c0 c1 r _ HR.out _ (two_cells _ _ (by simp) _ _ _).1 (two_cells _ _ (by simp) _ _ _).2).mono ?_
 rintro e w1 ⟨rfl, rfl⟩
 have hS' := hS
 go_wp2_with fail
 refine hK.out _ _ hS' (fun hS => ?_)
 clear hK K hS'
 refine tkH 12 ?_ hS (fun wx hx => ?_) ?_; rotate_left
 ·obtain ⟨⟨hx0, hx1, hx2, hx3, _⟩, _⟩ := hx; go_simp; try with_reducible rfl
 refine wpAnyH_done (by kernel_rfl) ?_ _
 go_simp
 go_wp2
 go_ret
 exact ⟨rfl, hS.2⟩
theorem lt_cmpOf (a b : Int) : cmpOf a b < 0 ↔ a < b := by
 unfold cmpOf
 by_cases h1 : a < b
 ·simp [h1]
 ·by_cases h2 : b < a <;> simp [h1, h2]
theorem cmpOf_zero (a b : Int) : cmpOf a b = 0 ↔ a = b := by
 unfold cmpOf
 by_cases h1 : a < b
 ·simp [h1]; omega
 ·by_cases h2 : b < a
  ·simp [h1, h2]; omega
  ·simp [h1, h2]; omega
/-- The order by two numbers. -/
def cf2 {α : Type} (k s : α → Int) (x y : α) : Int := orOf (cmpOf (k x) (k y)) (cmpOf (s x) (s y))
theorem lt_cf2 {α : Type} (k s : α → Int) (x y : α) : ltOf (cf2 k s) x y = decide (k x < k y ∨ k x = k y ∧ s x < s y) := by
 unfold ltOf cf2 orOf
 by_cases h : cmpOf (k x) (k y) = 0
 ·rw [if_pos h]
  have := (cmpOf_zero _ _).1 h
  simp [lt_cmpOf, this]
 ·rw [if_neg h]
  have : ¬ k x = k y := fun e => h ((cmpOf_zero _ _).2 e)
  simp [lt_cmpOf, this]
theorem swo_cf2 {α : Type} (k s : α → Int) : SWO (ltOf (cf2 k s)) where
 irrefl x := by rw [lt_cf2]; simp
 trans x y z h1 h2 := by rw [lt_cf2] at *; simp at *; omega
 ntrans x y z h1 h2 := by rw [lt_cf2] at *; simp at *; omega
end

section
open Go.RowKit Go.Sort Go.Shelf Go.Lib
/-- A struct of m numbers, as its cells. -/
def encM (m : Nat) (x : List Int) : List Value := (List.range m).map fun q => Value.int .i64 (x.getD q 0)
theorem encM_len (m : Nat) (x : List Int) : (encM m x).length = m := by simp [encM]
theorem encM_one (m : Nat) (x : List Int) : ∀ v ∈ encM m x, v.oneCell' = true := by
 intro v hv
 simp only [encM, List.mem_map] at hv
 obtain ⟨q, _, rfl⟩ := hv
 rfl
theorem encM_get (m : Nat) (x : List Int) (q : Nat) (hq : q < m) : (encM m x)[q]! = .int .i64 (x.getD q 0) := by
 rw [getElem!_pos _ q (by rw [encM_len]; exact hq)]
 simp [encM]
/-- The structs of a row. -/
def rowD (m n : Nat) (F : Nat → Int) : Array (List Int) := (Array.range n).map fun i => (List.range m).map fun q => F (i * m + q)
theorem rowD_size (m n : Nat) (F : Nat → Int) : (rowD m n F).size = n := by simp [rowD]
theorem rowD_get (m n : Nat) (F : Nat → Int) (i : Nat) (hi : i < n) : (rowD m n F)[i]! = (List.range m).map fun q => F (i * m + q) := by
 rw [getElem!_pos _ i (by rw [rowD_size]; exact hi)]
 simp [rowD]
/-- The numbers of a row of structs. -/
def rowF (m : Nat) (d : Array (List Int)) : Nat → Int := fun t => (d[t / m]!).getD (t % m) 0
theorem div_lt {m n t : Nat} (ht : t < n * m) : t / m < n ∧ t % m < m := by
 have hm : 0 < m := Nat.pos_of_ne_zero (fun e => by subst e; simp at ht)
 exact ⟨(Nat.div_lt_iff_lt_mul hm).2 ht, Nat.mod_lt _ hm⟩
theorem rowF_rowD (m n : Nat) (F : Nat → Int) (t : Nat) (ht : t < n * m) : rowF m (rowD m n F) t = F t := by
 obtain ⟨h1, h2⟩ := div_lt ht
 unfold rowF
 rw [rowD_get m n F _ h1]
 have : ((List.range m).map fun q => F (t / m * m + q)).getD (t % m) 0 = F (t / m * m + t % m) := by simp [h2]
 rw [this, Nat.mul_comm, Nat.div_add_mod]
theorem holds_row {w : World} {B m n blk off cap : Nat} {F : Nat → Int} (h : Row w B m n F (.slice (some ⟨blk, off, none⟩) n cap)) (hf : Free w (n * m) (.slice (some ⟨blk, off, none⟩) n cap)) : HoldsK (encM m) m w blk off (rowD m n F) := by
 intro t ht
 rw [size_flatK, rowD_size] at ht
 obtain ⟨h1, h2⟩ := div_lt ht
 rw [get_flatK _ _ _ _ (by rw [rowD_size]; exact ht), encM_get _ _ _ h2]
 have hF := rowF_rowD m n F t ht
 unfold rowF at hF
 rw [hF]
 refine ⟨?_, hf blk off n cap rfl t ht⟩
 obtain ⟨g, o, he, _, _, hc⟩ := h.at h1
 simp at he
 obtain ⟨rfl, rfl⟩ := he
 have := hc (t % m) h2
 rw [Nat.add_assoc, Nat.mul_comm (t / m) m, Nat.div_add_mod] at this
 exact this
theorem row_holds {w : World} {B m n blk off cap : Nat} {d : Array (List Int)} (hd : d.size = n) (hB : B ≤ blk) (hb : blk < w.heap.size) (h : HoldsK (encM m) m w blk off d) : Row w B m n (rowF m d) (.slice (some ⟨blk, off, none⟩) n cap) ∧ Free w (n * m) (.slice (some ⟨blk, off, none⟩) n cap) := by
 have hc : ∀ t, t < n * m → w.cell? ⟨blk, off + t, none⟩ = some (.int .i64 (rowF m d t)) ∧ w.frozen? ⟨blk, off + t, none⟩ = false := by
  intro t ht
  obtain ⟨h1, h2⟩ := div_lt ht
  have := h t (by rw [size_flatK, hd]; exact ht)
  rw [get_flatK _ _ _ _ (by rw [hd]; exact ht), encM_get _ _ _ h2] at this
  exact this
 refine ⟨⟨_, _, rfl, fun _ => ⟨blk, off, rfl, hB, hb, fun t ht => (hc t ht).1⟩⟩, ?_⟩
 intro g o n' c hv t ht
 simp only [Value.slice.injEq, Option.some.injEq, Addr.mk.injEq] at hv
 obtain ⟨⟨rfl, rfl, _⟩, _, _⟩ := hv
 exact (hc t ht).2
theorem sort_grown (enc : List Int → List Value) (k : Nat) (w : World) (blk off q : Nat) (d : Array (List Int)) (os : Array Obj) : w.grownBy (sortWorldK enc k w blk off q d os) (some blk) := by
 refine ⟨rfl, rfl, rfl, size_sortWorldK_c enc k w blk off q d os, fun i hi hne => ?_⟩
 unfold sortWorldK putRowK putRow grow
 have h1 : i < (mapBlock (Go.Sort.ahead w q) blk (putCells id off (flatK enc k d))).heap.size := by simpa [mapBlock, Go.Sort.ahead] using hi
 show ((mapBlock (Go.Sort.ahead w q) blk (putCells id off (flatK enc k d))).heap ++ os)[i]? = w.heap[i]?
 rw [Array.getElem?_append_left h1]
 simp [mapBlock, Go.Sort.ahead, Array.getElem?_modify]
 intro e
 exact absurd (by rw [e]) hne
theorem extract_all (d : Array (List Int)) (n : Nat) (h : d.size = n) : d.extract 0 n = d := by
 subst h
 simp
theorem cmpCell_lays (blk off size : Nat) (w : World) : CmpLays Tryz.prog 92 #[] (encM 3) 3 (cf2 (fun x => x.getD 0 0) (fun x => x.getD 1 0)) blk off size w :=
 fun _ _ _ _ x y => compareCells_lays (x.getD 0 0) (x.getD 1 0) (x.getD 2 0) (y.getD 0 0) (y.getD 1 0) (y.getD 2 0) _ rfl _
set_option maxHeartbeats 1000000 in
theorem sortCell_is (B n blk off cap : Nat) (F : Nat → Int) (w : World) (h : Row w B 3 n F (.slice (some ⟨blk, off, none⟩) n cap)) (hf : Free w (n * 3) (.slice (some ⟨blk, off, none⟩) n cap)) (hB : B ≤ blk) (hb : blk < w.heap.size) (hn : n ≤ 1048576) :
  Calls Tryz.prog 105 #[.slice (some ⟨blk, off, none⟩) n cap, .func (.func 92) #[] #[]] w fun e w' => e = .returned (.tuple #[]) ∧ ∃ d : Array (List Int), d.size = n ∧ (d.toList.Perm (rowD 3 n F).toList ∧ SortedIn (ltOf (cf2 (fun x => x.getD 0 0) (fun x => x.getD 1 0))) 0 n d) ∧ (Row w' B 3 n (rowF 3 d) (.slice (some ⟨blk, off, none⟩) n cap) ∧ Free w' (n * 3) (.slice (some ⟨blk, off, none⟩) n cap)) ∧ w.grownBy w' (some blk) := by
 have eg : ∀ args w, (callFunc 92 args).run Tryz.prog w = .ok (.enter 92 args) w := enters_of Tryz.func92 (by kernel_rfl) rfl
 have hH := holds_row h hf
 have hcon := AnyQ.slices_SortFunc Tryz.sortCell 3 Tryz.isAgg93 Tryz.sizeOf93 (encM 3) (encM_len 3) (encM_one 3) (cf2 (fun x => x.getD 0 0) (fun x => x.getD 1 0)) (swo_cf2 _ _) 92 #[] blk off cap (rowD 3 n F) w eg (cmpCell_lays blk off _ w) hH hb (by rw [rowD_size]; omega)
 rw [rowD_size] at hcon
 change Calls Tryz.prog 105 _ _ _ at hcon
 refine hcon.mono ?_
 rintro e w' ⟨rfl, d, q, os, ⟨p1, _, p3⟩, hs, rfl⟩
 rw [rowD_size] at p1
 refine ⟨rfl, d, p1, ⟨?_, hs⟩, row_holds p1 hB (Nat.lt_of_lt_of_le hb (size_sortWorldK_c _ _ _ _ _ _ _ _)) (holdsK_sortWorldK_c _ _ _ _ _ (rowD 3 n F) _ _ _ hH hb (by rw [rowD_size, p1])), sort_grown _ _ _ _ _ _ _ _⟩
 rw [extract_all d n p1, extract_all (rowD 3 n F) n (rowD_size _ _ _)] at p3
 exact p3
end

section
open Go.RowKit Go.Sort Go.Shelf Go.Lib
/-- What a sort by two numbers leaves is the list in which they rise, if there is one. -/
theorem sorted_is {k s : List Int → Int} {d : Array (List Int)} {n : Nat} (hd : d.size = n) (hs : SortedIn (ltOf (cf2 k s)) 0 n d) {l : List (List Int)} (hp : d.toList.Perm l) (hl : l.Pairwise (Lt2 k s)) : d.toList = l := by
 refine perm_strict (fun _ _ h => h.asym) hp ?_ hl
 have h1 : l.Pairwise (fun x y => ¬ (k x = k y ∧ s x = s y)) := hl.imp (fun h => h.ne)
 have h2 : d.toList.Pairwise (fun x y => ¬ (k x = k y ∧ s x = s y)) := (hp.pairwise_iff (fun {x y} h q => h ⟨q.1.symm, q.2.symm⟩)).2 h1
 rw [List.pairwise_iff_getElem] at h2 ⊢
 intro i j hi hj hij
 refine Lt2.total ?_ (h2 i j hi hj hij)
 have hi' : i < d.size := by simpa using hi
 have hj' : j < d.size := by simpa using hj
 have h3 := hs i j (Nat.zero_le _) hij (by omega)
 rw [lt_cf2, getElem!_pos d i hi', getElem!_pos d j hj'] at h3
 have h4 := of_decide_eq_false h3
 simpa [Lt2] using h4
end

section
open Go.RowKit Go.Sort Go.Shelf Go.Lib
end
end Go.Proofs.YtiadbiiiikhfaaaGreatDoor

namespace Go.Proofs.YtiadbiiiikhfaaaGreatDoor
open Go.RowKit

/-- Block b holds a store: its three lists, and all their numbers. -/
def Lies (w : World) (b : Nat) (S : Sto) (v0 v1 v2 : Value) : Prop := (w.cell? ⟨b, 0, none⟩ = some v0 ∧ w.cell? ⟨b, 1, none⟩ = some v1 ∧ w.cell? ⟨b, 2, none⟩ = some v2) ∧ St w 0 S v0 v1 v2
theorem Lies.lt {w : World} {b : Nat} {S : Sto} {v0 v1 v2 : Value} (h : Lies w b S v0 v1 v2) : b < w.heap.size := World.block_lt_of_cell? w _ h.1.1
theorem Lies.later {w w' : World} {b : Nat} {S : Sto} {v0 v1 v2 : Value} (h : Lies w b S v0 v1 v2) (hb : Below w.heap.size w w') : Lies w' b S v0 v1 v2 :=
 ⟨⟨(hb.cell (p := ⟨b, 0, none⟩) h.lt).trans h.1.1, (hb.cell (p := ⟨b, 1, none⟩) h.lt).trans h.1.2.1, (hb.cell (p := ⟨b, 2, none⟩) h.lt).trans h.1.2.2⟩, h.2.later hb⟩

/-- From place oo of block b on lies a store: its three lists, and all their numbers. -/
def LiesO (w : World) (b oo : Nat) (S : Sto) (v0 v1 v2 : Value) : Prop := (w.cell? ⟨b, oo, none⟩ = some v0 ∧ w.cell? ⟨b, oo + 1, none⟩ = some v1 ∧ w.cell? ⟨b, oo + 2, none⟩ = some v2) ∧ St w 0 S v0 v1 v2
theorem LiesO.lt {w : World} {b oo : Nat} {S : Sto} {v0 v1 v2 : Value} (h : LiesO w b oo S v0 v1 v2) : b < w.heap.size := World.block_lt_of_cell? w ⟨b, oo, none⟩ h.1.1
theorem LiesO.later {w w' : World} {b oo : Nat} {S : Sto} {v0 v1 v2 : Value} (h : LiesO w b oo S v0 v1 v2) (hb : Below w.heap.size w w') : LiesO w' b oo S v0 v1 v2 :=
 ⟨⟨(hb.cell (p := ⟨b, oo, none⟩) h.lt).trans h.1.1, (hb.cell (p := ⟨b, oo + 1, none⟩) h.lt).trans h.1.2.1, (hb.cell (p := ⟨b, oo + 2, none⟩) h.lt).trans h.1.2.2⟩, h.2.later hb⟩
theorem Lies.o {w : World} {b : Nat} {S : Sto} {v0 v1 v2 : Value} (h : Lies w b S v0 v1 v2) : LiesO w b 0 S v0 v1 v2 := h

theorem l1In_is (v lo hi : Int) (r : Bool) (hr : decide (lo ≤ v ∧ v ≤ hi) = r) (w : World) :
  Calls Tryz.prog 44 #[.int .i64 v, .int .i64 lo, .int .i64 hi] w fun e w' => e = .returned (.bool r) ∧ w' = w := by
 by_cases h1 : lo ≤ v
 ·by_cases h2 : v ≤ hi
  ·have d : decide (v ≤ hi) = true := decide_eq_true h2
   rw [decide_eq_true (show lo ≤ v ∧ v ≤ hi from ⟨h1, h2⟩)] at hr
   subst hr
   go_enter Tryz.func44, Tryz.ntmps44
   go_wp2
   go_ret
   exact ⟨rfl, rfl⟩
  ·have d : decide (v ≤ hi) = false := decide_eq_false h2
   rw [decide_eq_false (show ¬ (lo ≤ v ∧ v ≤ hi) from fun h => h2 h.2)] at hr
   subst hr
   go_enter Tryz.func44, Tryz.ntmps44
   go_wp2
   go_ret
   exact ⟨rfl, rfl⟩
 ·have d : decide (lo ≤ v) = false := decide_eq_false h1
  rw [decide_eq_false (show ¬ (lo ≤ v ∧ v ≤ hi) from fun h => h1 h.1)] at hr
  subst hr
  go_enter Tryz.func44, Tryz.ntmps44
  go_wp2
  go_ret
  exact ⟨rfl, rfl⟩
theorem l2Ts_is (t : Int) (r : Bool) (hr : decide (1 ≤ t ∧ t ≤ 100000) = r) (w : World) :
  Calls Tryz.prog 43 #[.int .i64 t] w fun e w' => e = .returned (.bool r) ∧ w' = w := by
 have H : Hid (decide (1 ≤ t ∧ t ≤ 100000) = r) := hr
 clear hr
 go_enter Tryz.func43, Tryz.ntmps43
 go_wp2_with fail
 refine (l1In_is _ _ _ r H.out _).mono ?_
 rintro e w' ⟨rfl, rfl⟩
 go_wp2
 go_ret
 exact ⟨rfl, rfl⟩

theorem below_dr {B : Nat} {a w : World} (h : Below B a w) (q : Nat) : Below B a (w.drewN q) := ⟨h.os, h.tape, h.output, h.size, h.block⟩
set_option maxRecDepth 10000 in
set_option maxHeartbeats 4000000 in
theorem l2Cells_anyO (S : Sto) (b oo : Nat) (v0 v1 v2 : Value) (w : World) (h : LiesO w b oo S v0 v1 v2) (hn : S.nc ≤ 200) :
  Calls Tryz.prog 109 #[.pointer (some ⟨b, oo, none⟩)] w fun e w' => e = .returned (.int .i64 (scan (cellF S.c) S.nc)) ∧ Below w.heap.size w w' := by
 obtain ⟨a0, c0, a1, c1, a2, c2, rfl, rfl, rfl⟩ := h.2.form
 have H : Hid (LiesO w b oo S (.slice a0 S.nc c0) (.slice a1 S.nl c1) (.slice a2 S.nw c2)) := h
 have p0 := h.1.1
 have hb := h.lt
 clear h
 go_enter Tryz.func109, Tryz.ntmps109
 go_wp2
 go_loopw [3] (fun i wr => ∃ k : Nat, k ≤ S.nc ∧ i = .int .i64 k ∧ Hid (scan (cellF S.c) k = 0) ∧ Below w.heap.size w wr) (fun i _ => S.nc - (intOf i).toNat)
 case atStart => exact ⟨0, Nat.zero_le _, rfl, rfl, Below.refl _ _⟩
 case round =>
  obtain ⟨k, hk, rfl, HS, hbw⟩ := hrel
  have e0 := (hbw.cell (p := ⟨b, oo, none⟩) hb).trans p0
  have hbr : b < wr.heap.size := Nat.lt_of_lt_of_le hb hbw.size
  by_cases hlt : k < S.nc
  case neg =>
   have en : k = S.nc := by omega
   have E : Hid (scan (cellF S.c) S.nc = 0) := en ▸ HS.out
   clear HS
   go_wp2
   go_ret
   exact ⟨by rw [E.out]; rfl, hbw⟩
  obtain ⟨g, o, rfl, _, hg, x0, x1, x2⟩ := (H.out.2.1.later hbw).at3 hlt
  obtain ⟨n0, N0⟩ : ∃ x, S.c (k * 3) = x := ⟨_, rfl⟩
  rw [N0] at x0
  obtain ⟨n1, N1⟩ : ∃ x, S.c (k * 3 + 1) = x := ⟨_, rfl⟩
  rw [N1] at x1
  obtain ⟨n2, N2⟩ : ∃ x, S.c (k * 3 + 2) = x := ⟨_, rfl⟩
  rw [N2] at x2
  have NN : Hid (S.c (k * 3) = n0 ∧ S.c (k * 3 + 1) = n1 ∧ S.c (k * 3 + 2) = n2) := ⟨N0, N1, N2⟩
  clear N0 N1 N2
  by_cases h0 : faultOf n0 = 0
  case neg =>
   obtain ⟨f, hff⟩ : ∃ f, faultOf n0 = f := ⟨_, rfl⟩
   have L0 : Hid (∀ w, Calls Tryz.prog 42 #[.int .i64 n0] w fun e w' => e = .returned (.int .i64 f) ∧ w' = w) := fun w => hff ▸ l1Fault_any n0 w
   have E : Hid (scan (cellF S.c) S.nc = f) := by
    have : cellF S.c k = f := by
     unfold cellF
     rw [NN.out.1, NN.out.2.1, NN.out.2.2]
     rw [if_pos h0]; exact hff
    exact (scan_stop HS.out (by rw [this, ← hff]; exact h0) hlt).trans this
   have hfn : (f == 0) = false := beq_eq_false_iff_ne.2 (by rw [← hff]; exact h0)
   clear hff h0 HS NN
   go_wp2_with fail
   refine (L0.out _).mono ?_
   rintro e w1 ⟨rfl, rfl⟩
   go_wp2
   go_ret
   exact ⟨by rw [E.out]; rfl, by first | exact hbw.alloc hbw.size _ | exact below_dr (hbw.alloc hbw.size _) _ | exact below_dr (below_dr (hbw.alloc hbw.size _) _) _⟩
  have L0 : Hid (∀ w, Calls Tryz.prog 42 #[.int .i64 n0] w fun e w' => e = .returned (.int .i64 0) ∧ w' = w) := fun w => h0 ▸ l1Fault_any n0 w
  have G0 : Hid (faultOf n0 = 0) := h0
  clear h0
  by_cases h1 : 1 ≤ n1 ∧ n1 ≤ 100000
  case neg =>
   have L1 : Hid (decide (1 ≤ n1 ∧ n1 ≤ 100000) = false) := decide_eq_false h1
   have E : Hid (scan (cellF S.c) S.nc = 3) := by
    have : cellF S.c k = 3 := by
     unfold cellF
     rw [NN.out.1, NN.out.2.1, NN.out.2.2]
     rw [if_neg (fun h => h G0.out)]
     rw [if_pos (by omega)]
    exact (scan_stop HS.out (by rw [this]; decide) hlt).trans this
   clear h1 HS NN G0
   go_wp2_with fail
   refine (L0.out _).mono ?_
   rintro e w1 ⟨rfl, rfl⟩
   go_wp2_with fail
   refine (l2Ts_is _ false L1.out _).mono ?_
   rintro e w1 ⟨rfl, rfl⟩
   go_wp2
   go_ret
   exact ⟨by rw [E.out]; rfl, by first | exact hbw.alloc hbw.size _ | exact below_dr (hbw.alloc hbw.size _) _ | exact below_dr (below_dr (hbw.alloc hbw.size _) _) _⟩
  have L1 : Hid (decide (1 ≤ n1 ∧ n1 ≤ 100000) = true) := decide_eq_true h1
  have G1 : Hid (1 ≤ n1 ∧ n1 ≤ 100000) := h1
  clear h1
  by_cases h2 : 0 ≤ n2 ∧ n2 ≤ 9999
  case neg =>
   have L2 : Hid (decide (0 ≤ n2 ∧ n2 ≤ 9999) = false) := decide_eq_false h2
   have E : Hid (scan (cellF S.c) S.nc = 3) := by
    have : cellF S.c k = 3 := by
     unfold cellF
     rw [NN.out.1, NN.out.2.1, NN.out.2.2]
     rw [if_neg (fun h => h G0.out)]
     rw [if_pos (by omega)]
    exact (scan_stop HS.out (by rw [this]; decide) hlt).trans this
   clear h2 HS NN G0 G1
   go_wp2_with fail
   refine (L0.out _).mono ?_
   rintro e w1 ⟨rfl, rfl⟩
   go_wp2_with fail
   refine (l2Ts_is _ true L1.out _).mono ?_
   rintro e w1 ⟨rfl, rfl⟩
   go_wp2_with fail
   refine (l1In_is _ _ _ false L2.out _).mono ?_
   rintro e w1 ⟨rfl, rfl⟩
   go_wp2
   go_ret
   exact ⟨by rw [E.out]; rfl, by first | exact hbw.alloc hbw.size _ | exact below_dr (hbw.alloc hbw.size _) _ | exact below_dr (below_dr (hbw.alloc hbw.size _) _) _⟩
  have L2 : Hid (decide (0 ≤ n2 ∧ n2 ≤ 9999) = true) := decide_eq_true h2
  have G2 : Hid (0 ≤ n2 ∧ n2 ≤ 9999) := h2
  clear h2
  rcases Nat.eq_zero_or_pos k with hk0 | hk0
  ·have E : Hid (scan (cellF S.c) (k + 1) = 0) := by
    have : cellF S.c k = 0 := by
     unfold cellF
     rw [NN.out.1, NN.out.2.1, NN.out.2.2]
     rw [if_neg (fun h => h G0.out)]
     have g1 := G1.out; have g2 := G2.out; rw [if_neg (by omega)]
     rw [if_neg (by omega)]
    exact scan_go HS.out this
   have dk : decide (0 < k) = false := decide_eq_false (by omega)
   clear HS NN G0 G1 G2 hk0
   go_wp2_with fail
   refine (L0.out _).mono ?_
   rintro e w1 ⟨rfl, rfl⟩
   go_wp2_with fail
   refine (l2Ts_is _ true L1.out _).mono ?_
   rintro e w1 ⟨rfl, rfl⟩
   go_wp2_with fail
   refine (l1In_is _ _ _ true L2.out _).mono ?_
   rintro e w1 ⟨rfl, rfl⟩
   go_wp2_with fail
   go_quiet (fail)
   go_wp2
   go_roundw
   case rel => exact ⟨k + 1, by omega, by go_num, E, by first | exact hbw.alloc hbw.size _ | exact below_dr (hbw.alloc hbw.size _) _ | exact below_dr (below_dr (hbw.alloc hbw.size _) _) _⟩
   case measure => simp [intOf]; omega
  obtain ⟨g', o', he, _, _, y0, y1, _⟩ := (H.out.2.1.later hbw).at3 (k := k - 1) (by omega)
  simp only [Option.some.injEq, Addr.mk.injEq, and_true] at he
  obtain ⟨rfl, rfl⟩ := he
  obtain ⟨m0, M0⟩ : ∃ x, S.c ((k - 1) * 3) = x := ⟨_, rfl⟩
  rw [M0] at y0
  obtain ⟨m1, M1⟩ : ∃ x, S.c ((k - 1) * 3 + 1) = x := ⟨_, rfl⟩
  rw [M1] at y1
  have MM : Hid (S.c ((k - 1) * 3) = m0 ∧ S.c ((k - 1) * 3 + 1) = m1) := ⟨M0, M1⟩
  clear M0 M1
  have dk : decide (0 < k) = true := decide_eq_true hk0
  by_cases r1 : n0 < m0
  ·have E : Hid (scan (cellF S.c) S.nc = 1) := by
    have : cellF S.c k = 1 := by
     unfold cellF
     rw [NN.out.1, NN.out.2.1, NN.out.2.2]
     rw [if_neg (fun h => h G0.out)]
     have g1 := G1.out; have g2 := G2.out; rw [if_neg (by omega)]
     rw [MM.out.1, MM.out.2]
     rw [if_pos (by omega)]
    exact (scan_stop HS.out (by rw [this]; decide) hlt).trans this
   clear HS NN G0 G1 G2 MM
   go_wp2_with fail
   refine (L0.out _).mono ?_
   rintro e w1 ⟨rfl, rfl⟩
   go_wp2_with fail
   refine (l2Ts_is _ true L1.out _).mono ?_
   rintro e w1 ⟨rfl, rfl⟩
   go_wp2_with fail
   refine (l1In_is _ _ _ true L2.out _).mono ?_
   rintro e w1 ⟨rfl, rfl⟩
   go_wp2_with fail
   go_quiet (fail)
   go_wp2
   go_ret
   exact ⟨by rw [E.out]; rfl, by first | exact hbw.alloc hbw.size _ | exact below_dr (hbw.alloc hbw.size _) _ | exact below_dr (below_dr (hbw.alloc hbw.size _) _) _⟩
  by_cases r2 : n0 = m0
  ·by_cases r3 : n1 ≤ m1
   ·have E : Hid (scan (cellF S.c) S.nc = 1) := by
     have : cellF S.c k = 1 := by
      unfold cellF
      rw [NN.out.1, NN.out.2.1, NN.out.2.2]
      rw [if_neg (fun h => h G0.out)]
      have g1 := G1.out; have g2 := G2.out; rw [if_neg (by omega)]
      rw [MM.out.1, MM.out.2]
      rw [if_pos (by omega)]
     exact (scan_stop HS.out (by rw [this]; decide) hlt).trans this
    have s1 : decide (n0 < m0) = false := decide_eq_false r1
    have s2 : (n0 == m0) = true := beq_iff_eq.2 r2
    have s3 : decide (n1 ≤ m1) = true := decide_eq_true r3
    clear HS NN G0 G1 G2 MM r1 r2
    go_wp2_with fail
    refine (L0.out _).mono ?_
    rintro e w1 ⟨rfl, rfl⟩
    go_wp2_with fail
    refine (l2Ts_is _ true L1.out _).mono ?_
    rintro e w1 ⟨rfl, rfl⟩
    go_wp2_with fail
    refine (l1In_is _ _ _ true L2.out _).mono ?_
    rintro e w1 ⟨rfl, rfl⟩
    go_wp2_with fail
    go_quiet (fail)
    go_wp2
    go_ret
    exact ⟨by rw [E.out]; rfl, by first | exact hbw.alloc hbw.size _ | exact below_dr (hbw.alloc hbw.size _) _ | exact below_dr (below_dr (hbw.alloc hbw.size _) _) _⟩
   ·have E : Hid (scan (cellF S.c) (k + 1) = 0) := by
     have : cellF S.c k = 0 := by
      unfold cellF
      rw [NN.out.1, NN.out.2.1, NN.out.2.2]
      rw [if_neg (fun h => h G0.out)]
      have g1 := G1.out; have g2 := G2.out; rw [if_neg (by omega)]
      rw [MM.out.1, MM.out.2]
      rw [if_neg (by omega)]
     exact scan_go HS.out this
    have s1 : decide (n0 < m0) = false := decide_eq_false r1
    have s2 : (n0 == m0) = true := beq_iff_eq.2 r2
    have s3 : decide (n1 ≤ m1) = false := decide_eq_false r3
    clear HS NN G0 G1 G2 MM r1 r2 r3
    go_wp2_with fail
    refine (L0.out _).mono ?_
    rintro e w1 ⟨rfl, rfl⟩
    go_wp2_with fail
    refine (l2Ts_is _ true L1.out _).mono ?_
    rintro e w1 ⟨rfl, rfl⟩
    go_wp2_with fail
    refine (l1In_is _ _ _ true L2.out _).mono ?_
    rintro e w1 ⟨rfl, rfl⟩
    go_wp2_with fail
    go_quiet (fail)
    go_wp2
    go_roundw
    case rel => exact ⟨k + 1, by omega, by go_num, E, by first | exact hbw.alloc hbw.size _ | exact below_dr (hbw.alloc hbw.size _) _ | exact below_dr (below_dr (hbw.alloc hbw.size _) _) _⟩
    case measure => simp [intOf]; omega
  ·have E : Hid (scan (cellF S.c) (k + 1) = 0) := by
    have : cellF S.c k = 0 := by
     unfold cellF
     rw [NN.out.1, NN.out.2.1, NN.out.2.2]
     rw [if_neg (fun h => h G0.out)]
     have g1 := G1.out; have g2 := G2.out; rw [if_neg (by omega)]
     rw [MM.out.1, MM.out.2]
     rw [if_neg (by omega)]
    exact scan_go HS.out this
   have s1 : decide (n0 < m0) = false := decide_eq_false r1
   have s2 : (n0 == m0) = false := beq_eq_false_iff_ne.2 r2
   clear HS NN G0 G1 G2 MM r1 r2
   go_wp2_with fail
   refine (L0.out _).mono ?_
   rintro e w1 ⟨rfl, rfl⟩
   go_wp2_with fail
   refine (l2Ts_is _ true L1.out _).mono ?_
   rintro e w1 ⟨rfl, rfl⟩
   go_wp2_with fail
   refine (l1In_is _ _ _ true L2.out _).mono ?_
   rintro e w1 ⟨rfl, rfl⟩
   go_wp2_with fail
   go_quiet (fail)
   go_wp2
   go_roundw
   case rel => exact ⟨k + 1, by omega, by go_num, E, by first | exact hbw.alloc hbw.size _ | exact below_dr (hbw.alloc hbw.size _) _ | exact below_dr (below_dr (hbw.alloc hbw.size _) _) _⟩
   case measure => simp [intOf]; omega

set_option maxRecDepth 10000 in
set_option maxHeartbeats 4000000 in
theorem l2Locks_anyO (S : Sto) (b oo : Nat) (v0 v1 v2 : Value) (w : World) (h : LiesO w b oo S v0 v1 v2) (hn : S.nl ≤ 200) :
  Calls Tryz.prog 110 #[.pointer (some ⟨b, oo, none⟩)] w fun e w' => e = .returned (.int .i64 (scan (lockF S.l) S.nl)) ∧ Below w.heap.size w w' := by
 obtain ⟨a0, c0, a1, c1, a2, c2, rfl, rfl, rfl⟩ := h.2.form
 have H : Hid (LiesO w b oo S (.slice a0 S.nc c0) (.slice a1 S.nl c1) (.slice a2 S.nw c2)) := h
 have p0 := h.1.2.1
 have hb := h.lt
 clear h
 go_enter Tryz.func110, Tryz.ntmps110
 go_wp2
 go_loopw [3] (fun i wr => ∃ k : Nat, k ≤ S.nl ∧ i = .int .i64 k ∧ Hid (scan (lockF S.l) k = 0) ∧ Below w.heap.size w wr) (fun i _ => S.nl - (intOf i).toNat)
 case atStart => exact ⟨0, Nat.zero_le _, rfl, rfl, Below.refl _ _⟩
 case round =>
  obtain ⟨k, hk, rfl, HS, hbw⟩ := hrel
  have e0 := (hbw.cell (p := ⟨b, oo + 1, none⟩) hb).trans p0
  have hbr : b < wr.heap.size := Nat.lt_of_lt_of_le hb hbw.size
  by_cases hlt : k < S.nl
  case neg =>
   have en : k = S.nl := by omega
   have E : Hid (scan (lockF S.l) S.nl = 0) := en ▸ HS.out
   clear HS
   go_wp2
   go_ret
   exact ⟨by rw [E.out]; rfl, hbw⟩
  obtain ⟨g, o, rfl, _, hg, x0, x1, x2, x3, x4⟩ := (H.out.2.2.1.later hbw).at5 hlt
  obtain ⟨n0, N0⟩ : ∃ x, S.l (k * 5) = x := ⟨_, rfl⟩
  rw [N0] at x0
  obtain ⟨n1, N1⟩ : ∃ x, S.l (k * 5 + 1) = x := ⟨_, rfl⟩
  rw [N1] at x1
  obtain ⟨n2, N2⟩ : ∃ x, S.l (k * 5 + 2) = x := ⟨_, rfl⟩
  rw [N2] at x2
  obtain ⟨n3, N3⟩ : ∃ x, S.l (k * 5 + 3) = x := ⟨_, rfl⟩
  rw [N3] at x3
  obtain ⟨n4, N4⟩ : ∃ x, S.l (k * 5 + 4) = x := ⟨_, rfl⟩
  rw [N4] at x4
  have NN : Hid (S.l (k * 5) = n0 ∧ S.l (k * 5 + 1) = n1 ∧ S.l (k * 5 + 2) = n2 ∧ S.l (k * 5 + 3) = n3 ∧ S.l (k * 5 + 4) = n4) := ⟨N0, N1, N2, N3, N4⟩
  clear N0 N1 N2 N3 N4
  by_cases h0 : faultOf n0 = 0
  case neg =>
   obtain ⟨f, hff⟩ : ∃ f, faultOf n0 = f := ⟨_, rfl⟩
   have L0 : Hid (∀ w, Calls Tryz.prog 42 #[.int .i64 n0] w fun e w' => e = .returned (.int .i64 f) ∧ w' = w) := fun w => hff ▸ l1Fault_any n0 w
   have E : Hid (scan (lockF S.l) S.nl = f) := by
    have : lockF S.l k = f := by
     unfold lockF
     rw [NN.out.1, NN.out.2.1, NN.out.2.2.1, NN.out.2.2.2.1, NN.out.2.2.2.2]
     rw [if_pos h0]; exact hff
    exact (scan_stop HS.out (by rw [this, ← hff]; exact h0) hlt).trans this
   have hfn : (f == 0) = false := beq_eq_false_iff_ne.2 (by rw [← hff]; exact h0)
   clear hff h0 HS NN
   go_wp2_with fail
   refine (L0.out _).mono ?_
   rintro e w1 ⟨rfl, rfl⟩
   go_wp2
   go_ret
   exact ⟨by rw [E.out]; rfl, by first | exact hbw.alloc hbw.size _ | exact below_dr (hbw.alloc hbw.size _) _ | exact below_dr (below_dr (hbw.alloc hbw.size _) _) _⟩
  have L0 : Hid (∀ w, Calls Tryz.prog 42 #[.int .i64 n0] w fun e w' => e = .returned (.int .i64 0) ∧ w' = w) := fun w => h0 ▸ l1Fault_any n0 w
  have G0 : Hid (faultOf n0 = 0) := h0
  clear h0
  by_cases h1 : faultOf n3 = 0
  case neg =>
   obtain ⟨f, hff⟩ : ∃ f, faultOf n3 = f := ⟨_, rfl⟩
   have L1 : Hid (∀ w, Calls Tryz.prog 42 #[.int .i64 n3] w fun e w' => e = .returned (.int .i64 f) ∧ w' = w) := fun w => hff ▸ l1Fault_any n3 w
   have E : Hid (scan (lockF S.l) S.nl = f) := by
    have : lockF S.l k = f := by
     unfold lockF
     rw [NN.out.1, NN.out.2.1, NN.out.2.2.1, NN.out.2.2.2.1, NN.out.2.2.2.2]
     rw [if_neg (fun h => h G0.out)]
     rw [if_pos h1]; exact hff
    exact (scan_stop HS.out (by rw [this, ← hff]; exact h1) hlt).trans this
   have hfn : (f == 0) = false := beq_eq_false_iff_ne.2 (by rw [← hff]; exact h1)
   clear hff h1 HS NN G0
   go_wp2_with fail
   refine (L0.out _).mono ?_
   rintro e w1 ⟨rfl, rfl⟩
   go_wp2_with fail
   refine (L1.out _).mono ?_
   rintro e w1 ⟨rfl, rfl⟩
   go_wp2
   go_ret
   exact ⟨by rw [E.out]; rfl, by first | exact hbw.alloc hbw.size _ | exact below_dr (hbw.alloc hbw.size _) _ | exact below_dr (below_dr (hbw.alloc hbw.size _) _) _⟩
  have L1 : Hid (∀ w, Calls Tryz.prog 42 #[.int .i64 n3] w fun e w' => e = .returned (.int .i64 0) ∧ w' = w) := fun w => h1 ▸ l1Fault_any n3 w
  have G1 : Hid (faultOf n3 = 0) := h1
  clear h1
  by_cases h2 : 1 ≤ n1 ∧ n1 ≤ 100000
  case neg =>
   have L2 : Hid (decide (1 ≤ n1 ∧ n1 ≤ 100000) = false) := decide_eq_false h2
   have E : Hid (scan (lockF S.l) S.nl = 3) := by
    have : lockF S.l k = 3 := by
     unfold lockF
     rw [NN.out.1, NN.out.2.1, NN.out.2.2.1, NN.out.2.2.2.1, NN.out.2.2.2.2]
     rw [if_neg (fun h => h G0.out)]
     rw [if_neg (fun h => h G1.out)]
     rw [if_pos (by omega)]
    exact (scan_stop HS.out (by rw [this]; decide) hlt).trans this
   clear h2 HS NN G0 G1
   go_wp2_with fail
   refine (L0.out _).mono ?_
   rintro e w1 ⟨rfl, rfl⟩
   go_wp2_with fail
   refine (L1.out _).mono ?_
   rintro e w1 ⟨rfl, rfl⟩
   go_wp2_with fail
   refine (l2Ts_is _ false L2.out _).mono ?_
   rintro e w1 ⟨rfl, rfl⟩
   go_wp2
   go_ret
   exact ⟨by rw [E.out]; rfl, by first | exact hbw.alloc hbw.size _ | exact below_dr (hbw.alloc hbw.size _) _ | exact below_dr (below_dr (hbw.alloc hbw.size _) _) _⟩
  have L2 : Hid (decide (1 ≤ n1 ∧ n1 ≤ 100000) = true) := decide_eq_true h2
  have G2 : Hid (1 ≤ n1 ∧ n1 ≤ 100000) := h2
  clear h2
  by_cases h3 : 1 ≤ n2 ∧ n2 ≤ 3
  case neg =>
   have L3 : Hid (decide (1 ≤ n2 ∧ n2 ≤ 3) = false) := decide_eq_false h3
   have E : Hid (scan (lockF S.l) S.nl = 3) := by
    have : lockF S.l k = 3 := by
     unfold lockF
     rw [NN.out.1, NN.out.2.1, NN.out.2.2.1, NN.out.2.2.2.1, NN.out.2.2.2.2]
     rw [if_neg (fun h => h G0.out)]
     rw [if_neg (fun h => h G1.out)]
     rw [if_pos (by omega)]
    exact (scan_stop HS.out (by rw [this]; decide) hlt).trans this
   clear h3 HS NN G0 G1 G2
   go_wp2_with fail
   refine (L0.out _).mono ?_
   rintro e w1 ⟨rfl, rfl⟩
   go_wp2_with fail
   refine (L1.out _).mono ?_
   rintro e w1 ⟨rfl, rfl⟩
   go_wp2_with fail
   refine (l2Ts_is _ true L2.out _).mono ?_
   rintro e w1 ⟨rfl, rfl⟩
   go_wp2_with fail
   refine (l1In_is _ _ _ false L3.out _).mono ?_
   rintro e w1 ⟨rfl, rfl⟩
   go_wp2
   go_ret
   exact ⟨by rw [E.out]; rfl, by first | exact hbw.alloc hbw.size _ | exact below_dr (hbw.alloc hbw.size _) _ | exact below_dr (below_dr (hbw.alloc hbw.size _) _) _⟩
  have L3 : Hid (decide (1 ≤ n2 ∧ n2 ≤ 3) = true) := decide_eq_true h3
  have G3 : Hid (1 ≤ n2 ∧ n2 ≤ 3) := h3
  clear h3
  by_cases h4 : 0 ≤ n4 ∧ n4 ≤ 100000
  case neg =>
   have L4 : Hid (decide (0 ≤ n4 ∧ n4 ≤ 100000) = false) := decide_eq_false h4
   have E : Hid (scan (lockF S.l) S.nl = 3) := by
    have : lockF S.l k = 3 := by
     unfold lockF
     rw [NN.out.1, NN.out.2.1, NN.out.2.2.1, NN.out.2.2.2.1, NN.out.2.2.2.2]
     rw [if_neg (fun h => h G0.out)]
     rw [if_neg (fun h => h G1.out)]
     rw [if_pos (by omega)]
    exact (scan_stop HS.out (by rw [this]; decide) hlt).trans this
   clear h4 HS NN G0 G1 G2 G3
   go_wp2_with fail
   refine (L0.out _).mono ?_
   rintro e w1 ⟨rfl, rfl⟩
   go_wp2_with fail
   refine (L1.out _).mono ?_
   rintro e w1 ⟨rfl, rfl⟩
   go_wp2_with fail
   refine (l2Ts_is _ true L2.out _).mono ?_
   rintro e w1 ⟨rfl, rfl⟩
   go_wp2_with fail
   refine (l1In_is _ _ _ true L3.out _).mono ?_
   rintro e w1 ⟨rfl, rfl⟩
   go_wp2_with fail
   refine (l1In_is _ _ _ false L4.out _).mono ?_
   rintro e w1 ⟨rfl, rfl⟩
   go_wp2
   go_ret
   exact ⟨by rw [E.out]; rfl, by first | exact hbw.alloc hbw.size _ | exact below_dr (hbw.alloc hbw.size _) _ | exact below_dr (below_dr (hbw.alloc hbw.size _) _) _⟩
  have L4 : Hid (decide (0 ≤ n4 ∧ n4 ≤ 100000) = true) := decide_eq_true h4
  have G4 : Hid (0 ≤ n4 ∧ n4 ≤ 100000) := h4
  clear h4
  rcases Nat.eq_zero_or_pos k with hk0 | hk0
  ·have E : Hid (scan (lockF S.l) (k + 1) = 0) := by
    have : lockF S.l k = 0 := by
     unfold lockF
     rw [NN.out.1, NN.out.2.1, NN.out.2.2.1, NN.out.2.2.2.1, NN.out.2.2.2.2]
     rw [if_neg (fun h => h G0.out)]
     rw [if_neg (fun h => h G1.out)]
     have g2 := G2.out; have g3 := G3.out; have g4 := G4.out; rw [if_neg (by omega)]
     rw [if_neg (by omega)]
    exact scan_go HS.out this
   have dk : decide (0 < k) = false := decide_eq_false (by omega)
   clear HS NN G0 G1 G2 G3 G4 hk0
   go_wp2_with fail
   refine (L0.out _).mono ?_
   rintro e w1 ⟨rfl, rfl⟩
   go_wp2_with fail
   refine (L1.out _).mono ?_
   rintro e w1 ⟨rfl, rfl⟩
   go_wp2_with fail
   refine (l2Ts_is _ true L2.out _).mono ?_
   rintro e w1 ⟨rfl, rfl⟩
   go_wp2_with fail
   refine (l1In_is _ _ _ true L3.out _).mono ?_
   rintro e w1 ⟨rfl, rfl⟩
   go_wp2_with fail
   refine (l1In_is _ _ _ true L4.out _).mono ?_
   rintro e w1 ⟨rfl, rfl⟩
   go_wp2_with fail
   go_quiet (fail)
   go_wp2
   go_roundw
   case rel => exact ⟨k + 1, by omega, by go_num, E, by first | exact hbw.alloc hbw.size _ | exact below_dr (hbw.alloc hbw.size _) _ | exact below_dr (below_dr (hbw.alloc hbw.size _) _) _⟩
   case measure => simp [intOf]; omega
  obtain ⟨g', o', he, _, _, y0, y1, _, _, _⟩ := (H.out.2.2.1.later hbw).at5 (k := k - 1) (by omega)
  simp only [Option.some.injEq, Addr.mk.injEq, and_true] at he
  obtain ⟨rfl, rfl⟩ := he
  obtain ⟨m0, M0⟩ : ∃ x, S.l ((k - 1) * 5) = x := ⟨_, rfl⟩
  rw [M0] at y0
  have MM : Hid (S.l ((k - 1) * 5) = m0) := M0
  clear M0
  have dk : decide (0 < k) = true := decide_eq_true hk0
  by_cases r1 : n0 ≤ m0
  ·have E : Hid (scan (lockF S.l) S.nl = 1) := by
    have : lockF S.l k = 1 := by
     unfold lockF
     rw [NN.out.1, NN.out.2.1, NN.out.2.2.1, NN.out.2.2.2.1, NN.out.2.2.2.2]
     rw [if_neg (fun h => h G0.out)]
     rw [if_neg (fun h => h G1.out)]
     have g2 := G2.out; have g3 := G3.out; have g4 := G4.out; rw [if_neg (by omega)]
     rw [MM.out]
     rw [if_pos (by omega)]
    exact (scan_stop HS.out (by rw [this]; decide) hlt).trans this
   have s1 : decide (n0 ≤ m0) = true := decide_eq_true r1
   clear HS NN G0 G1 G2 G3 G4 MM
   go_wp2_with fail
   refine (L0.out _).mono ?_
   rintro e w1 ⟨rfl, rfl⟩
   go_wp2_with fail
   refine (L1.out _).mono ?_
   rintro e w1 ⟨rfl, rfl⟩
   go_wp2_with fail
   refine (l2Ts_is _ true L2.out _).mono ?_
   rintro e w1 ⟨rfl, rfl⟩
   go_wp2_with fail
   refine (l1In_is _ _ _ true L3.out _).mono ?_
   rintro e w1 ⟨rfl, rfl⟩
   go_wp2_with fail
   refine (l1In_is _ _ _ true L4.out _).mono ?_
   rintro e w1 ⟨rfl, rfl⟩
   go_wp2_with fail
   go_quiet (fail)
   go_wp2
   go_ret
   exact ⟨by rw [E.out]; rfl, by first | exact hbw.alloc hbw.size _ | exact below_dr (hbw.alloc hbw.size _) _ | exact below_dr (below_dr (hbw.alloc hbw.size _) _) _⟩
  ·have E : Hid (scan (lockF S.l) (k + 1) = 0) := by
    have : lockF S.l k = 0 := by
     unfold lockF
     rw [NN.out.1, NN.out.2.1, NN.out.2.2.1, NN.out.2.2.2.1, NN.out.2.2.2.2]
     rw [if_neg (fun h => h G0.out)]
     rw [if_neg (fun h => h G1.out)]
     have g2 := G2.out; have g3 := G3.out; have g4 := G4.out; rw [if_neg (by omega)]
     rw [MM.out]
     rw [if_neg (by omega)]
    exact scan_go HS.out this
   have s1 : decide (n0 ≤ m0) = false := decide_eq_false r1
   clear HS NN G0 G1 G2 G3 G4 MM r1
   go_wp2_with fail
   refine (L0.out _).mono ?_
   rintro e w1 ⟨rfl, rfl⟩
   go_wp2_with fail
   refine (L1.out _).mono ?_
   rintro e w1 ⟨rfl, rfl⟩
   go_wp2_with fail
   refine (l2Ts_is _ true L2.out _).mono ?_
   rintro e w1 ⟨rfl, rfl⟩
   go_wp2_with fail
   refine (l1In_is _ _ _ true L3.out _).mono ?_
   rintro e w1 ⟨rfl, rfl⟩
   go_wp2_with fail
   refine (l1In_is _ _ _ true L4.out _).mono ?_
   rintro e w1 ⟨rfl, rfl⟩
   go_wp2_with fail
   go_quiet (fail)
   go_wp2
   go_roundw
   case rel => exact ⟨k + 1, by omega, by go_num, E, by first | exact hbw.alloc hbw.size _ | exact below_dr (hbw.alloc hbw.size _) _ | exact below_dr (below_dr (hbw.alloc hbw.size _) _) _⟩
   case measure => simp [intOf]; omega

end Go.Proofs.YtiadbiiiikhfaaaGreatDoor

namespace Go.Proofs.YtiadbiiiikhfaaaGreatDoor
open Go.RowKit

set_option maxRecDepth 10000 in
set_option maxHeartbeats 4000000 in
theorem l2Writes_anyO (S : Sto) (b oo : Nat) (v0 v1 v2 : Value) (w : World) (h : LiesO w b oo S v0 v1 v2) (hn : S.nw ≤ 200) :
  Calls Tryz.prog 111 #[.pointer (some ⟨b, oo, none⟩)] w fun e w' => e = .returned (.int .i64 (scan (writeF S.k) S.nw)) ∧ Below w.heap.size w w' := by
 obtain ⟨a0, c0, a1, c1, a2, c2, rfl, rfl, rfl⟩ := h.2.form
 have H : Hid (LiesO w b oo S (.slice a0 S.nc c0) (.slice a1 S.nl c1) (.slice a2 S.nw c2)) := h
 have p0 := h.1.2.2
 have hb := h.lt
 clear h
 go_enter Tryz.func111, Tryz.ntmps111
 go_wp2
 go_loopw [3] (fun i wr => ∃ k : Nat, k ≤ S.nw ∧ i = .int .i64 k ∧ Hid (scan (writeF S.k) k = 0) ∧ Below w.heap.size w wr) (fun i _ => S.nw - (intOf i).toNat)
 case atStart => exact ⟨0, Nat.zero_le _, rfl, rfl, Below.refl _ _⟩
 case round =>
  obtain ⟨k, hk, rfl, HS, hbw⟩ := hrel
  have e0 := (hbw.cell (p := ⟨b, oo + 2, none⟩) hb).trans p0
  have hbr : b < wr.heap.size := Nat.lt_of_lt_of_le hb hbw.size
  by_cases hlt : k < S.nw
  case neg =>
   have en : k = S.nw := by omega
   have E : Hid (scan (writeF S.k) S.nw = 0) := en ▸ HS.out
   clear HS
   go_wp2
   go_ret
   exact ⟨by rw [E.out]; rfl, hbw⟩
  obtain ⟨g, o, rfl, _, hg, x0, x1, x2, x3⟩ := (H.out.2.2.2.later hbw).at4 hlt
  obtain ⟨n0, N0⟩ : ∃ x, S.k (k * 4) = x := ⟨_, rfl⟩
  rw [N0] at x0
  obtain ⟨n1, N1⟩ : ∃ x, S.k (k * 4 + 1) = x := ⟨_, rfl⟩
  rw [N1] at x1
  obtain ⟨n2, N2⟩ : ∃ x, S.k (k * 4 + 2) = x := ⟨_, rfl⟩
  rw [N2] at x2
  obtain ⟨n3, N3⟩ : ∃ x, S.k (k * 4 + 3) = x := ⟨_, rfl⟩
  rw [N3] at x3
  have NN : Hid (S.k (k * 4) = n0 ∧ S.k (k * 4 + 1) = n1 ∧ S.k (k * 4 + 2) = n2 ∧ S.k (k * 4 + 3) = n3) := ⟨N0, N1, N2, N3⟩
  clear N0 N1 N2 N3
  by_cases h0 : faultOf n0 = 0
  case neg =>
   obtain ⟨f, hff⟩ : ∃ f, faultOf n0 = f := ⟨_, rfl⟩
   have L0 : Hid (∀ w, Calls Tryz.prog 42 #[.int .i64 n0] w fun e w' => e = .returned (.int .i64 f) ∧ w' = w) := fun w => hff ▸ l1Fault_any n0 w
   have E : Hid (scan (writeF S.k) S.nw = f) := by
    have : writeF S.k k = f := by
     unfold writeF
     rw [NN.out.1, NN.out.2.1, NN.out.2.2.1, NN.out.2.2.2]
     rw [if_pos h0]; exact hff
    exact (scan_stop HS.out (by rw [this, ← hff]; exact h0) hlt).trans this
   have hfn : (f == 0) = false := beq_eq_false_iff_ne.2 (by rw [← hff]; exact h0)
   clear hff h0 HS NN
   go_wp2_with fail
   refine (L0.out _).mono ?_
   rintro e w1 ⟨rfl, rfl⟩
   go_wp2
   go_ret
   exact ⟨by rw [E.out]; rfl, by first | exact hbw.alloc hbw.size _ | exact below_dr (hbw.alloc hbw.size _) _ | exact below_dr (below_dr (hbw.alloc hbw.size _) _) _⟩
  have L0 : Hid (∀ w, Calls Tryz.prog 42 #[.int .i64 n0] w fun e w' => e = .returned (.int .i64 0) ∧ w' = w) := fun w => h0 ▸ l1Fault_any n0 w
  have G0 : Hid (faultOf n0 = 0) := h0
  clear h0
  by_cases h1 : 1 ≤ n1 ∧ n1 ≤ 100000
  case neg =>
   have L1 : Hid (decide (1 ≤ n1 ∧ n1 ≤ 100000) = false) := decide_eq_false h1
   have E : Hid (scan (writeF S.k) S.nw = 3) := by
    have : writeF S.k k = 3 := by
     unfold writeF
     rw [NN.out.1, NN.out.2.1, NN.out.2.2.1, NN.out.2.2.2]
     rw [if_neg (fun h => h G0.out)]
     rw [if_pos (by omega)]
    exact (scan_stop HS.out (by rw [this]; decide) hlt).trans this
   clear h1 HS NN G0
   go_wp2_with fail
   refine (L0.out _).mono ?_
   rintro e w1 ⟨rfl, rfl⟩
   go_wp2_with fail
   refine (l2Ts_is _ false L1.out _).mono ?_
   rintro e w1 ⟨rfl, rfl⟩
   go_wp2
   go_ret
   exact ⟨by rw [E.out]; rfl, by first | exact hbw.alloc hbw.size _ | exact below_dr (hbw.alloc hbw.size _) _ | exact below_dr (below_dr (hbw.alloc hbw.size _) _) _⟩
  have L1 : Hid (decide (1 ≤ n1 ∧ n1 ≤ 100000) = true) := decide_eq_true h1
  have G1 : Hid (1 ≤ n1 ∧ n1 ≤ 100000) := h1
  clear h1
  by_cases h2 : 1 ≤ n2 ∧ n2 ≤ 100000
  case neg =>
   have L2 : Hid (decide (1 ≤ n2 ∧ n2 ≤ 100000) = false) := decide_eq_false h2
   have E : Hid (scan (writeF S.k) S.nw = 3) := by
    have : writeF S.k k = 3 := by
     unfold writeF
     rw [NN.out.1, NN.out.2.1, NN.out.2.2.1, NN.out.2.2.2]
     rw [if_neg (fun h => h G0.out)]
     rw [if_pos (by omega)]
    exact (scan_stop HS.out (by rw [this]; decide) hlt).trans this
   clear h2 HS NN G0 G1
   go_wp2_with fail
   refine (L0.out _).mono ?_
   rintro e w1 ⟨rfl, rfl⟩
   go_wp2_with fail
   refine (l2Ts_is _ true L1.out _).mono ?_
   rintro e w1 ⟨rfl, rfl⟩
   go_wp2_with fail
   refine (l2Ts_is _ false L2.out _).mono ?_
   rintro e w1 ⟨rfl, rfl⟩
   go_wp2
   go_ret
   exact ⟨by rw [E.out]; rfl, by first | exact hbw.alloc hbw.size _ | exact below_dr (hbw.alloc hbw.size _) _ | exact below_dr (below_dr (hbw.alloc hbw.size _) _) _⟩
  have L2 : Hid (decide (1 ≤ n2 ∧ n2 ≤ 100000) = true) := decide_eq_true h2
  have G2 : Hid (1 ≤ n2 ∧ n2 ≤ 100000) := h2
  clear h2
  by_cases h3 : 1 ≤ n3 ∧ n3 ≤ 4
  case neg =>
   have L3 : Hid (decide (1 ≤ n3 ∧ n3 ≤ 4) = false) := decide_eq_false h3
   have E : Hid (scan (writeF S.k) S.nw = 3) := by
    have : writeF S.k k = 3 := by
     unfold writeF
     rw [NN.out.1, NN.out.2.1, NN.out.2.2.1, NN.out.2.2.2]
     rw [if_neg (fun h => h G0.out)]
     rw [if_pos (by omega)]
    exact (scan_stop HS.out (by rw [this]; decide) hlt).trans this
   clear h3 HS NN G0 G1 G2
   go_wp2_with fail
   refine (L0.out _).mono ?_
   rintro e w1 ⟨rfl, rfl⟩
   go_wp2_with fail
   refine (l2Ts_is _ true L1.out _).mono ?_
   rintro e w1 ⟨rfl, rfl⟩
   go_wp2_with fail
   refine (l2Ts_is _ true L2.out _).mono ?_
   rintro e w1 ⟨rfl, rfl⟩
   go_wp2_with fail
   refine (l1In_is _ _ _ false L3.out _).mono ?_
   rintro e w1 ⟨rfl, rfl⟩
   go_wp2
   go_ret
   exact ⟨by rw [E.out]; rfl, by first | exact hbw.alloc hbw.size _ | exact below_dr (hbw.alloc hbw.size _) _ | exact below_dr (below_dr (hbw.alloc hbw.size _) _) _⟩
  have L3 : Hid (decide (1 ≤ n3 ∧ n3 ≤ 4) = true) := decide_eq_true h3
  have G3 : Hid (1 ≤ n3 ∧ n3 ≤ 4) := h3
  clear h3
  rcases Nat.eq_zero_or_pos k with hk0 | hk0
  ·by_cases q4 : n3 = 4
   ·by_cases q5 : n1 = n2
    ·have E : Hid (scan (writeF S.k) (k + 1) = 0) := by
      have : writeF S.k k = 0 := by
       unfold writeF
       rw [NN.out.1, NN.out.2.1, NN.out.2.2.1, NN.out.2.2.2]
       rw [if_neg (fun h => h G0.out)]
       have g1 := G1.out; have g2 := G2.out; have g3 := G3.out; rw [if_neg (by omega)]
       have hft : fits S.k k := by unfold fits; rw [NN.out.2.1, NN.out.2.2.1, NN.out.2.2.2]; omega
       rw [if_neg (by rintro (h | h); exact absurd h (by omega); exact h hft)]
      exact scan_go HS.out this
     have dk : decide (0 < k) = false := decide_eq_false (by omega)
     have w4 : (n3 == 4) = true := beq_iff_eq.2 q4
     have w6 : (n3 != 4) = false := by rw [q4]; rfl
     have w5 : (n1 != n2) = false := by rw [q5]; exact bne_self_eq_false _
     clear HS NN G0 G1 G2 G3 q4 q5 hk0
     go_wp2_with fail
     refine (L0.out _).mono ?_
     rintro e w1 ⟨rfl, rfl⟩
     go_wp2_with fail
     refine (l2Ts_is _ true L1.out _).mono ?_
     rintro e w1 ⟨rfl, rfl⟩
     go_wp2_with fail
     refine (l2Ts_is _ true L2.out _).mono ?_
     rintro e w1 ⟨rfl, rfl⟩
     go_wp2_with fail
     refine (l1In_is _ _ _ true L3.out _).mono ?_
     rintro e w1 ⟨rfl, rfl⟩
     go_wp2_with fail
     go_quiet (fail)
     go_wp2_with fail
     try go_quiet (fail)
     go_wp2
     go_roundw
     case rel => exact ⟨k + 1, by omega, by go_num, E, by first | exact hbw.alloc hbw.size _ | exact below_dr (hbw.alloc hbw.size _) _ | exact below_dr (below_dr (hbw.alloc hbw.size _) _) _⟩
     case measure => simp [intOf]; omega
    ·have E : Hid (scan (writeF S.k) S.nw = 1) := by
      have : writeF S.k k = 1 := by
       unfold writeF
       rw [NN.out.1, NN.out.2.1, NN.out.2.2.1, NN.out.2.2.2]
       rw [if_neg (fun h => h G0.out)]
       have g1 := G1.out; have g2 := G2.out; have g3 := G3.out; rw [if_neg (by omega)]
       rw [if_pos (Or.inr (fun q => by unfold fits at q; rw [NN.out.2.1, NN.out.2.2.1, NN.out.2.2.2] at q; omega))]
      exact (scan_stop HS.out (by rw [this]; decide) hlt).trans this
     have dk : decide (0 < k) = false := decide_eq_false (by omega)
     have w4 : (n3 == 4) = true := beq_iff_eq.2 q4
     have w5 : (n1 != n2) = true := bne_iff_ne.2 q5
     clear HS NN G0 G1 G2 G3 q4 q5 hk0
     go_wp2_with fail
     refine (L0.out _).mono ?_
     rintro e w1 ⟨rfl, rfl⟩
     go_wp2_with fail
     refine (l2Ts_is _ true L1.out _).mono ?_
     rintro e w1 ⟨rfl, rfl⟩
     go_wp2_with fail
     refine (l2Ts_is _ true L2.out _).mono ?_
     rintro e w1 ⟨rfl, rfl⟩
     go_wp2_with fail
     refine (l1In_is _ _ _ true L3.out _).mono ?_
     rintro e w1 ⟨rfl, rfl⟩
     go_wp2_with fail
     go_quiet (fail)
     go_wp2_with fail
     try go_quiet (fail)
     go_wp2
     go_ret
     exact ⟨by rw [E.out]; rfl, by first | exact hbw.alloc hbw.size _ | exact below_dr (hbw.alloc hbw.size _) _ | exact below_dr (below_dr (hbw.alloc hbw.size _) _) _⟩
   ·by_cases q5 : n1 ≤ n2
    ·have E : Hid (scan (writeF S.k) S.nw = 1) := by
      have : writeF S.k k = 1 := by
       unfold writeF
       rw [NN.out.1, NN.out.2.1, NN.out.2.2.1, NN.out.2.2.2]
       rw [if_neg (fun h => h G0.out)]
       have g1 := G1.out; have g2 := G2.out; have g3 := G3.out; rw [if_neg (by omega)]
       rw [if_pos (Or.inr (fun q => by unfold fits at q; rw [NN.out.2.1, NN.out.2.2.1, NN.out.2.2.2] at q; omega))]
      exact (scan_stop HS.out (by rw [this]; decide) hlt).trans this
     have dk : decide (0 < k) = false := decide_eq_false (by omega)
     have w4 : (n3 == 4) = false := beq_eq_false_iff_ne.2 q4
     have w6 : (n3 != 4) = true := bne_iff_ne.2 q4
     have w5 : decide (n1 ≤ n2) = true := decide_eq_true q5
     clear HS NN G0 G1 G2 G3 q4 q5 hk0
     go_wp2_with fail
     refine (L0.out _).mono ?_
     rintro e w1 ⟨rfl, rfl⟩
     go_wp2_with fail
     refine (l2Ts_is _ true L1.out _).mono ?_
     rintro e w1 ⟨rfl, rfl⟩
     go_wp2_with fail
     refine (l2Ts_is _ true L2.out _).mono ?_
     rintro e w1 ⟨rfl, rfl⟩
     go_wp2_with fail
     refine (l1In_is _ _ _ true L3.out _).mono ?_
     rintro e w1 ⟨rfl, rfl⟩
     go_wp2_with fail
     go_quiet (fail)
     go_wp2_with fail
     try go_quiet (fail)
     go_wp2
     go_ret
     exact ⟨by rw [E.out]; rfl, by first | exact hbw.alloc hbw.size _ | exact below_dr (hbw.alloc hbw.size _) _ | exact below_dr (below_dr (hbw.alloc hbw.size _) _) _⟩
    ·have E : Hid (scan (writeF S.k) (k + 1) = 0) := by
      have : writeF S.k k = 0 := by
       unfold writeF
       rw [NN.out.1, NN.out.2.1, NN.out.2.2.1, NN.out.2.2.2]
       rw [if_neg (fun h => h G0.out)]
       have g1 := G1.out; have g2 := G2.out; have g3 := G3.out; rw [if_neg (by omega)]
       have hft : fits S.k k := by unfold fits; rw [NN.out.2.1, NN.out.2.2.1, NN.out.2.2.2]; omega
       rw [if_neg (by rintro (h | h); exact absurd h (by omega); exact h hft)]
      exact scan_go HS.out this
     have dk : decide (0 < k) = false := decide_eq_false (by omega)
     have w4 : (n3 == 4) = false := beq_eq_false_iff_ne.2 q4
     have w6 : (n3 != 4) = true := bne_iff_ne.2 q4
     have w5 : decide (n1 ≤ n2) = false := decide_eq_false q5
     clear HS NN G0 G1 G2 G3 q4 q5 hk0
     go_wp2_with fail
     refine (L0.out _).mono ?_
     rintro e w1 ⟨rfl, rfl⟩
     go_wp2_with fail
     refine (l2Ts_is _ true L1.out _).mono ?_
     rintro e w1 ⟨rfl, rfl⟩
     go_wp2_with fail
     refine (l2Ts_is _ true L2.out _).mono ?_
     rintro e w1 ⟨rfl, rfl⟩
     go_wp2_with fail
     refine (l1In_is _ _ _ true L3.out _).mono ?_
     rintro e w1 ⟨rfl, rfl⟩
     go_wp2_with fail
     go_quiet (fail)
     go_wp2_with fail
     try go_quiet (fail)
     go_wp2
     go_roundw
     case rel => exact ⟨k + 1, by omega, by go_num, E, by first | exact hbw.alloc hbw.size _ | exact below_dr (hbw.alloc hbw.size _) _ | exact below_dr (below_dr (hbw.alloc hbw.size _) _) _⟩
     case measure => simp [intOf]; omega
  obtain ⟨g', o', he, _, _, y0, y1, _, _⟩ := (H.out.2.2.2.later hbw).at4 (k := k - 1) (by omega)
  simp only [Option.some.injEq, Addr.mk.injEq, and_true] at he
  obtain ⟨rfl, rfl⟩ := he
  obtain ⟨m0, M0⟩ : ∃ x, S.k ((k - 1) * 4) = x := ⟨_, rfl⟩
  rw [M0] at y0
  obtain ⟨m1, M1⟩ : ∃ x, S.k ((k - 1) * 4 + 1) = x := ⟨_, rfl⟩
  rw [M1] at y1
  have MM : Hid (S.k ((k - 1) * 4) = m0 ∧ S.k ((k - 1) * 4 + 1) = m1) := ⟨M0, M1⟩
  clear M0 M1
  have dk : decide (0 < k) = true := decide_eq_true hk0
  by_cases r1 : n0 < m0
  ·have E : Hid (scan (writeF S.k) S.nw = 1) := by
    have : writeF S.k k = 1 := by
     unfold writeF
     rw [NN.out.1, NN.out.2.1, NN.out.2.2.1, NN.out.2.2.2]
     rw [if_neg (fun h => h G0.out)]
     have g1 := G1.out; have g2 := G2.out; have g3 := G3.out; rw [if_neg (by omega)]
     rw [MM.out.1, MM.out.2]
     rw [if_pos (Or.inl (by omega))]
    exact (scan_stop HS.out (by rw [this]; decide) hlt).trans this
   clear HS NN G0 G1 G2 G3 MM
   go_wp2_with fail
   refine (L0.out _).mono ?_
   rintro e w1 ⟨rfl, rfl⟩
   go_wp2_with fail
   refine (l2Ts_is _ true L1.out _).mono ?_
   rintro e w1 ⟨rfl, rfl⟩
   go_wp2_with fail
   refine (l2Ts_is _ true L2.out _).mono ?_
   rintro e w1 ⟨rfl, rfl⟩
   go_wp2_with fail
   refine (l1In_is _ _ _ true L3.out _).mono ?_
   rintro e w1 ⟨rfl, rfl⟩
   go_wp2_with fail
   go_quiet (fail)
   go_wp2
   go_ret
   exact ⟨by rw [E.out]; rfl, by first | exact hbw.alloc hbw.size _ | exact below_dr (hbw.alloc hbw.size _) _ | exact below_dr (below_dr (hbw.alloc hbw.size _) _) _⟩
  by_cases r2 : n0 = m0
  ·by_cases r3 : n1 ≤ m1
   ·have E : Hid (scan (writeF S.k) S.nw = 1) := by
     have : writeF S.k k = 1 := by
      unfold writeF
      rw [NN.out.1, NN.out.2.1, NN.out.2.2.1, NN.out.2.2.2]
      rw [if_neg (fun h => h G0.out)]
      have g1 := G1.out; have g2 := G2.out; have g3 := G3.out; rw [if_neg (by omega)]
      rw [MM.out.1, MM.out.2]
      rw [if_pos (Or.inl (by omega))]
     exact (scan_stop HS.out (by rw [this]; decide) hlt).trans this
    have s1 : decide (n0 < m0) = false := decide_eq_false r1
    have s2 : (n0 == m0) = true := beq_iff_eq.2 r2
    have s3 : decide (n1 ≤ m1) = true := decide_eq_true r3
    clear HS NN G0 G1 G2 G3 MM r1 r2
    go_wp2_with fail
    refine (L0.out _).mono ?_
    rintro e w1 ⟨rfl, rfl⟩
    go_wp2_with fail
    refine (l2Ts_is _ true L1.out _).mono ?_
    rintro e w1 ⟨rfl, rfl⟩
    go_wp2_with fail
    refine (l2Ts_is _ true L2.out _).mono ?_
    rintro e w1 ⟨rfl, rfl⟩
    go_wp2_with fail
    refine (l1In_is _ _ _ true L3.out _).mono ?_
    rintro e w1 ⟨rfl, rfl⟩
    go_wp2_with fail
    go_quiet (fail)
    go_wp2
    go_ret
    exact ⟨by rw [E.out]; rfl, by first | exact hbw.alloc hbw.size _ | exact below_dr (hbw.alloc hbw.size _) _ | exact below_dr (below_dr (hbw.alloc hbw.size _) _) _⟩
   ·by_cases q4 : n3 = 4
    ·by_cases q5 : n1 = n2
     ·have E : Hid (scan (writeF S.k) (k + 1) = 0) := by
       have : writeF S.k k = 0 := by
        unfold writeF
        rw [NN.out.1, NN.out.2.1, NN.out.2.2.1, NN.out.2.2.2]
        rw [if_neg (fun h => h G0.out)]
        have g1 := G1.out; have g2 := G2.out; have g3 := G3.out; rw [if_neg (by omega)]
        rw [MM.out.1, MM.out.2]
        have hft : fits S.k k := by unfold fits; rw [NN.out.2.1, NN.out.2.2.1, NN.out.2.2.2]; omega
        rw [if_neg (by rintro (h | h); exact absurd h (by omega); exact h hft)]
       exact scan_go HS.out this
      have s1 : decide (n0 < m0) = false := decide_eq_false r1
      have s2 : (n0 == m0) = true := beq_iff_eq.2 r2
      have s3 : decide (n1 ≤ m1) = false := decide_eq_false r3
      have w4 : (n3 == 4) = true := beq_iff_eq.2 q4
      have w6 : (n3 != 4) = false := by rw [q4]; rfl
      have w5 : (n1 != n2) = false := by rw [q5]; exact bne_self_eq_false _
      clear HS NN G0 G1 G2 G3 q4 q5 MM r1 r2 r3
      go_wp2_with fail
      refine (L0.out _).mono ?_
      rintro e w1 ⟨rfl, rfl⟩
      go_wp2_with fail
      refine (l2Ts_is _ true L1.out _).mono ?_
      rintro e w1 ⟨rfl, rfl⟩
      go_wp2_with fail
      refine (l2Ts_is _ true L2.out _).mono ?_
      rintro e w1 ⟨rfl, rfl⟩
      go_wp2_with fail
      refine (l1In_is _ _ _ true L3.out _).mono ?_
      rintro e w1 ⟨rfl, rfl⟩
      go_wp2_with fail
      go_quiet (fail)
      go_wp2_with fail
      try go_quiet (fail)
      go_wp2
      go_roundw
      case rel => exact ⟨k + 1, by omega, by go_num, E, by first | exact hbw.alloc hbw.size _ | exact below_dr (hbw.alloc hbw.size _) _ | exact below_dr (below_dr (hbw.alloc hbw.size _) _) _⟩
      case measure => simp [intOf]; omega
     ·have E : Hid (scan (writeF S.k) S.nw = 1) := by
       have : writeF S.k k = 1 := by
        unfold writeF
        rw [NN.out.1, NN.out.2.1, NN.out.2.2.1, NN.out.2.2.2]
        rw [if_neg (fun h => h G0.out)]
        have g1 := G1.out; have g2 := G2.out; have g3 := G3.out; rw [if_neg (by omega)]
        rw [MM.out.1, MM.out.2]
        rw [if_pos (Or.inr (fun q => by unfold fits at q; rw [NN.out.2.1, NN.out.2.2.1, NN.out.2.2.2] at q; omega))]
       exact (scan_stop HS.out (by rw [this]; decide) hlt).trans this
      have s1 : decide (n0 < m0) = false := decide_eq_false r1
      have s2 : (n0 == m0) = true := beq_iff_eq.2 r2
      have s3 : decide (n1 ≤ m1) = false := decide_eq_false r3
      have w4 : (n3 == 4) = true := beq_iff_eq.2 q4
      have w5 : (n1 != n2) = true := bne_iff_ne.2 q5
      clear HS NN G0 G1 G2 G3 q4 q5 MM r1 r2 r3
      go_wp2_with fail
      refine (L0.out _).mono ?_
      rintro e w1 ⟨rfl, rfl⟩
      go_wp2_with fail
      refine (l2Ts_is _ true L1.out _).mono ?_
      rintro e w1 ⟨rfl, rfl⟩
      go_wp2_with fail
      refine (l2Ts_is _ true L2.out _).mono ?_
      rintro e w1 ⟨rfl, rfl⟩
      go_wp2_with fail
      refine (l1In_is _ _ _ true L3.out _).mono ?_
      rintro e w1 ⟨rfl, rfl⟩
      go_wp2_with fail
      go_quiet (fail)
      go_wp2_with fail
      try go_quiet (fail)
      go_wp2
      go_ret
      exact ⟨by rw [E.out]; rfl, by first | exact hbw.alloc hbw.size _ | exact below_dr (hbw.alloc hbw.size _) _ | exact below_dr (below_dr (hbw.alloc hbw.size _) _) _⟩
    ·by_cases q5 : n1 ≤ n2
     ·have E : Hid (scan (writeF S.k) S.nw = 1) := by
       have : writeF S.k k = 1 := by
        unfold writeF
        rw [NN.out.1, NN.out.2.1, NN.out.2.2.1, NN.out.2.2.2]
        rw [if_neg (fun h => h G0.out)]
        have g1 := G1.out; have g2 := G2.out; have g3 := G3.out; rw [if_neg (by omega)]
        rw [MM.out.1, MM.out.2]
        rw [if_pos (Or.inr (fun q => by unfold fits at q; rw [NN.out.2.1, NN.out.2.2.1, NN.out.2.2.2] at q; omega))]
       exact (scan_stop HS.out (by rw [this]; decide) hlt).trans this
      have s1 : decide (n0 < m0) = false := decide_eq_false r1
      have s2 : (n0 == m0) = true := beq_iff_eq.2 r2
      have s3 : decide (n1 ≤ m1) = false := decide_eq_false r3
      have w4 : (n3 == 4) = false := beq_eq_false_iff_ne.2 q4
      have w6 : (n3 != 4) = true := bne_iff_ne.2 q4
      have w5 : decide (n1 ≤ n2) = true := decide_eq_true q5
      clear HS NN G0 G1 G2 G3 q4 q5 MM r1 r2 r3
      go_wp2_with fail
      refine (L0.out _).mono ?_
      rintro e w1 ⟨rfl, rfl⟩
      go_wp2_with fail
      refine (l2Ts_is _ true L1.out _).mono ?_
      rintro e w1 ⟨rfl, rfl⟩
      go_wp2_with fail
      refine (l2Ts_is _ true L2.out _).mono ?_
      rintro e w1 ⟨rfl, rfl⟩
      go_wp2_with fail
      refine (l1In_is _ _ _ true L3.out _).mono ?_
      rintro e w1 ⟨rfl, rfl⟩
      go_wp2_with fail
      go_quiet (fail)
      go_wp2_with fail
      try go_quiet (fail)
      go_wp2
      go_ret
      exact ⟨by rw [E.out]; rfl, by first | exact hbw.alloc hbw.size _ | exact below_dr (hbw.alloc hbw.size _) _ | exact below_dr (below_dr (hbw.alloc hbw.size _) _) _⟩
     ·have E : Hid (scan (writeF S.k) (k + 1) = 0) := by
       have : writeF S.k k = 0 := by
        unfold writeF
        rw [NN.out.1, NN.out.2.1, NN.out.2.2.1, NN.out.2.2.2]
        rw [if_neg (fun h => h G0.out)]
        have g1 := G1.out; have g2 := G2.out; have g3 := G3.out; rw [if_neg (by omega)]
        rw [MM.out.1, MM.out.2]
        have hft : fits S.k k := by unfold fits; rw [NN.out.2.1, NN.out.2.2.1, NN.out.2.2.2]; omega
        rw [if_neg (by rintro (h | h); exact absurd h (by omega); exact h hft)]
       exact scan_go HS.out this
      have s1 : decide (n0 < m0) = false := decide_eq_false r1
      have s2 : (n0 == m0) = true := beq_iff_eq.2 r2
      have s3 : decide (n1 ≤ m1) = false := decide_eq_false r3
      have w4 : (n3 == 4) = false := beq_eq_false_iff_ne.2 q4
      have w6 : (n3 != 4) = true := bne_iff_ne.2 q4
      have w5 : decide (n1 ≤ n2) = false := decide_eq_false q5
      clear HS NN G0 G1 G2 G3 q4 q5 MM r1 r2 r3
      go_wp2_with fail
      refine (L0.out _).mono ?_
      rintro e w1 ⟨rfl, rfl⟩
      go_wp2_with fail
      refine (l2Ts_is _ true L1.out _).mono ?_
      rintro e w1 ⟨rfl, rfl⟩
      go_wp2_with fail
      refine (l2Ts_is _ true L2.out _).mono ?_
      rintro e w1 ⟨rfl, rfl⟩
      go_wp2_with fail
      refine (l1In_is _ _ _ true L3.out _).mono ?_
      rintro e w1 ⟨rfl, rfl⟩
      go_wp2_with fail
      go_quiet (fail)
      go_wp2_with fail
      try go_quiet (fail)
      go_wp2
      go_roundw
      case rel => exact ⟨k + 1, by omega, by go_num, E, by first | exact hbw.alloc hbw.size _ | exact below_dr (hbw.alloc hbw.size _) _ | exact below_dr (below_dr (hbw.alloc hbw.size _) _) _⟩
      case measure => simp [intOf]; omega
  ·by_cases q4 : n3 = 4
   ·by_cases q5 : n1 = n2
    ·have E : Hid (scan (writeF S.k) (k + 1) = 0) := by
      have : writeF S.k k = 0 := by
       unfold writeF
       rw [NN.out.1, NN.out.2.1, NN.out.2.2.1, NN.out.2.2.2]
       rw [if_neg (fun h => h G0.out)]
       have g1 := G1.out; have g2 := G2.out; have g3 := G3.out; rw [if_neg (by omega)]
       rw [MM.out.1, MM.out.2]
       have hft : fits S.k k := by unfold fits; rw [NN.out.2.1, NN.out.2.2.1, NN.out.2.2.2]; omega
       rw [if_neg (by rintro (h | h); exact absurd h (by omega); exact h hft)]
      exact scan_go HS.out this
     have s1 : decide (n0 < m0) = false := decide_eq_false r1
     have s2 : (n0 == m0) = false := beq_eq_false_iff_ne.2 r2
     have w4 : (n3 == 4) = true := beq_iff_eq.2 q4
     have w6 : (n3 != 4) = false := by rw [q4]; rfl
     have w5 : (n1 != n2) = false := by rw [q5]; exact bne_self_eq_false _
     clear HS NN G0 G1 G2 G3 q4 q5 MM r1 r2
     go_wp2_with fail
     refine (L0.out _).mono ?_
     rintro e w1 ⟨rfl, rfl⟩
     go_wp2_with fail
     refine (l2Ts_is _ true L1.out _).mono ?_
     rintro e w1 ⟨rfl, rfl⟩
     go_wp2_with fail
     refine (l2Ts_is _ true L2.out _).mono ?_
     rintro e w1 ⟨rfl, rfl⟩
     go_wp2_with fail
     refine (l1In_is _ _ _ true L3.out _).mono ?_
     rintro e w1 ⟨rfl, rfl⟩
     go_wp2_with fail
     go_quiet (fail)
     go_wp2_with fail
     try go_quiet (fail)
     go_wp2
     go_roundw
     case rel => exact ⟨k + 1, by omega, by go_num, E, by first | exact hbw.alloc hbw.size _ | exact below_dr (hbw.alloc hbw.size _) _ | exact below_dr (below_dr (hbw.alloc hbw.size _) _) _⟩
     case measure => simp [intOf]; omega
    ·have E : Hid (scan (writeF S.k) S.nw = 1) := by
      have : writeF S.k k = 1 := by
       unfold writeF
       rw [NN.out.1, NN.out.2.1, NN.out.2.2.1, NN.out.2.2.2]
       rw [if_neg (fun h => h G0.out)]
       have g1 := G1.out; have g2 := G2.out; have g3 := G3.out; rw [if_neg (by omega)]
       rw [MM.out.1, MM.out.2]
       rw [if_pos (Or.inr (fun q => by unfold fits at q; rw [NN.out.2.1, NN.out.2.2.1, NN.out.2.2.2] at q; omega))]
      exact (scan_stop HS.out (by rw [this]; decide) hlt).trans this
     have s1 : decide (n0 < m0) = false := decide_eq_false r1
     have s2 : (n0 == m0) = false := beq_eq_false_iff_ne.2 r2
     have w4 : (n3 == 4) = true := beq_iff_eq.2 q4
     have w5 : (n1 != n2) = true := bne_iff_ne.2 q5
     clear HS NN G0 G1 G2 G3 q4 q5 MM r1 r2
     go_wp2_with fail
     refine (L0.out _).mono ?_
     rintro e w1 ⟨rfl, rfl⟩
     go_wp2_with fail
     refine (l2Ts_is _ true L1.out _).mono ?_
     rintro e w1 ⟨rfl, rfl⟩
     go_wp2_with fail
     refine (l2Ts_is _ true L2.out _).mono ?_
     rintro e w1 ⟨rfl, rfl⟩
     go_wp2_with fail
     refine (l1In_is _ _ _ true L3.out _).mono ?_
     rintro e w1 ⟨rfl, rfl⟩
     go_wp2_with fail
     go_quiet (fail)
     go_wp2_with fail
     try go_quiet (fail)
     go_wp2
     go_ret
     exact ⟨by rw [E.out]; rfl, by first | exact hbw.alloc hbw.size _ | exact below_dr (hbw.alloc hbw.size _) _ | exact below_dr (below_dr (hbw.alloc hbw.size _) _) _⟩
   ·by_cases q5 : n1 ≤ n2
    ·have E : Hid (scan (writeF S.k) S.nw = 1) := by
      have : writeF S.k k = 1 := by
       unfold writeF
       rw [NN.out.1, NN.out.2.1, NN.out.2.2.1, NN.out.2.2.2]
       rw [if_neg (fun h => h G0.out)]
       have g1 := G1.out; have g2 := G2.out; have g3 := G3.out; rw [if_neg (by omega)]
       rw [MM.out.1, MM.out.2]
       rw [if_pos (Or.inr (fun q => by unfold fits at q; rw [NN.out.2.1, NN.out.2.2.1, NN.out.2.2.2] at q; omega))]
      exact (scan_stop HS.out (by rw [this]; decide) hlt).trans this
     have s1 : decide (n0 < m0) = false := decide_eq_false r1
     have s2 : (n0 == m0) = false := beq_eq_false_iff_ne.2 r2
     have w4 : (n3 == 4) = false := beq_eq_false_iff_ne.2 q4
     have w6 : (n3 != 4) = true := bne_iff_ne.2 q4
     have w5 : decide (n1 ≤ n2) = true := decide_eq_true q5
     clear HS NN G0 G1 G2 G3 q4 q5 MM r1 r2
     go_wp2_with fail
     refine (L0.out _).mono ?_
     rintro e w1 ⟨rfl, rfl⟩
     go_wp2_with fail
     refine (l2Ts_is _ true L1.out _).mono ?_
     rintro e w1 ⟨rfl, rfl⟩
     go_wp2_with fail
     refine (l2Ts_is _ true L2.out _).mono ?_
     rintro e w1 ⟨rfl, rfl⟩
     go_wp2_with fail
     refine (l1In_is _ _ _ true L3.out _).mono ?_
     rintro e w1 ⟨rfl, rfl⟩
     go_wp2_with fail
     go_quiet (fail)
     go_wp2_with fail
     try go_quiet (fail)
     go_wp2
     go_ret
     exact ⟨by rw [E.out]; rfl, by first | exact hbw.alloc hbw.size _ | exact below_dr (hbw.alloc hbw.size _) _ | exact below_dr (below_dr (hbw.alloc hbw.size _) _) _⟩
    ·have E : Hid (scan (writeF S.k) (k + 1) = 0) := by
      have : writeF S.k k = 0 := by
       unfold writeF
       rw [NN.out.1, NN.out.2.1, NN.out.2.2.1, NN.out.2.2.2]
       rw [if_neg (fun h => h G0.out)]
       have g1 := G1.out; have g2 := G2.out; have g3 := G3.out; rw [if_neg (by omega)]
       rw [MM.out.1, MM.out.2]
       have hft : fits S.k k := by unfold fits; rw [NN.out.2.1, NN.out.2.2.1, NN.out.2.2.2]; omega
       rw [if_neg (by rintro (h | h); exact absurd h (by omega); exact h hft)]
      exact scan_go HS.out this
     have s1 : decide (n0 < m0) = false := decide_eq_false r1
     have s2 : (n0 == m0) = false := beq_eq_false_iff_ne.2 r2
     have w4 : (n3 == 4) = false := beq_eq_false_iff_ne.2 q4
     have w6 : (n3 != 4) = true := bne_iff_ne.2 q4
     have w5 : decide (n1 ≤ n2) = false := decide_eq_false q5
     clear HS NN G0 G1 G2 G3 q4 q5 MM r1 r2
     go_wp2_with fail
     refine (L0.out _).mono ?_
     rintro e w1 ⟨rfl, rfl⟩
     go_wp2_with fail
     refine (l2Ts_is _ true L1.out _).mono ?_
     rintro e w1 ⟨rfl, rfl⟩
     go_wp2_with fail
     refine (l2Ts_is _ true L2.out _).mono ?_
     rintro e w1 ⟨rfl, rfl⟩
     go_wp2_with fail
     refine (l1In_is _ _ _ true L3.out _).mono ?_
     rintro e w1 ⟨rfl, rfl⟩
     go_wp2_with fail
     go_quiet (fail)
     go_wp2_with fail
     try go_quiet (fail)
     go_wp2
     go_roundw
     case rel => exact ⟨k + 1, by omega, by go_num, E, by first | exact hbw.alloc hbw.size _ | exact below_dr (hbw.alloc hbw.size _) _ | exact below_dr (below_dr (hbw.alloc hbw.size _) _) _⟩
     case measure => simp [intOf]; omega
end Go.Proofs.YtiadbiiiikhfaaaGreatDoor

namespace Go.Proofs.YtiadbiiiikhfaaaGreatDoor
section
open Go.RowKit
/-- The first place below n at which p holds, or -1. -/
def FirstAt (p : Nat → Prop) (n : Nat) (r : Int) : Prop := (r = -1 ∧ ∀ i, i < n → ¬ p i) ∨ ∃ i : Nat, i < n ∧ r = i ∧ p i ∧ ∀ j, j < i → ¬ p j
theorem FirstAt.at {p : Nat → Prop} {n : Nat} {i : Nat} (h : FirstAt p n i) : i < n ∧ p i ∧ ∀ j, j < i → ¬ p j := by
 rcases h with ⟨e, _⟩ | ⟨j, hj, e, hp, hq⟩
 ·omega
 ·obtain rfl : i = j := by omega
  exact ⟨hj, hp, hq⟩

set_option maxRecDepth 10000 in
set_option maxHeartbeats 2000000 in
theorem l2Cell_anyO (S : Sto) (b oo : Nat) (v0 v1 v2 : Value) (a s : Int) (w : World) (h : LiesO w b oo S v0 v1 v2) (hn : S.nc ≤ 200) :
  Calls Tryz.prog 88 #[.pointer (some ⟨b, oo, none⟩), .int .i64 a, .int .i64 s] w fun e w' => ∃ r : Int, e = .returned (.int .i64 r) ∧ FirstAt (cellIs S.c a s) S.nc r ∧ w' = w := by
 obtain ⟨a0, c0, a1, c1, a2, c2, rfl, rfl, rfl⟩ := h.2.form
 have H : Hid (LiesO w b oo S (.slice a0 S.nc c0) (.slice a1 S.nl c1) (.slice a2 S.nw c2)) := h
 have p0 := h.1.1
 have hb := h.lt
 clear h
 go_enter Tryz.func88, Tryz.ntmps88
 go_wp2
 go_loop [7] (fun i => ∃ k : Nat, k ≤ S.nc ∧ i = .int .i64 k ∧ Hid (∀ j, j < k → ¬ cellIs S.c a s j)) (fun i => S.nc - (intOf i).toNat)
 case atStart => exact ⟨0, Nat.zero_le _, rfl, fun j hj => absurd hj (Nat.not_lt_zero j)⟩
 case round =>
  obtain ⟨k, hk, rfl, HS⟩ := hrel
  by_cases hlt : k < S.nc
  case neg =>
   obtain rfl : k = S.nc := by omega
   go_wp2
   go_ret
   exact ⟨_, rfl, Or.inl ⟨rfl, HS.out⟩, rfl⟩
  obtain ⟨g, o, rfl, _, hg, x0, x1, x2⟩ := H.out.2.1.at3 hlt
  obtain ⟨n0, N0⟩ : ∃ x, S.c (k * 3) = x := ⟨_, rfl⟩
  obtain ⟨n1, N1⟩ : ∃ x, S.c (k * 3 + 1) = x := ⟨_, rfl⟩
  rw [N0] at x0; rw [N1] at x1
  by_cases h0 : n0 = a
  ·by_cases h1 : n1 = s
   ·have E : Hid (cellIs S.c a s k) := ⟨N0.trans h0, N1.trans h1⟩
    clear N0 N1
    subst h0 h1
    go_wp2
    go_ret
    exact ⟨_, rfl, Or.inr ⟨k, hlt, rfl, E.out, HS.out⟩, rfl⟩
   ·have E : Hid (∀ j, j < k + 1 → ¬ cellIs S.c a s j) := fun j hj => by
     rcases Nat.lt_or_ge j k with h | h
     ·exact HS.out j h
     ·obtain rfl : j = k := by omega
      exact fun q => h1 (N1.symm.trans q.2)
    have d1 : (n1 == s) = false := beq_eq_false_iff_ne.2 h1
    clear N0 N1 HS h1
    subst h0
    go_wp2
    go_round
    case rel => exact ⟨k + 1, by omega, by go_num, E⟩
    case measure => simp [intOf]; omega
  ·have E : Hid (∀ j, j < k + 1 → ¬ cellIs S.c a s j) := fun j hj => by
    rcases Nat.lt_or_ge j k with h | h
    ·exact HS.out j h
    ·obtain rfl : j = k := by omega
     exact fun q => h0 (N0.symm.trans q.1)
   have d0 : (n0 == a) = false := beq_eq_false_iff_ne.2 h0
   clear N0 N1 HS h0
   go_wp2
   go_round
   case rel => exact ⟨k + 1, by omega, by go_num, E⟩
   case measure => simp [intOf]; omega
set_option maxRecDepth 10000 in
set_option maxHeartbeats 2000000 in
theorem l2Write_anyO (S : Sto) (b oo : Nat) (v0 v1 v2 : Value) (a s : Int) (w : World) (h : LiesO w b oo S v0 v1 v2) (hn : S.nw ≤ 200) :
  Calls Tryz.prog 84 #[.pointer (some ⟨b, oo, none⟩), .int .i64 a, .int .i64 s] w fun e w' => ∃ r : Int, e = .returned (.int .i64 r) ∧ FirstAt (writeIs S.k a s) S.nw r ∧ w' = w := by
 obtain ⟨a0, c0, a1, c1, a2, c2, rfl, rfl, rfl⟩ := h.2.form
 have H : Hid (LiesO w b oo S (.slice a0 S.nc c0) (.slice a1 S.nl c1) (.slice a2 S.nw c2)) := h
 have p0 := h.1.2.2
 have hb := h.lt
 clear h
 go_enter Tryz.func84, Tryz.ntmps84
 go_wp2
 go_loop [7] (fun i => ∃ k : Nat, k ≤ S.nw ∧ i = .int .i64 k ∧ Hid (∀ j, j < k → ¬ writeIs S.k a s j)) (fun i => S.nw - (intOf i).toNat)
 case atStart => exact ⟨0, Nat.zero_le _, rfl, fun j hj => absurd hj (Nat.not_lt_zero j)⟩
 case round =>
  obtain ⟨k, hk, rfl, HS⟩ := hrel
  by_cases hlt : k < S.nw
  case neg =>
   obtain rfl : k = S.nw := by omega
   go_wp2
   go_ret
   exact ⟨_, rfl, Or.inl ⟨rfl, HS.out⟩, rfl⟩
  obtain ⟨g, o, rfl, _, hg, x0, x1, x2, x3⟩ := H.out.2.2.2.at4 hlt
  obtain ⟨n0, N0⟩ : ∃ x, S.k (k * 4) = x := ⟨_, rfl⟩
  obtain ⟨n1, N1⟩ : ∃ x, S.k (k * 4 + 2) = x := ⟨_, rfl⟩
  rw [N0] at x0; rw [N1] at x2
  by_cases h0 : n0 = a
  ·by_cases h1 : n1 = s
   ·have E : Hid (writeIs S.k a s k) := ⟨N0.trans h0, N1.trans h1⟩
    clear N0 N1
    subst h0 h1
    go_wp2
    go_ret
    exact ⟨_, rfl, Or.inr ⟨k, hlt, rfl, E.out, HS.out⟩, rfl⟩
   ·have E : Hid (∀ j, j < k + 1 → ¬ writeIs S.k a s j) := fun j hj => by
     rcases Nat.lt_or_ge j k with h | h
     ·exact HS.out j h
     ·obtain rfl : j = k := by omega
      exact fun q => h1 (N1.symm.trans q.2)
    have d1 : (n1 == s) = false := beq_eq_false_iff_ne.2 h1
    clear N0 N1 HS h1
    subst h0
    go_wp2
    go_round
    case rel => exact ⟨k + 1, by omega, by go_num, E⟩
    case measure => simp [intOf]; omega
  ·have E : Hid (∀ j, j < k + 1 → ¬ writeIs S.k a s j) := fun j hj => by
    rcases Nat.lt_or_ge j k with h | h
    ·exact HS.out j h
    ·obtain rfl : j = k := by omega
     exact fun q => h0 (N0.symm.trans q.1)
   have d0 : (n0 == a) = false := beq_eq_false_iff_ne.2 h0
   clear N0 N1 HS h0
   go_wp2
   go_round
   case rel => exact ⟨k + 1, by omega, by go_num, E⟩
   case measure => simp [intOf]; omega
end

section
open Go.RowKit
theorem FirstAt.one {p : Nat → Prop} {n : Nat} {r r' : Int} (h : FirstAt p n r) (h' : FirstAt p n r') : r = r' := by
 rcases h with ⟨rfl, h⟩ | ⟨i, hi, rfl, hp, hq⟩ <;> rcases h' with ⟨rfl, h'⟩ | ⟨j, hj, rfl, hp', hq'⟩
 ·rfl
 ·exact absurd hp' (h j hj)
 ·exact absurd hp (h' i hi)
 ·rcases Nat.lt_trichotomy i j with e | e | e
  ·exact absurd hp (hq' i e)
  ·rw [e]
  ·exact absurd hp' (hq j e)
theorem FirstAt.get (p : Nat → Prop) : ∀ n, ∃ r, FirstAt p n r
 | 0 => ⟨-1, Or.inl ⟨rfl, fun i hi => absurd hi (Nat.not_lt_zero i)⟩⟩
 | n + 1 => by
  obtain ⟨r, h⟩ := FirstAt.get p n
  rcases h with ⟨rfl, h⟩ | ⟨i, hi, rfl, hp, hq⟩
  ·by_cases hn : p n
   ·exact ⟨n, Or.inr ⟨n, by omega, rfl, hn, h⟩⟩
   ·refine ⟨-1, Or.inl ⟨rfl, fun i hi => ?_⟩⟩
    rcases Nat.lt_or_ge i n with e | e
    ·exact h i e
    ·obtain rfl : i = n := by omega
     exact hn
  ·exact ⟨i, Or.inr ⟨i, by omega, rfl, hp, hq⟩⟩
theorem LiesO.drewN {w : World} {b oo : Nat} {S : Sto} {v0 v1 v2 : Value} (h : LiesO w b oo S v0 v1 v2) (q : Nat) : LiesO (w.drewN q) b oo S v0 v1 v2 := h
theorem Lies.drewN {w : World} {b : Nat} {S : Sto} {v0 v1 v2 : Value} (h : Lies w b S v0 v1 v2) (q : Nat) : Lies (w.drewN q) b S v0 v1 v2 := h
theorem l2Cell_isO (S : Sto) (b oo : Nat) (v0 v1 v2 : Value) (a s r : Int) (w : World) (h : LiesO w b oo S v0 v1 v2) (hn : S.nc ≤ 200) (hr : FirstAt (cellIs S.c a s) S.nc r) :
  Calls Tryz.prog 88 #[.pointer (some ⟨b, oo, none⟩), .int .i64 a, .int .i64 s] w fun e w' => e = .returned (.int .i64 r) ∧ w' = w :=
 (l2Cell_anyO S b oo v0 v1 v2 a s w h hn).mono fun e w' ⟨r', he, hr', hw⟩ => ⟨by rw [he, hr.one hr'], hw⟩
theorem l2Write_isO (S : Sto) (b oo : Nat) (v0 v1 v2 : Value) (a s r : Int) (w : World) (h : LiesO w b oo S v0 v1 v2) (hn : S.nw ≤ 200) (hr : FirstAt (writeIs S.k a s) S.nw r) :
  Calls Tryz.prog 84 #[.pointer (some ⟨b, oo, none⟩), .int .i64 a, .int .i64 s] w fun e w' => e = .returned (.int .i64 r) ∧ w' = w :=
 (l2Write_anyO S b oo v0 v1 v2 a s w h hn).mono fun e w' ⟨r', he, hr', hw⟩ => ⟨by rw [he, hr.one hr'], hw⟩

set_option maxRecDepth 10000 in
set_option maxHeartbeats 4000000 in
theorem l2Needs_anyO (S : Sto) (b oo : Nat) (v0 v1 v2 : Value) (r : Bool) (w : World) (h : LiesO w b oo S v0 v1 v2) (hc : S.nc ≤ 200) (hl : S.nl ≤ 200) (hk : S.nw ≤ 200) (hr : r = true ↔ needs S) :
  Calls Tryz.prog 112 #[.pointer (some ⟨b, oo, none⟩)] w fun e w' => e = .returned (.bool r) ∧ Below w.heap.size w w' := by
 obtain ⟨a0, c0, a1, c1, a2, c2, rfl, rfl, rfl⟩ := h.2.form
 have H : Hid (LiesO w b oo S (.slice a0 S.nc c0) (.slice a1 S.nl c1) (.slice a2 S.nw c2)) := h
 have HR : Hid (r = true ↔ needs S) := hr
 clear h hr
 go_enter Tryz.func112, Tryz.ntmps112
 go_wp2
 go_loopw [3] (fun i wr => ∃ k : Nat, k ≤ S.nw ∧ i = .int .i64 k ∧ Hid (∀ j, j < k → putW S j) ∧ Hid (Below w.heap.size w wr)) (fun i _ => S.nw - (intOf i).toNat)
 case atStart => exact ⟨0, Nat.zero_le _, rfl, fun j hj => absurd hj (Nat.not_lt_zero j), Below.refl _ _⟩
 case round =>
  obtain ⟨k, hk', rfl, HS, HB⟩ := hrel
  have HL : Hid (LiesO wr b oo S (.slice a0 S.nc c0) (.slice a1 S.nl c1) (.slice a2 S.nw c2)) := H.out.later HB.out
  have e2 := HL.out.1.2.2
  by_cases hlt : k < S.nw
  case pos =>
   obtain ⟨g, o, rfl, _, hg, x0, x1, x2, x3⟩ := HL.out.2.2.2.at4 hlt
   obtain ⟨n0, N0⟩ : ∃ x, S.k (k * 4) = x := ⟨_, rfl⟩
   obtain ⟨n2, N2⟩ : ∃ x, S.k (k * 4 + 2) = x := ⟨_, rfl⟩
   obtain ⟨n3, N3⟩ : ∃ x, S.k (k * 4 + 3) = x := ⟨_, rfl⟩
   rw [N0] at x0; rw [N2] at x2; rw [N3] at x3
   have NN : Hid (S.k (k * 4) = n0 ∧ S.k (k * 4 + 2) = n2 ∧ S.k (k * 4 + 3) = n3) := ⟨N0, N2, N3⟩
   clear N0 N2 N3
   have NX : Hid (putW S k → ∀ j, j < k + 1 → putW S j) := fun q j hj => by
    rcases Nat.lt_or_ge j k with h | h
    ·exact HS.out j h
    ·obtain rfl : j = k := by omega
     exact q
   by_cases h3 : n3 = 1
   ·obtain ⟨c, HF⟩ : ∃ c, Hid (FirstAt (cellIs S.c n0 n2) S.nc c) := FirstAt.get _ _
    have LC : Hid (∀ n, Calls Tryz.prog 88 #[.pointer (some ⟨b, oo, none⟩), .int .i64 n0, .int .i64 n2] (wr.drewN n) fun e w' => e = .returned (.int .i64 c) ∧ w' = wr.drewN n) := fun n => l2Cell_isO S b oo _ _ _ n0 n2 c _ (HL.out.drewN n) hc HF.out
    by_cases hcn : c < 0
    ·have E : Hid (r = false) := by
      cases r with
      | false => rfl
      | true =>
       obtain ⟨i, hi, hp⟩ := (HR.out.1 rfl).1 k hlt (NN.out.2.2.trans h3)
       rw [NN.out.1, NN.out.2.1] at hp
       rcases HF.out with ⟨_, q⟩ | ⟨i', _, e, _⟩
       ·exact absurd hp (q i hi)
       ·omega
     have d : decide (c < 0) = true := decide_eq_true hcn
     clear NN NX HF HS hcn
     subst h3
     go_wp2_with fail
     go_quiet (first | (go_at_call 88; refine Calls.quiet_of_same (LC.out _)))
     go_wp2
     go_ret
     exact ⟨by rw [E.out]; rfl, below_dr HB.out _⟩
    ·have E : Hid (∀ j, j < k + 1 → putW S j) := NX.out (fun _ => by
      rcases HF.out with ⟨e, _⟩ | ⟨i', hi, _, hp, _⟩
      ·omega
      ·exact ⟨i', hi, by rw [NN.out.1, NN.out.2.1]; exact hp⟩)
     have d : decide (c < 0) = false := decide_eq_false hcn
     clear NN NX HF HS hcn
     subst h3
     go_wp2_with fail
     go_quiet (first | (go_at_call 88; refine Calls.quiet_of_same (LC.out _)))
     go_wp2
     go_roundw
     case rel => exact ⟨k + 1, by omega, by go_num, E, below_dr HB.out _⟩
     case measure => simp [intOf]; omega
   ·have E : Hid (∀ j, j < k + 1 → putW S j) := NX.out (fun q => absurd (NN.out.2.2.symm.trans q) h3)
    have d : (n3 == 1) = false := beq_eq_false_iff_ne.2 h3
    clear NN NX HS h3
    go_wp2_with fail
    go_quiet (fail)
    go_wp2
    go_roundw
    case rel => exact ⟨k + 1, by omega, by go_num, E, below_dr HB.out _⟩
    case measure => simp [intOf]; omega
  case neg =>
   have HW : Hid (∀ i, i < S.nw → putW S i) := fun i hi => HS.out i (by omega)
   clear HS HL
   go_wp2
   clear e2 hk' hlt
   go_loopw [4] (fun i wr => ∃ k : Nat, k ≤ S.nl ∧ i = .int .i64 k ∧ Hid (∀ j, j < k → putL S j) ∧ Hid (Below w.heap.size w wr)) (fun i _ => S.nl - (intOf i).toNat)
   case atStart => exact ⟨0, Nat.zero_le _, rfl, fun j hj => absurd hj (Nat.not_lt_zero j), HB⟩
   case round =>
    clear HB
    obtain ⟨k, hk', rfl, HS, HB⟩ := hrel
    have HL : Hid (LiesO wr b oo S (.slice a0 S.nc c0) (.slice a1 S.nl c1) (.slice a2 S.nw c2)) := H.out.later HB.out
    have e1 := HL.out.1.2.1
    by_cases hlt : k < S.nl
    case neg =>
     have E : Hid (r = true) := HR.out.2 ⟨HW.out, fun i hi => HS.out i (by omega)⟩
     clear HS HL
     go_wp2
     go_ret
     exact ⟨by rw [E.out]; rfl, HB.out⟩
    obtain ⟨g, o, rfl, _, hg, x0, x1, x2, x3, x4⟩ := HL.out.2.2.1.at5 hlt
    obtain ⟨n0, N0⟩ : ∃ x, S.l (k * 5) = x := ⟨_, rfl⟩
    obtain ⟨n1, N1⟩ : ∃ x, S.l (k * 5 + 1) = x := ⟨_, rfl⟩
    obtain ⟨n2, N2⟩ : ∃ x, S.l (k * 5 + 2) = x := ⟨_, rfl⟩
    rw [N0] at x0; rw [N1] at x1; rw [N2] at x2
    have NN : Hid (S.l (k * 5) = n0 ∧ S.l (k * 5 + 1) = n1 ∧ S.l (k * 5 + 2) = n2) := ⟨N0, N1, N2⟩
    clear N0 N1 N2
    have NX : Hid (putL S k → ∀ j, j < k + 1 → putL S j) := fun q j hj => by
     rcases Nat.lt_or_ge j k with h | h
     ·exact HS.out j h
     ·obtain rfl : j = k := by omega
      exact q
    by_cases h3 : n2 = 1
    ·obtain ⟨c, HF⟩ : ∃ c, Hid (FirstAt (cellIs S.c n0 n1) S.nc c) := FirstAt.get _ _
     have LC : Hid (∀ n, Calls Tryz.prog 88 #[.pointer (some ⟨b, oo, none⟩), .int .i64 n0, .int .i64 n1] (wr.drewN n) fun e w' => e = .returned (.int .i64 c) ∧ w' = wr.drewN n) := fun n => l2Cell_isO S b oo _ _ _ n0 n1 c _ (HL.out.drewN n) hc HF.out
     by_cases hcn : c < 0
     ·have E : Hid (r = false) := by
       cases r with
       | false => rfl
       | true =>
        obtain ⟨i, hi, hp⟩ := (HR.out.1 rfl).2 k hlt (NN.out.2.2.trans h3)
        rw [NN.out.1, NN.out.2.1] at hp
        rcases HF.out with ⟨_, q⟩ | ⟨i', _, e, _⟩
        ·exact absurd hp (q i hi)
        ·omega
      have d : decide (c < 0) = true := decide_eq_true hcn
      clear NN NX HF HS hcn
      subst h3
      go_wp2_with fail
      go_quiet (first | (go_at_call 88; refine Calls.quiet_of_same (LC.out _)))
      go_wp2
      go_ret
      exact ⟨by rw [E.out]; rfl, below_dr HB.out _⟩
     ·have E : Hid (∀ j, j < k + 1 → putL S j) := NX.out (fun _ => by
       rcases HF.out with ⟨e, _⟩ | ⟨i', hi, _, hp, _⟩
       ·omega
       ·exact ⟨i', hi, by rw [NN.out.1, NN.out.2.1]; exact hp⟩)
      have d : decide (c < 0) = false := decide_eq_false hcn
      clear NN NX HF HS hcn
      subst h3
      go_wp2_with fail
      go_quiet (first | (go_at_call 88; refine Calls.quiet_of_same (LC.out _)))
      go_wp2
      go_roundw
      case rel => exact ⟨k + 1, by omega, by go_num, E, below_dr HB.out _⟩
      case measure => simp [intOf]; omega
    ·have E : Hid (∀ j, j < k + 1 → putL S j) := NX.out (fun q => absurd (NN.out.2.2.symm.trans q) h3)
     have d : (n2 == 1) = false := beq_eq_false_iff_ne.2 h3
     clear NN NX HS h3
     go_wp2_with fail
     go_quiet (fail)
     go_wp2
     go_roundw
     case rel => exact ⟨k + 1, by omega, by go_num, E, below_dr HB.out _⟩
     case measure => simp [intOf]; omega
end

section
open Go.RowKit
set_option maxRecDepth 10000 in
set_option maxHeartbeats 4000000 in
theorem l2Once_anyO (S : Sto) (b oo : Nat) (v0 v1 v2 : Value) (r : Bool) (w : World) (h : LiesO w b oo S v0 v1 v2) (hl : S.nl ≤ 200) (hk : S.nw ≤ 200) (hr : r = true ↔ once S) :
  Calls Tryz.prog 113 #[.pointer (some ⟨b, oo, none⟩)] w fun e w' => e = .returned (.bool r) ∧ Below w.heap.size w w' := by
 obtain ⟨a0, c0, a1, c1, a2, c2, rfl, rfl, rfl⟩ := h.2.form
 have H : Hid (LiesO w b oo S (.slice a0 S.nc c0) (.slice a1 S.nl c1) (.slice a2 S.nw c2)) := h
 have HR : Hid (r = true ↔ once S) := hr
 clear h hr
 go_enter Tryz.func113, Tryz.ntmps113
 go_wp2
 go_loopw [3] (fun i wr => ∃ k : Nat, k ≤ S.nw ∧ i = .int .i64 k ∧ Hid (∀ j, j < k → onceW S j) ∧ Hid (Below w.heap.size w wr)) (fun i _ => S.nw - (intOf i).toNat)
 case atStart => exact ⟨0, Nat.zero_le _, rfl, fun j hj => absurd hj (Nat.not_lt_zero j), Below.refl _ _⟩
 case round =>
  obtain ⟨k, hk', rfl, HS, HB⟩ := hrel
  have HL : Hid (LiesO wr b oo S (.slice a0 S.nc c0) (.slice a1 S.nl c1) (.slice a2 S.nw c2)) := H.out.later HB.out
  have e2 := HL.out.1.2.2
  by_cases hlt : k < S.nw
  case pos =>
   obtain ⟨g, o, rfl, _, hg, x0, x1, x2, x3⟩ := HL.out.2.2.2.at4 hlt
   obtain ⟨n0, N0⟩ : ∃ x, S.k (k * 4) = x := ⟨_, rfl⟩
   obtain ⟨n2, N2⟩ : ∃ x, S.k (k * 4 + 2) = x := ⟨_, rfl⟩
   rw [N0] at x0; rw [N2] at x2
   have NN : Hid (S.k (k * 4) = n0 ∧ S.k (k * 4 + 2) = n2) := ⟨N0, N2⟩
   clear N0 N2
   obtain ⟨c, HF⟩ : ∃ c, Hid (FirstAt (writeIs S.k n0 n2) S.nw c) := FirstAt.get _ _
   have LC : Hid (∀ n, Calls Tryz.prog 84 #[.pointer (some ⟨b, oo, none⟩), .int .i64 n0, .int .i64 n2] (wr.drewN n) fun e w' => e = .returned (.int .i64 c) ∧ w' = wr.drewN n) := fun n => l2Write_isO S b oo _ _ _ n0 n2 c _ (HL.out.drewN n) hk HF.out
   have me : Hid (writeIs S.k n0 n2 k) := NN.out
   by_cases hcn : c = k
   ·have E : Hid (∀ j, j < k + 1 → onceW S j) := fun j hj => by
     rcases Nat.lt_or_ge j k with h | h
     ·exact HS.out j h
     ·obtain rfl : j = k := by omega
      rintro ⟨i, hi, hp⟩
      rw [NN.out.1, NN.out.2] at hp
      rcases HF.out with ⟨e, _⟩ | ⟨i', _, e, _, q⟩
      ·omega
      ·exact q i (by omega) hp
    clear NN HF HS me
    subst hcn
    go_wp2_with fail
    go_quiet (first | (go_at_call 84; refine Calls.quiet_of_same (LC.out _)))
    go_wp2
    go_roundw
    case rel => exact ⟨k + 1, by omega, by go_num, E, below_dr HB.out _⟩
    case measure => simp [intOf]; omega
   ·have E : Hid (r = false) := by
     cases r with
     | false => rfl
     | true =>
      have q := (HR.out.1 rfl).1 k hlt
      rcases HF.out with ⟨_, q'⟩ | ⟨i', hi', e, hp, q'⟩
      ·exact absurd me.out (q' k hlt)
      ·refine absurd ⟨i', ?_, by rw [NN.out.1, NN.out.2]; exact hp⟩ q
       rcases Nat.lt_or_ge k i' with h | h
       ·exact absurd me.out (q' k h)
       ·omega
    have d : (c != (k : Int)) = true := bne_iff_ne.2 hcn
    clear NN HF HS me hcn
    go_wp2_with fail
    go_quiet (first | (go_at_call 84; refine Calls.quiet_of_same (LC.out _)))
    go_wp2
    go_ret
    exact ⟨by rw [E.out]; rfl, below_dr HB.out _⟩
  case neg =>
   have HW : Hid (∀ i, i < S.nw → onceW S i) := fun i hi => HS.out i (by omega)
   clear HS HL
   go_wp2
   clear e2 hk' hlt
   go_loopw [4] (fun i wr => ∃ k : Nat, k ≤ S.nl ∧ i = .int .i64 k ∧ Hid (∀ j, j < k → onceL S j) ∧ Hid (Below w.heap.size w wr)) (fun i _ => S.nl - (intOf i).toNat)
   case atStart => exact ⟨0, Nat.zero_le _, rfl, fun j hj => absurd hj (Nat.not_lt_zero j), HB⟩
   case round =>
    clear HB
    obtain ⟨k, hk', rfl, HS, HB⟩ := hrel
    have HL : Hid (LiesO wr b oo S (.slice a0 S.nc c0) (.slice a1 S.nl c1) (.slice a2 S.nw c2)) := H.out.later HB.out
    have e1 := HL.out.1.2.1
    by_cases hlt : k < S.nl
    case neg =>
     have E : Hid (r = true) := HR.out.2 ⟨HW.out, fun i hi => HS.out i (by omega)⟩
     clear HS HL
     go_wp2
     go_ret
     exact ⟨by rw [E.out]; rfl, HB.out⟩
    obtain ⟨g, o, rfl, _, hg, x0, x1, x2, x3, x4⟩ := HL.out.2.2.1.at5 hlt
    obtain ⟨n0, N0⟩ : ∃ x, S.l (k * 5) = x := ⟨_, rfl⟩
    obtain ⟨n1, N1⟩ : ∃ x, S.l (k * 5 + 1) = x := ⟨_, rfl⟩
    rw [N0] at x0; rw [N1] at x1
    have NN : Hid (S.l (k * 5) = n0 ∧ S.l (k * 5 + 1) = n1) := ⟨N0, N1⟩
    clear N0 N1
    obtain ⟨c, HF⟩ : ∃ c, Hid (FirstAt (writeIs S.k n0 n1) S.nw c) := FirstAt.get _ _
    have LC : Hid (∀ n, Calls Tryz.prog 84 #[.pointer (some ⟨b, oo, none⟩), .int .i64 n0, .int .i64 n1] (wr.drewN n) fun e w' => e = .returned (.int .i64 c) ∧ w' = wr.drewN n) := fun n => l2Write_isO S b oo _ _ _ n0 n1 c _ (HL.out.drewN n) hk HF.out
    by_cases hcn : 0 ≤ c
    ·have E : Hid (r = false) := by
      cases r with
      | false => rfl
      | true =>
       have q := (HR.out.1 rfl).2 k hlt
       rcases HF.out with ⟨e, _⟩ | ⟨i', hi', e, hp, q'⟩
       ·omega
       ·exact absurd ⟨i', hi', by rw [NN.out.1, NN.out.2]; exact hp⟩ q
     have d : decide (0 ≤ c) = true := decide_eq_true hcn
     clear NN HF HS hcn
     go_wp2_with fail
     go_quiet (first | (go_at_call 84; refine Calls.quiet_of_same (LC.out _)))
     go_wp2
     go_ret
     exact ⟨by rw [E.out]; rfl, below_dr HB.out _⟩
    ·have E : Hid (∀ j, j < k + 1 → onceL S j) := fun j hj => by
      rcases Nat.lt_or_ge j k with h | h
      ·exact HS.out j h
      ·obtain rfl : j = k := by omega
       rintro ⟨i, hi, hp⟩
       rw [NN.out.1, NN.out.2] at hp
       rcases HF.out with ⟨_, q⟩ | ⟨i', _, e, _⟩
       ·exact q i hi hp
       ·omega
     have d : decide (0 ≤ c) = false := decide_eq_false hcn
     clear NN HF HS hcn
     go_wp2_with fail
     go_quiet (first | (go_at_call 84; refine Calls.quiet_of_same (LC.out _)))
     go_wp2
     go_roundw
     case rel => exact ⟨k + 1, by omega, by go_num, E, below_dr HB.out _⟩
     case measure => simp [intOf]; omega
end

section
open Go.RowKit
theorem l2Cells_isO (S : Sto) (b oo : Nat) (v0 v1 v2 : Value) (r : Int) (hr : scan (cellF S.c) S.nc = r) (w x : World) (h : LiesO w b oo S v0 v1 v2) (hb : Below w.heap.size w x) (hn : S.nc ≤ 200) :
  Calls Tryz.prog 109 #[.pointer (some ⟨b, oo, none⟩)] x fun e w' => e = .returned (.int .i64 r) ∧ Below w.heap.size w w' :=
 (l2Cells_anyO S b oo v0 v1 v2 x (h.later hb) hn).mono fun e w' ⟨he, hw⟩ => ⟨by rw [he, hr], hb.trans (hw.mono hb.size)⟩
theorem l2Locks_isO (S : Sto) (b oo : Nat) (v0 v1 v2 : Value) (r : Int) (hr : scan (lockF S.l) S.nl = r) (w x : World) (h : LiesO w b oo S v0 v1 v2) (hb : Below w.heap.size w x) (hn : S.nl ≤ 200) :
  Calls Tryz.prog 110 #[.pointer (some ⟨b, oo, none⟩)] x fun e w' => e = .returned (.int .i64 r) ∧ Below w.heap.size w w' :=
 (l2Locks_anyO S b oo v0 v1 v2 x (h.later hb) hn).mono fun e w' ⟨he, hw⟩ => ⟨by rw [he, hr], hb.trans (hw.mono hb.size)⟩
theorem l2Writes_isO (S : Sto) (b oo : Nat) (v0 v1 v2 : Value) (r : Int) (hr : scan (writeF S.k) S.nw = r) (w x : World) (h : LiesO w b oo S v0 v1 v2) (hb : Below w.heap.size w x) (hn : S.nw ≤ 200) :
  Calls Tryz.prog 111 #[.pointer (some ⟨b, oo, none⟩)] x fun e w' => e = .returned (.int .i64 r) ∧ Below w.heap.size w w' :=
 (l2Writes_anyO S b oo v0 v1 v2 x (h.later hb) hn).mono fun e w' ⟨he, hw⟩ => ⟨by rw [he, hr], hb.trans (hw.mono hb.size)⟩
set_option maxRecDepth 10000 in
set_option maxHeartbeats 4000000 in
theorem l2Fault_anyO (S : Sto) (b oo : Nat) (v0 v1 v2 : Value) (w : World) (h : LiesO w b oo S v0 v1 v2) :
  Calls Tryz.prog 83 #[.pointer (some ⟨b, oo, none⟩)] w fun e w' => e = .returned (.int .i64 (storeF S)) ∧ Below w.heap.size w w' := by
 obtain ⟨a0, c0, a1, c1, a2, c2, rfl, rfl, rfl⟩ := h.2.form
 have H : Hid (LiesO w b oo S (.slice a0 S.nc c0) (.slice a1 S.nl c1) (.slice a2 S.nw c2)) := h
 obtain ⟨⟨p0, p1, p2⟩, _⟩ := h
 by_cases m0 : 200 < S.nc
 ·have E : Hid (storeF S = 2) := by unfold Hid storeF; rw [if_pos (Or.inl m0)]
  go_enter Tryz.func83, Tryz.ntmps83
  go_wp2_with fail
  go_wp2
  go_ret
  exact ⟨by rw [E.out]; rfl, Below.refl _ _⟩
 have m0' : decide ((200 : Int) < (S.nc : Int)) = false := decide_eq_false (by omega)
 by_cases m1 : 200 < S.nl
 ·have E : Hid (storeF S = 2) := by unfold Hid storeF; rw [if_pos (Or.inr (Or.inl m1))]
  clear m0
  go_enter Tryz.func83, Tryz.ntmps83
  go_wp2_with fail
  go_wp2
  go_ret
  exact ⟨by rw [E.out]; rfl, Below.refl _ _⟩
 have m1' : decide ((200 : Int) < (S.nl : Int)) = false := decide_eq_false (by omega)
 by_cases m2 : 200 < S.nw
 ·have E : Hid (storeF S = 2) := by unfold Hid storeF; rw [if_pos (Or.inr (Or.inr m2))]
  clear m0 m1
  go_enter Tryz.func83, Tryz.ntmps83
  go_wp2_with fail
  go_wp2
  go_ret
  exact ⟨by rw [E.out]; rfl, Below.refl _ _⟩
 have m2' : decide ((200 : Int) < (S.nw : Int)) = false := decide_eq_false (by omega)
 have HM : Hid (¬ (200 < S.nc ∨ 200 < S.nl ∨ 200 < S.nw)) := by unfold Hid; omega
 have hc : Hid (S.nc ≤ 200 ∧ S.nl ≤ 200 ∧ S.nw ≤ 200) := ⟨by omega, by omega, by omega⟩
 clear m0 m1 m2
 have HB : Hid (Below w.heap.size w w) := Below.refl _ _
 by_cases z0 : scan (cellF S.c) S.nc = 0
 case neg =>
  obtain ⟨f, hf⟩ : ∃ f, scan (cellF S.c) S.nc = f := ⟨_, rfl⟩
  have E : Hid (storeF S = f) := by unfold Hid storeF; rw [if_neg HM.out, if_pos z0]; exact hf
  have hfn : (f == 0) = false := beq_eq_false_iff_ne.2 (by rw [← hf]; exact z0)
  have F0 : Hid (scan (cellF S.c) S.nc = f) := hf
  clear hf z0
  go_enter Tryz.func83, Tryz.ntmps83
  go_wp2_with fail
  refine (l2Cells_isO S b oo _ _ _ f F0.out _ _ H.out HB.out hc.out.1).mono ?_
  rintro e w1 ⟨rfl, q1⟩
  have HB : Hid (Below w.heap.size w w1) := q1
  clear q1
  go_wp2_with fail
  go_wp2
  go_ret
  exact ⟨by rw [E.out]; rfl, HB.out⟩
 have F0 : Hid (scan (cellF S.c) S.nc = 0) := z0
 have G0 : Hid (¬ scan (cellF S.c) S.nc ≠ 0) := fun h => h z0
 clear z0
 by_cases z0 : scan (lockF S.l) S.nl = 0
 case neg =>
  obtain ⟨f, hf⟩ : ∃ f, scan (lockF S.l) S.nl = f := ⟨_, rfl⟩
  have E : Hid (storeF S = f) := by unfold Hid storeF; rw [if_neg HM.out, if_neg G0.out, if_pos z0]; exact hf
  have hfn : (f == 0) = false := beq_eq_false_iff_ne.2 (by rw [← hf]; exact z0)
  have F1 : Hid (scan (lockF S.l) S.nl = f) := hf
  clear hf z0
  go_enter Tryz.func83, Tryz.ntmps83
  go_wp2_with fail
  refine (l2Cells_isO S b oo _ _ _ 0 F0.out _ _ H.out HB.out hc.out.1).mono ?_
  rintro e w1 ⟨rfl, q1⟩
  have HB : Hid (Below w.heap.size w w1) := q1
  clear q1
  go_wp2_with fail
  refine (l2Locks_isO S b oo _ _ _ f F1.out _ _ H.out HB.out hc.out.2.1).mono ?_
  rintro e w1 ⟨rfl, q1⟩
  have HB : Hid (Below w.heap.size w w1) := q1
  clear q1
  go_wp2_with fail
  go_wp2
  go_ret
  exact ⟨by rw [E.out]; rfl, HB.out⟩
 have F1 : Hid (scan (lockF S.l) S.nl = 0) := z0
 have G1 : Hid (¬ scan (lockF S.l) S.nl ≠ 0) := fun h => h z0
 clear z0
 by_cases z0 : scan (writeF S.k) S.nw = 0
 case neg =>
  obtain ⟨f, hf⟩ : ∃ f, scan (writeF S.k) S.nw = f := ⟨_, rfl⟩
  have E : Hid (storeF S = f) := by unfold Hid storeF; rw [if_neg HM.out, if_neg G0.out, if_neg G1.out, if_pos z0]; exact hf
  have hfn : (f == 0) = false := beq_eq_false_iff_ne.2 (by rw [← hf]; exact z0)
  have F2 : Hid (scan (writeF S.k) S.nw = f) := hf
  clear hf z0
  go_enter Tryz.func83, Tryz.ntmps83
  go_wp2_with fail
  refine (l2Cells_isO S b oo _ _ _ 0 F0.out _ _ H.out HB.out hc.out.1).mono ?_
  rintro e w1 ⟨rfl, q1⟩
  have HB : Hid (Below w.heap.size w w1) := q1
  clear q1
  go_wp2_with fail
  refine (l2Locks_isO S b oo _ _ _ 0 F1.out _ _ H.out HB.out hc.out.2.1).mono ?_
  rintro e w1 ⟨rfl, q1⟩
  have HB : Hid (Below w.heap.size w w1) := q1
  clear q1
  go_wp2_with fail
  refine (l2Writes_isO S b oo _ _ _ f F2.out _ _ H.out HB.out hc.out.2.2).mono ?_
  rintro e w1 ⟨rfl, q1⟩
  have HB : Hid (Below w.heap.size w w1) := q1
  clear q1
  go_wp2_with fail
  go_wp2
  go_ret
  exact ⟨by rw [E.out]; rfl, HB.out⟩
 have F2 : Hid (scan (writeF S.k) S.nw = 0) := z0
 have G2 : Hid (¬ scan (writeF S.k) S.nw ≠ 0) := fun h => h z0
 clear z0
 by_cases y0 : needs S
 case neg =>
  have E : Hid (storeF S = 4) := by unfold Hid storeF; rw [if_neg HM.out, if_neg G0.out, if_neg G1.out, if_neg G2.out, if_pos y0]
  have Y : Hid (false = true ↔ needs S) := ⟨fun h => absurd h (by decide), fun h => absurd h y0⟩
  clear y0
  go_enter Tryz.func83, Tryz.ntmps83
  go_wp2_with fail
  refine (l2Cells_isO S b oo _ _ _ 0 F0.out _ _ H.out HB.out hc.out.1).mono ?_
  rintro e w1 ⟨rfl, q1⟩
  have HB : Hid (Below w.heap.size w w1) := q1
  clear q1
  go_wp2_with fail
  refine (l2Locks_isO S b oo _ _ _ 0 F1.out _ _ H.out HB.out hc.out.2.1).mono ?_
  rintro e w1 ⟨rfl, q1⟩
  have HB : Hid (Below w.heap.size w w1) := q1
  clear q1
  go_wp2_with fail
  refine (l2Writes_isO S b oo _ _ _ 0 F2.out _ _ H.out HB.out hc.out.2.2).mono ?_
  rintro e w1 ⟨rfl, q1⟩
  have HB : Hid (Below w.heap.size w w1) := q1
  clear q1
  go_wp2_with fail
  refine (l2Needs_anyO S b oo _ _ _ false _ (H.out.later HB.out) hc.out.1 hc.out.2.1 hc.out.2.2 Y.out).mono ?_
  rintro e w1 ⟨rfl, q1⟩
  have HB : Hid (Below w.heap.size w w1) := HB.out.trans (q1.mono HB.out.size)
  clear q1
  go_wp2
  go_ret
  exact ⟨by rw [E.out]; rfl, HB.out⟩
 have Y : Hid (needs S) := y0
 have G3 : Hid (¬ ¬ needs S) := fun h => h y0
 clear y0
 by_cases y0 : once S
 case neg =>
  have E : Hid (storeF S = 6) := by unfold Hid storeF; rw [if_neg HM.out, if_neg G0.out, if_neg G1.out, if_neg G2.out, if_neg G3.out, if_pos y0]
  have Z : Hid (false = true ↔ once S) := ⟨fun h => absurd h (by decide), fun h => absurd h y0⟩
  clear y0
  go_enter Tryz.func83, Tryz.ntmps83
  go_wp2_with fail
  refine (l2Cells_isO S b oo _ _ _ 0 F0.out _ _ H.out HB.out hc.out.1).mono ?_
  rintro e w1 ⟨rfl, q1⟩
  have HB : Hid (Below w.heap.size w w1) := q1
  clear q1
  go_wp2_with fail
  refine (l2Locks_isO S b oo _ _ _ 0 F1.out _ _ H.out HB.out hc.out.2.1).mono ?_
  rintro e w1 ⟨rfl, q1⟩
  have HB : Hid (Below w.heap.size w w1) := q1
  clear q1
  go_wp2_with fail
  refine (l2Writes_isO S b oo _ _ _ 0 F2.out _ _ H.out HB.out hc.out.2.2).mono ?_
  rintro e w1 ⟨rfl, q1⟩
  have HB : Hid (Below w.heap.size w w1) := q1
  clear q1
  go_wp2_with fail
  refine (l2Needs_anyO S b oo _ _ _ true _ (H.out.later HB.out) hc.out.1 hc.out.2.1 hc.out.2.2 ⟨fun _ => Y.out, fun _ => rfl⟩).mono ?_
  rintro e w1 ⟨rfl, q1⟩
  have HB : Hid (Below w.heap.size w w1) := HB.out.trans (q1.mono HB.out.size)
  clear q1
  go_wp2_with fail
  refine (l2Once_anyO S b oo _ _ _ false _ (H.out.later HB.out) hc.out.2.1 hc.out.2.2 Z.out).mono ?_
  rintro e w1 ⟨rfl, q1⟩
  have HB : Hid (Below w.heap.size w w1) := HB.out.trans (q1.mono HB.out.size)
  clear q1
  go_wp2
  go_ret
  exact ⟨by rw [E.out]; rfl, HB.out⟩
 have E : Hid (storeF S = 0) := by unfold Hid storeF; rw [if_neg HM.out, if_neg G0.out, if_neg G1.out, if_neg G2.out, if_neg G3.out, if_neg (fun h => h y0)]
 have Z : Hid (once S) := y0
 clear y0
 go_enter Tryz.func83, Tryz.ntmps83
 go_wp2_with fail
 refine (l2Cells_isO S b oo _ _ _ 0 F0.out _ _ H.out HB.out hc.out.1).mono ?_
 rintro e w1 ⟨rfl, q1⟩
 have HB : Hid (Below w.heap.size w w1) := q1
 clear q1
 go_wp2_with fail
 refine (l2Locks_isO S b oo _ _ _ 0 F1.out _ _ H.out HB.out hc.out.2.1).mono ?_
 rintro e w1 ⟨rfl, q1⟩
 have HB : Hid (Below w.heap.size w w1) := q1
 clear q1
 go_wp2_with fail
 refine (l2Writes_isO S b oo _ _ _ 0 F2.out _ _ H.out HB.out hc.out.2.2).mono ?_
 rintro e w1 ⟨rfl, q1⟩
 have HB : Hid (Below w.heap.size w w1) := q1
 clear q1
 go_wp2_with fail
 refine (l2Needs_anyO S b oo _ _ _ true _ (H.out.later HB.out) hc.out.1 hc.out.2.1 hc.out.2.2 ⟨fun _ => Y.out, fun _ => rfl⟩).mono ?_
 rintro e w1 ⟨rfl, q1⟩
 have HB : Hid (Below w.heap.size w w1) := HB.out.trans (q1.mono HB.out.size)
 clear q1
 go_wp2_with fail
 refine (l2Once_anyO S b oo _ _ _ true _ (H.out.later HB.out) hc.out.2.1 hc.out.2.2 ⟨fun _ => Z.out, fun _ => rfl⟩).mono ?_
 rintro e w1 ⟨rfl, q1⟩
 have HB : Hid (Below w.heap.size w w1) := HB.out.trans (q1.mono HB.out.size)
 clear q1
 go_wp2
 go_ret
 exact ⟨by rw [E.out]; rfl, HB.out⟩

theorem l2Fault_any (S : Sto) (b : Nat) (v0 v1 v2 : Value) (w : World) (h : Lies w b S v0 v1 v2) :
  Calls Tryz.prog 83 #[.pointer (some ⟨b, 0, none⟩)] w fun e w' => e = .returned (.int .i64 (storeF S)) ∧ Below w.heap.size w w' := l2Fault_anyO S b 0 v0 v1 v2 w h.o
theorem l2Write_is (S : Sto) (b : Nat) (v0 v1 v2 : Value) (a s r : Int) (w : World) (h : Lies w b S v0 v1 v2) (hn : S.nw ≤ 200) (hr : FirstAt (writeIs S.k a s) S.nw r) :
  Calls Tryz.prog 84 #[.pointer (some ⟨b, 0, none⟩), .int .i64 a, .int .i64 s] w fun e w' => e = .returned (.int .i64 r) ∧ w' = w := l2Write_isO S b 0 v0 v1 v2 a s r w h.o hn hr
end
end Go.Proofs.YtiadbiiiikhfaaaGreatDoor

namespace Go.Proofs.YtiadbiiiikhfaaaGreatDoor
section
open Go.RowKit Go.Sort Go.Shelf Go.Lib
/-- The structs among the first k that are not struck. -/
def selD (F : Nat → Int) (m : Nat) (D : List Int → Bool) : Nat → List (List Int)
 | 0 => []
 | k + 1 => selD F m D k ++ (if D (struD F m k) = true then [] else [struD F m k])
theorem selD_gone {F : Nat → Int} {m : Nat} {D : List Int → Bool} {k : Nat} (h : D (struD F m k) = true) : selD F m D (k + 1) = selD F m D k := by rw [selD, if_pos h, List.append_nil]
theorem selD_kept {F : Nat → Int} {m : Nat} {D : List Int → Bool} {k : Nat} (h : D (struD F m k) = false) : selD F m D (k + 1) = selD F m D k ++ [struD F m k] := by rw [selD, if_neg (by rw [h]; exact Bool.false_ne_true)]
theorem selD_len (F : Nat → Int) (m : Nat) (D : List Int → Bool) : ∀ k, (∀ t ∈ selD F m D k, t.length = m)
 | 0 => fun t ht => by simp [selD] at ht
 | k + 1 => fun t ht => by
  cases h : D (struD F m k) with
  | true => rw [selD_gone h] at ht; exact selD_len F m D k t ht
  | false =>
   rw [selD_kept h] at ht
   rcases List.mem_append.1 ht with q | q
   ·exact selD_len F m D k t q
   ·simp at q; rw [q]; exact struD_len _ _ _
theorem selD_le (F : Nat → Int) (m : Nat) (D : List Int → Bool) : ∀ k, (selD F m D k).length ≤ k
 | 0 => Nat.le_refl _
 | k + 1 => by
  have ih := selD_le F m D k
  cases h : D (struD F m k) with
  | true => rw [selD_gone h]; omega
  | false => rw [selD_kept h, List.length_append, List.length_singleton]; omega
theorem selD_none {F : Nat → Int} {m : Nat} {D : List Int → Bool} : ∀ {k : Nat}, (∀ i, i < k → D (struD F m i) = false) → selD F m D k = (List.range k).map (struD F m)
 | 0, _ => rfl
 | k + 1, h => by
  rw [selD_kept (h k (by omega)), selD_none (fun i hi => h i (by omega)), List.range_succ, List.map_append]
  rfl
theorem selD_same {F : Nat → Int} {m : Nat} {D : List Int → Bool} {k : Nat} (h : ∀ i, i < k → D (struD F m i) = false) : (selD F m D k).length = k ∧ ∀ p, p < k * m → (selD F m D k).flatten.getD p 0 = F p := by
 have e := selD_none h
 have hl : (selD F m D k).length = k := by rw [e]; simp
 refine ⟨hl, fun p hp => ?_⟩
 obtain ⟨h1, h2⟩ := div_lt hp
 rw [flat_get (m := m) _ p (selD_len F m D k) (by rw [hl]; exact hp), e]
 have e1 : ((List.range k).map (struD F m)).getD (p / m) [] = struD F m (p / m) := by simp [h1]
 rw [e1, struD_get F m _ _ h2, Nat.mul_comm, Nat.div_add_mod]
theorem flat_len {m : Nat} : ∀ (L : List (List Int)), (∀ t ∈ L, t.length = m) → L.flatten.length = L.length * m
 | [], _ => by simp
 | x :: r, h => by
  rw [List.flatten_cons, List.length_append, h x List.mem_cons_self, flat_len r (fun t ht => h t (List.mem_cons_of_mem _ ht)), List.length_cons, Nat.succ_mul, Nat.add_comm]
/-- Block g is a row of N cells of type e. -/
def Blkk (x : World) (g : Nat) (e : TypeId) (N : Nat) : Prop := ∃ cur, x.heap[g]? = some (.cells cur e) ∧ cur.size = N
theorem Blkk.kept {x x' : World} {g : Nat} {e : TypeId} {N : Nat} (h : Blkk x g e N) (hb : x'.heap[g]? = x.heap[g]?) : Blkk x' g e N := by
 obtain ⟨cur, h1, h2⟩ := h
 exact ⟨cur, hb.trans h1, h2⟩
theorem Blkk.lt {x : World} {g : Nat} {e : TypeId} {N : Nat} (h : Blkk x g e N) : g < x.heap.size := by
 obtain ⟨cur, h1, _⟩ := h
 exact (Array.getElem?_eq_some_iff.1 h1).1
theorem Blkk.set {x : World} {g : Nat} {e : TypeId} {N : Nat} (h : Blkk x g e N) (o : Nat) (u : Value) : Blkk (x.setCell ⟨g, o, none⟩ u) g e N := by
 obtain ⟨cur, h1, h2⟩ := h
 refine ⟨cur.setIfInBounds o u, ?_, by simpa using h2⟩
 simp [World.setCell, Array.getElem?_modify, h1]
theorem Blkk.sets {g : Nat} {e : TypeId} {N : Nat} : ∀ (vs : List Value) (o : Nat) (x : World), Blkk x g e N → Blkk (x.setCells g o vs) g e N
 | [], _, _, h => h
 | v :: r, o, _, h => Blkk.sets r (o + 1) _ (h.set o v)
theorem Blkk.cell {x : World} {g : Nat} {e : TypeId} {N : Nat} (h : Blkk x g e N) {p : Nat} (hp : p < N) : (∃ u, x.cell? ⟨g, p, none⟩ = some u) ∧ x.frozen? ⟨g, p, none⟩ = false := by
 obtain ⟨cur, h1, h2⟩ := h
 refine ⟨⟨cur[p]'(by omega), ?_⟩, ?_⟩
 ·simp [World.cell?, h1]
 ·simp [World.frozen?, h1]
theorem own_of {x : World} {B g : Nat} {e : TypeId} {m n cap : Nat} {F : Nat → Int} (h : Blkk x g e (cap * m)) (hB : B ≤ g) (hn : n ≤ cap) (hc : cap ≤ maxLen) (hF : ∀ p, p < n * m → x.cell? ⟨g, p, none⟩ = some (.int .i64 (F p))) : Own x B e m n F (.slice (some ⟨g, 0, none⟩) n cap) := by
 obtain ⟨cur, h1, h2⟩ := h
 refine ⟨vals_length _ _, Or.inr ⟨g, cap, cur, rfl, hB, h1, hn, hc, h2, ?_⟩⟩
 apply List.ext_getElem?
 intro p
 rcases Nat.lt_or_ge p (n * m) with hp | hp
 ·rw [vals_at F _ p hp]
  have hle : n * m ≤ cap * m := Nat.mul_le_mul_right m hn
  have := hF p hp
  have hps : p < cur.size := by omega
  simp [World.cell?, h1, hps] at this
  rw [List.getElem?_take, if_pos hp]
  simp [hps, this]
 ·rw [List.getElem?_eq_none (by rw [List.length_take]; omega), List.getElem?_eq_none (by rw [vals_length]; exact hp)]
theorem Own.parts {x : World} {B : Nat} {e : TypeId} {m n : Nat} {F : Nat → Int} {v : Value} (h : Own x B e m n F v) : (v = .slice none 0 0 ∧ n = 0) ∨ ∃ g cap, v = .slice (some ⟨g, 0, none⟩) n cap ∧ B ≤ g ∧ n ≤ cap ∧ cap ≤ maxLen ∧ Blkk x g e (cap * m) ∧ ∀ p, p < n * m → x.cell? ⟨g, p, none⟩ = some (.int .i64 (F p)) := by
 have hr := h.row.1
 rcases h.2 with q | ⟨g, cap, cur, rfl, hg, hw, h1, h2, h3, _⟩
 ·exact Or.inl q
 ·refine Or.inr ⟨g, cap, rfl, hg, h1, h2, ⟨cur, hw, h3⟩, fun p hp => ?_⟩
  have hn : 0 < n := Nat.pos_of_ne_zero (fun e => by subst e; simp at hp)
  obtain ⟨ao, cp, hv, hr⟩ := hr
  obtain ⟨g', o', e, _, _, hc⟩ := hr hn
  simp at hv
  obtain ⟨rfl, rfl⟩ := hv
  simp at e
  obtain ⟨rfl, rfl⟩ := e
  have := hc p hp
  rwa [Nat.zero_add] at this
theorem grown_sets (g : Nat) : ∀ (vs : List Value) (o : Nat) (w : World), w.grownBy (w.setCells g o vs) (some g)
 | [], _, _ => ⟨rfl, rfl, rfl, Nat.le_refl _, fun _ _ _ => rfl⟩
 | v :: r, o, w => by
  have ih := grown_sets g r (o + 1) (w.setCell ⟨g, o, none⟩ v)
  refine ⟨ih.os, ih.tape, ih.output, Nat.le_trans (by simp) ih.size, fun i hi hne => (ih.block i (by simpa using hi) hne).trans (Below.heap_setCell w _ _ i (fun e => hne (by rw [e])))⟩
/-- 'clear(s[i:])' at a slice of structs. -/
theorem run_clear_row (t e : TypeId) (z : Value) (m : Nat) (ht : Tryz.prog.underlying t = some (.slice e)) (hv : ∀ w, (zeroValue e).run Tryz.prog w = .ok z w) (hz : z.cells.size = m) (h1 : ∀ v ∈ z.cells.toList, v.oneCell' = true) (w : World) (g a k c N : Nat) (hb : Blkk w g e N) (hN : a + k * m ≤ N) (hk : 0 < k) (hm : 0 < m) :
  ∃ w', (∀ ty, (Builtin.clear_ #[t] ty #[.slice (some ⟨g, a, none⟩) k c]).run Tryz.prog w = .ok (.tuple #[]) w') ∧ (Blkk w' g e N ∧ ∀ p, p < a → w'.cell? ⟨g, p, none⟩ = w.cell? ⟨g, p, none⟩) ∧ w.grownBy w' (some g) := by
 have hzl : (Builtin.zeroCells z.cells k).toList.length = k * m := by simp [Builtin.zeroCells, hz]
 refine ⟨w.setCells g a (Builtin.zeroCells z.cells k).toList, fun ty => ?_, ⟨hb.sets _ _ _, fun p hp => World.cell?_setCells_out g _ a w _ (fun _ _ => Or.inl hp)⟩, ?_⟩
 ·have hst := run_storeCells_cells (P := Tryz.prog) g a (Builtin.zeroCells z.cells k).toList 0 w (fun j hj => by rw [Nat.add_zero]; obtain ⟨u, hu⟩ := (hb.cell (p := a + j) (by omega)).1; rw [hu]; rfl) (fun j hj => by rw [Nat.add_zero]; exact (hb.cell (p := a + j) (by omega)).2) (fun v hv' => by
   simp only [Builtin.zeroCells, Array.toList_map, List.mem_map] at hv'
   obtain ⟨i, _, rfl⟩ := hv'
   have hi : i % z.cells.size < z.cells.size := Nat.mod_lt _ (by omega)
   rw [getElem!_pos z.cells _ hi]
   exact h1 _ (Array.getElem_mem_toList hi))
  simp only [Nat.add_zero] at hst
  obtain ⟨q, rfl⟩ : ∃ q, k = q + 1 := ⟨k - 1, by omega⟩
  simp [Builtin.clear_, run_underlying ht, hv, hst]
 ·exact grown_sets g _ a w
end

section
open Go.RowKit Go.Sort Go.Shelf Go.Lib
theorem Own.congr {x : World} {B : Nat} {e : TypeId} {m n : Nat} {F G : Nat → Int} {v : Value} (h : Own x B e m n F v) (hF : ∀ p, p < n * m → F p = G p) : Own x B e m n G v := by
 have hv : vals F (n * m) = vals G (n * m) := by
  unfold vals
  refine List.map_congr_left (fun p hp => ?_)
  rw [hF p (List.mem_range.1 hp)]
 unfold Own at *
 rw [← hv]
 exact h
/-- A row under way: the kept structs L stand first, from number j on it is as it was. -/
def Mid (x : World) (g : Nat) (e : TypeId) (m n cap : Nat) (F : Nat → Int) (L : List (List Int)) (j : Nat) : Prop :=
 Blkk x g e (cap * m) ∧ (∀ p, p < L.length * m → x.cell? ⟨g, p, none⟩ = some (.int .i64 (L.flatten.getD p 0))) ∧ ∀ p, j * m ≤ p → p < n * m → x.cell? ⟨g, p, none⟩ = some (.int .i64 (F p))
theorem Mid.kept {x x' : World} {g : Nat} {e : TypeId} {m n cap : Nat} {F : Nat → Int} {L : List (List Int)} {j : Nat} (h : Mid x g e m n cap F L j) (hb : x'.heap[g]? = x.heap[g]?) : Mid x' g e m n cap F L j :=
 ⟨h.1.kept hb, fun p hp => (World.cell?_of_block (w := x) (a := ⟨g, p, none⟩) hb).trans (h.2.1 p hp), fun p h1 h2 => (World.cell?_of_block (w := x) (a := ⟨g, p, none⟩) hb).trans (h.2.2 p h1 h2)⟩
theorem Mid.later {x x' : World} {g : Nat} {e : TypeId} {m n cap : Nat} {F : Nat → Int} {L : List (List Int)} {j : Nat} (h : Mid x g e m n cap F L j) (hb : Below x.heap.size x x') : Mid x' g e m n cap F L j := h.kept (hb.block g h.1.lt)
theorem Mid.skip {x : World} {g : Nat} {e : TypeId} {m n cap : Nat} {F : Nat → Int} {L : List (List Int)} {j : Nat} (h : Mid x g e m n cap F L j) : Mid x g e m n cap F L (j + 1) := ⟨h.1, h.2.1, fun p h1 h2 => h.2.2 p (by rw [Nat.succ_mul] at h1; omega) h2⟩
theorem Mid.put {x : World} {g : Nat} {e : TypeId} {m n cap : Nat} {F : Nat → Int} {L : List (List Int)} {j : Nat} (h : Mid x g e m n cap F L j) (hL : ∀ t ∈ L, t.length = m) (t : List Int) (ht : t.length = m) (hj : L.length ≤ j) (hjn : j < n) (hn : n ≤ cap) : Mid (x.setCells g (L.length * m) (t.map (Value.int .i64))) g e m n cap F (L ++ [t]) (j + 1) := by
 have hle : (L.length + 1) * m ≤ cap * m := Nat.mul_le_mul_right m (by omega)
 have hlj : (L.length + 1) * m ≤ (j + 1) * m := Nat.mul_le_mul_right m (by omega)
 have hsm : (L.length + 1) * m = L.length * m + m := Nat.succ_mul _ _
 have hfl := flat_len L hL
 refine ⟨h.1.sets _ _ _, fun p hp => ?_, fun p h1 h2 => ?_⟩
 ·rw [List.length_append, List.length_singleton, hsm] at hp
  rw [List.flatten_append]
  rcases Nat.lt_or_ge p (L.length * m) with q | q
  ·rw [World.cell?_setCells_out g _ _ _ _ (fun _ _ => Or.inl q), h.2.1 p q]
   simp [List.getElem?_append, hfl, q]
  ·obtain ⟨r, rfl⟩ : ∃ r, p = L.length * m + r := ⟨p - L.length * m, by omega⟩
   have hr : r < t.length := by omega
   rw [World.cell?_setCells_in g (t.map (Value.int .i64)) (L.length * m) x (fun q hq => by
    have hq' : q < m := by simpa [ht] using hq
    obtain ⟨u, hu⟩ := (h.1.cell (p := L.length * m + q) (by omega)).1
    rw [hu]; rfl) r (by simpa using hr)]
   simp [hfl, hr]
 ·rw [World.cell?_setCells_out g _ _ _ _ (fun _ _ => Or.inr (by simp [ht]; omega))]
  exact h.2.2 p (by rw [Nat.succ_mul] at h1; omega) h2
end
end Go.Proofs.YtiadbiiiikhfaaaGreatDoor

namespace Go.Proofs.YtiadbiiiikhfaaaGreatDoor
section
open Go.RowKit
/-- The first N numbers. -/
def nums (F : Nat → Int) (N : Nat) : List Int := (List.range N).map F
theorem nums_length (F : Nat → Int) (N : Nat) : (nums F N).length = N := by simp [nums]
theorem nums_vals (F : Nat → Int) (N : Nat) : (nums F N).map (Value.int .i64) = vals F N := by simp [nums, vals]
theorem run_app (t ty e : TypeId) (i : TypeInfo) (z : Value) (m bytes : Nat) (ht : Tryz.prog.underlying t = some (.slice e)) (hi : Tryz.prog.info? e = some i) (hz : i.zero = some z) (hsize : i.size = m) (hby : i.bytes = bytes) (hzs : z.cells.size = m) (hm : 0 < m) (hb5 : bytes ≤ 1000)
  (w : World) (base n0 : Nat) (L : List Int) (v : Value) (hown : OwnM w base e m v n0 L) (B n : Nat) (F : Nat → Int) (x : Value) (h : Row w B m n F x) (hn : n0 + n ≤ 1048576) (hbase : base ≤ w.heap.size) :
  ∃ ao cp w', (Builtin.append_ #[t, t] ty #[v, x]).run Tryz.prog w = .ok (.slice ao (n0 + n) cp) w' ∧ OwnM w' base e m (.slice ao (n0 + n) cp) (n0 + n) (L ++ nums F (n * m)) ∧ w.grownBy w' v.ownBlock := by
 have hbb : (n0 + n) * bytes ≤ 1048576 * 1000 := Nat.mul_le_mul hn hb5
 obtain ⟨ao, cp, rfl⟩ := h.form
 cases ao with
 | none =>
  have e0 : n = 0 := by
   rcases Nat.eq_zero_or_pos n with q | q
   ·exact q
   ·obtain ⟨g, o, hg, _⟩ := h.at q
    cases hg
  subst e0
  obtain ⟨av, cv, rfl⟩ := hown.form
  refine ⟨av, cv, w, ?_, ?_, ⟨rfl, rfl, rfl, Nat.le_refl _, fun _ _ _ => rfl⟩⟩
  ·rcases hown.2 with ⟨q, _⟩ | ⟨g, cap, cur, q, _, _, hnc, _⟩
   ·cases q
    simp [Builtin.append_, run_underlying ht, sizeOf, typeInfo, hi, Builtin.lenOf, Builtin.firstCells]
   ·cases q
    simp [Builtin.append_, run_underlying ht, sizeOf, typeInfo, hi, Builtin.lenOf, Builtin.firstCells, hnc, storeCells]
  ·simpa [nums] using hown
 | some a =>
  obtain ⟨v', w', h1, h2, h3, _⟩ := run_append_own (P := Tryz.prog) w base t ty e i z m bytes ht hi hz hsize hby hzs hm v n0 _ hown a n cp (vals F (n * m)) (vals_length _ _) (row_cells h) (vals_one _ _) (by unfold maxLen; omega) (by omega) hbase
  have h2' : OwnM w' base e m v' (n0 + n) (L ++ nums F (n * m)) := by
   unfold OwnM
   rw [List.map_append, nums_vals]
   exact h2
  obtain ⟨ao', cp', rfl⟩ := h2'.form
  exact ⟨ao', cp', w', h1, h2', h3⟩
/-- The law for the walk. -/
theorem wpList_app (e : TypeId) (i : TypeInfo) (z : Value) (m bytes : Nat) {ops : Array Oper} {rest : List Oper} {o : Oper} {a : Act} {Q : Exit → Act → World → Prop} (hgd : o.guard = none) (s x : Operand) (t : TypeId) (ho : o.op = .call { callee := .builtin .append, args := #[s, x], argTypes := #[t, t] })
  (ht : Tryz.prog.underlying t = some (.slice e)) (hi : Tryz.prog.info? e = some i) (hz : i.zero = some z) (hsize : i.size = m) (hby : i.bytes = bytes) (hzs : z.cells.size = m) (hm : 0 < m) (hb5 : bytes ≤ 1000)
  (w : World) (base n0 : Nat) (L : List Int) (v : Value) (hs : a.eval s = v) (hown : OwnM w base e m v n0 L) (B n : Nat) (F : Nat → Int) (u : Value) (hx : a.eval x = u) (h : Row w B m n F u) (hn : n0 + n ≤ 1048576) (hbase : base ≤ w.heap.size)
  (hK : ∀ ao cp w', OwnM w' base e m (.slice ao (n0 + n) cp) (n0 + n) (L ++ nums F (n * m)) → w.grownBy w' v.ownBlock → wpList Tryz.prog ops Q rest (a.put o.dst (.slice ao (n0 + n) cp)) w') : wpList Tryz.prog ops Q (o :: rest) a w := by
 refine wpList_plain hgd fun K hK' => ?_
 obtain ⟨ao, cp, w', hr, h2, h3⟩ := run_app t o.type e i z m bytes ht hi hz hsize hby hzs hm hb5 w base n0 L v hown B n F u h hn hbase
 unfold Oper.wp execOp
 simp only [ho, resolve, invoke, builtin, Sem.run_bind, Sem.run_pure, Result.andThen_ok, List.map_toArray, List.map_cons, List.map_nil, hs, hx, hr]
 exact hK' _ _ (hK ao cp w' h2 h3)
/-- .. and at one operation. -/
theorem wp_app (e : TypeId) (i : TypeInfo) (z : Value) (m bytes : Nat) {o : Oper} {a : Act} {K : Act → World → Prop} {Q : Exit → Act → World → Prop} (s x : Operand) (t : TypeId) (ho : o.op = .call { callee := .builtin .append, args := #[s, x], argTypes := #[t, t] })
  (ht : Tryz.prog.underlying t = some (.slice e)) (hi : Tryz.prog.info? e = some i) (hz : i.zero = some z) (hsize : i.size = m) (hby : i.bytes = bytes) (hzs : z.cells.size = m) (hm : 0 < m) (hb5 : bytes ≤ 1000)
  (w : World) (base n0 : Nat) (L : List Int) (v : Value) (hs : a.eval s = v) (hown : OwnM w base e m v n0 L) (B n : Nat) (F : Nat → Int) (u : Value) (hx : a.eval x = u) (h : Row w B m n F u) (hn : n0 + n ≤ 1048576) (hbase : base ≤ w.heap.size)
  (hK : ∀ ao cp w', OwnM w' base e m (.slice ao (n0 + n) cp) (n0 + n) (L ++ nums F (n * m)) → w.grownBy w' v.ownBlock → K (a.put o.dst (.slice ao (n0 + n) cp)) w') : o.wp Tryz.prog a w K Q := by
 obtain ⟨ao, cp, w', hr, h2, h3⟩ := run_app t o.type e i z m bytes ht hi hz hsize hby hzs hm hb5 w base n0 L v hown B n F u h hn hbase
 unfold Oper.wp execOp
 simp only [ho, resolve, invoke, builtin, Sem.run_bind, Sem.run_pure, Result.andThen_ok, List.map_toArray, List.map_cons, List.map_nil, hs, hx, hr]
 exact hK ao cp w' h2 h3
/-- .. and at one step of a region that draws. -/
theorem step_app (e : TypeId) (i : TypeInfo) (z : Value) (m bytes : Nat) {ops : Array Oper} {o : Oper} {a : Act} {K : Act → World → Prop} {Q : Exit → Act → World → Prop} {E : Prop} (hgd : o.guard = none) (s x : Operand) (t : TypeId) (ho : o.op = .call { callee := .builtin .append, args := #[s, x], argTypes := #[t, t] })
  (ht : Tryz.prog.underlying t = some (.slice e)) (hi : Tryz.prog.info? e = some i) (hz : i.zero = some z) (hsize : i.size = m) (hby : i.bytes = bytes) (hzs : z.cells.size = m) (hm : 0 < m) (hb5 : bytes ≤ 1000)
  (w : World) (base n0 : Nat) (L : List Int) (v : Value) (hs : a.eval s = v) (hown : OwnM w base e m v n0 L) (B n : Nat) (F : Nat → Int) (u : Value) (hx : a.eval x = u) (h : Row w B m n F u) (hn : n0 + n ≤ 1048576) (hbase : base ≤ w.heap.size)
  (hK : ∀ ao cp w', OwnM w' base e m (.slice ao (n0 + n) cp) (n0 + n) (L ++ nums F (n * m)) → w.grownBy w' v.ownBlock → K (a.put o.dst (.slice ao (n0 + n) cp)) w') :
  if Region.wanted o (yielded ops a.tmps) = true then Oper.wp Tryz.prog o a w K Q else E := by
 have hw : Region.wanted o (yielded ops a.tmps) = true := by simp [Region.wanted, hgd]
 rw [if_pos hw]
 exact wp_app e i z m bytes s x t ho ht hi hz hsize hby hzs hm hb5 w base n0 L v hs hown B n F u hx h hn hbase hK
theorem OwnM.lit0 (Y : World) (b : Nat) (e : TypeId) (m : Nat) (hb : Y.heap.size = b) : OwnM (Y.alloc (.cells #[] e)) b e m (.slice (some ⟨b, 0, none⟩) 0 0) 0 [] := by
 subst hb
 exact World.ownsRow_lit Y #[] 0 (Nat.le_refl _) (Nat.zero_le _) (by simp)
/-- The first k elements, and those from k on. -/
theorem Row.head {w : World} {B m n : Nat} {F : Nat → Int} {ao : Option Addr} {cp : Nat} (h : Row w B m n F (.slice ao n cp)) {k : Nat} (hk : k ≤ n) (c' : Nat) : Row w B m k F (.slice ao k c') := by
 obtain ⟨ao', cp', hv, h⟩ := h
 simp only [Value.slice.injEq] at hv
 obtain ⟨rfl, _, _⟩ := hv
 refine ⟨_, _, rfl, fun hn => ?_⟩
 obtain ⟨g, o, ha, hB, hg, hc⟩ := h (by omega)
 exact ⟨g, o, ha, hB, hg, fun p hp => hc p (Nat.lt_of_lt_of_le hp (Nat.mul_le_mul_right m hk))⟩
theorem Row.tail {w : World} {B m n g o : Nat} {F : Nat → Int} {cp : Nat} (h : Row w B m n F (.slice (some ⟨g, o, none⟩) n cp)) {k : Nat} (hk : k < n) (c' : Nat) : Row w B m (n - k) (fun p => F (k * m + p)) (.slice (some ⟨g, o + k * m, none⟩) (n - k) c') := by
 obtain ⟨ao', cp', hv, h⟩ := h
 obtain ⟨g', o', ha, hB, hg, hc⟩ := h (by omega)
 simp only [Value.slice.injEq] at hv
 obtain ⟨rfl, _, _⟩ := hv
 simp only [Option.some.injEq, Addr.mk.injEq] at ha
 obtain ⟨rfl, rfl, _⟩ := ha
 refine ⟨_, _, rfl, fun _ => ⟨g, o + k * m, rfl, hB, hg, fun p hp => ?_⟩⟩
 rw [Nat.add_assoc]
 refine hc _ ?_
 have e1 : (n - k) * m = n * m - k * m := Nat.sub_mul n k m
 have e2 : k * m ≤ n * m := Nat.mul_le_mul_right m (by omega)
 omega
theorem Row.tailS {w : World} {B m n g o : Nat} {F : Nat → Int} {cp : Nat} (h : Row w B m n F (.slice (some ⟨g, o, none⟩) n cp)) {k : Nat} (hk : k < n) (hc : n ≤ cp) : Row w B m (n - k) (fun p => F (k * m + p)) (.slice (if cp = k then some ⟨g, o, none⟩ else some ⟨g, o + k * m, none⟩) (n - k) (cp - k)) := by
 rw [if_neg (by omega)]
 exact h.tail hk _
theorem Row.over (w : World) (B m n k : Nat) (F : Nat → Int) (ao : Option Addr) (c : Nat) (hk : ¬ k < n) : Row w B m (n - k) F (.slice ao (n - k) c) := ⟨_, _, rfl, fun q => by omega⟩
theorem OwnM.keptB {w w' : World} {B : Nat} {e : TypeId} {m : Nat} {v : Value} {n : Nat} {L : List Int} (h : OwnM w B e m v n L) (hb : ∀ k, v.ownBlock = some k → w'.heap[k]? = w.heap[k]?) : OwnM w' B e m v n L := by
 obtain ⟨h1, h2⟩ := h
 refine ⟨h1, ?_⟩
 rcases h2 with q | ⟨g, cap, cur, rfl, q1, q2, q3⟩
 ·exact Or.inl q
 ·exact Or.inr ⟨g, cap, cur, rfl, q1, (hb g rfl).trans q2, q3⟩
theorem OwnM.set {w : World} {B : Nat} {e : TypeId} {m : Nat} {v : Value} {n : Nat} {L : List Int} (h : OwnM w B e m v n L) {c : Nat} (hc : ∀ k, v.ownBlock = some k → k ≠ c) (j : Nat) (u : Value) : OwnM (w.setCell ⟨c, j, none⟩ u) B e m v n L :=
 h.keptB (fun k hk => Below.heap_setCell w _ u k (hc k hk))
theorem run_appL (t ty e : TypeId) (i : TypeInfo) (z : Value) (m bytes : Nat) (ht : Tryz.prog.underlying t = some (.slice e)) (hi : Tryz.prog.info? e = some i) (hz : i.zero = some z) (hsize : i.size = m) (hby : i.bytes = bytes) (hzs : z.cells.size = m) (hm : 0 < m) (hb5 : bytes ≤ 1000)
  (w : World) (base n0 : Nat) (L : List Int) (v : Value) (hown : OwnM w base e m v n0 L) (B n : Nat) (F : Nat → Int) (x : Value) (h : Row w B m n F x) (hn : n0 + n ≤ 1048576) (hbase : base ≤ w.heap.size) :
  ∃ ao cp w', (Builtin.append_ #[t, t] ty #[v, x]).run Tryz.prog w = .ok (.slice ao (n0 + n) cp) w' ∧ OwnM w' base e m (.slice ao (n0 + n) cp) (n0 + n) (L ++ nums F (n * m)) ∧ w.grownBy w' v.ownBlock ∧ ((Value.slice ao (n0 + n) cp).ownBlock = v.ownBlock ∨ (Value.slice ao (n0 + n) cp).ownBlock = some w.heap.size) := by
 have hbb : (n0 + n) * bytes ≤ 1048576 * 1000 := Nat.mul_le_mul hn hb5
 obtain ⟨ao, cp, rfl⟩ := h.form
 cases ao with
 | none =>
  have e0 : n = 0 := by
   rcases Nat.eq_zero_or_pos n with q | q
   ·exact q
   ·obtain ⟨g, o, hg, _⟩ := h.at q
    cases hg
  subst e0
  obtain ⟨av, cv, rfl⟩ := hown.form
  refine ⟨av, cv, w, ?_, ?_, ⟨rfl, rfl, rfl, Nat.le_refl _, fun _ _ _ => rfl⟩, Or.inl rfl⟩
  ·rcases hown.2 with ⟨q, _⟩ | ⟨g, cap, cur, q, _, _, hnc, _⟩
   ·cases q
    simp [Builtin.append_, run_underlying ht, sizeOf, typeInfo, hi, Builtin.lenOf, Builtin.firstCells]
   ·cases q
    simp [Builtin.append_, run_underlying ht, sizeOf, typeInfo, hi, Builtin.lenOf, Builtin.firstCells, hnc, storeCells]
  ·simpa [nums] using hown
 | some a =>
  obtain ⟨v', w', h1, h2, h3, _, h5⟩ := run_append_own_at (P := Tryz.prog) w base t ty e i z m bytes ht hi hz hsize hby hzs hm v n0 _ hown a n cp (vals F (n * m)) (vals_length _ _) (row_cells h) (vals_one _ _) (by unfold maxLen; omega) (by omega) hbase
  have h2' : OwnM w' base e m v' (n0 + n) (L ++ nums F (n * m)) := by
   unfold OwnM
   rw [List.map_append, nums_vals]
   exact h2
  obtain ⟨ao', cp', rfl⟩ := h2'.form
  exact ⟨ao', cp', w', h1, h2', h3, h5⟩
theorem wp_appL (e : TypeId) (i : TypeInfo) (z : Value) (m bytes : Nat) {o : Oper} {a : Act} {K : Act → World → Prop} {Q : Exit → Act → World → Prop} (s x : Operand) (t : TypeId) (ho : o.op = .call { callee := .builtin .append, args := #[s, x], argTypes := #[t, t] })
  (ht : Tryz.prog.underlying t = some (.slice e)) (hi : Tryz.prog.info? e = some i) (hz : i.zero = some z) (hsize : i.size = m) (hby : i.bytes = bytes) (hzs : z.cells.size = m) (hm : 0 < m) (hb5 : bytes ≤ 1000)
  (w : World) (base n0 : Nat) (L : List Int) (v : Value) (hs : a.eval s = v) (hown : OwnM w base e m v n0 L) (B n : Nat) (F : Nat → Int) (u : Value) (hx : a.eval x = u) (h : Row w B m n F u) (hn : n0 + n ≤ 1048576) (hbase : base ≤ w.heap.size)
  (hK : ∀ ao cp w', OwnM w' base e m (.slice ao (n0 + n) cp) (n0 + n) (L ++ nums F (n * m)) → w.grownBy w' v.ownBlock → ((Value.slice ao (n0 + n) cp).ownBlock = v.ownBlock ∨ (Value.slice ao (n0 + n) cp).ownBlock = some w.heap.size) → K (a.put o.dst (.slice ao (n0 + n) cp)) w') : o.wp Tryz.prog a w K Q := by
 obtain ⟨ao, cp, w', hr, h2, h3, h5⟩ := run_appL t o.type e i z m bytes ht hi hz hsize hby hzs hm hb5 w base n0 L v hown B n F u h hn hbase
 unfold Oper.wp execOp
 simp only [ho, resolve, invoke, builtin, Sem.run_bind, Sem.run_pure, Result.andThen_ok, List.map_toArray, List.map_cons, List.map_nil, hs, hx, hr]
 exact hK ao cp w' h2 h3 h5
theorem step_appL (e : TypeId) (i : TypeInfo) (z : Value) (m bytes : Nat) {ops : Array Oper} {o : Oper} {a : Act} {K : Act → World → Prop} {Q : Exit → Act → World → Prop} {E : Prop} (hgd : o.guard = none) (s x : Operand) (t : TypeId) (ho : o.op = .call { callee := .builtin .append, args := #[s, x], argTypes := #[t, t] })
  (ht : Tryz.prog.underlying t = some (.slice e)) (hi : Tryz.prog.info? e = some i) (hz : i.zero = some z) (hsize : i.size = m) (hby : i.bytes = bytes) (hzs : z.cells.size = m) (hm : 0 < m) (hb5 : bytes ≤ 1000)
  (w : World) (base n0 : Nat) (L : List Int) (v : Value) (hs : a.eval s = v) (hown : OwnM w base e m v n0 L) (B n : Nat) (F : Nat → Int) (u : Value) (hx : a.eval x = u) (h : Row w B m n F u) (hn : n0 + n ≤ 1048576) (hbase : base ≤ w.heap.size)
  (hK : ∀ ao cp w', OwnM w' base e m (.slice ao (n0 + n) cp) (n0 + n) (L ++ nums F (n * m)) → w.grownBy w' v.ownBlock → ((Value.slice ao (n0 + n) cp).ownBlock = v.ownBlock ∨ (Value.slice ao (n0 + n) cp).ownBlock = some w.heap.size) → K (a.put o.dst (.slice ao (n0 + n) cp)) w') :
  if Region.wanted o (yielded ops a.tmps) = true then Oper.wp Tryz.prog o a w K Q else E := by
 have hw : Region.wanted o (yielded ops a.tmps) = true := by simp [Region.wanted, hgd]
 rw [if_pos hw]
 exact wp_appL e i z m bytes s x t ho ht hi hz hsize hby hzs hm hb5 w base n0 L v hs hown B n F u hx h hn hbase hK
end
end Go.Proofs.YtiadbiiiikhfaaaGreatDoor

