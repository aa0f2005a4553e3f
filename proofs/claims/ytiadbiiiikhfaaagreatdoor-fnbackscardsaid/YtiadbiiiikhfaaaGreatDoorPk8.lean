/-
 Own text, merged of StorC, InsM, PreE, PreH.
-/
import Derived.Test.YtiadbiiiikhfaaaGreatDoorPk7
namespace Go.Proofs.YtiadbiiiikhfaaaGreatDoor
open Go.RowKit

set_option maxRecDepth 100000 in
set_option maxHeartbeats 2000000 in
theorem implCellAt_any (S : Sto) (v0 v1 v2 : Value) (key start : Int) (B : Nat) (w : World) (h : St w B S v0 v1 v2) (hst : askF S key = 0 → Wf start) :
  Calls Tryz.prog 23 #[.agg #[v0, v1, v2], .int .i64 key, .int .i64 start] w fun e w' => e = .returned (.agg #[.int .i64 (cellAtC S key start), .int .i64 (cellAtV S key start)]) ∧ Below w.heap.size w w' := by
 obtain ⟨a0, c0, a1, c1, a2, c2, rfl, rfl, rfl⟩ := h.form
 have HE : Hid (CallEnv w B S (.slice a0 S.nc c0) (.slice a1 S.nl c1) (.slice a2 S.nw c2) (.int .i64 0) (.int .i64 0) ((w.alloc (.cells #[.slice a0 S.nc c0, .slice a1 S.nl c1, .slice a2 S.nw c2] 28)).alloc (.cells #[.int .i64 0, .int .i64 0] 42))) := CallEnv.new h _ _ _ _
 clear h
 by_cases hz : askF S key = 0
 case neg =>
  clear hst
  obtain ⟨f, hf⟩ : ∃ f, askF S key = f := ⟨_, rfl⟩
  have E : Hid (cellAtC S key start = f ∧ cellAtV S key start = 0) := ⟨by unfold cellAtC; rw [if_pos hz, hf], by unfold cellAtV; rw [if_pos hz]⟩
  have HF : Hid (askF S key = f) := hf
  have hfn : (f == 0) = false := beq_eq_false_iff_ne.2 (by rw [← hf]; exact hz)
  clear hz hf
  go_enter Tryz.func23, Tryz.ntmps23
  go_wp2_with fail
  refine (askFault_any S _ _ _ key B _ HE.out.2.2.1).mono ?_
  rw [HF.out]
  rintro e w1 ⟨rfl, q1⟩
  have HE : Hid (CallEnv w B S (.slice a0 S.nc c0) (.slice a1 S.nl c1) (.slice a2 S.nw c2) (.int .i64 0) (.int .i64 0) w1) := HE.out.later q1
  obtain ⟨⟨⟨p0, p1, p2⟩, _⟩, ⟨⟨r0, r1⟩, f0, f1⟩, _⟩ := HE.out
  clear q1
  go_wp2
  exact bodyPost_ret (v := .agg #[.int .i64 f, .int .i64 0]) (by simp [results, Tryz.results23, go_sem, r0, r1]) rfl ⟨by rw [E.out.1, E.out.2], (HE.out.2.2.2.setCell (Nat.le_succ _) _).setCell (Nat.le_succ _) _⟩
 have hst := hst hz
 have Z := storeF_zero (askF_zero hz).1
 have hw : Wf key := wf_small (faultOf_zero (askF_zero hz).2).1 (by have := (faultOf_zero (askF_zero hz).2).2; omega)
 have HZ : Hid (scan (cellF S.c) S.nc = 0 ∧ (S.nc ≤ 200 ∧ S.nl ≤ 200 ∧ S.nw ≤ 200)) := ⟨Z.2.1, Z.1⟩
 have HA : Hid (askF S key = 0) := hz
 clear Z
 by_cases hh : hasCell S S.nc key start
 ·obtain ⟨u, hu⟩ : ∃ u, cellM S S.nc key start = some u := Option.isSome_iff_exists.1 ((cellM_has S _ _ _).2 hh)
  have E : Hid (cellAtC S key start = 0 ∧ cellAtV S key start = u) := ⟨by unfold cellAtC; rw [if_neg (fun q => q hz), if_pos hh], by unfold cellAtV; rw [if_neg (fun q => q hz), hu]; rfl⟩
  have HU : Hid (cellM S S.nc key start = some u) := hu
  clear hu hh hz
  go_enter Tryz.func23, Tryz.ntmps23
  go_wp2_with fail
  refine (askFault_any S _ _ _ key B _ HE.out.2.2.1).mono ?_
  rw [HA.out]
  rintro e w1 ⟨rfl, q1⟩
  have HE : Hid (CallEnv w B S (.slice a0 S.nc c0) (.slice a1 S.nl c1) (.slice a2 S.nw c2) (.int .i64 0) (.int .i64 0) w1) := HE.out.later q1
  obtain ⟨⟨⟨p0, p1, p2⟩, _⟩, ⟨⟨r0, r1⟩, f0, f1⟩, _⟩ := HE.out
  clear q1
  go_wp2_with fail
  refine (columnsOf_any S B _ _ _ _ HE.out.2.2.1 HZ.out.2.1 HZ.out.2.2.1 HZ.out.2.2.2 HZ.out.1).mono ?_
  rintro e w2 ⟨b, g, u1, u2, rfl, hC, q1⟩
  clear p0 p1 p2 r0 r1 f0 f1
  have HE : Hid (CallEnv w B S (.slice a0 S.nc c0) (.slice a1 S.nl c1) (.slice a2 S.nw c2) (.int .i64 0) (.int .i64 0) w2) := HE.out.later q1
  obtain ⟨_, ⟨⟨r0, r1⟩, f0, f1⟩, _⟩ := HE.out
  have m0 := hC.2.2.1.1.1
  have hlk := hC.2.2.2.1.look hw hst
  rw [HU.out] at hlk
  clear q1 hC
  go_wp2
  exact bodyPost_ret (v := .agg #[.int .i64 0, .int .i64 u]) (by simp [results, Tryz.results23, go_sem, r0, r1]) rfl ⟨by rw [E.out.1, E.out.2], (HE.out.2.2.2.setCell (Nat.le_succ _) _).setCell (Nat.le_succ _) _⟩
 ·have hu : cellM S S.nc key start = none := by
   cases hq : cellM S S.nc key start with
   | none => rfl
   | some u => exact absurd ((cellM_has S _ _ _).1 (by rw [hq]; rfl)) hh
  have E : Hid (cellAtC S key start = 4 ∧ cellAtV S key start = 0) := ⟨by unfold cellAtC; rw [if_neg (fun q => q hz), if_neg hh], by unfold cellAtV; rw [if_neg (fun q => q hz), hu]; rfl⟩
  have HU : Hid (cellM S S.nc key start = none) := hu
  clear hu hh hz
  go_enter Tryz.func23, Tryz.ntmps23
  go_wp2_with fail
  refine (askFault_any S _ _ _ key B _ HE.out.2.2.1).mono ?_
  rw [HA.out]
  rintro e w1 ⟨rfl, q1⟩
  have HE : Hid (CallEnv w B S (.slice a0 S.nc c0) (.slice a1 S.nl c1) (.slice a2 S.nw c2) (.int .i64 0) (.int .i64 0) w1) := HE.out.later q1
  obtain ⟨⟨⟨p0, p1, p2⟩, _⟩, ⟨⟨r0, r1⟩, f0, f1⟩, _⟩ := HE.out
  clear q1
  go_wp2_with fail
  refine (columnsOf_any S B _ _ _ _ HE.out.2.2.1 HZ.out.2.1 HZ.out.2.2.1 HZ.out.2.2.2 HZ.out.1).mono ?_
  rintro e w2 ⟨b, g, u1, u2, rfl, hC, q1⟩
  clear p0 p1 p2 r0 r1 f0 f1
  have HE : Hid (CallEnv w B S (.slice a0 S.nc c0) (.slice a1 S.nl c1) (.slice a2 S.nw c2) (.int .i64 0) (.int .i64 0) w2) := HE.out.later q1
  obtain ⟨_, ⟨⟨r0, r1⟩, f0, f1⟩, _⟩ := HE.out
  have m0 := hC.2.2.1.1.1
  have hlk := hC.2.2.2.1.look hw hst
  rw [HU.out] at hlk
  clear q1 hC
  go_wp2
  exact bodyPost_ret (v := .agg #[.int .i64 4, .int .i64 0]) (by simp [results, Tryz.results23, go_sem, r0, r1]) rfl ⟨by rw [E.out.1, E.out.2], (HE.out.2.2.2.setCell (Nat.le_succ _) _).setCell (Nat.le_succ _) _⟩
end Go.Proofs.YtiadbiiiikhfaaaGreatDoor

namespace Go.Proofs.YtiadbiiiikhfaaaGreatDoor
section
open Go.RowKit Go.Lib
theorem sizeL : (Tryz.prog.info? 40).map (·.size) = some 5 := by kernel_rfl
theorem underL : Tryz.prog.underlying 25 = some (.slice 40) := by kernel_rfl

set_option maxHeartbeats 4000000 in
set_option maxRecDepth 100000 in
/-- There is room, i is a place ahead of the end: in place. -/
theorem insL_shift (w : World) (g n c i vb vc : Nat) (F : Nat → Int) (X : Nat → Int) (hb : Blkk w g 40 (c * 5)) (hroom : n + 1 ≤ c) (hc63 : c ≤ 9223372036854775807) (hi : i < n) (hF : ∀ p, p < n * 5 → w.cell? ⟨g, p, none⟩ = some (.int .i64 (F p)))
  (hvb : vb ≠ g) (hv : Blkk w vb 40 5) (hxs : ∀ p, p < 5 → w.cell? ⟨vb, p, none⟩ = some (.int .i64 (X p))) :
  Calls Tryz.prog 82 #[.slice (some ⟨g, 0, none⟩) n c, .int .i64 i, .slice (some ⟨vb, 0, none⟩) 1 vc] w fun e w' =>
   e = .returned (.slice (some ⟨g, 0, none⟩) (n + 1) c) ∧ w' = (w.drew.setCells g ((i + 1) * 5) (vals (fun p => F (i * 5 + p)) ((n - i) * 5))).setCells g (i * 5) (vals X 5) := by
 have hz2 : ¬ ((i : Int) = (n : Int)) := by omega
 have hov : ∀ lb cb, (callFunc 107 #[.slice (some ⟨vb, 0, none⟩) 1 vc, .slice (some ⟨g, (i + 1) * 5, none⟩) lb cb]).run Tryz.prog w = .ok (.value (.bool false)) w := fun lb cb => by
  rw [run_callFunc_extern Tryz.func107 (by kernel_rfl) (by kernel_rfl) (by kernel_rfl) (e := Extern.SlicesOverlaps.overlaps #[25, 25] #[4]) (by kernel_rfl),
   Lib.run_overlaps_apart w _ _ 40 underL 5 (fun w => by kernel_rfl) ⟨vb, 0, none⟩ ⟨g, (i + 1) * 5, none⟩ 1 vc lb cb hvb _ _ _ _ hv.shape hb.shape (by omega) (hv.frozen _) (hv.frozen _)]
  rfl
 have hw1 : IntKind.i64.wrap ((i : Int) + 1) = (i : Int) + 1 := by rw [IntKind.wrap_i64]; omega
 have hw2 : IntKind.i64.wrap ((n : Int) + 1) = (n : Int) + 1 := by rw [IntKind.wrap_i64]; omega
 have hb1 : (0 : Int) ≤ (i : Int) + 1 := by omega
 have hin : i ≤ n := by omega
 have htn : ((i : Int) + 1).toNat = i + 1 := by omega
 have htn' : ((n : Int) + 1).toNat = n + 1 := by omega
 have hb2 : ¬ (c = i + 1) := by omega
 have hb3 : (i : Int) ≤ (n : Int) + 1 := by omega
 have hb4 : ¬ (c = i) := by omega
 have hb5 : ¬ ((c : Int) < (n : Int) + 1) := by omega
 have hb6 : (0 : Int) ≤ (n : Int) + 1 := by omega
 have hb7 : (n : Int) + 1 ≤ (c : Int) := by omega
 have hb8 : (i : Int) + 1 ≤ (n : Int) + 1 := by omega
 have hm1 : (n + 1) * 5 ≤ c * 5 := Nat.mul_le_mul_right 5 hroom
 have hcp1 : ∀ ty dc sc, (Builtin.copy_ #[25, 25] ty #[.slice (some ⟨g, (i + 1) * 5, none⟩) (n - i) dc, .slice (some ⟨g, i * 5, none⟩) (n + 1 - i) sc]).run Tryz.prog w.drew = .ok (goInt (Nat.min (n + 1 - i) (n - i))) (w.drew.setCells g ((i + 1) * 5) (vals (fun p => F (i * 5 + p)) ((n - i) * 5))) := fun ty dc sc =>
  run_copyM w.drew _ _ ty 40 5 g _ _ dc ⟨g, i * 5, none⟩ _ sc _ underL sizeL (by rw [vals_length]; congr 1; simp only [Nat.min_def]; split <;> omega)
   (fun j v hj => by obtain ⟨h1, rfl⟩ := vals_inv hj; rw [Addr.add_lit]; exact hF _ (by omega))
   (fun j hj => by rw [vals_length] at hj; exact hb.any (by omega)) (fun j hj => hb.frozen _) (vals_one _ _)
 obtain ⟨W1, hW1⟩ : ∃ W1, W1 = w.drew.setCells g ((i + 1) * 5) (vals (fun p => F (i * 5 + p)) ((n - i) * 5)) := ⟨_, rfl⟩
 have hbW : Blkk W1 g 40 (c * 5) := by rw [hW1]; exact Blkk.sets _ _ _ hb
 have hcp2 : ∀ ty dc, (Builtin.copy_ #[25, 25] ty #[.slice (some ⟨g, i * 5, none⟩) (n + 1 - i) dc, .slice (some ⟨vb, 0, none⟩) 1 vc]).run Tryz.prog W1 = .ok (goInt (Nat.min 1 (n + 1 - i))) (W1.setCells g (i * 5) (vals X 5)) := fun ty dc =>
  run_copyM W1 _ _ ty 40 5 g _ _ dc ⟨vb, 0, none⟩ 1 vc _ underL sizeL (by rw [vals_length]; simp only [Nat.min_def]; split <;> omega)
   (fun j v hj => by
    obtain ⟨h1, rfl⟩ := vals_inv hj
    rw [Addr.add_lit, hW1, World.cell?_setCells_out g _ _ _ _ (fun h _ => absurd h hvb), Nat.zero_add]
    exact hxs j h1)
   (fun j hj => by rw [vals_length] at hj; exact hbW.any (by omega)) (fun j hj => hbW.frozen _) (vals_one _ _)
 subst hW1
 clear hF hxs hb hv hbW
 go_enter Tryz.func82, Tryz.ntmps82
 go_wp2_with (simp only [hov])
 go_region_law (refine step_copyM rfl _ _ 25 25 rfl _ _ (by simp [Act.eval, Act.put]) (by simp [Act.eval, Act.put]) (hcp1 _ _ _) ?_)
 go_wp2_with (simp only [hcp2])
 go_ret
 exact ⟨rfl, rfl⟩

set_option maxHeartbeats 4000000 in
set_option maxRecDepth 100000 in
/-- There is no room, i is a place ahead of the end: a new row. -/
theorem insL_grow (w : World) (g n c i vb vc : Nat) (F : Nat → Int) (X : Nat → Int) (hb : Blkk w g 40 (c * 5)) (hnc : n ≤ c) (hroom : c < n + 1) (hn : n ≤ 1048576) (hi : i < n) (hF : ∀ p, p < n * 5 → w.cell? ⟨g, p, none⟩ = some (.int .i64 (F p)))
  (hv : Blkk w vb 40 5) (hxs : ∀ p, p < 5 → w.cell? ⟨vb, p, none⟩ = some (.int .i64 (X p))) :
  Calls Tryz.prog 82 #[.slice (some ⟨g, 0, none⟩) n c, .int .i64 i, .slice (some ⟨vb, 0, none⟩) 1 vc] w fun e w' =>
   ∃ G ROW, (G ≤ maxLen ∧ n + 1 ≤ G ∧ ROW.size = G * 5 ∧ (∀ p, p < i * 5 → ROW[p]? = some (.int .i64 (F p)))) ∧ e = .returned (.slice (some ⟨w.heap.size, 0, none⟩) (n + 1) G) ∧ w' = (((w.alloc (.cells ROW 40)).drew.setCells w.heap.size (i * 5) (vals X 5)).drew).setCells w.heap.size ((i + 1) * 5) (vals (fun p => F (i * 5 + p)) ((n - i) * 5)) := by
 have hz2 : ¬ ((i : Int) = (n : Int)) := by omega
 have hz3 : (c : Int) < (n : Int) + 1 := by omega
 obtain ⟨i0, hi0, hz0, hzs, hzb⟩ := info_parts infoz_Lock
 have hgw := hb.lt
 have hvw := hv.lt
 have hkk : (n : Int) + 1 - (i : Int) = ((n + 1 - i : Nat) : Int) := by omega
 have hik : i + (n + 1 - i) = n + 1 := by omega
 have hmi : i * 5 ≤ n * 5 := Nat.mul_le_mul_right 5 (by omega)
 have hold : (Builtin.firstCells i0.size i (.slice (some ⟨g, 0, none⟩) i c)).run Tryz.prog w.drew = .ok (vals F (i * 5)).toArray w.drew := by
  rw [hzs]
  exact run_firstCells_some w.drew 5 i ⟨g, 0, none⟩ i c (vals F (i * 5)) (by rw [vals_length]) (fun j v hj => by
   obtain ⟨h1, rfl⟩ := vals_inv hj
   rw [Addr.add_lit, Nat.zero_add]
   exact hF j (by omega))
 have hrz : ∀ ty, ∃ G ROW, (G ≤ maxLen ∧ n + 1 ≤ G ∧ ROW.size = G * 5 ∧ (∀ p, p < i * 5 → ROW[p]? = some (.int .i64 (F p)))) ∧ (Builtin.append_ #[25, 3] ty #[.slice (some ⟨g, 0, none⟩) i c, .int .i64 ((n : Int) + 1 - (i : Int))]).run Tryz.prog w = .ok (.slice (some ⟨w.heap.size, 0, none⟩) (n + 1) G) (w.drew.alloc (.cells ROW 40)) := fun ty => by
  have h := Lib.run_append_grow_zeros w 25 3 ty 40 i0 _ .i64 .i64 underL (by kernel_rfl) hi0 hz0 (some ⟨g, 0, none⟩) i c (vals F (i * 5)) hold (n + 1 - i) (by omega) (by omega) (by omega) (by omega) (by rw [hzb]; omega) (by rw [hzb, hik]; exact growslice_fits hroom (by omega))
  rw [hik] at h
  rw [hkk]
  have hG1 := grownCap_ge w (n + 1) c 40
  have hG2 := grownCap_le_maxLen w (n + 1) c 40 (by unfold maxLen; omega)
  refine ⟨_, _, ⟨hG2, hG1, ?_, ?_⟩, h⟩
  ·simp [Builtin.zeroCells, Value.cells, vals_length]
   omega
  ·intro p hp
   rw [Array.append_assoc, Array.getElem?_append_left (by simp [vals_length]; exact hp)]
   simp [vals, hp]
 obtain ⟨G, ROW, hG, hrw⟩ := hrz 25
 clear hrz
 obtain ⟨hG63, hGn, hRl, hR⟩ := hG
 have hm1 : (n + 1) * 5 ≤ G * 5 := Nat.mul_le_mul_right 5 hGn
 have hN : Blkk (w.alloc (.cells ROW 40)).drew w.heap.size 40 (G * 5) := (Blkk.made w ROW _ _ hRl).drew
 have hOb : ∀ j b, b < w.heap.size → (w.alloc (.cells ROW 40)).drew.cell? ⟨b, j, none⟩ = w.cell? ⟨b, j, none⟩ := fun j b h => by rw [drew_cell]; exact World.cell?_alloc_past (w := w) _ b j h
 have hcpA' : ∀ ty dc, (Builtin.copy_ #[25, 25] ty #[.slice (some ⟨w.heap.size, i * 5, none⟩) (n + 1 - i) dc, .slice (some ⟨vb, 0, none⟩) 1 vc]).run Tryz.prog (w.alloc (.cells ROW 40)).drew = .ok (goInt (Nat.min 1 (n + 1 - i))) ((w.alloc (.cells ROW 40)).drew.setCells w.heap.size (i * 5) (vals X 5)) := fun ty dc =>
  run_copyM _ _ _ ty 40 5 w.heap.size _ _ dc ⟨vb, 0, none⟩ 1 vc _ underL sizeL (by rw [vals_length]; simp only [Nat.min_def]; split <;> omega)
   (fun j v hj => by
    obtain ⟨h1, rfl⟩ := vals_inv hj
    rw [Addr.add_lit, hOb _ _ hvw, Nat.zero_add]
    exact hxs j h1)
   (fun j hj => by rw [vals_length] at hj; exact hN.any (by omega)) (fun j hj => hN.frozen _) (vals_one _ _)
 obtain ⟨W2, hW2⟩ : ∃ W2, W2 = (w.alloc (.cells ROW 40)).drew.setCells w.heap.size (i * 5) (vals X 5) := ⟨_, rfl⟩
 have hN2 : Blkk W2.drew w.heap.size 40 (G * 5) := by rw [hW2]; exact (Blkk.sets _ _ _ hN).drew
 have hcpB' : ∀ ty dc sc, (Builtin.copy_ #[25, 25] ty #[.slice (some ⟨w.heap.size, (i + 1) * 5, none⟩) (n - i) dc, .slice (some ⟨g, i * 5, none⟩) (n - i) sc]).run Tryz.prog W2.drew = .ok (goInt (Nat.min (n - i) (n - i))) (W2.drew.setCells w.heap.size ((i + 1) * 5) (vals (fun p => F (i * 5 + p)) ((n - i) * 5))) := fun ty dc sc =>
  run_copyM _ _ _ ty 40 5 w.heap.size _ _ dc ⟨g, i * 5, none⟩ _ sc _ underL sizeL (by rw [vals_length]; congr 1; simp only [Nat.min_def]; split <;> omega)
   (fun j v hj => by
    obtain ⟨h1, rfl⟩ := vals_inv hj
    rw [Addr.add_lit, drew_cell, hW2, World.cell?_setCells_out _ _ _ _ _ (fun h _ => absurd h (show g ≠ w.heap.size by omega)), hOb _ _ hgw]
    exact hF _ (by omega))
   (fun j hj => by rw [vals_length] at hj; exact hN2.any (by omega)) (fun j hj => hN2.frozen _) (vals_one _ _)
 clear hN2
 subst hW2
 have hG63' : G ≤ 9223372036854775807 := by unfold maxLen at hG63; omega
 have hGi : ¬ (G = i) := by omega
 have hGim : ¬ (G = i + 1) := by omega
 have hci : ¬ (c = i) := by omega
 have hw1 : IntKind.i64.wrap ((i : Int) + 1) = (i : Int) + 1 := by rw [IntKind.wrap_i64]; omega
 have hw2 : IntKind.i64.wrap ((n : Int) + 1) = (n : Int) + 1 := by rw [IntKind.wrap_i64]; omega
 have hw3 : IntKind.i64.wrap ((n : Int) + 1 - (i : Int)) = (n : Int) + 1 - (i : Int) := by rw [IntKind.wrap_i64]; omega
 have hb1 : (0 : Int) ≤ (i : Int) + 1 := by omega
 have hin : i ≤ n := by omega
 have htn : ((i : Int) + 1).toNat = i + 1 := by omega
 have hb3 : (i : Int) ≤ (n : Int) := by omega
 have hb8 : (i : Int) + 1 ≤ (n : Int) + 1 := by omega
 have hb9 : (i : Int) ≤ (n : Int) + 1 := by omega
 refine Calls.mono (R := fun e w' => e = .returned (.slice (some ⟨w.heap.size, 0, none⟩) (n + 1) G) ∧ w' = (((w.alloc (.cells ROW 40)).drew.setCells w.heap.size (i * 5) (vals X 5)).drew).setCells w.heap.size ((i + 1) * 5) (vals (fun p => F (i * 5 + p)) ((n - i) * 5))) ?_ (fun e w' h => ⟨G, ROW, ⟨hG63, hGn, hRl, hR⟩, h.1, h.2⟩)
 clear hkk hik hold hRl hR hG63 hN hOb hF hxs hb hv hi0 hz0 hzs hzb hm1 hmi
 go_enter Tryz.func82, Tryz.ntmps82
 go_wp2_with (first | (at_builtin; refine wpList_appM _ rfl _ _ 25 3 rfl (.slice (some ⟨g, 0, none⟩) i c) (.int .i64 ((n : Int) + 1 - (i : Int))) rfl rfl hrw ?_) | (simp only [hcpA']))
 go_region_law (refine step_copyM rfl _ _ 25 25 rfl _ _ (by simp [Act.eval, Act.put]) (by simp [Act.eval, Act.put]) (hcpB' _ _ _) ?_)
 go_wp2
 go_ret
 exact ⟨rfl, rfl⟩
end

section
open Go.RowKit Go.Lib
/-- What slices.Insert answers: the row with the struct at place i; nothing else has turned but the row's own block. -/
def InsL (w : World) (B n i : Nat) (F : Nat → Int) (xs : List Int) (v : Value) (e : Ending) (w' : World) : Prop :=
 ∃ ao cp, e = .returned (.slice ao (n + 1) cp) ∧ Own w' B 40 5 (n + 1) (insF F 5 n i xs) (.slice ao (n + 1) cp) ∧ w.grownBy w' v.ownBlock ∧ ∀ q, (Value.slice ao (n + 1) cp).ownBlock = some q → v.ownBlock = some q ∨ w.heap.size ≤ q
set_option maxHeartbeats 4000000 in
set_option maxRecDepth 100000 in
theorem insL_end (w : World) (B n vb vc : Nat) (F : Nat → Int) (xs : List Int) (v : Value) (hx : xs.length = 5) (h : Own w B 40 5 n F v) (hB : B ≤ w.heap.size) (hn : n < 1048576)
  (hv : Blkk w vb 40 5) (hxs : ∀ p, p < 5 → w.cell? ⟨vb, p, none⟩ = some (.int .i64 (xs.getD p 0))) :
  Calls Tryz.prog 82 #[v, .int .i64 n, .slice (some ⟨vb, 0, none⟩) 1 vc] w (InsL w B n n F xs v) := by
 have hrow : Row w 0 5 1 (fun p => xs.getD p 0) (.slice (some ⟨vb, 0, none⟩) 1 vc) := ⟨_, _, rfl, fun _ => ⟨vb, 0, rfl, Nat.zero_le _, hv.lt, fun p hp => by rw [Nat.zero_add]; exact hxs p (by omega)⟩⟩
 have hown : OwnM w B 40 5 v n (nums F (n * 5)) := by unfold OwnM; rw [nums_vals]; exact h
 obtain ⟨i0, hi0, hz0, hzs, hzb⟩ := info_parts infoz_Lock
 have hend : ∀ ao cp w', OwnM w' B 40 5 (.slice ao (n + 1) cp) (n + 1) (nums F (n * 5) ++ nums (fun p => xs.getD p 0) (1 * 5)) → w.grownBy w' v.ownBlock → (∀ q, (Value.slice ao (n + 1) cp).ownBlock = some q → v.ownBlock = some q ∨ w.heap.size ≤ q) → InsL w B n n F xs v (.returned (.slice ao (n + 1) cp)) w' := fun ao cp w' h1 h2 h3 => by
  refine ⟨ao, cp, rfl, (h1.own (by simp [nums_length]; omega)).congr (fun p hp => ?_), h2, h3⟩
  by_cases a1 : p < n * 5
  ·rw [insF_lt a1, List.getD_eq_getElem?_getD, List.getElem?_append_left (by rw [nums_length]; exact a1)]
   simp [nums, a1]
  ·have := insF_at (F := F) (n := n) (i := n) (p := p - n * 5) hx (by omega)
   rw [show n * 5 + (p - n * 5) = p by omega] at this
   rw [this, List.getD_eq_getElem?_getD, List.getElem?_append_right (by rw [nums_length]; omega), nums_length]
   simp [nums, show p - n * 5 < 5 by omega]
 obtain ⟨POST, hP⟩ : ∃ POST, POST = InsL w B n n F xs v := ⟨_, rfl⟩
 rw [← hP] at hend ⊢
 obtain ⟨ao, cp, rfl⟩ := h.form
 have hrun : ∀ ty, ∃ ao' cp' w', (Builtin.append_ #[25, 25] ty #[.slice ao n cp, .slice (some ⟨vb, 0, none⟩) 1 vc]).run Tryz.prog w = .ok (.slice ao' (n + 1) cp') w' ∧ POST (.returned (.slice ao' (n + 1) cp')) w' := fun ty => by
  obtain ⟨ao', cp', w', h1, h2, h3⟩ := run_app 25 ty 40 i0 _ 5 _ underL hi0 hz0 hzs hzb rfl (by omega) (by omega) w B n _ _ hown 0 1 _ _ hrow (by omega) hB
  have h4 := app_block 25 ty 40 i0 _ 5 _ underL hi0 hz0 hzs hzb (by omega) w B n F (fun p => xs.getD p 0) _ h (by omega) ⟨vb, 0, none⟩ vc (fun p hp => by rw [Addr.add_lit, Nat.zero_add]; exact hxs p hp) h1
  exact ⟨ao', cp', w', h1, hend _ _ _ h2 h3 h4⟩
 obtain ⟨ao', cp', w', hr, hfin⟩ := hrun 25
 clear hrun hend hown hrow hv hxs hP hi0 hz0 hzs hzb
 rcases h.parts with ⟨q, rfl⟩ | ⟨g, cap, q, _, hnc, hcm, _⟩
 ·cases q
  clear h
  go_enter Tryz.func82, Tryz.ntmps82
  go_wp2_with (at_builtin; refine wpList_appM _ rfl _ _ 25 25 rfl (.slice none 0 0) (.slice (some ⟨vb, 0, none⟩) 1 vc) rfl rfl hr ?_)
  exact hfin
 ·cases q
  clear h
  unfold maxLen at hcm
  by_cases hcn : cp = n
  ·subst hcn
   go_enter Tryz.func82, Tryz.ntmps82
   go_wp2_with (at_builtin; refine wpList_appM _ rfl _ _ 25 25 rfl (.slice (some ⟨g, 0, none⟩) cp cp) (.slice (some ⟨vb, 0, none⟩) 1 vc) rfl rfl hr ?_)
   exact hfin
  ·go_enter Tryz.func82, Tryz.ntmps82
   go_wp2_with (at_builtin; refine wpList_appM _ rfl _ _ 25 25 rfl (.slice (some ⟨g, 0, none⟩) n cp) (.slice (some ⟨vb, 0, none⟩) 1 vc) rfl rfl hr ?_)
   exact hfin
/-- slices.Insert of one struct. -/
theorem insL_any (w : World) (B n i vb vc : Nat) (F : Nat → Int) (xs : List Int) (v : Value) (hx : xs.length = 5) (h : Own w B 40 5 n F v) (hB : B ≤ w.heap.size) (hn : n < 1048576) (hi : i ≤ n)
  (hvb : v.ownBlock ≠ some vb) (hv : Blkk w vb 40 5) (hxs : ∀ p, p < 5 → w.cell? ⟨vb, p, none⟩ = some (.int .i64 (xs.getD p 0))) :
  Calls Tryz.prog 82 #[v, .int .i64 i, .slice (some ⟨vb, 0, none⟩) 1 vc] w (InsL w B n i F xs v) := by
 rcases Nat.eq_or_lt_of_le hi with rfl | hi
 ·exact insL_end w B _ vb vc F xs v hx h hB hn hv hxs
 ·rcases h.parts with ⟨rfl, rfl⟩ | ⟨g, c, rfl, hg, hnc, hcm, hb, hF⟩
  ·exact absurd hi (Nat.not_lt_zero _)
  ·have hgv : vb ≠ g := fun e => hvb (by rw [e]; rfl)
   have hm3 : (n - i) * 5 + i * 5 = n * 5 := by rw [← Nat.add_mul]; congr 1; omega
   by_cases hr : n + 1 ≤ c
   ·have hm1 : (n + 1) * 5 ≤ c * 5 := Nat.mul_le_mul_right 5 hr
    refine (insL_shift w g n c i vb vc F (fun p => xs.getD p 0) hb hr (by unfold maxLen at hcm; omega) hi hF hgv hv hxs).mono ?_
    rintro e w' ⟨rfl, rfl⟩
    have hb1 := Blkk.sets (vals (fun p => F (i * 5 + p)) ((n - i) * 5)) ((i + 1) * 5) w.drew hb
    refine ⟨_, _, rfl, own_of (Blkk.sets _ _ _ hb1) hg hr hcm (ins_cells hx (Nat.le_of_lt hi) (fun p hp => ?_) (fun p hp => ?_) (fun p hp => ?_)), ?_⟩
    ·rw [World.cell?_setCells_out g _ _ _ _ (fun _ _ => Or.inl hp), World.cell?_setCells_out g _ _ _ _ (fun _ _ => Or.inl (by show p < _; omega))]
     exact hF p (by omega)
    ·exact sets_in g (i * 5) 5 (fun p => xs.getD p 0) _ (fun j hj => hb1.any (by omega)) hp
    ·rw [World.cell?_setCells_out g _ _ _ _ (fun _ _ => Or.inr (by rw [vals_length]; show _ ≤ (i + 1) * 5 + p; omega))]
     exact sets_in g ((i + 1) * 5) ((n - i) * 5) (fun p => F (i * 5 + p)) w.drew (fun j hj => hb.drew.any (by omega)) hp
    ·exact ⟨grown_trans (grown_trans (grown_drew w _) (grown_sets g _ _ _)) (grown_sets g _ _ _), fun q hq => Or.inl hq⟩
   ·refine (insL_grow w g n c i vb vc F (fun p => xs.getD p 0) hb hnc (by omega) (by omega) hi hF hv hxs).mono ?_
    rintro e w' ⟨G, ROW, ⟨hG1, hG2, hG3, hG4⟩, rfl, rfl⟩
    have hm1 : (n + 1) * 5 ≤ G * 5 := Nat.mul_le_mul_right 5 hG2
    have hN : Blkk (w.alloc (.cells ROW 40)).drew w.heap.size 40 (G * 5) := (Blkk.made w ROW _ _ hG3).drew
    have hb1 : Blkk (((w.alloc (.cells ROW 40)).drew.setCells w.heap.size (i * 5) (vals (fun p => xs.getD p 0) 5)).drew) w.heap.size 40 (G * 5) := (Blkk.sets (vals (fun p => xs.getD p 0) 5) (i * 5) _ hN).drew
    refine ⟨_, _, rfl, own_of (Blkk.sets _ _ _ hb1) hB hG2 hG1 (ins_cells hx (Nat.le_of_lt hi) (fun p hp => ?_) (fun p hp => ?_) (fun p hp => ?_)), ?_⟩
    ·rw [World.cell?_setCells_out _ _ _ _ _ (fun _ _ => Or.inl (by show p < _; omega))]
     rw [drew_cell, World.cell?_setCells_out _ _ _ _ _ (fun _ _ => Or.inl hp), drew_cell, World.cell?_alloc_at (w := w) ROW _ w.heap.size p rfl]
     exact hG4 p hp
    ·rw [World.cell?_setCells_out _ _ _ _ _ (fun _ _ => Or.inl (by show i * 5 + p < _; omega))]
     rw [drew_cell]
     exact sets_in w.heap.size (i * 5) 5 (fun p => xs.getD p 0) ((w.alloc (.cells ROW 40)).drew) (fun j hj => hN.any (by omega)) hp
    ·exact sets_in w.heap.size ((i + 1) * 5) ((n - i) * 5) (fun p => F (i * 5 + p)) _ (fun j hj => hb1.any (by omega)) hp
    ·have g1 : w.grownBy (w.alloc (.cells ROW 40)).drew (some g) := grown_trans (grown_alloc w _ _) (grown_drew _ _)
     have g2 := grown_over g1 (grown_sets w.heap.size (vals (fun p => xs.getD p 0) 5) (i * 5) _) (Nat.le_refl _)
     have g3 := grown_trans g2 (grown_drew _ _)
     exact ⟨grown_over g3 (grown_sets w.heap.size (vals (fun p => F (i * 5 + p)) ((n - i) * 5)) ((i + 1) * 5) _) (Nat.le_refl _), fun q hq => by cases hq; exact Or.inr (Nat.le_refl _)⟩
end
end Go.Proofs.YtiadbiiiikhfaaaGreatDoor

namespace Go.Proofs.YtiadbiiiikhfaaaGreatDoor
section
open Go.RowKit Go.Maps
open Go.WideElems (rd_key rg_of)

theorem len_sub {α : Type} : ∀ (K L : List α), K.Pairwise (fun p q => p ≠ q) → (∀ x, x ∈ K → x ∈ L) → K.length ≤ L.length
 | [], _, _, _ => Nat.zero_le _
 | x :: K, L, hp, hs => by
  obtain ⟨L1, L2, rfl⟩ := List.append_of_mem (hs x (List.mem_cons_self ..))
  have hx := (List.pairwise_cons.1 hp).1
  have ih := len_sub K (L1 ++ L2) (List.pairwise_cons.1 hp).2 (fun y hy => by
   have h1 := hs y (List.mem_cons_of_mem _ hy)
   have h2 := hx y hy
   simp only [List.mem_append, List.mem_cons] at h1 ⊢
   rcases h1 with h1 | h1 | h1
   ·exact Or.inl h1
   ·exact absurd h1.symm h2
   ·exact Or.inr h1)
  simp at ih ⊢
  omega
/-- The map's keys are just those of a row: so many entries. -/
theorem PM.count {w : World} {b n : Nat} {m : Int → Int → Option Int} (h : PM w b n m) (L : List (Int × Int)) (hd : L.Pairwise (fun p q => p ≠ q)) (hw : ∀ p, p ∈ L → Wf p.1 ∧ Wf p.2) (hs : ∀ x y, Wf x → Wf y → ((m x y).isSome = true ↔ (x, y) ∈ L)) :
  ∃ D : DataW Unit, w.ownsMap Tryz.prog 105 (plainElem Tryz.prog 2) b n D ∧ Maps.size D = L.length := by
 obtain ⟨D, h, r⟩ := h
 refine ⟨D, h, ?_⟩
 have hK : ∃ es, D = .map es ∧ es.Pairwise (fun p q => p.1 ≠ q.1) ∧ ∀ p ∈ es, ∃ x y, p.1 = kp x y ∧ Wf x ∧ Wf y := by
  obtain ⟨es, e1, e2, _⟩ := h.entries placeKeyed
  refine ⟨es, e1, e2, ?_⟩
  obtain ⟨es', clock, _, F, _, e3⟩ := h
  rw [e1] at e3
  obtain rfl : es = _ := DataW.map.inj e3
  intro p hp
  obtain ⟨x, hx, rfl⟩ := List.mem_map.1 (mem_sorted.1 hp)
  obtain ⟨y, hy⟩ := F.reads x hx
  rw [rg_of hy]
  obtain ⟨a, c, _, e4, ha, hc⟩ := keyOf_place_inv (rd_key hy)
  exact ⟨a, c, e4, ha, hc⟩
 obtain ⟨es, rfl, hp, hk⟩ := hK
 rw [size_eq]
 have mem : ∀ x y, Wf x → Wf y → (kp x y ∈ es.map (·.1) ↔ (x, y) ∈ L) := by
  intro x y hx hy
  rw [← hs x y hx hy, ← (r x y hx hy).1, has_eq, List.any_eq_true]
  constructor
  ·intro q
   obtain ⟨p, h1, h2⟩ := List.mem_map.1 q
   refine ⟨p, h1, ?_⟩
   rw [h2, kp_same hx hy hx hy]
   simp
  ·rintro ⟨p, h1, h2⟩
   obtain ⟨x', y', e, hx', hy'⟩ := hk p h1
   rw [e, kp_same hx' hy' hx hy] at h2
   obtain ⟨rfl, rfl⟩ := of_decide_eq_true h2
   exact List.mem_map.2 ⟨p, h1, e⟩
 have h1 : (es.map (·.1)).length ≤ (L.map (fun p => kp p.1 p.2)).length := len_sub _ _ (List.pairwise_map.2 hp) (fun k hk' => by
  obtain ⟨p, h1, rfl⟩ := List.mem_map.1 hk'
  obtain ⟨x, y, e, hx, hy⟩ := hk p h1
  rw [e] at hk' ⊢
  exact List.mem_map.2 ⟨(x, y), (mem x y hx hy).1 hk', rfl⟩)
 have h2 : (L.map (fun p => kp p.1 p.2)).length ≤ (es.map (·.1)).length := by
  refine len_sub _ _ ?_ (fun k hk' => ?_)
  ·rw [List.pairwise_map]
   refine (List.Pairwise.imp_of_mem ?_ hd)
   rintro ⟨p1, p2⟩ ⟨q1, q2⟩ hp' hq' hne e
   obtain ⟨e1, e2⟩ := kp_inj (hw _ hp').1 (hw _ hp').2 (hw _ hq').1 (hw _ hq').2 e
   exact hne (by simp at e1 e2; rw [e1, e2])
  ·obtain ⟨p, h1, rfl⟩ := List.mem_map.1 hk'
   exact (mem p.1 p.2 (hw p h1).1 (hw p h1).2).2 h1
 simp at h1 h2
 omega
theorem PM.countRow {w : World} {b N n : Nat} {m : Int → Int → Option Int} {c : Nat → Int} (h : PM w b N m) (hm : MapRow m n c) :
  ∃ D : DataW Unit, w.ownsMap Tryz.prog 105 (plainElem Tryz.prog 2) b N D ∧ Maps.size D = n := by
 obtain ⟨hr, hw, ha, hs⟩ := hm
 have q1 : ((List.range n).map (fun i => (c (i * 3), c (i * 3 + 1)))).Pairwise (fun p q => p ≠ q) := by
  rw [List.pairwise_map]
  refine List.Pairwise.imp_of_mem ?_ List.pairwise_lt_range
  intro i j hi hj hij e
  exact (hr j (List.mem_range.1 hj) i hij).ne (by simpa using e)
 have q2 : ∀ p, p ∈ (List.range n).map (fun i => (c (i * 3), c (i * 3 + 1))) → Wf p.1 ∧ Wf p.2 := by
  intro p hp
  obtain ⟨i, hi, rfl⟩ := List.mem_map.1 hp
  exact hw i (List.mem_range.1 hi)
 have q3 : ∀ x y, Wf x → Wf y → ((m x y).isSome = true ↔ (x, y) ∈ (List.range n).map (fun i => (c (i * 3), c (i * 3 + 1)))) := by
  intro x y hx hy
  constructor
  ·intro q
   obtain ⟨u, hu⟩ := Option.isSome_iff_exists.1 q
   obtain ⟨i, hi, e1, e2, _⟩ := hs x y u hx hy hu
   exact List.mem_map.2 ⟨i, List.mem_range.2 hi, by simp [e1, e2]⟩
  ·intro q
   obtain ⟨i, hi, e⟩ := List.mem_map.1 q
   have e' : c (i * 3) = x ∧ c (i * 3 + 1) = y := by simpa using e
   rw [← e'.1, ← e'.2, ha i (List.mem_range.1 hi)]
   rfl
 obtain ⟨D, h1, h2⟩ := h.count _ q1 q2 q3
 exact ⟨D, h1, by simpa using h2⟩
end

section
open Go.RowKit Go.Maps
/-- A write of that start, or a put or a delete at that time or behind it. -/
def lateP (k : Nat → Int) (nw : Nat) (a s : Int) : Prop := (∃ i, firstW k nw a s i) ∨ ∃ i, lastW k nw a 100000 i ∧ s ≤ k (i * 4 + 1)
set_option maxRecDepth 100000 in
set_option maxHeartbeats 4000000 in
theorem isLate_is (B b N : Nat) (m : Int → Int → Option Int) (nl : Nat) (l : Nat → Int) (nw : Nat) (k : Nat → Int) (g : Nat) (u1 u2 : Value) (a s : Int) (w : World) (h : Cols w B b N m nl l nw k g u1 u2) (hw : nw ≤ 200) (hk : ∀ i, i < nw → 1 ≤ k (i * 4 + 3)) (r : Bool) (hr : r = true ↔ lateP k nw a s) :
  Calls Tryz.prog 78 #[.pointer (some ⟨b, 0, none⟩), .int .i64 a, .int .i64 s] w fun e w' => e = .returned (.bool r) ∧ Below w.heap.size w w' := by
 have H : Hid (Cols w B b N m nl l nw k g u1 u2) := h
 have HK : Hid (∀ i, i < nw → 1 ≤ k (i * 4 + 3)) := hk
 clear h hk
 by_cases hi : ∃ i, firstW k nw a s i
 ·obtain rfl : r = true := hr.2 (Or.inl hi)
  have HI : Hid (∃ i, firstW k nw a s i) := hi
  clear hr hi
  go_enter Tryz.func78, Tryz.ntmps78
  go_wp2_with fail
  refine (writeOf_any B b N m nl l nw k g u1 u2 a s _ H.out hw).mono ?_
  rintro e w1 ⟨v1, rfl, ht, q1⟩
  rcases ht with ⟨j, hj, rfl⟩ | ⟨hj, rfl⟩
  ·have HB : Hid (Below w.heap.size w (w1.alloc (.cells #[.int .i64 (k (j * 4)), .int .i64 (k (j * 4 + 1)), .int .i64 (k (j * 4 + 2)), .int .i64 (k (j * 4 + 3))] 55))) := q1.trans ((below_alloc w1 _).mono q1.size)
   clear hj HI H HK q1
   generalize k (j * 4) = n0 at *
   generalize k (j * 4 + 1) = n1 at *
   generalize k (j * 4 + 2) = n2 at *
   generalize k (j * 4 + 3) = n3 at *
   go_wp2
   go_ret
   exact ⟨rfl, HB.out⟩
  ·obtain ⟨i, hi⟩ := HI.out
   exact absurd hi (hj i)
 have HI : Hid (∀ i, ¬ firstW k nw a s i) := fun i q => hi ⟨i, q⟩
 have HR : Hid (r = true ↔ ∃ i, lastW k nw a 100000 i ∧ s ≤ k (i * 4 + 1)) := ⟨fun q => (hr.1 q).resolve_left hi, fun q => hr.2 (Or.inr q)⟩
 clear hr hi
 go_enter Tryz.func78, Tryz.ntmps78
 go_wp2_with fail
 refine (writeOf_any B b N m nl l nw k g u1 u2 a s _ H.out hw).mono ?_
 rintro e w1 ⟨v1, rfl, ht, q1⟩
 rcases ht with ⟨j, hj, rfl⟩ | ⟨hj, rfl⟩
 ·exact absurd hj (HI.out j)
 have HB : Hid (Below w.heap.size w (w1.alloc (.cells #[.int .i64 0, .int .i64 0, .int .i64 0, .int .i64 0] 55))) := q1.trans ((below_alloc w1 _).mono q1.size)
 clear hj q1
 go_wp2_with fail
 refine (lastWrite_any B b N m nl l nw k g u1 u2 a 100000 _ (H.out.later HB.out) hw HK.out).mono ?_
 rintro e w2 ⟨v2, rfl, ht, q2⟩
 rcases ht with ⟨j, hj, rfl⟩ | ⟨hj, rfl⟩
 ·have HB2 : Hid (Below w.heap.size w (w2.alloc (.cells #[.int .i64 (k (j * 4)), .int .i64 (k (j * 4 + 1)), .int .i64 (k (j * 4 + 2)), .int .i64 (k (j * 4 + 3))] 55))) := (HB.out.trans (q2.mono HB.out.size)).trans ((below_alloc w2 _).mono (Nat.le_trans HB.out.size q2.size))
  have hd : decide (s ≤ k (j * 4 + 1)) = r := by
   cases r with
   | true =>
    obtain ⟨i, h1, h2⟩ := HR.out.1 rfl
    obtain rfl : i = j := h1.one hj
    exact decide_eq_true h2
   | false =>
    exact decide_eq_false (fun q => Bool.false_ne_true (HR.out.2 ⟨j, hj, q⟩))
  clear hj HI H HK q2 HB HR
  generalize k (j * 4) = n0 at *
  generalize k (j * 4 + 1) = n1 at *
  generalize k (j * 4 + 2) = n2 at *
  generalize k (j * 4 + 3) = n3 at *
  subst hd
  go_wp2
  go_ret
  exact ⟨rfl, HB2.out⟩
 ·have HB2 : Hid (Below w.heap.size w (w2.alloc (.cells #[.int .i64 0, .int .i64 0, .int .i64 0, .int .i64 0] 55))) := (HB.out.trans (q2.mono HB.out.size)).trans ((below_alloc w2 _).mono (Nat.le_trans HB.out.size q2.size))
  obtain rfl : r = false := by
   cases r with
   | false => rfl
   | true => obtain ⟨i, h1, _⟩ := HR.out.1 rfl; exact absurd h1 (hj i)
  clear hj HI H HK q2 HB HR
  go_wp2
  go_ret
  exact ⟨rfl, HB2.out⟩
/-- What hasRoom sees: the columns' block, the lock's own block at L, the map and how many entries it has. -/
def RoomE (w : World) (b g N : Nat) (m : Int → Int → Option Int) (D : DataW Unit) (u1 : Value) (a s kd : Int) (x : World) : Prop :=
 (x.cell? ⟨b, 0, none⟩ = some (.map (some g)) ∧ x.cell? ⟨b, 1, none⟩ = some u1) ∧ (x.cell? ⟨w.heap.size, 0, none⟩ = some (.int .i64 a) ∧ x.cell? ⟨w.heap.size, 1, none⟩ = some (.int .i64 s) ∧ x.cell? ⟨w.heap.size, 2, none⟩ = some (.int .i64 kd)) ∧ PM x g N m ∧ x.ownsMap Tryz.prog 105 (plainElem Tryz.prog 2) g N D ∧ Below w.heap.size w x
theorem RoomE.drew {w x : World} {b g N : Nat} {m : Int → Int → Option Int} {D : DataW Unit} {u1 : Value} {a s kd : Int} (h : RoomE w b g N m D u1 a s kd x) : RoomE w b g N m D u1 a s kd x.drew := ⟨h.1, h.2.1, h.2.2.1.kept rfl, h.2.2.2.1, h.2.2.2.2.drew⟩
set_option maxRecDepth 100000 in
set_option maxHeartbeats 4000000 in
theorem hasRoom_full (B b N : Nat) (m : Int → Int → Option Int) (nl : Nat) (l : Nat → Int) (nw : Nat) (k : Nat → Int) (g : Nat) (u1 u2 : Value) (a s kd pr un : Int) (w : World) (h : Cols w B b N m nl l nw k g u1 u2) (hwa : Wf a) (hws : Wf s) (nc : Nat) (c : Nat → Int) (hm : MapRow m nc c) (ok : Bool) (hok : (m a s).isSome = ok) (hn : 200 ≤ nl) :
  Calls Tryz.prog 79 #[.pointer (some ⟨b, 0, none⟩), .agg #[.int .i64 a, .int .i64 s, .int .i64 kd, .int .i64 pr, .int .i64 un]] w fun e w' => e = .returned (.bool false) ∧ Below w.heap.size w w' := by
 obtain ⟨a1, c1, rfl⟩ := h.2.2.2.2.1.form
 obtain ⟨D, hD, hsz⟩ := h.2.2.2.1.countRow hm
 obtain ⟨⟨t0, t1, t2⟩, _⟩ := h.2.2.1
 have hlb := lt_cell t0
 have HE : Hid (RoomE w b g N m D (.slice a1 nl c1) a s kd (w.alloc (.cells #[.int .i64 a, .int .i64 s, .int .i64 kd, .int .i64 pr, .int .i64 un] 40))) := ⟨⟨((below_alloc w _).cell hlb).trans t0, ((below_alloc w _).cell hlb).trans t1⟩, ⟨World.cell?_alloc_mark w _ _ _ 0, World.cell?_alloc_mark w _ _ _ 1, World.cell?_alloc_mark w _ _ _ 2⟩, h.2.2.2.1.alloc _, by
  obtain ⟨es, clock, hb, r⟩ := hD
  exact ⟨es, clock, ((below_alloc w _).block _ h.2.2.2.1.lt).trans hb, r⟩, below_alloc _ _⟩
 clear h hD t0 t1 t2 hlb hm
 go_enter Tryz.func79, Tryz.ntmps79
 go_upto_region 1 with fail
 refine wp_region_held_drew (S := RoomE w b g N m D (.slice a1 nl c1) a s kd) (by kernel_rfl) HE.out.drew (fun hS => ?_)
 clear HE
 refine tkH 0 ?_ hS (fun wx hx => ?_) ?_; rotate_left
 ·obtain ⟨⟨hx0, hx1⟩, ⟨hx2, hx3, hx4⟩, hx5, hx6, _⟩ := hx; have hxl := hx5.look hwa hws; have hxn := hx6.len Tryz.underlying101 3; rw [hok] at hxl; rw [hsz] at hxn; clear hx5 hx6; go_simp; try with_reducible rfl
 refine tkH 1 ?_ hS (fun wx hx => ?_) ?_; rotate_left
 ·obtain ⟨⟨hx0, hx1⟩, ⟨hx2, hx3, hx4⟩, hx5, hx6, _⟩ := hx; have hxl := hx5.look hwa hws; have hxn := hx6.len Tryz.underlying101 3; rw [hok] at hxl; rw [hsz] at hxn; clear hx5 hx6; go_simp; try with_reducible rfl
 refine tkH 2 ?_ hS (fun wx hx => ?_) ?_; rotate_left
 ·obtain ⟨⟨hx0, hx1⟩, ⟨hx2, hx3, hx4⟩, hx5, hx6, _⟩ := hx; have hxl := hx5.look hwa hws; have hxn := hx6.len Tryz.underlying101 3; rw [hok] at hxl; rw [hsz] at hxn; clear hx5 hx6; go_simp; try with_reducible rfl
 refine tkH 3 ?_ hS (fun wx hx => ?_) ?_; rotate_left
 ·obtain ⟨⟨hx0, hx1⟩, ⟨hx2, hx3, hx4⟩, hx5, hx6, _⟩ := hx; have hxl := hx5.look hwa hws; have hxn := hx6.len Tryz.underlying101 3; rw [hok] at hxl; rw [hsz] at hxn; clear hx5 hx6; go_simp; try with_reducible rfl
 refine tkH 4 ?_ hS (fun wx hx => ?_) ?_; rotate_left
 ·obtain ⟨⟨hx0, hx1⟩, ⟨hx2, hx3, hx4⟩, hx5, hx6, _⟩ := hx; have hxl := hx5.look hwa hws; have hxn := hx6.len Tryz.underlying101 3; rw [hok] at hxl; rw [hsz] at hxn; clear hx5 hx6; go_simp; try with_reducible rfl
 refine tkH 5 ?_ hS (fun wx hx => ?_) ?_; rotate_left
 ·obtain ⟨⟨hx0, hx1⟩, ⟨hx2, hx3, hx4⟩, hx5, hx6, _⟩ := hx; have hxl := hx5.look hwa hws; have hxn := hx6.len Tryz.underlying101 3; rw [hok] at hxl; rw [hsz] at hxn; clear hx5 hx6; go_simp; try with_reducible rfl
 refine tkH 6 ?_ hS (fun wx hx => ?_) ?_; rotate_left
 ·obtain ⟨⟨hx0, hx1⟩, ⟨hx2, hx3, hx4⟩, hx5, hx6, _⟩ := hx; have hxl := hx5.look hwa hws; have hxn := hx6.len Tryz.underlying101 3; rw [hok] at hxl; rw [hsz] at hxn; clear hx5 hx6; go_simp; try with_reducible rfl
 refine tkH 7 ?_ hS (fun wx hx => ?_) ?_; rotate_left
 ·obtain ⟨⟨hx0, hx1⟩, ⟨hx2, hx3, hx4⟩, hx5, hx6, _⟩ := hx; have hxl := hx5.look hwa hws; have hxn := hx6.len Tryz.underlying101 3; rw [hok] at hxl; rw [hsz] at hxn; clear hx5 hx6; go_simp; try with_reducible rfl
 refine tkH 8 ?_ hS (fun wx hx => ?_) ?_; rotate_left
 ·obtain ⟨⟨hx0, hx1⟩, ⟨hx2, hx3, hx4⟩, hx5, hx6, _⟩ := hx; have hxl := hx5.look hwa hws; have hxn := hx6.len Tryz.underlying101 3; rw [hok] at hxl; rw [hsz] at hxn; clear hx5 hx6; go_simp; try with_reducible rfl
 refine tkH 9 ?_ hS (fun wx hx => ?_) ?_; rotate_left
 ·obtain ⟨⟨hx0, hx1⟩, ⟨hx2, hx3, hx4⟩, hx5, hx6, _⟩ := hx; have hxl := hx5.look hwa hws; have hxn := hx6.len Tryz.underlying101 3; rw [hok] at hxl; rw [hsz] at hxn; clear hx5 hx6; go_simp; try with_reducible rfl
 refine tkH 10 ?_ hS (fun wx hx => ?_) ?_; rotate_left
 ·obtain ⟨⟨hx0, hx1⟩, ⟨hx2, hx3, hx4⟩, hx5, hx6, _⟩ := hx; have hxl := hx5.look hwa hws; have hxn := hx6.len Tryz.underlying101 3; rw [hok] at hxl; rw [hsz] at hxn; clear hx5 hx6; go_simp; try with_reducible rfl
 refine tkH 11 ?_ hS (fun wx hx => ?_) ?_; rotate_left
 ·obtain ⟨⟨hx0, hx1⟩, ⟨hx2, hx3, hx4⟩, hx5, hx6, _⟩ := hx; have hxl := hx5.look hwa hws; have hxn := hx6.len Tryz.underlying101 3; rw [hok] at hxl; rw [hsz] at hxn; clear hx5 hx6; go_simp; try with_reducible rfl
 refine tkH 12 ?_ hS (fun wx hx => ?_) ?_; rotate_left
 ·obtain ⟨⟨hx0, hx1⟩, ⟨hx2, hx3, hx4⟩, hx5, hx6, _⟩ := hx; have hxl := hx5.look hwa hws; have hxn := hx6.len Tryz.underlying101 3; rw [hok] at hxl; rw [hsz] at hxn; clear hx5 hx6; go_simp; try with_reducible rfl
 refine tkH 13 ?_ hS (fun wx hx => ?_) ?_; rotate_left
 ·obtain ⟨⟨hx0, hx1⟩, ⟨hx2, hx3, hx4⟩, hx5, hx6, _⟩ := hx; have hxl := hx5.look hwa hws; have hxn := hx6.len Tryz.underlying101 3; rw [hok] at hxl; rw [hsz] at hxn; clear hx5 hx6; go_simp; try with_reducible rfl
 refine tkH 14 ?_ hS (fun wx hx => ?_) ?_; rotate_left
 ·obtain ⟨⟨hx0, hx1⟩, ⟨hx2, hx3, hx4⟩, hx5, hx6, _⟩ := hx; have hxl := hx5.look hwa hws; have hxn := hx6.len Tryz.underlying101 3; rw [hok] at hxl; rw [hsz] at hxn; clear hx5 hx6; go_simp; try with_reducible rfl
 refine wpAnyH_done (by kernel_rfl) ?_ _
 go_simp
 have dn : decide ((nl : Int) < 200) = false := decide_eq_false (by omega)
 by_cases hk1 : kd = 1
 ·subst hk1
  have HB : Hid (Below w.heap.size w _) := hS.2.2.2.2
  obtain ⟨⟨hx0, hx1⟩, ⟨hx2, hx3, hx4⟩, _⟩ := hS
  go_wp2
  go_ret
  exact ⟨rfl, HB.out⟩
 ·have dk : (kd == 1) = false := beq_eq_false_iff_ne.2 hk1
  clear hk1
  have HB : Hid (Below w.heap.size w _) := hS.2.2.2.2
  obtain ⟨⟨hx0, hx1⟩, ⟨hx2, hx3, hx4⟩, _⟩ := hS
  go_wp2
  go_ret
  exact ⟨rfl, HB.out⟩
set_option maxRecDepth 100000 in
set_option maxHeartbeats 4000000 in
theorem hasRoom_free (B b N : Nat) (m : Int → Int → Option Int) (nl : Nat) (l : Nat → Int) (nw : Nat) (k : Nat → Int) (g : Nat) (u1 u2 : Value) (a s kd pr un : Int) (w : World) (h : Cols w B b N m nl l nw k g u1 u2) (hwa : Wf a) (hws : Wf s) (nc : Nat) (c : Nat → Int) (hm : MapRow m nc c) (ok : Bool) (hok : (m a s).isSome = ok) (hn : nl < 200) (hf : kd ≠ 1 ∨ ok = true) :
  Calls Tryz.prog 79 #[.pointer (some ⟨b, 0, none⟩), .agg #[.int .i64 a, .int .i64 s, .int .i64 kd, .int .i64 pr, .int .i64 un]] w fun e w' => e = .returned (.bool true) ∧ Below w.heap.size w w' := by
 obtain ⟨a1, c1, rfl⟩ := h.2.2.2.2.1.form
 obtain ⟨D, hD, hsz⟩ := h.2.2.2.1.countRow hm
 obtain ⟨⟨t0, t1, t2⟩, _⟩ := h.2.2.1
 have hlb := lt_cell t0
 have HE : Hid (RoomE w b g N m D (.slice a1 nl c1) a s kd (w.alloc (.cells #[.int .i64 a, .int .i64 s, .int .i64 kd, .int .i64 pr, .int .i64 un] 40))) := ⟨⟨((below_alloc w _).cell hlb).trans t0, ((below_alloc w _).cell hlb).trans t1⟩, ⟨World.cell?_alloc_mark w _ _ _ 0, World.cell?_alloc_mark w _ _ _ 1, World.cell?_alloc_mark w _ _ _ 2⟩, h.2.2.2.1.alloc _, by
  obtain ⟨es, clock, hb, r⟩ := hD
  exact ⟨es, clock, ((below_alloc w _).block _ h.2.2.2.1.lt).trans hb, r⟩, below_alloc _ _⟩
 clear h hD t0 t1 t2 hlb hm
 go_enter Tryz.func79, Tryz.ntmps79
 go_upto_region 1 with fail
 refine wp_region_held_drew (S := RoomE w b g N m D (.slice a1 nl c1) a s kd) (by kernel_rfl) HE.out.drew (fun hS => ?_)
 clear HE
 refine tkH 0 ?_ hS (fun wx hx => ?_) ?_; rotate_left
 ·obtain ⟨⟨hx0, hx1⟩, ⟨hx2, hx3, hx4⟩, hx5, hx6, _⟩ := hx; have hxl := hx5.look hwa hws; have hxn := hx6.len Tryz.underlying101 3; rw [hok] at hxl; rw [hsz] at hxn; clear hx5 hx6; go_simp; try with_reducible rfl
 refine tkH 1 ?_ hS (fun wx hx => ?_) ?_; rotate_left
 ·obtain ⟨⟨hx0, hx1⟩, ⟨hx2, hx3, hx4⟩, hx5, hx6, _⟩ := hx; have hxl := hx5.look hwa hws; have hxn := hx6.len Tryz.underlying101 3; rw [hok] at hxl; rw [hsz] at hxn; clear hx5 hx6; go_simp; try with_reducible rfl
 refine tkH 2 ?_ hS (fun wx hx => ?_) ?_; rotate_left
 ·obtain ⟨⟨hx0, hx1⟩, ⟨hx2, hx3, hx4⟩, hx5, hx6, _⟩ := hx; have hxl := hx5.look hwa hws; have hxn := hx6.len Tryz.underlying101 3; rw [hok] at hxl; rw [hsz] at hxn; clear hx5 hx6; go_simp; try with_reducible rfl
 refine tkH 3 ?_ hS (fun wx hx => ?_) ?_; rotate_left
 ·obtain ⟨⟨hx0, hx1⟩, ⟨hx2, hx3, hx4⟩, hx5, hx6, _⟩ := hx; have hxl := hx5.look hwa hws; have hxn := hx6.len Tryz.underlying101 3; rw [hok] at hxl; rw [hsz] at hxn; clear hx5 hx6; go_simp; try with_reducible rfl
 refine tkH 4 ?_ hS (fun wx hx => ?_) ?_; rotate_left
 ·obtain ⟨⟨hx0, hx1⟩, ⟨hx2, hx3, hx4⟩, hx5, hx6, _⟩ := hx; have hxl := hx5.look hwa hws; have hxn := hx6.len Tryz.underlying101 3; rw [hok] at hxl; rw [hsz] at hxn; clear hx5 hx6; go_simp; try with_reducible rfl
 refine tkH 5 ?_ hS (fun wx hx => ?_) ?_; rotate_left
 ·obtain ⟨⟨hx0, hx1⟩, ⟨hx2, hx3, hx4⟩, hx5, hx6, _⟩ := hx; have hxl := hx5.look hwa hws; have hxn := hx6.len Tryz.underlying101 3; rw [hok] at hxl; rw [hsz] at hxn; clear hx5 hx6; go_simp; try with_reducible rfl
 refine tkH 6 ?_ hS (fun wx hx => ?_) ?_; rotate_left
 ·obtain ⟨⟨hx0, hx1⟩, ⟨hx2, hx3, hx4⟩, hx5, hx6, _⟩ := hx; have hxl := hx5.look hwa hws; have hxn := hx6.len Tryz.underlying101 3; rw [hok] at hxl; rw [hsz] at hxn; clear hx5 hx6; go_simp; try with_reducible rfl
 refine tkH 7 ?_ hS (fun wx hx => ?_) ?_; rotate_left
 ·obtain ⟨⟨hx0, hx1⟩, ⟨hx2, hx3, hx4⟩, hx5, hx6, _⟩ := hx; have hxl := hx5.look hwa hws; have hxn := hx6.len Tryz.underlying101 3; rw [hok] at hxl; rw [hsz] at hxn; clear hx5 hx6; go_simp; try with_reducible rfl
 refine tkH 8 ?_ hS (fun wx hx => ?_) ?_; rotate_left
 ·obtain ⟨⟨hx0, hx1⟩, ⟨hx2, hx3, hx4⟩, hx5, hx6, _⟩ := hx; have hxl := hx5.look hwa hws; have hxn := hx6.len Tryz.underlying101 3; rw [hok] at hxl; rw [hsz] at hxn; clear hx5 hx6; go_simp; try with_reducible rfl
 refine tkH 9 ?_ hS (fun wx hx => ?_) ?_; rotate_left
 ·obtain ⟨⟨hx0, hx1⟩, ⟨hx2, hx3, hx4⟩, hx5, hx6, _⟩ := hx; have hxl := hx5.look hwa hws; have hxn := hx6.len Tryz.underlying101 3; rw [hok] at hxl; rw [hsz] at hxn; clear hx5 hx6; go_simp; try with_reducible rfl
 refine tkH 10 ?_ hS (fun wx hx => ?_) ?_; rotate_left
 ·obtain ⟨⟨hx0, hx1⟩, ⟨hx2, hx3, hx4⟩, hx5, hx6, _⟩ := hx; have hxl := hx5.look hwa hws; have hxn := hx6.len Tryz.underlying101 3; rw [hok] at hxl; rw [hsz] at hxn; clear hx5 hx6; go_simp; try with_reducible rfl
 refine tkH 11 ?_ hS (fun wx hx => ?_) ?_; rotate_left
 ·obtain ⟨⟨hx0, hx1⟩, ⟨hx2, hx3, hx4⟩, hx5, hx6, _⟩ := hx; have hxl := hx5.look hwa hws; have hxn := hx6.len Tryz.underlying101 3; rw [hok] at hxl; rw [hsz] at hxn; clear hx5 hx6; go_simp; try with_reducible rfl
 refine tkH 12 ?_ hS (fun wx hx => ?_) ?_; rotate_left
 ·obtain ⟨⟨hx0, hx1⟩, ⟨hx2, hx3, hx4⟩, hx5, hx6, _⟩ := hx; have hxl := hx5.look hwa hws; have hxn := hx6.len Tryz.underlying101 3; rw [hok] at hxl; rw [hsz] at hxn; clear hx5 hx6; go_simp; try with_reducible rfl
 refine tkH 13 ?_ hS (fun wx hx => ?_) ?_; rotate_left
 ·obtain ⟨⟨hx0, hx1⟩, ⟨hx2, hx3, hx4⟩, hx5, hx6, _⟩ := hx; have hxl := hx5.look hwa hws; have hxn := hx6.len Tryz.underlying101 3; rw [hok] at hxl; rw [hsz] at hxn; clear hx5 hx6; go_simp; try with_reducible rfl
 refine tkH 14 ?_ hS (fun wx hx => ?_) ?_; rotate_left
 ·obtain ⟨⟨hx0, hx1⟩, ⟨hx2, hx3, hx4⟩, hx5, hx6, _⟩ := hx; have hxl := hx5.look hwa hws; have hxn := hx6.len Tryz.underlying101 3; rw [hok] at hxl; rw [hsz] at hxn; clear hx5 hx6; go_simp; try with_reducible rfl
 refine wpAnyH_done (by kernel_rfl) ?_ _
 go_simp
 have dn : decide ((nl : Int) < 200) = true := decide_eq_true (by omega)
 by_cases hk1 : kd = 1
 ·obtain rfl : ok = true := hf.resolve_left (fun q => q hk1)
  clear hf
  subst hk1
  have HB : Hid (Below w.heap.size w _) := hS.2.2.2.2
  obtain ⟨⟨hx0, hx1⟩, ⟨hx2, hx3, hx4⟩, _⟩ := hS
  go_wp2
  go_ret
  exact ⟨rfl, HB.out⟩
 ·have dk : (kd == 1) = false := beq_eq_false_iff_ne.2 hk1
  clear hk1 hf
  have HB : Hid (Below w.heap.size w _) := hS.2.2.2.2
  obtain ⟨⟨hx0, hx1⟩, ⟨hx2, hx3, hx4⟩, _⟩ := hS
  go_wp2
  go_ret
  exact ⟨rfl, HB.out⟩
set_option maxRecDepth 100000 in
set_option maxHeartbeats 4000000 in
theorem hasRoom_put (B b N : Nat) (m : Int → Int → Option Int) (nl : Nat) (l : Nat → Int) (nw : Nat) (k : Nat → Int) (g : Nat) (u1 u2 : Value) (a s kd pr un : Int) (w : World) (h : Cols w B b N m nl l nw k g u1 u2) (hwa : Wf a) (hws : Wf s) (nc : Nat) (c : Nat → Int) (hm : MapRow m nc c) (ok : Bool) (hok : (m a s).isSome = ok) (hn : nl < 200) (hk1 : kd = 1) (ho : ok = false) :
  Calls Tryz.prog 79 #[.pointer (some ⟨b, 0, none⟩), .agg #[.int .i64 a, .int .i64 s, .int .i64 kd, .int .i64 pr, .int .i64 un]] w fun e w' => e = .returned (.bool (decide (nc < 200))) ∧ Below w.heap.size w w' := by
 have HK : Hid (kd = 1) := hk1
 subst ho
 clear hk1
 have hnc : decide ((nc : Int) < 200) = decide (nc < 200) := by
  by_cases q : nc < 200
  ·rw [decide_eq_true q]; exact decide_eq_true (by omega)
  ·rw [decide_eq_false q]; exact decide_eq_false (by omega)
 rw [← hnc]
 clear hnc
 obtain ⟨a1, c1, rfl⟩ := h.2.2.2.2.1.form
 obtain ⟨D, hD, hsz⟩ := h.2.2.2.1.countRow hm
 obtain ⟨⟨t0, t1, t2⟩, _⟩ := h.2.2.1
 have hlb := lt_cell t0
 have HE : Hid (RoomE w b g N m D (.slice a1 nl c1) a s kd (w.alloc (.cells #[.int .i64 a, .int .i64 s, .int .i64 kd, .int .i64 pr, .int .i64 un] 40))) := ⟨⟨((below_alloc w _).cell hlb).trans t0, ((below_alloc w _).cell hlb).trans t1⟩, ⟨World.cell?_alloc_mark w _ _ _ 0, World.cell?_alloc_mark w _ _ _ 1, World.cell?_alloc_mark w _ _ _ 2⟩, h.2.2.2.1.alloc _, by
  obtain ⟨es, clock, hb, r⟩ := hD
  exact ⟨es, clock, ((below_alloc w _).block _ h.2.2.2.1.lt).trans hb, r⟩, below_alloc _ _⟩
 clear h hD t0 t1 t2 hlb hm
 go_enter Tryz.func79, Tryz.ntmps79
 go_upto_region 1 with fail
 refine wp_region_held_drew (S := RoomE w b g N m D (.slice a1 nl c1) a s kd) (by kernel_rfl) HE.out.drew (fun hS => ?_)
 clear HE
 refine tkH 0 ?_ hS (fun wx hx => ?_) ?_; rotate_left
 ·obtain ⟨⟨hx0, hx1⟩, ⟨hx2, hx3, hx4⟩, hx5, hx6, _⟩ := hx; have hxl := hx5.look hwa hws; have hxn := hx6.len Tryz.underlying101 3; rw [hok] at hxl; rw [hsz] at hxn; clear hx5 hx6; go_simp; try with_reducible rfl
 refine tkH 1 ?_ hS (fun wx hx => ?_) ?_; rotate_left
 ·obtain ⟨⟨hx0, hx1⟩, ⟨hx2, hx3, hx4⟩, hx5, hx6, _⟩ := hx; have hxl := hx5.look hwa hws; have hxn := hx6.len Tryz.underlying101 3; rw [hok] at hxl; rw [hsz] at hxn; clear hx5 hx6; go_simp; try with_reducible rfl
 refine tkH 2 ?_ hS (fun wx hx => ?_) ?_; rotate_left
 ·obtain ⟨⟨hx0, hx1⟩, ⟨hx2, hx3, hx4⟩, hx5, hx6, _⟩ := hx; have hxl := hx5.look hwa hws; have hxn := hx6.len Tryz.underlying101 3; rw [hok] at hxl; rw [hsz] at hxn; clear hx5 hx6; go_simp; try with_reducible rfl
 refine tkH 3 ?_ hS (fun wx hx => ?_) ?_; rotate_left
 ·obtain ⟨⟨hx0, hx1⟩, ⟨hx2, hx3, hx4⟩, hx5, hx6, _⟩ := hx; have hxl := hx5.look hwa hws; have hxn := hx6.len Tryz.underlying101 3; rw [hok] at hxl; rw [hsz] at hxn; clear hx5 hx6; go_simp; try with_reducible rfl
 refine tkH 4 ?_ hS (fun wx hx => ?_) ?_; rotate_left
 ·obtain ⟨⟨hx0, hx1⟩, ⟨hx2, hx3, hx4⟩, hx5, hx6, _⟩ := hx; have hxl := hx5.look hwa hws; have hxn := hx6.len Tryz.underlying101 3; rw [hok] at hxl; rw [hsz] at hxn; clear hx5 hx6; go_simp; try with_reducible rfl
 refine tkH 5 ?_ hS (fun wx hx => ?_) ?_; rotate_left
 ·obtain ⟨⟨hx0, hx1⟩, ⟨hx2, hx3, hx4⟩, hx5, hx6, _⟩ := hx; have hxl := hx5.look hwa hws; have hxn := hx6.len Tryz.underlying101 3; rw [hok] at hxl; rw [hsz] at hxn; clear hx5 hx6; go_simp; try with_reducible rfl
 refine tkH 6 ?_ hS (fun wx hx => ?_) ?_; rotate_left
 ·obtain ⟨⟨hx0, hx1⟩, ⟨hx2, hx3, hx4⟩, hx5, hx6, _⟩ := hx; have hxl := hx5.look hwa hws; have hxn := hx6.len Tryz.underlying101 3; rw [hok] at hxl; rw [hsz] at hxn; clear hx5 hx6; go_simp; try with_reducible rfl
 refine tkH 7 ?_ hS (fun wx hx => ?_) ?_; rotate_left
 ·obtain ⟨⟨hx0, hx1⟩, ⟨hx2, hx3, hx4⟩, hx5, hx6, _⟩ := hx; have hxl := hx5.look hwa hws; have hxn := hx6.len Tryz.underlying101 3; rw [hok] at hxl; rw [hsz] at hxn; clear hx5 hx6; go_simp; try with_reducible rfl
 refine tkH 8 ?_ hS (fun wx hx => ?_) ?_; rotate_left
 ·obtain ⟨⟨hx0, hx1⟩, ⟨hx2, hx3, hx4⟩, hx5, hx6, _⟩ := hx; have hxl := hx5.look hwa hws; have hxn := hx6.len Tryz.underlying101 3; rw [hok] at hxl; rw [hsz] at hxn; clear hx5 hx6; go_simp; try with_reducible rfl
 refine tkH 9 ?_ hS (fun wx hx => ?_) ?_; rotate_left
 ·obtain ⟨⟨hx0, hx1⟩, ⟨hx2, hx3, hx4⟩, hx5, hx6, _⟩ := hx; have hxl := hx5.look hwa hws; have hxn := hx6.len Tryz.underlying101 3; rw [hok] at hxl; rw [hsz] at hxn; clear hx5 hx6; go_simp; try with_reducible rfl
 refine tkH 10 ?_ hS (fun wx hx => ?_) ?_; rotate_left
 ·obtain ⟨⟨hx0, hx1⟩, ⟨hx2, hx3, hx4⟩, hx5, hx6, _⟩ := hx; have hxl := hx5.look hwa hws; have hxn := hx6.len Tryz.underlying101 3; rw [hok] at hxl; rw [hsz] at hxn; clear hx5 hx6; go_simp; try with_reducible rfl
 refine tkH 11 ?_ hS (fun wx hx => ?_) ?_; rotate_left
 ·obtain ⟨⟨hx0, hx1⟩, ⟨hx2, hx3, hx4⟩, hx5, hx6, _⟩ := hx; have hxl := hx5.look hwa hws; have hxn := hx6.len Tryz.underlying101 3; rw [hok] at hxl; rw [hsz] at hxn; clear hx5 hx6; go_simp; try with_reducible rfl
 refine tkH 12 ?_ hS (fun wx hx => ?_) ?_; rotate_left
 ·obtain ⟨⟨hx0, hx1⟩, ⟨hx2, hx3, hx4⟩, hx5, hx6, _⟩ := hx; have hxl := hx5.look hwa hws; have hxn := hx6.len Tryz.underlying101 3; rw [hok] at hxl; rw [hsz] at hxn; clear hx5 hx6; go_simp; try with_reducible rfl
 refine tkH 13 ?_ hS (fun wx hx => ?_) ?_; rotate_left
 ·obtain ⟨⟨hx0, hx1⟩, ⟨hx2, hx3, hx4⟩, hx5, hx6, _⟩ := hx; have hxl := hx5.look hwa hws; have hxn := hx6.len Tryz.underlying101 3; rw [hok] at hxl; rw [hsz] at hxn; clear hx5 hx6; go_simp; try with_reducible rfl
 refine tkH 14 ?_ hS (fun wx hx => ?_) ?_; rotate_left
 ·obtain ⟨⟨hx0, hx1⟩, ⟨hx2, hx3, hx4⟩, hx5, hx6, _⟩ := hx; have hxl := hx5.look hwa hws; have hxn := hx6.len Tryz.underlying101 3; rw [hok] at hxl; rw [hsz] at hxn; clear hx5 hx6; go_simp; try with_reducible rfl
 refine wpAnyH_done (by kernel_rfl) ?_ _
 go_simp
 have dn : decide ((nl : Int) < 200) = true := decide_eq_true (by omega)
 have hk1 := HK.out
 clear HK
 subst hk1
 have HB : Hid (Below w.heap.size w _) := hS.2.2.2.2
 have hxn := hS.2.2.2.1.len Tryz.underlying101 3
 rw [hsz] at hxn
 obtain ⟨⟨hx0, hx1⟩, ⟨hx2, hx3, hx4⟩, _⟩ := hS
 go_wp2
 go_ret
 exact ⟨rfl, HB.out⟩
end

section
open Go.RowKit Go.Maps
/-- The lock lies in a block of its own. -/
def LkE (w : World) (a s kd pr un : Int) (x : World) : Prop :=
 (x.cell? ⟨w.heap.size, 0, none⟩ = some (.int .i64 a) ∧ x.cell? ⟨w.heap.size, 1, none⟩ = some (.int .i64 s) ∧ x.cell? ⟨w.heap.size, 2, none⟩ = some (.int .i64 kd) ∧ x.cell? ⟨w.heap.size, 3, none⟩ = some (.int .i64 pr) ∧ x.cell? ⟨w.heap.size, 4, none⟩ = some (.int .i64 un)) ∧ Below w.heap.size w x
theorem LkE.later {w x x' : World} {a s kd pr un : Int} (h : LkE w a s kd pr un x) (hb : Below x.heap.size x x') : LkE w a s kd pr un x' := by
 obtain ⟨⟨h0, h1, h2, h3, h4⟩, hB⟩ := h
 have hl := lt_cell h0
 exact ⟨⟨(hb.cell (p := ⟨w.heap.size, 0, none⟩) hl).trans h0, (hb.cell (p := ⟨w.heap.size, 1, none⟩) hl).trans h1, (hb.cell (p := ⟨w.heap.size, 2, none⟩) hl).trans h2, (hb.cell (p := ⟨w.heap.size, 3, none⟩) hl).trans h3, (hb.cell (p := ⟨w.heap.size, 4, none⟩) hl).trans h4⟩, hB.trans (hb.mono hB.size)⟩
theorem LkE.new (w : World) (a s kd pr un : Int) (t : TypeId) : LkE w a s kd pr un (w.alloc (.cells #[.int .i64 a, .int .i64 s, .int .i64 kd, .int .i64 pr, .int .i64 un] t)) :=
 ⟨⟨World.cell?_alloc_mark w _ _ _ 0, World.cell?_alloc_mark w _ _ _ 1, World.cell?_alloc_mark w _ _ _ 2, World.cell?_alloc_mark w _ _ _ 3, World.cell?_alloc_mark w _ _ _ 4⟩, below_alloc _ _⟩
theorem lock_one {l : Nat → Int} {n : Nat} {a : Int} {i j : Nat} (h : i < n ∧ lockIs l a i ∧ ∀ q, q < i → ¬ lockIs l a q) (h' : j < n ∧ lockIs l a j ∧ ∀ q, q < j → ¬ lockIs l a q) : i = j := by
 rcases Nat.lt_trichotomy i j with q | q | q
 ·exact absurd h.2.1 (h'.2.2 i q)
 ·exact q
 ·exact absurd h'.2.1 (h.2.2 j q)
set_option maxRecDepth 100000 in
set_option maxHeartbeats 4000000 in
theorem colPre_late (B b N : Nat) (m : Int → Int → Option Int) (nl : Nat) (l : Nat → Int) (nw : Nat) (k : Nat → Int) (g : Nat) (u1 u2 : Value) (a s kd pr un va : Int) (w : World) (h : Cols w B b N m nl l nw k g u1 u2) (hw : nw ≤ 200) (hk : ∀ i, i < nw → 1 ≤ k (i * 4 + 3)) (hr : lateP k nw a s) :
  Calls Tryz.prog 39 #[.pointer (some ⟨b, 0, none⟩), .agg #[.int .i64 a, .int .i64 s, .int .i64 kd, .int .i64 pr, .int .i64 un], .int .i64 va] w fun e w' => e = .returned (.iface 123 (.agg #[.int .i64 0])) ∧ Below w.heap.size w w' := by
 have H : Hid (Cols w B b N m nl l nw k g _ _) := h
 have HK : Hid (∀ i, i < nw → 1 ≤ k (i * 4 + 3)) := hk
 have HP : Hid (lateP k nw a s) := hr
 have HE : Hid (LkE w a s kd pr un (w.alloc (.cells #[.int .i64 a, .int .i64 s, .int .i64 kd, .int .i64 pr, .int .i64 un] 40))) := LkE.new w a s kd pr un _
 clear h hk hr
 go_enter Tryz.func39, Tryz.ntmps39
 go_wp2_with fail
 refine (isLate_is B b N m nl l nw k g _ _ a s _ (H.out.later HE.out.2) hw HK.out true ⟨fun _ => HP.out, fun _ => rfl⟩).mono ?_
 rintro e w1 ⟨rfl, q1⟩
 have HE1 : Hid (LkE w a s kd pr un w1) := HE.out.later q1
 clear HE q1 HP
 clear H HK
 go_wp2
 go_ret
 exact ⟨rfl, HE1.out.2⟩
set_option maxRecDepth 100000 in
set_option maxHeartbeats 4000000 in
theorem colPre_held (B b N : Nat) (m : Int → Int → Option Int) (nl : Nat) (l : Nat → Int) (nw : Nat) (k : Nat → Int) (g : Nat) (u1 u2 : Value) (a s kd pr un va : Int) (w : World) (h : Cols w B b N m nl l nw k g u1 u2) (hw : nw ≤ 200) (hk : ∀ i, i < nw → 1 ≤ k (i * 4 + 3)) (hl : nl ≤ 200) (hr : ¬ lateP k nw a s) (j : Nat) (hj : j < nl ∧ lockIs l a j ∧ ∀ q, q < j → ¬ lockIs l a q) (v : Value) (hv : v = if l (j * 5 + 1) = s then .nilIface else .iface 123 (.agg #[.int .i64 1])) :
  Calls Tryz.prog 39 #[.pointer (some ⟨b, 0, none⟩), .agg #[.int .i64 a, .int .i64 s, .int .i64 kd, .int .i64 pr, .int .i64 un], .int .i64 va] w fun e w' => e = .returned v ∧ Below w.heap.size w w' := by
 have HJ : Hid (j < nl ∧ lockIs l a j ∧ ∀ q, q < j → ¬ lockIs l a q) := hj
 have HV : Hid (v = if l (j * 5 + 1) = s then .nilIface else .iface 123 (.agg #[.int .i64 1])) := hv
 clear hj hv
 have H : Hid (Cols w B b N m nl l nw k g _ _) := h
 have HK : Hid (∀ i, i < nw → 1 ≤ k (i * 4 + 3)) := hk
 have HP : Hid (¬ lateP k nw a s) := hr
 have HE : Hid (LkE w a s kd pr un (w.alloc (.cells #[.int .i64 a, .int .i64 s, .int .i64 kd, .int .i64 pr, .int .i64 un] 40))) := LkE.new w a s kd pr un _
 clear h hk hr
 go_enter Tryz.func39, Tryz.ntmps39
 go_wp2_with fail
 refine (isLate_is B b N m nl l nw k g _ _ a s _ (H.out.later HE.out.2) hw HK.out false ⟨fun q => (Bool.false_ne_true q).elim, fun q => (HP.out q).elim⟩).mono ?_
 rintro e w1 ⟨rfl, q1⟩
 have HE1 : Hid (LkE w a s kd pr un w1) := HE.out.later q1
 clear HE q1 HP
 obtain ⟨⟨y0, y1, y2, y3, y4⟩, _⟩ := HE1.out
 go_wp2_with fail
 refine (lockOf_any B b N m nl l nw k g _ _ a _ (H.out.later HE1.out.2) hl).mono ?_
 rintro e w2 ⟨v2, rfl, ht, q2⟩
 clear y0 y1 y2 y3 y4
 rcases ht with ⟨i, h1, h2, h3, rfl⟩ | ⟨h1, rfl⟩
 ·obtain rfl : i = j := lock_one ⟨h1, h2, h3⟩ HJ.out
  have hv := HV.out
  have HE2 : Hid (LkE w a s kd pr un (w2.alloc (.cells #[.int .i64 (l (i * 5)), .int .i64 (l (i * 5 + 1)), .int .i64 (l (i * 5 + 2)), .int .i64 (l (i * 5 + 3)), .int .i64 (l (i * 5 + 4))] 40))) := HE1.out.later (q2.trans ((below_alloc w2 _).mono q2.size))
  clear h1 h2 h3 HJ HV HE1 H HK q2 hl hw
  generalize l (i * 5) = n0 at *
  generalize l (i * 5 + 1) = n1 at *
  generalize l (i * 5 + 2) = n2 at *
  generalize l (i * 5 + 3) = n3 at *
  generalize l (i * 5 + 4) = n4 at *
  obtain ⟨⟨y0, y1, y2, y3, y4⟩, _⟩ := HE2.out
  by_cases hc : n1 = s
  ·subst hc
   rw [if_pos rfl] at hv
   subst hv
   go_wp2
   go_ret
   exact ⟨rfl, HE2.out.2⟩
  ·rw [if_neg hc] at hv
   subst hv
   have dc : (n1 == s) = false := beq_eq_false_iff_ne.2 hc
   clear hc
   go_wp2
   go_ret
   exact ⟨rfl, HE2.out.2⟩
 ·exact absurd HJ.out.2.1 (h1 j HJ.out.1)
set_option maxRecDepth 100000 in
set_option maxHeartbeats 4000000 in
theorem colPre_full (B b N : Nat) (m : Int → Int → Option Int) (nl : Nat) (l : Nat → Int) (nw : Nat) (k : Nat → Int) (g : Nat) (u1 u2 : Value) (a s kd pr un va : Int) (w : World) (h : Cols w B b N m nl l nw k g u1 u2) (hw : nw ≤ 200) (hk : ∀ i, i < nw → 1 ≤ k (i * 4 + 3)) (hl : nl ≤ 200) (hr : ¬ lateP k nw a s) (hn : ∀ i, i < nl → ¬ lockIs l a i) (HS : ∀ x, Below w.heap.size w x → Cols x B b N m nl l nw k g u1 u2 → Calls Tryz.prog 79 #[.pointer (some ⟨b, 0, none⟩), .agg #[.int .i64 a, .int .i64 s, .int .i64 kd, .int .i64 pr, .int .i64 un]] x fun e w' => e = .returned (.bool false) ∧ Below x.heap.size x w') :
  Calls Tryz.prog 39 #[.pointer (some ⟨b, 0, none⟩), .agg #[.int .i64 a, .int .i64 s, .int .i64 kd, .int .i64 pr, .int .i64 un], .int .i64 va] w fun e w' => e = .returned (.iface 123 (.agg #[.int .i64 5])) ∧ Below w.heap.size w w' := by
 have HN : Hid (∀ i, i < nl → ¬ lockIs l a i) := hn
 have HSS : Hid (∀ x, Below w.heap.size w x → Cols x B b N m nl l nw k g u1 u2 → Calls Tryz.prog 79 #[.pointer (some ⟨b, 0, none⟩), .agg #[.int .i64 a, .int .i64 s, .int .i64 kd, .int .i64 pr, .int .i64 un]] x fun e w' => e = .returned (.bool false) ∧ Below x.heap.size x w') := HS
 clear hn HS
 have H : Hid (Cols w B b N m nl l nw k g _ _) := h
 have HK : Hid (∀ i, i < nw → 1 ≤ k (i * 4 + 3)) := hk
 have HP : Hid (¬ lateP k nw a s) := hr
 have HE : Hid (LkE w a s kd pr un (w.alloc (.cells #[.int .i64 a, .int .i64 s, .int .i64 kd, .int .i64 pr, .int .i64 un] 40))) := LkE.new w a s kd pr un _
 clear h hk hr
 go_enter Tryz.func39, Tryz.ntmps39
 go_wp2_with fail
 refine (isLate_is B b N m nl l nw k g _ _ a s _ (H.out.later HE.out.2) hw HK.out false ⟨fun q => (Bool.false_ne_true q).elim, fun q => (HP.out q).elim⟩).mono ?_
 rintro e w1 ⟨rfl, q1⟩
 have HE1 : Hid (LkE w a s kd pr un w1) := HE.out.later q1
 clear HE q1 HP
 obtain ⟨⟨y0, y1, y2, y3, y4⟩, _⟩ := HE1.out
 go_wp2_with fail
 refine (lockOf_any B b N m nl l nw k g _ _ a _ (H.out.later HE1.out.2) hl).mono ?_
 rintro e w2 ⟨v2, rfl, ht, q2⟩
 clear y0 y1 y2 y3 y4
 rcases ht with ⟨i, h1, h2, h3, rfl⟩ | ⟨h1, rfl⟩
 ·exact absurd h2 (HN.out i h1)
 have HE2 : Hid (LkE w a s kd pr un (w2.alloc (.cells #[.int .i64 0, .int .i64 0, .int .i64 0, .int .i64 0, .int .i64 0] 40))) := HE1.out.later (q2.trans ((below_alloc w2 _).mono q2.size))
 clear h1 HE1 HK q2 HN
 obtain ⟨⟨y0, y1, y2, y3, y4⟩, _⟩ := HE2.out
 go_wp2_with fail
 refine (HSS.out _ HE2.out.2 (H.out.later HE2.out.2)).mono ?_
 rintro e w3 ⟨rfl, q3⟩
 have HE3 : Hid (LkE w a s kd pr un w3) := HE2.out.later q3
 clear HE2 q3 H HSS hl hw y0 y1 y2 y3 y4
 go_wp2
 go_ret
 exact ⟨rfl, HE3.out.2⟩
/-- What the search and the insertion see. -/
def PreE (w : World) (B b N : Nat) (m : Int → Int → Option Int) (nl : Nat) (l : Nat → Int) (nw : Nat) (k : Nat → Int) (g : Nat) (u1 u2 : Value) (a s kd pr un : Int) (x : World) : Prop :=
 x.cell? ⟨b, 1, none⟩ = some u1 ∧ LkE w a s kd pr un x ∧ Cols x B b N m nl l nw k g u1 u2
theorem PreE.later {w x x' : World} {B b N : Nat} {m : Int → Int → Option Int} {nl : Nat} {l : Nat → Int} {nw : Nat} {k : Nat → Int} {g : Nat} {u1 u2 : Value} {a s kd pr un : Int} (h : PreE w B b N m nl l nw k g u1 u2 a s kd pr un x) (hb : Below x.heap.size x x') : PreE w B b N m nl l nw k g u1 u2 a s kd pr un x' :=
 ⟨(hb.cell (p := ⟨b, 1, none⟩) (lt_cell h.1)).trans h.1, h.2.1.later hb, h.2.2.later hb⟩
theorem cell_kept {x x' : World} {b : Nat} (h : x'.heap[b]? = x.heap[b]?) (i : Nat) : x'.cell? ⟨b, i, none⟩ = x.cell? ⟨b, i, none⟩ := World.cell?_of_block (w := x) (a := ⟨b, i, none⟩) h
set_option maxRecDepth 100000 in
set_option maxHeartbeats 4000000 in
theorem colPre_done (B b N : Nat) (m : Int → Int → Option Int) (nl : Nat) (l : Nat → Int) (nw : Nat) (k : Nat → Int) (g : Nat) (u1 u2 : Value) (a s kd pr un va : Int) (wa : Wf a) (ws : Wf s) (wv : Wf va) (w : World) (h : Cols w B b N m nl l nw k g u1 u2) (hA : ApartC b g u1 u2) (hN : N ≤ 400) (hw : nw ≤ 200) (hk : ∀ i, i < nw → 1 ≤ k (i * 4 + 3)) (hl : nl ≤ 200) (hr : ¬ lateP k nw a s) (hn : ∀ i, i < nl → ¬ lockIs l a i)
  (hmono : ∀ i j, i ≤ j → j < nl → aheadL l a j → aheadL l a i)
  (HS : ∀ x, Below w.heap.size w x → Cols x B b N m nl l nw k g u1 u2 → Calls Tryz.prog 79 #[.pointer (some ⟨b, 0, none⟩), .agg #[.int .i64 a, .int .i64 s, .int .i64 kd, .int .i64 pr, .int .i64 un]] x fun e w' => e = .returned (.bool true) ∧ Below x.heap.size x w') :
  Calls Tryz.prog 39 #[.pointer (some ⟨b, 0, none⟩), .agg #[.int .i64 a, .int .i64 s, .int .i64 kd, .int .i64 pr, .int .i64 un], .int .i64 va] w fun e w' => e = .returned .nilIface ∧ (∃ q u1' u2', placeAt (aheadL l a) nl q ∧ Cols w' B b (N + 1) (if kd = 1 then putM m a s va else m) (nl + 1) (insF l 5 nl q [a, s, kd, pr, un]) nw k g u1' u2') ∧ Below B w w' := by
 have HN : Hid (∀ i, i < nl → ¬ lockIs l a i) := hn
 have HM : Hid (∀ i j, i ≤ j → j < nl → aheadL l a j → aheadL l a i) := hmono
 have HA : Hid (ApartC b g u1 u2) := hA
 have HSS : Hid (∀ x, Below w.heap.size w x → Cols x B b N m nl l nw k g u1 u2 → Calls Tryz.prog 79 #[.pointer (some ⟨b, 0, none⟩), .agg #[.int .i64 a, .int .i64 s, .int .i64 kd, .int .i64 pr, .int .i64 un]] x fun e w' => e = .returned (.bool true) ∧ Below x.heap.size x w') := HS
 obtain ⟨POST, hPO⟩ : ∃ POST : World → Prop, ∀ w', POST w' ↔ ((∃ q u1' u2', placeAt (aheadL l a) nl q ∧ Cols w' B b (N + 1) (if kd = 1 then putM m a s va else m) (nl + 1) (insF l 5 nl q [a, s, kd, pr, un]) nw k g u1' u2') ∧ Below B w w') := ⟨_, fun _ => Iff.rfl⟩
 refine Calls.mono (R := fun e w' => e = .returned .nilIface ∧ POST w') ?_ (fun e w' h => ⟨h.1, (hPO w').1 h.2⟩)
 have HPO : Hid (∀ w', ((∃ q u1' u2', placeAt (aheadL l a) nl q ∧ Cols w' B b (N + 1) (if kd = 1 then putM m a s va else m) (nl + 1) (insF l 5 nl q [a, s, kd, pr, un]) nw k g u1' u2') ∧ Below B w w') → POST w') := fun w' h => (hPO w').2 h
 clear hn hmono hA HS hPO
 obtain ⟨b1, d1, rfl⟩ := h.2.2.2.2.1.form
 obtain ⟨b2, d2, rfl⟩ := h.2.2.2.2.2.form
 have hbl := h.2.2.1.lt
 have H : Hid (Cols w B b N m nl l nw k g _ _) := h
 have HK : Hid (∀ i, i < nw → 1 ≤ k (i * 4 + 3)) := hk
 have HP : Hid (¬ lateP k nw a s) := hr
 have HE : Hid (LkE w a s kd pr un (w.alloc (.cells #[.int .i64 a, .int .i64 s, .int .i64 kd, .int .i64 pr, .int .i64 un] 40))) := LkE.new w a s kd pr un _
 clear h hk hr
 go_enter Tryz.func39, Tryz.ntmps39
 go_wp2_with fail
 refine (isLate_is B b N m nl l nw k g _ _ a s _ (H.out.later HE.out.2) hw HK.out false ⟨fun q => (Bool.false_ne_true q).elim, fun q => (HP.out q).elim⟩).mono ?_
 rintro e w1 ⟨rfl, q1⟩
 have HE1 : Hid (LkE w a s kd pr un w1) := HE.out.later q1
 clear HE q1 HP
 obtain ⟨⟨y0, y1, y2, y3, y4⟩, _⟩ := HE1.out
 go_wp2_with fail
 refine (lockOf_any B b N m nl l nw k g _ _ a _ (H.out.later HE1.out.2) hl).mono ?_
 rintro e w2 ⟨v2, rfl, ht, q2⟩
 clear y0 y1 y2 y3 y4
 rcases ht with ⟨i, h1, h2, h3, rfl⟩ | ⟨h1, rfl⟩
 ·exact absurd h2 (HN.out i h1)
 have HE2 : Hid (LkE w a s kd pr un (w2.alloc (.cells #[.int .i64 0, .int .i64 0, .int .i64 0, .int .i64 0, .int .i64 0] 40))) := HE1.out.later (q2.trans ((below_alloc w2 _).mono q2.size))
 clear h1 HE1 HK q2 HN
 obtain ⟨⟨y0, y1, y2, y3, y4⟩, _⟩ := HE2.out
 go_wp2_with fail
 refine (HSS.out _ HE2.out.2 (H.out.later HE2.out.2)).mono ?_
 rintro e w3 ⟨rfl, q3⟩
 have HE3 : Hid (PreE w B b N m nl l nw k g (.slice b1 nl d1) (.slice b2 nw d2) a s kd pr un w3.drew) := by
  have hE := HE2.out.later q3
  have hC := (H.out.later hE.2).later (below_drew w3)
  exact ⟨hC.2.2.1.1.2.1, hE.later (below_drew w3), hC⟩
 clear HE2 q3 HSS y0 y1 y2 y3 y4
 go_upto_region 10 with fail
 refine wp_region_held_drew (S := PreE w B b N m nl l nw k g (.slice b1 nl d1) (.slice b2 nw d2) a s kd pr un) (by kernel_rfl) HE3.out (fun hS => ?_)
 clear HE3
 refine tkH 0 ?_ hS (fun wx hx => ?_) ?_; rotate_left
 ·obtain ⟨hx5, ⟨⟨hx0, hx1, hx2, hx3, hx4⟩, _⟩, _⟩ := hx; go_simp; try with_reducible rfl
 refine tkH 1 ?_ hS (fun wx hx => ?_) ?_; rotate_left
 ·obtain ⟨hx5, ⟨⟨hx0, hx1, hx2, hx3, hx4⟩, _⟩, _⟩ := hx; go_simp; try with_reducible rfl
 refine tkH 2 ?_ hS (fun wx hx => ?_) ?_; rotate_left
 ·obtain ⟨hx5, ⟨⟨hx0, hx1, hx2, hx3, hx4⟩, _⟩, _⟩ := hx; go_simp; try with_reducible rfl
 refine tkH 3 ?_ hS (fun wx hx => ?_) ?_; rotate_left
 ·obtain ⟨hx5, ⟨⟨hx0, hx1, hx2, hx3, hx4⟩, _⟩, _⟩ := hx; go_simp; try with_reducible rfl
 refine tkH 4 ?_ hS (fun wx hx => ?_) ?_; rotate_left
 ·obtain ⟨hx5, ⟨⟨hx0, hx1, hx2, hx3, hx4⟩, _⟩, _⟩ := hx; go_simp; try with_reducible rfl
 refine rdH 5 (fun K hK => ?_)
 go_simp
 go_wp2_with fail
 refine (searchL_any nl l b1 d1 B a s kd pr un _ hS.2.2.2.2.2.2.1.row.1 (by omega) HM.out).mono ?_
 rintro e w4 ⟨at_, r, rfl, hat, hr, q1⟩
 have S1 := hS.later q1
 go_wp2_with fail
 refine hK.out _ _ S1 (fun hS => ?_)
 have HP : Hid (placeAt (aheadL l a) nl at_) := hat
 clear hK K q1 S1 hat hr HM
 refine tkH 6 ?_ hS (fun wx hx => ?_) ?_; rotate_left
 ·obtain ⟨hx5, ⟨⟨hx0, hx1, hx2, hx3, hx4⟩, _⟩, _⟩ := hx; go_simp; try with_reducible rfl
 refine tkH 7 ?_ hS (fun wx hx => ?_) ?_; rotate_left
 ·obtain ⟨hx5, ⟨⟨hx0, hx1, hx2, hx3, hx4⟩, _⟩, _⟩ := hx; go_simp; try with_reducible rfl
 refine tkH 8 ?_ hS (fun wx hx => ?_) ?_; rotate_left
 ·obtain ⟨hx5, ⟨⟨hx0, hx1, hx2, hx3, hx4⟩, _⟩, _⟩ := hx; go_simp; try with_reducible rfl
 refine tkH 9 ?_ hS (fun wx hx => ?_) ?_; rotate_left
 ·obtain ⟨hx5, ⟨⟨hx0, hx1, hx2, hx3, hx4⟩, _⟩, _⟩ := hx; go_simp; try with_reducible rfl
 refine tkH 10 ?_ hS (fun wx hx => ?_) ?_; rotate_left
 ·obtain ⟨hx5, ⟨⟨hx0, hx1, hx2, hx3, hx4⟩, _⟩, _⟩ := hx; go_simp; try with_reducible rfl
 refine wpAnyH_done (by kernel_rfl) ?_ _
 go_simp
 obtain ⟨p1, HL0, HC0⟩ := hS
 have HC : Hid (Cols w4 B b N m nl l nw k g (.slice b1 nl d1) (.slice b2 nw d2)) := HC0
 have HL4 : Hid (LkE w a s kd pr un w4) := HL0
 obtain ⟨⟨y0, y1, y2, y3, y4⟩, _⟩ := HL0
 clear HC0
 have hOI : Hid (∀ q, (Value.slice b1 nl d1).ownBlock = some q → B ≤ q ∧ q < w.heap.size) := own_in H.out.2.2.2.2.1
 have hgl : g < w.heap.size := H.out.2.2.2.1.lt
 have hBb : Hid (B ≤ b ∧ B ≤ g) := ⟨H.out.1, H.out.2.1⟩
 have hzl : Hid (w.heap.size < w4.heap.size) := lt_cell y0
 have HY : Hid (Below w4.heap.size w4 (w4.alloc (.cells #[.int .i64 a, .int .i64 s, .int .i64 kd, .int .i64 pr, .int .i64 un] 40)).drew) := (below_alloc w4 _).trans ((below_drew _).mono (by simp))
 have HI : Hid (Calls Tryz.prog 82 #[.slice b1 nl d1, .int .i64 at_, .slice (some ⟨w4.heap.size, 0, none⟩) 1 1] (w4.alloc (.cells #[.int .i64 a, .int .i64 s, .int .i64 kd, .int .i64 pr, .int .i64 un] 40)).drew (InsL (w4.alloc (.cells #[.int .i64 a, .int .i64 s, .int .i64 kd, .int .i64 pr, .int .i64 un] 40)).drew B nl at_ l [a, s, kd, pr, un] (.slice b1 nl d1))) :=
  insL_any _ B nl at_ w4.heap.size 1 l [a, s, kd, pr, un] _ rfl (HC.out.2.2.2.2.1.later HY.out) (Nat.le_trans hBb.out.1 (Nat.le_trans (Nat.le_of_lt hbl) (Nat.le_trans HL4.out.2.size HY.out.size))) (by omega) HP.out.1 (fun e => by have := (hOI.out _ e).2; have := hzl.out; omega) (Blkk.made w4 _ _ _ rfl).drew (fun p hp => by
   rw [drew_cell, World.cell?_alloc_at (w := w4) _ _ _ p rfl]
   obtain rfl | rfl | rfl | rfl | rfl : p = 0 ∨ p = 1 ∨ p = 2 ∨ p = 3 ∨ p = 4 := by omega
   all_goals rfl)
 have SY : Hid (((w4.alloc (.cells #[.int .i64 a, .int .i64 s, .int .i64 kd, .int .i64 pr, .int .i64 un] 40)).drew).cell? ⟨w.heap.size, 0, none⟩ = some (.int .i64 a) ∧ ((w4.alloc (.cells #[.int .i64 a, .int .i64 s, .int .i64 kd, .int .i64 pr, .int .i64 un] 40)).drew).cell? ⟨w.heap.size, 1, none⟩ = some (.int .i64 s) ∧ ((w4.alloc (.cells #[.int .i64 a, .int .i64 s, .int .i64 kd, .int .i64 pr, .int .i64 un] 40)).drew).cell? ⟨w.heap.size, 2, none⟩ = some (.int .i64 kd) ∧ ((w4.alloc (.cells #[.int .i64 a, .int .i64 s, .int .i64 kd, .int .i64 pr, .int .i64 un] 40)).drew).cell? ⟨w.heap.size, 3, none⟩ = some (.int .i64 pr) ∧ ((w4.alloc (.cells #[.int .i64 a, .int .i64 s, .int .i64 kd, .int .i64 pr, .int .i64 un] 40)).drew).cell? ⟨w.heap.size, 4, none⟩ = some (.int .i64 un)) := (HL4.out.later HY.out).1
 go_upto_region 11 with fail
 refine wp_region_held_drew (S := fun X => (X).cell? ⟨w.heap.size, 0, none⟩ = some (.int .i64 a) ∧ (X).cell? ⟨w.heap.size, 1, none⟩ = some (.int .i64 s) ∧ (X).cell? ⟨w.heap.size, 2, none⟩ = some (.int .i64 kd) ∧ (X).cell? ⟨w.heap.size, 3, none⟩ = some (.int .i64 pr) ∧ (X).cell? ⟨w.heap.size, 4, none⟩ = some (.int .i64 un)) (by kernel_rfl) ⟨y0, y1, y2, y3, y4⟩ (fun hS => ?_)
 refine tkH 0 ?_ hS (fun wx hx => ?_) ?_; rotate_left
 ·obtain ⟨hx0, hx1, hx2, hx3, hx4⟩ := hx; go_simp; try with_reducible rfl
 refine tkH 1 ?_ hS (fun wx hx => ?_) ?_; rotate_left
 ·obtain ⟨hx0, hx1, hx2, hx3, hx4⟩ := hx; go_simp; try with_reducible rfl
 refine tkH 2 ?_ hS (fun wx hx => ?_) ?_; rotate_left
 ·obtain ⟨hx0, hx1, hx2, hx3, hx4⟩ := hx; go_simp; try with_reducible rfl
 refine tkH 3 ?_ hS (fun wx hx => ?_) ?_; rotate_left
 ·obtain ⟨hx0, hx1, hx2, hx3, hx4⟩ := hx; go_simp; try with_reducible rfl
 refine tkH 5 ?_ hS (fun wx hx => ?_) ?_; rotate_left
 ·obtain ⟨hx0, hx1, hx2, hx3, hx4⟩ := hx; go_simp; try with_reducible rfl
 refine tkH 6 ?_ hS (fun wx hx => ?_) ?_; rotate_left
 ·obtain ⟨hx0, hx1, hx2, hx3, hx4⟩ := hx; go_simp; try with_reducible rfl
 refine wpAnyH_ready (rs := [4, 7]) (by kernel_rfl) (by simp) ?_
 refine AllReadyH.cons rfl (fun K hK => ?_) (AllReadyH.cons rfl (fun K hK => ?_) AllReadyH.nil)
 focus
  go_simp
  refine hK.out _ _ hS (fun hS => ?_)
  clear hK K
  refine rdH 7 (fun K hK => ?_)
  go_simp
  refine hK.out _ _ SY.out (fun hS => ?_)
  clear hK K
 rotate_left
 focus
  go_simp
  refine hK.out _ _ SY.out (fun hS => ?_)
  clear hK K
  refine rdH 4 (fun K hK => ?_)
  have p1' := (HY.out.cell (p := ⟨b, 1, none⟩) (lt_cell p1)).trans p1
  go_simp
  refine hK.out _ _ hS (fun hS => ?_)
  clear hK K p1'
 rotate_left
 all_goals
  refine rdH 8 (fun K hK => ?_)
  go_simp
  go_wp2_with fail
  refine HI.out.mono ?_
  rintro e w5 ⟨e1, f1, rfl, O4, G4, A4⟩
  have hk4 : ∀ i, i < w4.heap.size → (∀ q, (Value.slice b1 nl d1).ownBlock = some q → i ≠ q) → w5.heap[i]? = w4.heap[i]? := fun i h1 h2 => (G4.block i (Nat.lt_of_lt_of_le h1 HY.out.size) (fun e => h2 i e.symm rfl)).trans (HY.out.block i h1)
  have HB4' : Hid (w5.heap[w.heap.size]? = w4.heap[w.heap.size]?) := hk4 _ hzl.out (fun q hq e => by have := (hOI.out q hq).2; omega)
  have S4 : (w5).cell? ⟨w.heap.size, 0, none⟩ = some (.int .i64 a) ∧ (w5).cell? ⟨w.heap.size, 1, none⟩ = some (.int .i64 s) ∧ (w5).cell? ⟨w.heap.size, 2, none⟩ = some (.int .i64 kd) ∧ (w5).cell? ⟨w.heap.size, 3, none⟩ = some (.int .i64 pr) ∧ (w5).cell? ⟨w.heap.size, 4, none⟩ = some (.int .i64 un) := by
   obtain ⟨r0, r1, r2, r3, r4⟩ := HL4.out.1
   exact ⟨(cell_kept HB4'.out 0).trans r0, (cell_kept HB4'.out 1).trans r1, (cell_kept HB4'.out 2).trans r2, (cell_kept HB4'.out 3).trans r3, (cell_kept HB4'.out 4).trans r4⟩
  have HB' : Hid (Blk3 w5 b (.map (some g)) (.slice b1 nl d1) (.slice b2 nw d2)) := HC.out.2.2.1.kept (hk4 _ HC.out.2.2.1.lt (fun q hq e => (HA.out.2.1 q hq).1 e.symm))
  have HP4 : Hid (PM w5 g N m) := HC.out.2.2.2.1.kept (hk4 _ HC.out.2.2.2.1.lt (fun q hq e => (HA.out.2.1 q hq).2 e.symm))
  have HW4 : Hid (Own w5 B 55 4 nw k (.slice b2 nw d2)) := HC.out.2.2.2.2.2.kept (fun j hj => hk4 j (own_in HC.out.2.2.2.2.2 j hj).2 (fun q hq e => HA.out.2.2.2 q hq (by rw [hj, e])))
  have HLL : Hid (Own w5 B 40 5 (nl + 1) (insF l 5 nl at_ [a, s, kd, pr, un]) (.slice e1 (nl + 1) f1)) := O4
  have HA4 : Hid (∀ q, (Value.slice e1 (nl + 1) f1).ownBlock = some q → (Value.slice b1 nl d1).ownBlock = some q ∨ w.heap.size < q) := fun q hq => (A4 q hq).imp id (fun h => by have := HY.out.size; have := hzl.out; omega)
  have HBB : Hid (Below B w w5) := ⟨G4.os.trans (HY.out.os.trans HL4.out.2.os), G4.tape.trans (HY.out.tape.trans HL4.out.2.tape), G4.output.trans (HY.out.output.trans HL4.out.2.output), Nat.le_trans HL4.out.2.size (Nat.le_trans HY.out.size G4.size), fun i hi => (hk4 i (by have := hBb.out; have := hzl.out; omega) (fun q hq e => by have := (hOI.out q hq).1; omega)).trans (HL4.out.2.block i (by have := hBb.out; omega))⟩
  clear O4 G4 A4 hk4 HC HI HY SY hS p1 y0 y1 y2 y3 y4 HB4' HL4
  go_wp2_with fail
  refine hK.out _ _ S4 (fun hS => ?_)
  clear hK K S4
  refine tkH 9 ?_ hS (fun wx hx => ?_) ?_; rotate_left
  ·obtain ⟨hx0, hx1, hx2, hx3, hx4⟩ := hx; go_simp; try with_reducible rfl
  refine tkH 10 ?_ hS (fun wx hx => ?_) ?_; rotate_left
  ·obtain ⟨hx0, hx1, hx2, hx3, hx4⟩ := hx; go_simp; try with_reducible rfl
  obtain ⟨⟨t0, t1, t2⟩, ft0, ft1, ft2⟩ := HB'.out
  refine rdH 11 (fun K hK => ?_)
  go_simp
  have hk5 : ∀ i, i ≠ b → (w5.setCell ⟨b, 1, none⟩ (.slice e1 (nl + 1) f1)).heap[i]? = w5.heap[i]? := fun i hi => Below.heap_setCell w5 ⟨b, 1, none⟩ _ i hi
  have S5 : ((w5.setCell ⟨b, 1, none⟩ (.slice e1 (nl + 1) f1))).cell? ⟨w.heap.size, 0, none⟩ = some (.int .i64 a) ∧ ((w5.setCell ⟨b, 1, none⟩ (.slice e1 (nl + 1) f1))).cell? ⟨w.heap.size, 1, none⟩ = some (.int .i64 s) ∧ ((w5.setCell ⟨b, 1, none⟩ (.slice e1 (nl + 1) f1))).cell? ⟨w.heap.size, 2, none⟩ = some (.int .i64 kd) ∧ ((w5.setCell ⟨b, 1, none⟩ (.slice e1 (nl + 1) f1))).cell? ⟨w.heap.size, 3, none⟩ = some (.int .i64 pr) ∧ ((w5.setCell ⟨b, 1, none⟩ (.slice e1 (nl + 1) f1))).cell? ⟨w.heap.size, 4, none⟩ = some (.int .i64 un) := by
   have hq := hk5 w.heap.size (by omega)
   obtain ⟨r0, r1, r2, r3, r4⟩ := hS
   exact ⟨(cell_kept hq 0).trans r0, (cell_kept hq 1).trans r1, (cell_kept hq 2).trans r2, (cell_kept hq 3).trans r3, (cell_kept hq 4).trans r4⟩
  have hub : Hid (∀ q, (Value.slice e1 (nl + 1) f1).ownBlock = some q → q ≠ b ∧ q ≠ g) := fun q hq => (HA4.out q hq).elim (fun h => HA.out.2.1 q h) (fun h => ⟨by omega, by omega⟩)
  have HC5 : Hid (Cols (w5.setCell ⟨b, 1, none⟩ (.slice e1 (nl + 1) f1)) B b N m (nl + 1) (insF l 5 nl at_ [a, s, kd, pr, un]) nw k g (.slice e1 (nl + 1) f1) (.slice b2 nw d2)) := ⟨hBb.out.1, hBb.out.2, HB'.out.set1 _, HP4.out.kept (hk5 _ HA.out.1), HLL.out.kept (fun j hj => hk5 j (hub.out j hj).1), HW4.out.kept (fun j hj => hk5 j (HA.out.2.2.1 j hj).1)⟩
  have HBB5 : Hid (Below B w (w5.setCell ⟨b, 1, none⟩ (.slice e1 (nl + 1) f1))) := HBB.out.setCell hBb.out.1 _
  refine hK.out _ _ S5 (fun hS => ?_)
  clear hK K hk5 t0 t1 t2 ft0 ft1 ft2 HB' HP4 HLL HW4 HBB S5
  generalize w5.setCell ⟨b, 1, none⟩ (.slice e1 (nl + 1) f1) = w6 at HC5 HBB5 hS ⊢
  refine wpAnyH_done (by kernel_rfl) ?_ _
  go_simp
  by_cases hkd : kd = 1
  ·subst hkd
   have HPP : Hid (∀ w', ((∃ q u1' u2', placeAt (aheadL l a) nl q ∧ Cols w' B b (N + 1) (putM m a s va) (nl + 1) (insF l 5 nl q [a, s, 1, pr, un]) nw k g u1' u2') ∧ Below B w w') → POST w') := fun w' h => HPO.out w' (by rw [if_pos rfl]; exact h)
   clear HPO
   obtain ⟨z0, z1, z2, z3, z4⟩ := hS
   obtain ⟨⟨t0, t1, t2⟩, _⟩ := HC5.out.2.2.1
   have HPM : Hid (PM w6 g N m) := HC5.out.2.2.2.1
   clear HA4
   obtain ⟨w7, hrun, hP7, hg7⟩ := PM.put (w := w6.drew) (HPM.out.kept rfl) (Nat.lt_of_le_of_lt hN (by decide)) wa ws wv
   have hk7 : ∀ i, i < w6.heap.size → i ≠ g → w7.heap[i]? = w6.heap[i]? := fun i hi hne => hg7.block i hi (fun e => hne (Option.some.inj e))
   have S7 : w7.cell? ⟨b, 0, none⟩ = some (.map (some g)) ∧ w7.cell? ⟨w.heap.size, 0, none⟩ = some (.int .i64 a) ∧ w7.cell? ⟨w.heap.size, 1, none⟩ = some (.int .i64 s) := by
    have e1 := hk7 b HC5.out.2.2.1.lt (fun e => HA.out.1 e.symm)
    have e2 := hk7 w.heap.size (lt_cell z0) (by omega)
    exact ⟨(cell_kept e1 0).trans t0, (cell_kept e2 0).trans z0, (cell_kept e2 1).trans z1⟩
   have hfin : Hid (POST w7) := HPP.out w7 ⟨⟨at_, _, _, HP.out, ⟨hBb.out.1, hBb.out.2, HC5.out.2.2.1.kept (hk7 b HC5.out.2.2.1.lt (fun e => HA.out.1 e.symm)), hP7, HC5.out.2.2.2.2.1.kept (fun j hj => hk7 j (own_in HC5.out.2.2.2.2.1 j hj).2 (hub.out j hj).2), HC5.out.2.2.2.2.2.kept (fun j hj => hk7 j (own_in HC5.out.2.2.2.2.2 j hj).2 (HA.out.2.2.1 j hj).2)⟩⟩, HBB5.out.trans ⟨hg7.os, hg7.tape, hg7.output, hg7.size, fun i hi => hk7 i (by have := hBb.out; have := HBB5.out.size; omega) (by have := hBb.out; omega)⟩⟩
   clear HPP HC5 HBB5 hk7 hP7 hg7 hub HA HPM
   go_upto_region 13 with fail
   refine wp_region_held_drew (S := fun X => X.cell? ⟨b, 0, none⟩ = some (.map (some g)) ∧ X.cell? ⟨w.heap.size, 0, none⟩ = some (.int .i64 a) ∧ X.cell? ⟨w.heap.size, 1, none⟩ = some (.int .i64 s)) (by kernel_rfl) ⟨t0, z0, z1⟩ (fun hS => ?_)
   refine tkH 0 ?_ hS (fun wx hx => ?_) ?_; rotate_left
   ·obtain ⟨hx0, hx1, hx2⟩ := hx; go_simp; try with_reducible rfl
   refine tkH 1 ?_ hS (fun wx hx => ?_) ?_; rotate_left
   ·obtain ⟨hx0, hx1, hx2⟩ := hx; go_simp; try with_reducible rfl
   refine tkH 2 ?_ hS (fun wx hx => ?_) ?_; rotate_left
   ·obtain ⟨hx0, hx1, hx2⟩ := hx; go_simp; try with_reducible rfl
   refine tkH 3 ?_ hS (fun wx hx => ?_) ?_; rotate_left
   ·obtain ⟨hx0, hx1, hx2⟩ := hx; go_simp; try with_reducible rfl
   refine tkH 4 ?_ hS (fun wx hx => ?_) ?_; rotate_left
   ·obtain ⟨hx0, hx1, hx2⟩ := hx; go_simp; try with_reducible rfl
   refine tkH 5 ?_ hS (fun wx hx => ?_) ?_; rotate_left
   ·obtain ⟨hx0, hx1, hx2⟩ := hx; go_simp; try with_reducible rfl
   refine tkH 6 ?_ hS (fun wx hx => ?_) ?_; rotate_left
   ·obtain ⟨hx0, hx1, hx2⟩ := hx; go_simp; try with_reducible rfl
   refine tkH 7 ?_ hS (fun wx hx => ?_) ?_; rotate_left
   ·obtain ⟨hx0, hx1, hx2⟩ := hx; go_simp; try with_reducible rfl
   refine tkH 8 ?_ hS (fun wx hx => ?_) ?_; rotate_left
   ·obtain ⟨hx0, hx1, hx2⟩ := hx; go_simp; try with_reducible rfl
   refine tkH 9 ?_ hS (fun wx hx => ?_) ?_; rotate_left
   ·obtain ⟨hx0, hx1, hx2⟩ := hx; go_simp; try with_reducible rfl
   refine rdH 10 (fun K hK => ?_)
   go_simp
   refine hK.out _ _ S7 (fun hS => ?_)
   clear hK K
   refine wpAnyH_done (by kernel_rfl) ?_ _
   go_simp
   go_wp2
   go_ret
   exact ⟨rfl, hfin.out⟩
  ·have HPP : Hid (POST w6) := HPO.out w6 (by rw [if_neg hkd]; exact ⟨⟨at_, _, _, HP.out, ⟨HC5.out.1, HC5.out.2.1, HC5.out.2.2.1, HC5.out.2.2.2.1.mono (Nat.le_succ _), HC5.out.2.2.2.2⟩⟩, HBB5.out⟩)
   have dk : (kd == 1) = false := beq_eq_false_iff_ne.2 hkd
   clear HPO hkd HC5 HBB5 HA4 hub HA
   obtain ⟨z0, z1, z2, z3, z4⟩ := hS
   go_wp2
   go_ret
   exact ⟨rfl, HPP.out⟩
end

section
open Go.RowKit
def newerP (k : Nat → Int) (nw : Nat) (a s : Int) : Prop := ∃ i, lastW k nw a 100000 i ∧ s ≤ k (i * 4 + 1)
theorem lateP_iff {k : Nat → Int} {nw : Nat} {a s : Int} : lateP k nw a s ↔ (∃ i, firstW k nw a s i) ∨ newerP k nw a s := Iff.rfl
set_option maxRecDepth 100000 in
set_option maxHeartbeats 2000000 in
theorem l3Newer_is (S : Sto) (b : Nat) (v0 v1 v2 : Value) (a s : Int) (w : World) (h : Lies w b S v0 v1 v2) (hn : S.nw ≤ 200) (r : Bool) (hr : r = true ↔ newerP S.k S.nw a s) :
  Calls Tryz.prog 85 #[.pointer (some ⟨b, 0, none⟩), .int .i64 a, .int .i64 s] w fun e w' => e = .returned (.bool r) ∧ Below w.heap.size w w' := by
 obtain ⟨a0, c0, a1, c1, a2, c2, rfl, rfl, rfl⟩ := h.2.form
 have H : Hid (Lies w b S (.slice a0 S.nc c0) (.slice a1 S.nl c1) (.slice a2 S.nw c2)) := h
 clear h
 by_cases hi : ∃ i, lastW S.k S.nw a 100000 i
 ·obtain ⟨i, hi⟩ := hi
  obtain ⟨n1, N1⟩ : ∃ x, S.k (i * 4 + 1) = x := ⟨_, rfl⟩
  have e : r = decide (s ≤ n1) := by
   by_cases h1 : s ≤ n1
   ·rw [decide_eq_true h1]; exact hr.2 ⟨i, hi, by rw [N1]; exact h1⟩
   ·rw [decide_eq_false h1]
    cases r with
    | false => rfl
    | true => obtain ⟨j, hj, h2⟩ := hr.1 rfl; obtain rfl := hj.one hi; rw [N1] at h2; exact absurd h2 h1
  have HN : Hid (lastW S.k S.nw a 100000 i) := hi
  have HV : Hid (S.k (i * 4 + 1) = n1) := N1
  have hin : (i : Int) < (S.nw : Int) := by have := hi.1; omega
  clear N1 hi hr
  subst e
  go_enter Tryz.func85, Tryz.ntmps85
  go_wp2_with fail
  refine (l2Last_yes S b _ _ _ a 100000 i _ H.out hn HN.out).mono ?_
  rintro e w1 ⟨rfl, q1⟩
  have HL : Lies w1 b S (.slice a0 S.nc c0) (.slice a1 S.nl c1) (.slice a2 S.nw c2) := H.out.later q1
  obtain ⟨g, o, rfl, _, hg, x0, x1, x2, x3⟩ := HL.2.2.2.at4 HN.out.1
  rw [HV.out] at x1
  have p2 := HL.1.2.2
  have HB : Hid (Below w.heap.size w w1) := q1
  clear HL q1 H HN HV
  go_wp2
  go_ret
  exact ⟨rfl, HB.out⟩
 ·obtain rfl : r = false := by
   cases r with
   | false => rfl
   | true => obtain ⟨i, h1, _⟩ := hr.1 rfl; exact absurd ⟨i, h1⟩ hi
  have HN : Hid (∀ i, ¬ lastW S.k S.nw a 100000 i) := fun i q => hi ⟨i, q⟩
  clear hi hr
  go_enter Tryz.func85, Tryz.ntmps85
  go_wp2_with fail
  refine (l2Last_no S b _ _ _ a 100000 _ H.out hn HN.out).mono ?_
  rintro e w1 ⟨rfl, q1⟩
  have HB : Hid (Below w.heap.size w w1) := q1
  clear q1 H HN
  go_wp2
  go_ret
  exact ⟨rfl, HB.out⟩
end

section
open Go.RowKit Go.Lib
/-- The call's own blocks and the store that it was given. -/
def PrS (w : World) (b : Nat) (S : Sto) (v0 v1 v2 : Value) (a s kd pr un : Int) (x : World) : Prop :=
 LkE w a s kd pr un x ∧ Blk4 x (w.heap.size + 1) (.int .i64 0) (.slice none 0 0) (.slice none 0 0) (.slice none 0 0) ∧ Lies x b S v0 v1 v2
theorem PrS.later {w x x' : World} {b : Nat} {S : Sto} {v0 v1 v2 : Value} {a s kd pr un : Int} (h : PrS w b S v0 v1 v2 a s kd pr un x) (hb : Below x.heap.size x x') : PrS w b S v0 v1 v2 a s kd pr un x' := ⟨h.1.later hb, h.2.1.later hb, h.2.2.later hb⟩
set_option maxRecDepth 100000 in
set_option maxHeartbeats 8000000 in
theorem l3Pre_said (S : Sto) (b : Nat) (v0 v1 v2 : Value) (a s kd pr un va : Int) (i : Nat) (w : World) (h : Lies w b S v0 v1 v2) (hz : storeF S = 0) (hi : FirstAt (writeIs S.k a s) S.nw i) :
  Calls Tryz.prog 45 #[.pointer (some ⟨b, 0, none⟩), .agg #[.int .i64 a, .int .i64 s, .int .i64 kd, .int .i64 pr, .int .i64 un], .int .i64 va] w (ResStoK w 8 emptyS) := by
 obtain ⟨a0, c0, a1, c1, a2, c2, rfl, rfl, rfl⟩ := h.2.form
 have HE : Hid (PrS w b S (.slice a0 S.nc c0) (.slice a1 S.nl c1) (.slice a2 S.nw c2) a s kd pr un ((w.alloc (.cells #[.int .i64 a, .int .i64 s, .int .i64 kd, .int .i64 pr, .int .i64 un] 40)).alloc (.cells #[.int .i64 0, .slice none 0 0, .slice none 0 0, .slice none 0 0] 32))) := by
  refine ⟨(LkE.new w a s kd pr un _).later (below_alloc _ _), ?_, (h.later (below_alloc _ _)).later (below_alloc _ _)⟩
  have := Blk4.new (w.alloc (.cells #[.int .i64 a, .int .i64 s, .int .i64 kd, .int .i64 pr, .int .i64 un] 40)) (.int .i64 0) (.slice none 0 0) (.slice none 0 0) (.slice none 0 0) 32
  rwa [World.size_alloc] at this
 obtain ⟨⟨hn0, hn1, hn2⟩, _⟩ := storeF_zero hz
 clear h hz
 go_enter Tryz.func45, Tryz.ntmps45
 go_wp2_with fail
 generalize (w.alloc (.cells #[.int .i64 a, .int .i64 s, .int .i64 kd, .int .i64 pr, .int .i64 un] 40)).alloc (.cells #[.int .i64 0, .slice none 0 0, .slice none 0 0, .slice none 0 0] 32) = w1 at HE ⊢
 refine (l2Write_is S b _ _ _ a s i _ HE.out.2.2 hn2 hi).mono ?_
 rintro e w' ⟨rfl, rfl⟩
 obtain ⟨⟨⟨y0, y1, y2, y3, y4⟩, _⟩, ⟨⟨r0, r1, r2, r3⟩, f0, f1, f2, f3⟩, ⟨p0, p1, p2⟩, pst⟩ := HE.out
 unfold ResStoK
 clear pst hi
 go_wp2_with fail
 refine (l3Bad_own 8 _).mono ?_
 rintro e w9 ⟨x0, z0, x1, z1, x2, z2, rfl, o4, q4⟩
 have hsz : w.heap.size + 2 ≤ _ := HE.out.2.1.lt
 have S4 : Hid (OwnS w9 (w.heap.size + 2) emptyS (.slice x0 emptyS.nc z0) (.slice x1 emptyS.nl z1) (.slice x2 emptyS.nw z2)) := o4.mono hsz
 have HBW : Hid (Below w.heap.size w w9) := (HE.out.later q4).1.2
 obtain ⟨⟨r0, r1, r2, r3⟩, f0, f1, f2, f3⟩ := (HE.out.later q4).2.1
 clear o4 q4 hsz
 have hlo : (w.heap.size + 1 : Nat) < w.heap.size + 2 := Nat.lt_succ_self _
 go_wp2
 exact bodyPost_ret (v := .agg #[.int .i64 8, .slice x0 emptyS.nc z0, .slice x1 emptyS.nl z1, .slice x2 emptyS.nw z2]) (by simp [results, Tryz.results45, go_sem, r0, r1, r2, r3]) rfl ⟨x0, z0, x1, z1, x2, z2, rfl, ((((S4.out.far hlo _).far hlo _).far hlo _).far hlo _).mono (by omega), (((HBW.out.setCell (Nat.le_succ _) _).setCell (Nat.le_succ _) _).setCell (Nat.le_succ _) _).setCell (Nat.le_succ _) _⟩
set_option maxRecDepth 100000 in
set_option maxHeartbeats 8000000 in
theorem l3Pre_newer (S : Sto) (b : Nat) (v0 v1 v2 : Value) (a s kd pr un va : Int) (w : World) (h : Lies w b S v0 v1 v2) (hz : storeF S = 0) (hi : FirstAt (writeIs S.k a s) S.nw (-1)) (hm : newerP S.k S.nw a s) :
  Calls Tryz.prog 45 #[.pointer (some ⟨b, 0, none⟩), .agg #[.int .i64 a, .int .i64 s, .int .i64 kd, .int .i64 pr, .int .i64 un], .int .i64 va] w (ResStoK w 8 emptyS) := by
 obtain ⟨a0, c0, a1, c1, a2, c2, rfl, rfl, rfl⟩ := h.2.form
 have HE : Hid (PrS w b S (.slice a0 S.nc c0) (.slice a1 S.nl c1) (.slice a2 S.nw c2) a s kd pr un ((w.alloc (.cells #[.int .i64 a, .int .i64 s, .int .i64 kd, .int .i64 pr, .int .i64 un] 40)).alloc (.cells #[.int .i64 0, .slice none 0 0, .slice none 0 0, .slice none 0 0] 32))) := by
  refine ⟨(LkE.new w a s kd pr un _).later (below_alloc _ _), ?_, (h.later (below_alloc _ _)).later (below_alloc _ _)⟩
  have := Blk4.new (w.alloc (.cells #[.int .i64 a, .int .i64 s, .int .i64 kd, .int .i64 pr, .int .i64 un] 40)) (.int .i64 0) (.slice none 0 0) (.slice none 0 0) (.slice none 0 0) 32
  rwa [World.size_alloc] at this
 obtain ⟨⟨hn0, hn1, hn2⟩, _⟩ := storeF_zero hz
 clear h hz
 go_enter Tryz.func45, Tryz.ntmps45
 go_wp2_with fail
 generalize (w.alloc (.cells #[.int .i64 a, .int .i64 s, .int .i64 kd, .int .i64 pr, .int .i64 un] 40)).alloc (.cells #[.int .i64 0, .slice none 0 0, .slice none 0 0, .slice none 0 0] 32) = w1 at HE ⊢
 refine (l2Write_is S b _ _ _ a s (-1) _ HE.out.2.2 hn2 hi).mono ?_
 rintro e w' ⟨rfl, rfl⟩
 obtain ⟨⟨⟨y0, y1, y2, y3, y4⟩, _⟩, ⟨⟨r0, r1, r2, r3⟩, f0, f1, f2, f3⟩, ⟨p0, p1, p2⟩, pst⟩ := HE.out
 unfold ResStoK
 clear pst hi
 have HM : Hid (newerP S.k S.nw a s) := hm
 clear hm
 go_wp2_with fail
 refine (l3Newer_is S b _ _ _ a s _ HE.out.2.2 hn2 true ⟨fun _ => HM.out, fun _ => rfl⟩).mono ?_
 rintro e w3 ⟨rfl, q3⟩
 have HE : Hid (PrS w b S (.slice a0 S.nc c0) (.slice a1 S.nl c1) (.slice a2 S.nw c2) a s kd pr un w3) := HE.out.later q3
 clear q3 y0 y1 y2 y3 y4 r0 r1 r2 r3 f0 f1 f2 f3 p0 p1 p2
 obtain ⟨⟨⟨y0, y1, y2, y3, y4⟩, _⟩, ⟨⟨r0, r1, r2, r3⟩, f0, f1, f2, f3⟩, ⟨p0, p1, p2⟩, pst⟩ := HE.out
 clear pst
 go_wp2_with fail
 refine (l3Bad_own 8 _).mono ?_
 rintro e w9 ⟨x0, z0, x1, z1, x2, z2, rfl, o4, q4⟩
 have hsz : w.heap.size + 2 ≤ _ := HE.out.2.1.lt
 have S4 : Hid (OwnS w9 (w.heap.size + 2) emptyS (.slice x0 emptyS.nc z0) (.slice x1 emptyS.nl z1) (.slice x2 emptyS.nw z2)) := o4.mono hsz
 have HBW : Hid (Below w.heap.size w w9) := (HE.out.later q4).1.2
 obtain ⟨⟨r0, r1, r2, r3⟩, f0, f1, f2, f3⟩ := (HE.out.later q4).2.1
 clear o4 q4 hsz
 have hlo : (w.heap.size + 1 : Nat) < w.heap.size + 2 := Nat.lt_succ_self _
 go_wp2
 exact bodyPost_ret (v := .agg #[.int .i64 8, .slice x0 emptyS.nc z0, .slice x1 emptyS.nl z1, .slice x2 emptyS.nw z2]) (by simp [results, Tryz.results45, go_sem, r0, r1, r2, r3]) rfl ⟨x0, z0, x1, z1, x2, z2, rfl, ((((S4.out.far hlo _).far hlo _).far hlo _).far hlo _).mono (by omega), (((HBW.out.setCell (Nat.le_succ _) _).setCell (Nat.le_succ _) _).setCell (Nat.le_succ _) _).setCell (Nat.le_succ _) _⟩
set_option maxRecDepth 100000 in
set_option maxHeartbeats 8000000 in
theorem l3Pre_same (S : Sto) (b : Nat) (v0 v1 v2 : Value) (a s kd pr un va : Int) (j : Nat) (w : World) (h : Lies w b S v0 v1 v2) (hz : storeF S = 0) (hi : FirstAt (writeIs S.k a s) S.nw (-1)) (hm : ¬ newerP S.k S.nw a s) (hl : FirstAt (lockIs S.l a) S.nl j) (hj : S.l (j * 5 + 1) = s) :
  Calls Tryz.prog 45 #[.pointer (some ⟨b, 0, none⟩), .agg #[.int .i64 a, .int .i64 s, .int .i64 kd, .int .i64 pr, .int .i64 un], .int .i64 va] w (ResStoK w 0 S) := by
 have HJ : Hid (FirstAt (lockIs S.l a) S.nl j ∧ S.l (j * 5 + 1) = s) := ⟨hl, hj⟩
 clear hl hj
 obtain ⟨a0, c0, a1, c1, a2, c2, rfl, rfl, rfl⟩ := h.2.form
 have HE : Hid (PrS w b S (.slice a0 S.nc c0) (.slice a1 S.nl c1) (.slice a2 S.nw c2) a s kd pr un ((w.alloc (.cells #[.int .i64 a, .int .i64 s, .int .i64 kd, .int .i64 pr, .int .i64 un] 40)).alloc (.cells #[.int .i64 0, .slice none 0 0, .slice none 0 0, .slice none 0 0] 32))) := by
  refine ⟨(LkE.new w a s kd pr un _).later (below_alloc _ _), ?_, (h.later (below_alloc _ _)).later (below_alloc _ _)⟩
  have := Blk4.new (w.alloc (.cells #[.int .i64 a, .int .i64 s, .int .i64 kd, .int .i64 pr, .int .i64 un] 40)) (.int .i64 0) (.slice none 0 0) (.slice none 0 0) (.slice none 0 0) 32
  rwa [World.size_alloc] at this
 obtain ⟨⟨hn0, hn1, hn2⟩, _⟩ := storeF_zero hz
 clear h hz
 go_enter Tryz.func45, Tryz.ntmps45
 go_wp2_with fail
 generalize (w.alloc (.cells #[.int .i64 a, .int .i64 s, .int .i64 kd, .int .i64 pr, .int .i64 un] 40)).alloc (.cells #[.int .i64 0, .slice none 0 0, .slice none 0 0, .slice none 0 0] 32) = w1 at HE ⊢
 refine (l2Write_is S b _ _ _ a s (-1) _ HE.out.2.2 hn2 hi).mono ?_
 rintro e w' ⟨rfl, rfl⟩
 obtain ⟨⟨⟨y0, y1, y2, y3, y4⟩, _⟩, ⟨⟨r0, r1, r2, r3⟩, f0, f1, f2, f3⟩, ⟨p0, p1, p2⟩, pst⟩ := HE.out
 unfold ResStoK
 clear pst hi
 have HM : Hid (¬ newerP S.k S.nw a s) := hm
 clear hm
 go_wp2_with fail
 refine (l3Newer_is S b _ _ _ a s _ HE.out.2.2 hn2 false ⟨fun q => (Bool.false_ne_true q).elim, fun q => (HM.out q).elim⟩).mono ?_
 rintro e w3 ⟨rfl, q3⟩
 have HE : Hid (PrS w b S (.slice a0 S.nc c0) (.slice a1 S.nl c1) (.slice a2 S.nw c2) a s kd pr un w3) := HE.out.later q3
 clear q3 y0 y1 y2 y3 y4 r0 r1 r2 r3 f0 f1 f2 f3 p0 p1 p2 HM
 obtain ⟨⟨⟨y0, y1, y2, y3, y4⟩, _⟩, ⟨⟨r0, r1, r2, r3⟩, f0, f1, f2, f3⟩, ⟨p0, p1, p2⟩, pst⟩ := HE.out
 clear pst
 go_wp2_with fail
 refine (l2Copy_own S _ _ _ 0 _ HE.out.2.2.2 ⟨by omega, by omega, by omega⟩).mono ?_
 rintro e w4 ⟨d0, e0, d1, e1, d2, e2, rfl, o2, q2⟩
 have g0 := own_cap o2.1.1
 have g1 := own_cap o2.1.2.1
 have g2 := own_cap o2.1.2.2
 obtain ⟨s2, fr2, ap2⟩ := o2.all
 have hz3 : Hid (w.heap.size + 2 ≤ w3.heap.size) := HE.out.2.1.lt
 have HS : Hid ((St w4 w3.heap.size S (.slice d0 S.nc e0) (.slice d1 S.nl e1) (.slice d2 S.nw e2) ∧ FreeS w4 S (.slice d0 S.nc e0) (.slice d1 S.nl e1) (.slice d2 S.nw e2)) ∧ ApartD S (.slice d0 S.nc e0) (.slice d1 S.nl e1) (.slice d2 S.nw e2)) := ⟨⟨s2, fr2⟩, ap2⟩
 have HOS : Hid (OwnS w4 w3.heap.size S (.slice d0 S.nc e0) (.slice d1 S.nl e1) (.slice d2 S.nw e2)) := o2
 have HE : Hid (PrS w b S (.slice a0 S.nc c0) (.slice a1 S.nl c1) (.slice a2 S.nw c2) a s kd pr un (w4.alloc (.cells #[.slice d0 S.nc e0, .slice d1 S.nl e1, .slice d2 S.nw e2] 28)) ∧ Blk3 (w4.alloc (.cells #[.slice d0 S.nc e0, .slice d1 S.nl e1, .slice d2 S.nw e2] 28)) w4.heap.size (.slice d0 S.nc e0) (.slice d1 S.nl e1) (.slice d2 S.nw e2)) := ⟨(HE.out.later q2).later (below_alloc _ _), Blk3.new _ _ _ _ _⟩
 have hz4 : Hid (w3.heap.size ≤ w4.heap.size) := q2.size
 have B45 : Hid (Below w4.heap.size w4 (w4.alloc (.cells #[.slice d0 S.nc e0, .slice d1 S.nl e1, .slice d2 S.nw e2] 28))) := below_alloc _ _
 clear o2 s2 fr2 ap2 q2 y0 y1 y2 y3 y4 r0 r1 r2 r3 f0 f1 f2 f3 p0 p1 p2
 have HO : Hid (Blk3 (w4.alloc (.cells #[.slice d0 S.nc e0, .slice d1 S.nl e1, .slice d2 S.nw e2] 28)) w4.heap.size (.slice d0 S.nc e0) (.slice d1 S.nl e1) (.slice d2 S.nw e2)) := HE.out.2
 have HE : Hid (PrS w b S (.slice a0 S.nc c0) (.slice a1 S.nl c1) (.slice a2 S.nw c2) a s kd pr un (w4.alloc (.cells #[.slice d0 S.nc e0, .slice d1 S.nl e1, .slice d2 S.nw e2] 28))) := HE.out.1
 obtain ⟨⟨⟨y0, y1, y2, y3, y4⟩, _⟩, ⟨⟨r0, r1, r2, r3⟩, f0, f1, f2, f3⟩, ⟨p0, p1, p2⟩, pst⟩ := HE.out
 go_wp2_with fail
 clear y0 y1 y2 y3 y4 r0 r1 r2 r3 f0 f1 f2 f3 p0 p1 p2 pst
 generalize w4.alloc (.cells #[.slice d0 S.nc e0, .slice d1 S.nl e1, .slice d2 S.nw e2] 28) = w5 at HE HO B45 ⊢
 obtain ⟨⟨⟨y0, y1, y2, y3, y4⟩, _⟩, ⟨⟨r0, r1, r2, r3⟩, f0, f1, f2, f3⟩, ⟨p0, p1, p2⟩, pst⟩ := HE.out
 obtain ⟨⟨t0, t1, t2⟩, _⟩ := HO.out
 refine (l2Lock_is S b _ _ _ a j _ HE.out.2.2 hn1 HJ.out.1).mono ?_
 rintro e w' ⟨rfl, rfl⟩
 obtain ⟨g, o, hg, _, hgl, x0, x1, x2, x3, x4⟩ := pst.2.1.at5 HJ.out.1.at.1
 subst hg
 rw [HJ.out.2] at x1
 have hjn : (j : Int) < (S.nl : Int) := by have := HJ.out.1.at.1; omega
 clear pst HJ
 clear r0 r1 r2 r3 f0 f1 f2 f3 t0 t1 t2
 go_upto_region 6 with fail
 refine wp_region_held_drew (S := fun X => X.cell? ⟨b, 1, none⟩ = some (.slice (some ⟨g, o, none⟩) S.nl c1) ∧ X.cell? ⟨w.heap.size, 1, none⟩ = some (.int .i64 s) ∧ X.cell? ⟨g, o + j * 5 + 1, none⟩ = some (.int .i64 s)) (by kernel_rfl) ⟨p1, y1, x1⟩ (fun hS => ?_)
 refine tkH 0 ?_ hS (fun wx hx => ?_) ?_; rotate_left
 ·obtain ⟨hx0, hx1, hx2⟩ := hx; go_simp; try with_reducible rfl
 refine tkH 1 ?_ hS (fun wx hx => ?_) ?_; rotate_left
 ·obtain ⟨hx0, hx1, hx2⟩ := hx; go_simp; try with_reducible rfl
 refine tkH 2 ?_ hS (fun wx hx => ?_) ?_; rotate_left
 ·obtain ⟨hx0, hx1, hx2⟩ := hx; go_simp; try with_reducible rfl
 refine tkH 3 ?_ hS (fun wx hx => ?_) ?_; rotate_left
 ·obtain ⟨hx0, hx1, hx2⟩ := hx; go_simp; try with_reducible rfl
 refine tkH 4 ?_ hS (fun wx hx => ?_) ?_; rotate_left
 ·obtain ⟨hx0, hx1, hx2⟩ := hx; go_simp; try with_reducible rfl
 refine tkH 5 ?_ hS (fun wx hx => ?_) ?_; rotate_left
 ·obtain ⟨hx0, hx1, hx2⟩ := hx; go_simp; try with_reducible rfl
 refine tkH 6 ?_ hS (fun wx hx => ?_) ?_; rotate_left
 ·obtain ⟨hx0, hx1, hx2⟩ := hx; go_simp; try with_reducible rfl
 refine tkH 7 ?_ hS (fun wx hx => ?_) ?_; rotate_left
 ·obtain ⟨hx0, hx1, hx2⟩ := hx; go_simp; try with_reducible rfl
 refine tkH 8 ?_ hS (fun wx hx => ?_) ?_; rotate_left
 ·obtain ⟨hx0, hx1, hx2⟩ := hx; go_simp; try with_reducible rfl
 refine tkH 9 ?_ hS (fun wx hx => ?_) ?_; rotate_left
 ·obtain ⟨hx0, hx1, hx2⟩ := hx; go_simp; try with_reducible rfl
 refine tkH 10 ?_ hS (fun wx hx => ?_) ?_; rotate_left
 ·obtain ⟨hx0, hx1, hx2⟩ := hx; go_simp; try with_reducible rfl
 refine wpAnyH_done (by kernel_rfl) ?_ _
 go_simp
 clear hS x0 x1 x2 x3 x4 p0 p1 p2 y0 y1 y2 y3 y4 hgl
 have HE : Hid (PrS w b S (.slice a0 S.nc c0) (.slice (some ⟨g, o, none⟩) S.nl c1) (.slice a2 S.nw c2) a s kd pr un w'.drew) := HE.out.later (below_drew _)
 have HO : Hid (Blk3 w'.drew w4.heap.size (.slice d0 S.nc e0) (.slice d1 S.nl e1) (.slice d2 S.nw e2)) := HO.out.later (below_drew _)
 have B45 : Hid (Below w4.heap.size w4 w'.drew) := B45.out.trans ((below_drew w').mono B45.out.size)
 generalize w'.drew = w6 at HE HO B45 ⊢
 obtain ⟨⟨⟨y0, y1, y2, y3, y4⟩, _⟩, ⟨⟨r0, r1, r2, r3⟩, f0, f1, f2, f3⟩, ⟨p0, p1, p2⟩, pst⟩ := HE.out
 obtain ⟨⟨t0, t1, t2⟩, _⟩ := HO.out
 clear pst
 go_wp2
 have S3 : St w6 w3.heap.size S (.slice d0 S.nc e0) (.slice d1 S.nl e1) (.slice d2 S.nw e2) := HS.out.1.1.later B45.out
 have O3 := HOS.out.later B45.out
 have HBW : Below w.heap.size w w6 := HE.out.1.2
 have hlo : (w.heap.size + 1 : Nat) < w3.heap.size := by have := hz3.out; omega
 exact bodyPost_ret (v := .agg #[.int .i64 0, .slice d0 S.nc e0, .slice d1 S.nl e1, .slice d2 S.nw e2]) (by simp [results, Tryz.results45, go_sem, r0, r1, r2, r3]) rfl ⟨d0, e0, d1, e1, d2, e2, rfl, ((((O3.far hlo _).far hlo _).far hlo _).far hlo _).mono (by omega), (((HBW.setCell (Nat.le_succ _) _).setCell (Nat.le_succ _) _).setCell (Nat.le_succ _) _).setCell (Nat.le_succ _) _⟩
set_option maxRecDepth 100000 in
set_option maxHeartbeats 8000000 in
theorem l3Pre_locked (S : Sto) (b : Nat) (v0 v1 v2 : Value) (a s kd pr un va : Int) (j : Nat) (w : World) (h : Lies w b S v0 v1 v2) (hz : storeF S = 0) (hi : FirstAt (writeIs S.k a s) S.nw (-1)) (hm : ¬ newerP S.k S.nw a s) (hl : FirstAt (lockIs S.l a) S.nl j) (hj : S.l (j * 5 + 1) ≠ s) :
  Calls Tryz.prog 45 #[.pointer (some ⟨b, 0, none⟩), .agg #[.int .i64 a, .int .i64 s, .int .i64 kd, .int .i64 pr, .int .i64 un], .int .i64 va] w (ResStoK w 7 emptyS) := by
 have HJ : Hid (FirstAt (lockIs S.l a) S.nl j ∧ S.l (j * 5 + 1) ≠ s) := ⟨hl, hj⟩
 clear hl hj
 obtain ⟨a0, c0, a1, c1, a2, c2, rfl, rfl, rfl⟩ := h.2.form
 have HE : Hid (PrS w b S (.slice a0 S.nc c0) (.slice a1 S.nl c1) (.slice a2 S.nw c2) a s kd pr un ((w.alloc (.cells #[.int .i64 a, .int .i64 s, .int .i64 kd, .int .i64 pr, .int .i64 un] 40)).alloc (.cells #[.int .i64 0, .slice none 0 0, .slice none 0 0, .slice none 0 0] 32))) := by
  refine ⟨(LkE.new w a s kd pr un _).later (below_alloc _ _), ?_, (h.later (below_alloc _ _)).later (below_alloc _ _)⟩
  have := Blk4.new (w.alloc (.cells #[.int .i64 a, .int .i64 s, .int .i64 kd, .int .i64 pr, .int .i64 un] 40)) (.int .i64 0) (.slice none 0 0) (.slice none 0 0) (.slice none 0 0) 32
  rwa [World.size_alloc] at this
 obtain ⟨⟨hn0, hn1, hn2⟩, _⟩ := storeF_zero hz
 clear h hz
 go_enter Tryz.func45, Tryz.ntmps45
 go_wp2_with fail
 generalize (w.alloc (.cells #[.int .i64 a, .int .i64 s, .int .i64 kd, .int .i64 pr, .int .i64 un] 40)).alloc (.cells #[.int .i64 0, .slice none 0 0, .slice none 0 0, .slice none 0 0] 32) = w1 at HE ⊢
 refine (l2Write_is S b _ _ _ a s (-1) _ HE.out.2.2 hn2 hi).mono ?_
 rintro e w' ⟨rfl, rfl⟩
 obtain ⟨⟨⟨y0, y1, y2, y3, y4⟩, _⟩, ⟨⟨r0, r1, r2, r3⟩, f0, f1, f2, f3⟩, ⟨p0, p1, p2⟩, pst⟩ := HE.out
 unfold ResStoK
 clear pst hi
 have HM : Hid (¬ newerP S.k S.nw a s) := hm
 clear hm
 go_wp2_with fail
 refine (l3Newer_is S b _ _ _ a s _ HE.out.2.2 hn2 false ⟨fun q => (Bool.false_ne_true q).elim, fun q => (HM.out q).elim⟩).mono ?_
 rintro e w3 ⟨rfl, q3⟩
 have HE : Hid (PrS w b S (.slice a0 S.nc c0) (.slice a1 S.nl c1) (.slice a2 S.nw c2) a s kd pr un w3) := HE.out.later q3
 clear q3 y0 y1 y2 y3 y4 r0 r1 r2 r3 f0 f1 f2 f3 p0 p1 p2 HM
 obtain ⟨⟨⟨y0, y1, y2, y3, y4⟩, _⟩, ⟨⟨r0, r1, r2, r3⟩, f0, f1, f2, f3⟩, ⟨p0, p1, p2⟩, pst⟩ := HE.out
 clear pst
 go_wp2_with fail
 refine (l2Copy_own S _ _ _ 0 _ HE.out.2.2.2 ⟨by omega, by omega, by omega⟩).mono ?_
 rintro e w4 ⟨d0, e0, d1, e1, d2, e2, rfl, o2, q2⟩
 have g0 := own_cap o2.1.1
 have g1 := own_cap o2.1.2.1
 have g2 := own_cap o2.1.2.2
 obtain ⟨s2, fr2, ap2⟩ := o2.all
 have hz3 : Hid (w.heap.size + 2 ≤ w3.heap.size) := HE.out.2.1.lt
 have HS : Hid ((St w4 w3.heap.size S (.slice d0 S.nc e0) (.slice d1 S.nl e1) (.slice d2 S.nw e2) ∧ FreeS w4 S (.slice d0 S.nc e0) (.slice d1 S.nl e1) (.slice d2 S.nw e2)) ∧ ApartD S (.slice d0 S.nc e0) (.slice d1 S.nl e1) (.slice d2 S.nw e2)) := ⟨⟨s2, fr2⟩, ap2⟩
 have HOS : Hid (OwnS w4 w3.heap.size S (.slice d0 S.nc e0) (.slice d1 S.nl e1) (.slice d2 S.nw e2)) := o2
 have HE : Hid (PrS w b S (.slice a0 S.nc c0) (.slice a1 S.nl c1) (.slice a2 S.nw c2) a s kd pr un (w4.alloc (.cells #[.slice d0 S.nc e0, .slice d1 S.nl e1, .slice d2 S.nw e2] 28)) ∧ Blk3 (w4.alloc (.cells #[.slice d0 S.nc e0, .slice d1 S.nl e1, .slice d2 S.nw e2] 28)) w4.heap.size (.slice d0 S.nc e0) (.slice d1 S.nl e1) (.slice d2 S.nw e2)) := ⟨(HE.out.later q2).later (below_alloc _ _), Blk3.new _ _ _ _ _⟩
 have hz4 : Hid (w3.heap.size ≤ w4.heap.size) := q2.size
 have B45 : Hid (Below w4.heap.size w4 (w4.alloc (.cells #[.slice d0 S.nc e0, .slice d1 S.nl e1, .slice d2 S.nw e2] 28))) := below_alloc _ _
 clear o2 s2 fr2 ap2 q2 y0 y1 y2 y3 y4 r0 r1 r2 r3 f0 f1 f2 f3 p0 p1 p2
 have HO : Hid (Blk3 (w4.alloc (.cells #[.slice d0 S.nc e0, .slice d1 S.nl e1, .slice d2 S.nw e2] 28)) w4.heap.size (.slice d0 S.nc e0) (.slice d1 S.nl e1) (.slice d2 S.nw e2)) := HE.out.2
 have HE : Hid (PrS w b S (.slice a0 S.nc c0) (.slice a1 S.nl c1) (.slice a2 S.nw c2) a s kd pr un (w4.alloc (.cells #[.slice d0 S.nc e0, .slice d1 S.nl e1, .slice d2 S.nw e2] 28))) := HE.out.1
 obtain ⟨⟨⟨y0, y1, y2, y3, y4⟩, _⟩, ⟨⟨r0, r1, r2, r3⟩, f0, f1, f2, f3⟩, ⟨p0, p1, p2⟩, pst⟩ := HE.out
 go_wp2_with fail
 clear y0 y1 y2 y3 y4 r0 r1 r2 r3 f0 f1 f2 f3 p0 p1 p2 pst
 generalize w4.alloc (.cells #[.slice d0 S.nc e0, .slice d1 S.nl e1, .slice d2 S.nw e2] 28) = w5 at HE HO B45 ⊢
 obtain ⟨⟨⟨y0, y1, y2, y3, y4⟩, _⟩, ⟨⟨r0, r1, r2, r3⟩, f0, f1, f2, f3⟩, ⟨p0, p1, p2⟩, pst⟩ := HE.out
 obtain ⟨⟨t0, t1, t2⟩, _⟩ := HO.out
 refine (l2Lock_is S b _ _ _ a j _ HE.out.2.2 hn1 HJ.out.1).mono ?_
 rintro e w' ⟨rfl, rfl⟩
 obtain ⟨g, o, hg, _, hgl, x0, x1, x2, x3, x4⟩ := pst.2.1.at5 HJ.out.1.at.1
 subst hg
 obtain ⟨n1, N1⟩ : ∃ x, S.l (j * 5 + 1) = x := ⟨_, rfl⟩
 rw [N1] at x1
 have dn : (n1 == s) = false := beq_eq_false_iff_ne.2 (by rw [← N1]; exact HJ.out.2)
 have hjn : (j : Int) < (S.nl : Int) := by have := HJ.out.1.at.1; omega
 clear pst HJ N1
 clear r0 r1 r2 r3 f0 f1 f2 f3 t0 t1 t2
 go_upto_region 6 with fail
 refine wp_region_held_drew (S := fun X => X.cell? ⟨b, 1, none⟩ = some (.slice (some ⟨g, o, none⟩) S.nl c1) ∧ X.cell? ⟨w.heap.size, 1, none⟩ = some (.int .i64 s) ∧ X.cell? ⟨g, o + j * 5 + 1, none⟩ = some (.int .i64 n1)) (by kernel_rfl) ⟨p1, y1, x1⟩ (fun hS => ?_)
 refine tkH 0 ?_ hS (fun wx hx => ?_) ?_; rotate_left
 ·obtain ⟨hx0, hx1, hx2⟩ := hx; go_simp; try with_reducible rfl
 refine tkH 1 ?_ hS (fun wx hx => ?_) ?_; rotate_left
 ·obtain ⟨hx0, hx1, hx2⟩ := hx; go_simp; try with_reducible rfl
 refine tkH 2 ?_ hS (fun wx hx => ?_) ?_; rotate_left
 ·obtain ⟨hx0, hx1, hx2⟩ := hx; go_simp; try with_reducible rfl
 refine tkH 3 ?_ hS (fun wx hx => ?_) ?_; rotate_left
 ·obtain ⟨hx0, hx1, hx2⟩ := hx; go_simp; try with_reducible rfl
 refine tkH 4 ?_ hS (fun wx hx => ?_) ?_; rotate_left
 ·obtain ⟨hx0, hx1, hx2⟩ := hx; go_simp; try with_reducible rfl
 refine tkH 5 ?_ hS (fun wx hx => ?_) ?_; rotate_left
 ·obtain ⟨hx0, hx1, hx2⟩ := hx; go_simp; try with_reducible rfl
 refine tkH 6 ?_ hS (fun wx hx => ?_) ?_; rotate_left
 ·obtain ⟨hx0, hx1, hx2⟩ := hx; go_simp; try with_reducible rfl
 refine tkH 7 ?_ hS (fun wx hx => ?_) ?_; rotate_left
 ·obtain ⟨hx0, hx1, hx2⟩ := hx; go_simp; try with_reducible rfl
 refine tkH 8 ?_ hS (fun wx hx => ?_) ?_; rotate_left
 ·obtain ⟨hx0, hx1, hx2⟩ := hx; go_simp; try with_reducible rfl
 refine tkH 9 ?_ hS (fun wx hx => ?_) ?_; rotate_left
 ·obtain ⟨hx0, hx1, hx2⟩ := hx; go_simp; try with_reducible rfl
 refine tkH 10 ?_ hS (fun wx hx => ?_) ?_; rotate_left
 ·obtain ⟨hx0, hx1, hx2⟩ := hx; go_simp; try with_reducible rfl
 refine wpAnyH_done (by kernel_rfl) ?_ _
 go_simp
 clear hS x0 x1 x2 x3 x4 p0 p1 p2 y0 y1 y2 y3 y4 hgl
 have HE : Hid (PrS w b S (.slice a0 S.nc c0) (.slice (some ⟨g, o, none⟩) S.nl c1) (.slice a2 S.nw c2) a s kd pr un w'.drew) := HE.out.later (below_drew _)
 have HO : Hid (Blk3 w'.drew w4.heap.size (.slice d0 S.nc e0) (.slice d1 S.nl e1) (.slice d2 S.nw e2)) := HO.out.later (below_drew _)
 have B45 : Hid (Below w4.heap.size w4 w'.drew) := B45.out.trans ((below_drew w').mono B45.out.size)
 generalize w'.drew = w6 at HE HO B45 ⊢
 obtain ⟨⟨⟨y0, y1, y2, y3, y4⟩, _⟩, ⟨⟨r0, r1, r2, r3⟩, f0, f1, f2, f3⟩, ⟨p0, p1, p2⟩, pst⟩ := HE.out
 obtain ⟨⟨t0, t1, t2⟩, _⟩ := HO.out
 clear pst
 go_wp2_with fail
 refine (l3Bad_own 7 _).mono ?_
 rintro e w9 ⟨x0, z0, x1, z1, x2, z2, rfl, o4, q4⟩
 have hsz : w.heap.size + 2 ≤ _ := HE.out.2.1.lt
 have S4 : Hid (OwnS w9 (w.heap.size + 2) emptyS (.slice x0 emptyS.nc z0) (.slice x1 emptyS.nl z1) (.slice x2 emptyS.nw z2)) := o4.mono hsz
 have HBW : Hid (Below w.heap.size w w9) := (HE.out.later q4).1.2
 obtain ⟨⟨r0, r1, r2, r3⟩, f0, f1, f2, f3⟩ := (HE.out.later q4).2.1
 clear o4 q4 hsz
 have hlo : (w.heap.size + 1 : Nat) < w.heap.size + 2 := Nat.lt_succ_self _
 go_wp2
 exact bodyPost_ret (v := .agg #[.int .i64 7, .slice x0 emptyS.nc z0, .slice x1 emptyS.nl z1, .slice x2 emptyS.nw z2]) (by simp [results, Tryz.results45, go_sem, r0, r1, r2, r3]) rfl ⟨x0, z0, x1, z1, x2, z2, rfl, ((((S4.out.far hlo _).far hlo _).far hlo _).far hlo _).mono (by omega), (((HBW.out.setCell (Nat.le_succ _) _).setCell (Nat.le_succ _) _).setCell (Nat.le_succ _) _).setCell (Nat.le_succ _) _⟩
set_option maxRecDepth 100000 in
set_option maxHeartbeats 8000000 in
theorem l3Pre_many (S : Sto) (b : Nat) (v0 v1 v2 : Value) (a s kd pr un va : Int) (hv : Int) (w : World) (h : Lies w b S v0 v1 v2) (hz : storeF S = 0) (hi : FirstAt (writeIs S.k a s) S.nw (-1)) (hm : ¬ newerP S.k S.nw a s) (hl : FirstAt (lockIs S.l a) S.nl (-1)) (hc : FirstAt (cellIs S.c a s) S.nc hv) (hf : 200 ≤ S.nl ∨ kd = 1 ∧ hv = -1 ∧ 200 ≤ S.nc) :
  Calls Tryz.prog 45 #[.pointer (some ⟨b, 0, none⟩), .agg #[.int .i64 a, .int .i64 s, .int .i64 kd, .int .i64 pr, .int .i64 un], .int .i64 va] w (ResStoK w 2 emptyS) := by
 have HJ : Hid (FirstAt (lockIs S.l a) S.nl (-1) ∧ FirstAt (cellIs S.c a s) S.nc hv) := ⟨hl, hc⟩
 clear hl hc
 have HF : Hid (200 ≤ S.nl ∨ kd = 1 ∧ hv = -1 ∧ 200 ≤ S.nc) := hf
 clear hf
 obtain ⟨a0, c0, a1, c1, a2, c2, rfl, rfl, rfl⟩ := h.2.form
 have HE : Hid (PrS w b S (.slice a0 S.nc c0) (.slice a1 S.nl c1) (.slice a2 S.nw c2) a s kd pr un ((w.alloc (.cells #[.int .i64 a, .int .i64 s, .int .i64 kd, .int .i64 pr, .int .i64 un] 40)).alloc (.cells #[.int .i64 0, .slice none 0 0, .slice none 0 0, .slice none 0 0] 32))) := by
  refine ⟨(LkE.new w a s kd pr un _).later (below_alloc _ _), ?_, (h.later (below_alloc _ _)).later (below_alloc _ _)⟩
  have := Blk4.new (w.alloc (.cells #[.int .i64 a, .int .i64 s, .int .i64 kd, .int .i64 pr, .int .i64 un] 40)) (.int .i64 0) (.slice none 0 0) (.slice none 0 0) (.slice none 0 0) 32
  rwa [World.size_alloc] at this
 obtain ⟨⟨hn0, hn1, hn2⟩, _⟩ := storeF_zero hz
 clear h hz
 go_enter Tryz.func45, Tryz.ntmps45
 go_wp2_with fail
 generalize (w.alloc (.cells #[.int .i64 a, .int .i64 s, .int .i64 kd, .int .i64 pr, .int .i64 un] 40)).alloc (.cells #[.int .i64 0, .slice none 0 0, .slice none 0 0, .slice none 0 0] 32) = w1 at HE ⊢
 refine (l2Write_is S b _ _ _ a s (-1) _ HE.out.2.2 hn2 hi).mono ?_
 rintro e w' ⟨rfl, rfl⟩
 obtain ⟨⟨⟨y0, y1, y2, y3, y4⟩, _⟩, ⟨⟨r0, r1, r2, r3⟩, f0, f1, f2, f3⟩, ⟨p0, p1, p2⟩, pst⟩ := HE.out
 unfold ResStoK
 clear pst hi
 have HM : Hid (¬ newerP S.k S.nw a s) := hm
 clear hm
 go_wp2_with fail
 refine (l3Newer_is S b _ _ _ a s _ HE.out.2.2 hn2 false ⟨fun q => (Bool.false_ne_true q).elim, fun q => (HM.out q).elim⟩).mono ?_
 rintro e w3 ⟨rfl, q3⟩
 have HE : Hid (PrS w b S (.slice a0 S.nc c0) (.slice a1 S.nl c1) (.slice a2 S.nw c2) a s kd pr un w3) := HE.out.later q3
 clear q3 y0 y1 y2 y3 y4 r0 r1 r2 r3 f0 f1 f2 f3 p0 p1 p2 HM
 obtain ⟨⟨⟨y0, y1, y2, y3, y4⟩, _⟩, ⟨⟨r0, r1, r2, r3⟩, f0, f1, f2, f3⟩, ⟨p0, p1, p2⟩, pst⟩ := HE.out
 clear pst
 go_wp2_with fail
 refine (l2Copy_own S _ _ _ 0 _ HE.out.2.2.2 ⟨by omega, by omega, by omega⟩).mono ?_
 rintro e w4 ⟨d0, e0, d1, e1, d2, e2, rfl, o2, q2⟩
 have g0 := own_cap o2.1.1
 have g1 := own_cap o2.1.2.1
 have g2 := own_cap o2.1.2.2
 obtain ⟨s2, fr2, ap2⟩ := o2.all
 have hz3 : Hid (w.heap.size + 2 ≤ w3.heap.size) := HE.out.2.1.lt
 have HS : Hid ((St w4 w3.heap.size S (.slice d0 S.nc e0) (.slice d1 S.nl e1) (.slice d2 S.nw e2) ∧ FreeS w4 S (.slice d0 S.nc e0) (.slice d1 S.nl e1) (.slice d2 S.nw e2)) ∧ ApartD S (.slice d0 S.nc e0) (.slice d1 S.nl e1) (.slice d2 S.nw e2)) := ⟨⟨s2, fr2⟩, ap2⟩
 have HOS : Hid (OwnS w4 w3.heap.size S (.slice d0 S.nc e0) (.slice d1 S.nl e1) (.slice d2 S.nw e2)) := o2
 have HE : Hid (PrS w b S (.slice a0 S.nc c0) (.slice a1 S.nl c1) (.slice a2 S.nw c2) a s kd pr un (w4.alloc (.cells #[.slice d0 S.nc e0, .slice d1 S.nl e1, .slice d2 S.nw e2] 28)) ∧ Blk3 (w4.alloc (.cells #[.slice d0 S.nc e0, .slice d1 S.nl e1, .slice d2 S.nw e2] 28)) w4.heap.size (.slice d0 S.nc e0) (.slice d1 S.nl e1) (.slice d2 S.nw e2)) := ⟨(HE.out.later q2).later (below_alloc _ _), Blk3.new _ _ _ _ _⟩
 have hz4 : Hid (w3.heap.size ≤ w4.heap.size) := q2.size
 have B45 : Hid (Below w4.heap.size w4 (w4.alloc (.cells #[.slice d0 S.nc e0, .slice d1 S.nl e1, .slice d2 S.nw e2] 28))) := below_alloc _ _
 clear o2 s2 fr2 ap2 q2 y0 y1 y2 y3 y4 r0 r1 r2 r3 f0 f1 f2 f3 p0 p1 p2
 have HO : Hid (Blk3 (w4.alloc (.cells #[.slice d0 S.nc e0, .slice d1 S.nl e1, .slice d2 S.nw e2] 28)) w4.heap.size (.slice d0 S.nc e0) (.slice d1 S.nl e1) (.slice d2 S.nw e2)) := HE.out.2
 have HE : Hid (PrS w b S (.slice a0 S.nc c0) (.slice a1 S.nl c1) (.slice a2 S.nw c2) a s kd pr un (w4.alloc (.cells #[.slice d0 S.nc e0, .slice d1 S.nl e1, .slice d2 S.nw e2] 28))) := HE.out.1
 obtain ⟨⟨⟨y0, y1, y2, y3, y4⟩, _⟩, ⟨⟨r0, r1, r2, r3⟩, f0, f1, f2, f3⟩, ⟨p0, p1, p2⟩, pst⟩ := HE.out
 go_wp2_with fail
 clear y0 y1 y2 y3 y4 r0 r1 r2 r3 f0 f1 f2 f3 p0 p1 p2 pst
 generalize w4.alloc (.cells #[.slice d0 S.nc e0, .slice d1 S.nl e1, .slice d2 S.nw e2] 28) = w5 at HE HO B45 ⊢
 obtain ⟨⟨⟨y0, y1, y2, y3, y4⟩, _⟩, ⟨⟨r0, r1, r2, r3⟩, f0, f1, f2, f3⟩, ⟨p0, p1, p2⟩, pst⟩ := HE.out
 obtain ⟨⟨t0, t1, t2⟩, _⟩ := HO.out
 refine (l2Lock_is S b _ _ _ a (-1) _ HE.out.2.2 hn1 HJ.out.1).mono ?_
 rintro e w' ⟨rfl, rfl⟩
 clear pst
 go_wp2_with fail
 refine (cellAt_is S b _ _ _ a s _ _ HE.out.2.2 hn0 HJ.out.2).mono ?_
 rintro e w'' ⟨rfl, rfl⟩
 clear HJ
 rcases HF.out with q | ⟨q1, q2, q3⟩
 focus
  have dn : decide ((200 : Int) ≤ (S.nl : Int)) = true := decide_eq_true (by omega)
  clear q HF
 rotate_left
 focus
  subst q1 q2
  have dc : decide ((200 : Int) ≤ (S.nc : Int)) = true := decide_eq_true (by omega)
  clear q3 HF
  by_cases q : 200 ≤ S.nl
  focus
   have dn : decide ((200 : Int) ≤ (S.nl : Int)) = true := decide_eq_true (by omega)
  rotate_left
  focus
   have dn : decide ((200 : Int) ≤ (S.nl : Int)) = false := decide_eq_false (by omega)
  rotate_left
  all_goals
   clear q
 rotate_left 2
 all_goals
  go_wp2_with fail
  refine (l3Bad_own 2 _).mono ?_
  rintro e w9 ⟨x0, z0, x1, z1, x2, z2, rfl, o4, q4⟩
  have hsz : w.heap.size + 2 ≤ _ := HE.out.2.1.lt
  have S4 : Hid (OwnS w9 (w.heap.size + 2) emptyS (.slice x0 emptyS.nc z0) (.slice x1 emptyS.nl z1) (.slice x2 emptyS.nw z2)) := o4.mono hsz
  have HBW : Hid (Below w.heap.size w w9) := (HE.out.later q4).1.2
  obtain ⟨⟨r0, r1, r2, r3⟩, f0, f1, f2, f3⟩ := (HE.out.later q4).2.1
  clear o4 q4 hsz
  have hlo : (w.heap.size + 1 : Nat) < w.heap.size + 2 := Nat.lt_succ_self _
  go_wp2
  exact bodyPost_ret (v := .agg #[.int .i64 2, .slice x0 emptyS.nc z0, .slice x1 emptyS.nl z1, .slice x2 emptyS.nw z2]) (by simp [results, Tryz.results45, go_sem, r0, r1, r2, r3]) rfl ⟨x0, z0, x1, z1, x2, z2, rfl, ((((S4.out.far hlo _).far hlo _).far hlo _).far hlo _).mono (by omega), (((HBW.out.setCell (Nat.le_succ _) _).setCell (Nat.le_succ _) _).setCell (Nat.le_succ _) _).setCell (Nat.le_succ _) _⟩
end
end Go.Proofs.YtiadbiiiikhfaaaGreatDoor

namespace Go.Proofs.YtiadbiiiikhfaaaGreatDoor
section
open Go.RowKit
theorem ins3_lt {c : Nat → Int} {n k i : Nat} {xs : List Int} (h : i < k) (d : Nat) (hd : d < 3) : insF c 3 n k xs (i * 3 + d) = c (i * 3 + d) := insF_lt (by omega)
theorem ins3_at {c : Nat → Int} {n k : Nat} {x y v : Int} (d : Nat) (hd : d < 3) : insF c 3 n k [x, y, v] (k * 3 + d) = [x, y, v].getD d 0 := insF_at rfl hd
theorem ins3_gt {c : Nat → Int} {n k i : Nat} {x y v : Int} (h : k ≤ i) (hi : i < n) (d : Nat) (hd : d < 3) : insF c 3 n k [x, y, v] ((i + 1) * 3 + d) = c (i * 3 + d) := by
 have e : (i + 1) * 3 + d = (k + 1) * 3 + ((i - k) * 3 + d) := by omega
 rw [e, insF_gt (F := c) (m := 3) (n := n) (i := k) (xs := [x, y, v]) rfl (by omega)]
 congr 1
 omega
/-- The rows of the new list: an old one ahead, the new one, an old one behind. -/
theorem ins3_row {c : Nat → Int} {n k : Nat} {x y v : Int} (hk : k ≤ n) (i : Nat) (hi : i < n + 1) :
  (∃ j, j < n ∧ j = i ∧ i < k ∧ ∀ d, d < 3 → insF c 3 n k [x, y, v] (i * 3 + d) = c (j * 3 + d)) ∨ (i = k ∧ ∀ d, d < 3 → insF c 3 n k [x, y, v] (i * 3 + d) = [x, y, v].getD d 0) ∨ ∃ j, j < n ∧ i = j + 1 ∧ k ≤ j ∧ ∀ d, d < 3 → insF c 3 n k [x, y, v] (i * 3 + d) = c (j * 3 + d) := by
 rcases Nat.lt_trichotomy i k with q | q | q
 ·exact Or.inl ⟨i, by omega, rfl, q, fun d hd => ins3_lt q d hd⟩
 ·subst q
  exact Or.inr (Or.inl ⟨rfl, fun d hd => ins3_at d hd⟩)
 ·obtain ⟨j, rfl⟩ : ∃ j, i = j + 1 := ⟨i - 1, by omega⟩
  exact Or.inr (Or.inr ⟨j, by omega, rfl, by omega, fun d hd => ins3_gt (by omega) (by omega) d hd⟩)
theorem MapRow.ins {m : Int → Int → Option Int} {n : Nat} {c : Nat → Int} (h : MapRow m n c) {a s v : Int} (wa : Wf a) (ws : Wf s) (hn : m a s = none) {k : Nat} (hk : placeAt (aheadC c a s) n k) : MapRow (putM m a s v) (n + 1) (insF c 3 n k [a, s, v]) := by
 obtain ⟨hkn, hlo, hhi⟩ := hk
 have hne : ∀ i, i < n → ¬ (c (i * 3) = a ∧ c (i * 3 + 1) = s) := fun i hi q => by
  have := h.has i hi
  rw [q.1, q.2, hn] at this
  cases this
 have below : ∀ i, i < k → pairLt (c (i * 3)) (c (i * 3 + 1)) a s := fun i hi => hlo i hi
 have above : ∀ i, k ≤ i → i < n → pairLt a s (c (i * 3)) (c (i * 3 + 1)) := fun i h1 h2 => by
  have hk0 : pairLt a s (c (k * 3)) (c (k * 3 + 1)) := by
   have q := hhi (by omega)
   have q2 := hne k (by omega)
   unfold aheadC at q
   unfold pairLt
   omega
  rcases Nat.lt_or_eq_of_le h1 with q | q
  ·exact hk0.trans (h.rise i h2 k q)
  ·subst q; exact hk0
 have three : ∀ {f g : Nat → Int} {i j : Nat}, (∀ d, d < 3 → f (i * 3 + d) = g (j * 3 + d)) → f (i * 3) = g (j * 3) ∧ f (i * 3 + 1) = g (j * 3 + 1) ∧ f (i * 3 + 2) = g (j * 3 + 2) := fun hf => ⟨hf 0 (by omega), hf 1 (by omega), hf 2 (by omega)⟩
 have mid : ∀ {f : Nat → Int} {i : Nat}, (∀ d, d < 3 → f (i * 3 + d) = [a, s, v].getD d 0) → f (i * 3) = a ∧ f (i * 3 + 1) = s ∧ f (i * 3 + 2) = v := fun hf => ⟨hf 0 (by omega), hf 1 (by omega), hf 2 (by omega)⟩
 refine ⟨fun j hj i hij => ?_, fun i hi => ?_, fun i hi => ?_, fun x y u hx hy hm => ?_⟩
 ·rcases ins3_row (c := c) (x := a) (y := s) (v := v) hkn i (by omega) with ⟨i', q1, q2, q3, q4⟩ | ⟨q1, q4⟩ | ⟨i', q1, q2, q3, q4⟩ <;>
  rcases ins3_row (c := c) (x := a) (y := s) (v := v) hkn j hj with ⟨j', r1, r2, r3, r4⟩ | ⟨r1, r4⟩ | ⟨j', r1, r2, r3, r4⟩
  ·rw [(three q4).1, (three q4).2.1, (three r4).1, (three r4).2.1]; exact h.rise j' r1 i' (by omega)
  ·rw [(three q4).1, (three q4).2.1, (mid r4).1, (mid r4).2.1]; exact below i' (by omega)
  ·rw [(three q4).1, (three q4).2.1, (three r4).1, (three r4).2.1]; exact h.rise j' r1 i' (by omega)
  ·omega
  ·omega
  ·rw [(mid q4).1, (mid q4).2.1, (three r4).1, (three r4).2.1]; exact above j' r3 r1
  ·omega
  ·omega
  ·rw [(three q4).1, (three q4).2.1, (three r4).1, (three r4).2.1]; exact h.rise j' r1 i' (by omega)
 ·rcases ins3_row (c := c) (x := a) (y := s) (v := v) hkn i hi with ⟨i', q1, _, _, q4⟩ | ⟨_, q4⟩ | ⟨i', q1, _, _, q4⟩
  ·rw [(three q4).1, (three q4).2.1]; exact h.wf i' q1
  ·rw [(mid q4).1, (mid q4).2.1]; exact ⟨wa, ws⟩
  ·rw [(three q4).1, (three q4).2.1]; exact h.wf i' q1
 ·unfold putM
  rcases ins3_row (c := c) (x := a) (y := s) (v := v) hkn i hi with ⟨i', q1, _, _, q4⟩ | ⟨_, q4⟩ | ⟨i', q1, _, _, q4⟩
  ·rw [(three q4).1, (three q4).2.1, (three q4).2.2, if_neg (hne i' q1)]; exact h.has i' q1
  ·rw [(mid q4).1, (mid q4).2.1, (mid q4).2.2, if_pos ⟨rfl, rfl⟩]
  ·rw [(three q4).1, (three q4).2.1, (three q4).2.2, if_neg (hne i' q1)]; exact h.has i' q1
 ·unfold putM at hm
  by_cases e : x = a ∧ y = s
  ·rw [if_pos e] at hm
   obtain ⟨rfl, rfl⟩ := e
   obtain rfl := Option.some.inj hm
   have q4 := mid (f := insF c 3 n k [x, y, v]) (i := k) (fun d hd => ins3_at d hd)
   exact ⟨k, by omega, q4⟩
  ·rw [if_neg e] at hm
   obtain ⟨i, hi, e1, e2, e3⟩ := h.all x y u hx hy hm
   by_cases q : i < k
   ·have q4 := three (f := insF c 3 n k [a, s, v]) (g := c) (i := i) (j := i) (fun d hd => ins3_lt q d hd)
    exact ⟨i, by omega, q4.1.trans e1, q4.2.1.trans e2, q4.2.2.trans e3⟩
   ·have q4 := three (f := insF c 3 n k [a, s, v]) (g := c) (i := i + 1) (j := i) (fun d hd => ins3_gt (by omega) hi d hd)
    exact ⟨i + 1, by omega, q4.1.trans e1, q4.2.1.trans e2, q4.2.2.trans e3⟩
theorem MapRow.congr {m m' : Int → Int → Option Int} {n : Nat} {c : Nat → Int} (h : MapRow m n c) (e : ∀ x y, m x y = m' x y) : MapRow m' n c :=
 ⟨h.rise, h.wf, fun i hi => (e _ _).symm.trans (h.has i hi), fun x y v hx hy q => h.all x y v hx hy ((e x y).trans q)⟩
theorem put_del (m : Int → Int → Option Int) (a s v : Int) (x y : Int) : putM (delM m a s) a s v x y = putM m a s v x y := by
 unfold putM delM
 split <;> rfl
end

section
open Go.RowKit Go.Lib
/-- A store that has one lock more, at place k. -/
def lockS (S : Sto) (k : Nat) (a s kd pr un : Int) : Sto := ⟨S.nc, S.c, S.nl + 1, insF S.l 5 S.nl k [a, s, kd, pr, un], S.nw, S.k⟩
set_option maxRecDepth 100000 in
set_option maxHeartbeats 8000000 in
theorem l3Pre_lock (S : Sto) (b : Nat) (v0 v1 v2 : Value) (a s kd pr un va : Int) (hv : Int) (k : Nat) (w : World) (h : Lies w b S v0 v1 v2) (hz : storeF S = 0) (hi : FirstAt (writeIs S.k a s) S.nw (-1)) (hm : ¬ newerP S.k S.nw a s) (hl : FirstAt (lockIs S.l a) S.nl (-1)) (hc : FirstAt (cellIs S.c a s) S.nc hv) (hf : S.nl < 200) (hk1 : kd ≠ 1) (hk : placeAt (aheadL S.l a) S.nl k) :
  Calls Tryz.prog 45 #[.pointer (some ⟨b, 0, none⟩), .agg #[.int .i64 a, .int .i64 s, .int .i64 kd, .int .i64 pr, .int .i64 un], .int .i64 va] w (ResStoK w 0 (lockS S k a s kd pr un)) := by
 have HJ : Hid (FirstAt (lockIs S.l a) S.nl (-1) ∧ FirstAt (cellIs S.c a s) S.nc hv) := ⟨hl, hc⟩
 have HK : Hid (placeAt (aheadL S.l a) S.nl k) := hk
 have dn : decide ((200 : Int) ≤ (S.nl : Int)) = false := decide_eq_false (by omega)
 have dk : (kd == 1) = false := beq_eq_false_iff_ne.2 hk1
 clear hl hc hk hf hk1
 obtain ⟨a0, c0, a1, c1, a2, c2, rfl, rfl, rfl⟩ := h.2.form
 have HE : Hid (PrS w b S (.slice a0 S.nc c0) (.slice a1 S.nl c1) (.slice a2 S.nw c2) a s kd pr un ((w.alloc (.cells #[.int .i64 a, .int .i64 s, .int .i64 kd, .int .i64 pr, .int .i64 un] 40)).alloc (.cells #[.int .i64 0, .slice none 0 0, .slice none 0 0, .slice none 0 0] 32))) := by
  refine ⟨(LkE.new w a s kd pr un _).later (below_alloc _ _), ?_, (h.later (below_alloc _ _)).later (below_alloc _ _)⟩
  have := Blk4.new (w.alloc (.cells #[.int .i64 a, .int .i64 s, .int .i64 kd, .int .i64 pr, .int .i64 un] 40)) (.int .i64 0) (.slice none 0 0) (.slice none 0 0) (.slice none 0 0) 32
  rwa [World.size_alloc] at this
 obtain ⟨⟨hn0, hn1, hn2⟩, _⟩ := storeF_zero hz
 clear h hz
 go_enter Tryz.func45, Tryz.ntmps45
 go_wp2_with fail
 generalize (w.alloc (.cells #[.int .i64 a, .int .i64 s, .int .i64 kd, .int .i64 pr, .int .i64 un] 40)).alloc (.cells #[.int .i64 0, .slice none 0 0, .slice none 0 0, .slice none 0 0] 32) = w1 at HE ⊢
 refine (l2Write_is S b _ _ _ a s (-1) _ HE.out.2.2 hn2 hi).mono ?_
 rintro e w' ⟨rfl, rfl⟩
 obtain ⟨⟨⟨y0, y1, y2, y3, y4⟩, _⟩, ⟨⟨r0, r1, r2, r3⟩, f0, f1, f2, f3⟩, ⟨p0, p1, p2⟩, pst⟩ := HE.out
 unfold ResStoK
 clear pst hi
 have HM : Hid (¬ newerP S.k S.nw a s) := hm
 clear hm
 go_wp2_with fail
 refine (l3Newer_is S b _ _ _ a s _ HE.out.2.2 hn2 false ⟨fun q => (Bool.false_ne_true q).elim, fun q => (HM.out q).elim⟩).mono ?_
 rintro e w3 ⟨rfl, q3⟩
 have HE : Hid (PrS w b S (.slice a0 S.nc c0) (.slice a1 S.nl c1) (.slice a2 S.nw c2) a s kd pr un w3) := HE.out.later q3
 clear q3 y0 y1 y2 y3 y4 r0 r1 r2 r3 f0 f1 f2 f3 p0 p1 p2 HM
 obtain ⟨⟨⟨y0, y1, y2, y3, y4⟩, _⟩, ⟨⟨r0, r1, r2, r3⟩, f0, f1, f2, f3⟩, ⟨p0, p1, p2⟩, pst⟩ := HE.out
 clear pst
 go_wp2_with fail
 refine (l2Copy_own S _ _ _ 0 _ HE.out.2.2.2 ⟨by omega, by omega, by omega⟩).mono ?_
 rintro e w4 ⟨d0, e0, d1, e1, d2, e2, rfl, o2, q2⟩
 have g0 := own_cap o2.1.1
 have g1 := own_cap o2.1.2.1
 have g2 := own_cap o2.1.2.2
 obtain ⟨s2, fr2, ap2⟩ := o2.all
 have hz3 : Hid (w.heap.size + 2 ≤ w3.heap.size) := HE.out.2.1.lt
 have HS : Hid ((St w4 w3.heap.size S (.slice d0 S.nc e0) (.slice d1 S.nl e1) (.slice d2 S.nw e2) ∧ FreeS w4 S (.slice d0 S.nc e0) (.slice d1 S.nl e1) (.slice d2 S.nw e2)) ∧ ApartD S (.slice d0 S.nc e0) (.slice d1 S.nl e1) (.slice d2 S.nw e2)) := ⟨⟨s2, fr2⟩, ap2⟩
 have HOS : Hid (OwnS w4 w3.heap.size S (.slice d0 S.nc e0) (.slice d1 S.nl e1) (.slice d2 S.nw e2)) := o2
 have HE : Hid (PrS w b S (.slice a0 S.nc c0) (.slice a1 S.nl c1) (.slice a2 S.nw c2) a s kd pr un (w4.alloc (.cells #[.slice d0 S.nc e0, .slice d1 S.nl e1, .slice d2 S.nw e2] 28)) ∧ Blk3 (w4.alloc (.cells #[.slice d0 S.nc e0, .slice d1 S.nl e1, .slice d2 S.nw e2] 28)) w4.heap.size (.slice d0 S.nc e0) (.slice d1 S.nl e1) (.slice d2 S.nw e2)) := ⟨(HE.out.later q2).later (below_alloc _ _), Blk3.new _ _ _ _ _⟩
 have hz4 : Hid (w3.heap.size ≤ w4.heap.size) := q2.size
 have B45 : Hid (Below w4.heap.size w4 (w4.alloc (.cells #[.slice d0 S.nc e0, .slice d1 S.nl e1, .slice d2 S.nw e2] 28))) := below_alloc _ _
 clear o2 s2 fr2 ap2 q2 y0 y1 y2 y3 y4 r0 r1 r2 r3 f0 f1 f2 f3 p0 p1 p2
 have HO : Hid (Blk3 (w4.alloc (.cells #[.slice d0 S.nc e0, .slice d1 S.nl e1, .slice d2 S.nw e2] 28)) w4.heap.size (.slice d0 S.nc e0) (.slice d1 S.nl e1) (.slice d2 S.nw e2)) := HE.out.2
 have HE : Hid (PrS w b S (.slice a0 S.nc c0) (.slice a1 S.nl c1) (.slice a2 S.nw c2) a s kd pr un (w4.alloc (.cells #[.slice d0 S.nc e0, .slice d1 S.nl e1, .slice d2 S.nw e2] 28))) := HE.out.1
 obtain ⟨⟨⟨y0, y1, y2, y3, y4⟩, _⟩, ⟨⟨r0, r1, r2, r3⟩, f0, f1, f2, f3⟩, ⟨p0, p1, p2⟩, pst⟩ := HE.out
 go_wp2_with fail
 clear y0 y1 y2 y3 y4 r0 r1 r2 r3 f0 f1 f2 f3 p0 p1 p2 pst
 generalize w4.alloc (.cells #[.slice d0 S.nc e0, .slice d1 S.nl e1, .slice d2 S.nw e2] 28) = w5 at HE HO B45 ⊢
 obtain ⟨⟨⟨y0, y1, y2, y3, y4⟩, _⟩, ⟨⟨r0, r1, r2, r3⟩, f0, f1, f2, f3⟩, ⟨p0, p1, p2⟩, pst⟩ := HE.out
 obtain ⟨⟨t0, t1, t2⟩, _⟩ := HO.out
 refine (l2Lock_is S b _ _ _ a (-1) _ HE.out.2.2 hn1 HJ.out.1).mono ?_
 rintro e w' ⟨rfl, rfl⟩
 clear pst
 go_wp2_with fail
 refine (cellAt_is S b _ _ _ a s _ _ HE.out.2.2 hn0 HJ.out.2).mono ?_
 rintro e w'' ⟨rfl, rfl⟩
 clear HJ
 go_wp2_with fail
 refine (l2AddLock_any S.nl S.l d1 e1 w3.heap.size a s kd pr un _ (HS.out.1.1.2.1.later B45.out) (by omega) g1).mono ?_
 rintro e w7 ⟨k', y1', z1', hk', rfl, O7, q7⟩
 have HO7 : Hid (Blk3 w7 w4.heap.size (.slice d0 S.nc e0) (.slice d1 S.nl e1) (.slice d2 S.nw e2)) := HO.out.later q7
 have HE7 : Hid (PrS w b S (.slice a0 S.nc c0) (.slice a1 S.nl c1) (.slice a2 S.nw c2) a s kd pr un w7) := HE.out.later q7
 have B47 : Hid (Below w4.heap.size w4 w7) := B45.out.trans (q7.mono B45.out.size)
 have O7' : Hid (OwnM w7 w''.heap.size 40 5 (.slice y1' (S.nl + 1) z1') (S.nl + 1) (nums S.l (k' * 5) ++ [a, s, kd, pr, un] ++ nums (fun p => S.l (k' * 5 + p)) ((S.nl - k') * 5))) := O7
 have hk1 : Hid (placeAt (aheadL S.l a) S.nl k') := hk'
 have hz5 : Hid (w4.heap.size < w''.heap.size) := HO.out.lt
 clear O7 q7 hk' y0 y1 y2 y3 y4 r0 r1 r2 r3 f0 f1 f2 f3 p0 p1 p2 t0 t1 t2 HE HO
 obtain ⟨⟨t0, t1, t2⟩, ft0, ft1, ft2⟩ := HO7.out
 go_upto_region 13 with fail
 have hwl : w.heap.size + 1 < w4.heap.size := by have := hz3.out; have := hz4.out; omega
 have hks : ∀ i, i ≠ w4.heap.size → (w7.setCell ⟨w4.heap.size, 1, none⟩ (.slice y1' (S.nl + 1) z1')).heap[i]? = w7.heap[i]? := fun i hi => Below.heap_setCell w7 ⟨w4.heap.size, 1, none⟩ _ i hi
 have y2 : (w7.setCell ⟨w4.heap.size, 1, none⟩ (.slice y1' (S.nl + 1) z1')).cell? ⟨w.heap.size, 2, none⟩ = some (.int .i64 kd) := (cell_kept (hks _ (by omega)) 2).trans HE7.out.1.1.2.2.1
 have RZ : Blk4 (w7.setCell ⟨w4.heap.size, 1, none⟩ (.slice y1' (S.nl + 1) z1')) (w.heap.size + 1) (.int .i64 0) (.slice none 0 0) (.slice none 0 0) (.slice none 0 0) := HE7.out.2.1.kept (hks _ (by omega))
 have TZ : Blk3 (w7.setCell ⟨w4.heap.size, 1, none⟩ (.slice y1' (S.nl + 1) z1')) w4.heap.size (.slice d0 S.nc e0) (.slice y1' (S.nl + 1) z1') (.slice d2 S.nw e2) := HO7.out.set1 _
 have BZ : Hid (Below w.heap.size w (w7.setCell ⟨w4.heap.size, 1, none⟩ (.slice y1' (S.nl + 1) z1'))) := HE7.out.1.2.setCell (by show w.heap.size ≤ w4.heap.size; omega) _
 have B4Z : Hid (Below w4.heap.size w4 (w7.setCell ⟨w4.heap.size, 1, none⟩ (.slice y1' (S.nl + 1) z1'))) := B47.out.setCell (Nat.le_refl _) _
 have OZ : Hid (OwnM (w7.setCell ⟨w4.heap.size, 1, none⟩ (.slice y1' (S.nl + 1) z1')) w''.heap.size 40 5 (.slice y1' (S.nl + 1) z1') (S.nl + 1) (nums S.l (k' * 5) ++ [a, s, kd, pr, un] ++ nums (fun p => S.l (k' * 5 + p)) ((S.nl - k') * 5))) := O7'.out.far hz5.out _
 generalize (w7.setCell ⟨w4.heap.size, 1, none⟩ (.slice y1' (S.nl + 1) z1')) = w8 at y2 RZ TZ BZ B4Z OZ ⊢
 clear hks t0 t1 t2 ft0 ft1 ft2 HO7 HE7 B47 O7' B45
 obtain ⟨⟨r0, r1, r2, r3⟩, f0, f1, f2, f3⟩ := RZ
 obtain ⟨⟨t0, t1, t2⟩, _⟩ := TZ
 obtain rfl : k' = k := hk1.out.one HK.out
 have lenL : (nums S.l (k' * 5) ++ [a, s, kd, pr, un] ++ nums (fun p => S.l (k' * 5 + p)) ((S.nl - k') * 5)).length = (S.nl + 1) * 5 := by
  have := hk1.out.1
  rw [List.length_append, List.length_append, nums_length, nums_length]
  simp only [List.length_cons, List.length_nil]
  omega
 have HL8 : Hid (Own _ _ _ _ _ _ _) := OZ.out.own lenL
 clear lenL
 go_wp2
 have O8 : OwnS w8 w3.heap.size (lockS S k' a s kd pr un) (.slice d0 S.nc e0) (.slice y1' (S.nl + 1) z1') (.slice d2 S.nw e2) :=
  ⟨⟨HOS.out.1.1.later B4Z.out, HL8.out.mono (by have := hz4.out; have := hz5.out; omega), HOS.out.1.2.2.later B4Z.out⟩, fun q a b => by have h1 := (own_blk HOS.out.1.1 q a).2; have h2 := (OZ.out.block q b).1; have := hz5.out; omega, HOS.out.2.2.1, fun q a b => by have h1 := (own_blk HOS.out.1.2.2 q b).2; have h2 := (OZ.out.block q a).1; have := hz5.out; omega⟩
 have hlo : (w.heap.size + 1 : Nat) < w3.heap.size := by have := hz3.out; omega
 exact bodyPost_ret (v := .agg #[.int .i64 0, .slice d0 S.nc e0, .slice y1' (S.nl + 1) z1', .slice d2 S.nw e2]) (by simp [results, Tryz.results45, go_sem, r0, r1, r2, r3]) rfl ⟨d0, e0, y1', z1', d2, e2, rfl, ((((O8.far hlo _).far hlo _).far hlo _).far hlo _).mono (by omega), (((BZ.out.setCell (Nat.le_succ _) _).setCell (Nat.le_succ _) _).setCell (Nat.le_succ _) _).setCell (Nat.le_succ _) _⟩
end

section
open Go.RowKit Go.Lib
/-- A store that has one lock more, at place k, and one cell more, at place q. -/
def putS (S : Sto) (k q : Nat) (a s pr un va : Int) : Sto := ⟨S.nc + 1, insF S.c 3 S.nc q [a, s, va], S.nl + 1, insF S.l 5 S.nl k [a, s, 1, pr, un], S.nw, S.k⟩
set_option maxRecDepth 100000 in
set_option maxHeartbeats 8000000 in
theorem l3Pre_put (S : Sto) (b : Nat) (v0 v1 v2 : Value) (a s pr un va : Int) (k q : Nat) (w : World) (h : Lies w b S v0 v1 v2) (hz : storeF S = 0) (hi : FirstAt (writeIs S.k a s) S.nw (-1)) (hm : ¬ newerP S.k S.nw a s) (hl : FirstAt (lockIs S.l a) S.nl (-1)) (hc : FirstAt (cellIs S.c a s) S.nc (-1)) (hf : S.nl < 200) (hg : S.nc < 200) (hk : placeAt (aheadL S.l a) S.nl k) (hq : placeAt (aheadC S.c a s) S.nc q) :
  Calls Tryz.prog 45 #[.pointer (some ⟨b, 0, none⟩), .agg #[.int .i64 a, .int .i64 s, .int .i64 1, .int .i64 pr, .int .i64 un], .int .i64 va] w (ResStoK w 0 (putS S k q a s pr un va)) := by
 have HJ : Hid (FirstAt (lockIs S.l a) S.nl (-1) ∧ FirstAt (cellIs S.c a s) S.nc (-1)) := ⟨hl, hc⟩
 have HK : Hid (placeAt (aheadL S.l a) S.nl k ∧ placeAt (aheadC S.c a s) S.nc q) := ⟨hk, hq⟩
 have dn : decide ((200 : Int) ≤ (S.nl : Int)) = false := decide_eq_false (by omega)
 have dc : decide ((200 : Int) ≤ (S.nc : Int)) = false := decide_eq_false (by omega)
 clear hl hc hk hq hf hg
 obtain ⟨a0, c0, a1, c1, a2, c2, rfl, rfl, rfl⟩ := h.2.form
 have HE : Hid (PrS w b S (.slice a0 S.nc c0) (.slice a1 S.nl c1) (.slice a2 S.nw c2) a s 1 pr un ((w.alloc (.cells #[.int .i64 a, .int .i64 s, .int .i64 1, .int .i64 pr, .int .i64 un] 40)).alloc (.cells #[.int .i64 0, .slice none 0 0, .slice none 0 0, .slice none 0 0] 32))) := by
  refine ⟨(LkE.new w a s 1 pr un _).later (below_alloc _ _), ?_, (h.later (below_alloc _ _)).later (below_alloc _ _)⟩
  have := Blk4.new (w.alloc (.cells #[.int .i64 a, .int .i64 s, .int .i64 1, .int .i64 pr, .int .i64 un] 40)) (.int .i64 0) (.slice none 0 0) (.slice none 0 0) (.slice none 0 0) 32
  rwa [World.size_alloc] at this
 obtain ⟨⟨hn0, hn1, hn2⟩, _⟩ := storeF_zero hz
 clear h hz
 go_enter Tryz.func45, Tryz.ntmps45
 go_wp2_with fail
 generalize (w.alloc (.cells #[.int .i64 a, .int .i64 s, .int .i64 1, .int .i64 pr, .int .i64 un] 40)).alloc (.cells #[.int .i64 0, .slice none 0 0, .slice none 0 0, .slice none 0 0] 32) = w1 at HE ⊢
 refine (l2Write_is S b _ _ _ a s (-1) _ HE.out.2.2 hn2 hi).mono ?_
 rintro e w' ⟨rfl, rfl⟩
 obtain ⟨⟨⟨y0, y1, y2, y3, y4⟩, _⟩, ⟨⟨r0, r1, r2, r3⟩, f0, f1, f2, f3⟩, ⟨p0, p1, p2⟩, pst⟩ := HE.out
 unfold ResStoK
 clear pst hi
 have HM : Hid (¬ newerP S.k S.nw a s) := hm
 clear hm
 go_wp2_with fail
 refine (l3Newer_is S b _ _ _ a s _ HE.out.2.2 hn2 false ⟨fun q => (Bool.false_ne_true q).elim, fun q => (HM.out q).elim⟩).mono ?_
 rintro e w3 ⟨rfl, q3⟩
 have HE : Hid (PrS w b S (.slice a0 S.nc c0) (.slice a1 S.nl c1) (.slice a2 S.nw c2) a s 1 pr un w3) := HE.out.later q3
 clear q3 y0 y1 y2 y3 y4 r0 r1 r2 r3 f0 f1 f2 f3 p0 p1 p2 HM
 obtain ⟨⟨⟨y0, y1, y2, y3, y4⟩, _⟩, ⟨⟨r0, r1, r2, r3⟩, f0, f1, f2, f3⟩, ⟨p0, p1, p2⟩, pst⟩ := HE.out
 clear pst
 go_wp2_with fail
 refine (l2Copy_own S _ _ _ 0 _ HE.out.2.2.2 ⟨by omega, by omega, by omega⟩).mono ?_
 rintro e w4 ⟨d0, e0, d1, e1, d2, e2, rfl, o2, q2⟩
 have g0 := own_cap o2.1.1
 have g1 := own_cap o2.1.2.1
 have g2 := own_cap o2.1.2.2
 obtain ⟨s2, fr2, ap2⟩ := o2.all
 have hz3 : Hid (w.heap.size + 2 ≤ w3.heap.size) := HE.out.2.1.lt
 have HS : Hid ((St w4 w3.heap.size S (.slice d0 S.nc e0) (.slice d1 S.nl e1) (.slice d2 S.nw e2) ∧ FreeS w4 S (.slice d0 S.nc e0) (.slice d1 S.nl e1) (.slice d2 S.nw e2)) ∧ ApartD S (.slice d0 S.nc e0) (.slice d1 S.nl e1) (.slice d2 S.nw e2)) := ⟨⟨s2, fr2⟩, ap2⟩
 have HOS : Hid (OwnS w4 w3.heap.size S (.slice d0 S.nc e0) (.slice d1 S.nl e1) (.slice d2 S.nw e2)) := o2
 have HE : Hid (PrS w b S (.slice a0 S.nc c0) (.slice a1 S.nl c1) (.slice a2 S.nw c2) a s 1 pr un (w4.alloc (.cells #[.slice d0 S.nc e0, .slice d1 S.nl e1, .slice d2 S.nw e2] 28)) ∧ Blk3 (w4.alloc (.cells #[.slice d0 S.nc e0, .slice d1 S.nl e1, .slice d2 S.nw e2] 28)) w4.heap.size (.slice d0 S.nc e0) (.slice d1 S.nl e1) (.slice d2 S.nw e2)) := ⟨(HE.out.later q2).later (below_alloc _ _), Blk3.new _ _ _ _ _⟩
 have hz4 : Hid (w3.heap.size ≤ w4.heap.size) := q2.size
 have B45 : Hid (Below w4.heap.size w4 (w4.alloc (.cells #[.slice d0 S.nc e0, .slice d1 S.nl e1, .slice d2 S.nw e2] 28))) := below_alloc _ _
 clear o2 s2 fr2 ap2 q2 y0 y1 y2 y3 y4 r0 r1 r2 r3 f0 f1 f2 f3 p0 p1 p2
 have HO : Hid (Blk3 (w4.alloc (.cells #[.slice d0 S.nc e0, .slice d1 S.nl e1, .slice d2 S.nw e2] 28)) w4.heap.size (.slice d0 S.nc e0) (.slice d1 S.nl e1) (.slice d2 S.nw e2)) := HE.out.2
 have HE : Hid (PrS w b S (.slice a0 S.nc c0) (.slice a1 S.nl c1) (.slice a2 S.nw c2) a s 1 pr un (w4.alloc (.cells #[.slice d0 S.nc e0, .slice d1 S.nl e1, .slice d2 S.nw e2] 28))) := HE.out.1
 obtain ⟨⟨⟨y0, y1, y2, y3, y4⟩, _⟩, ⟨⟨r0, r1, r2, r3⟩, f0, f1, f2, f3⟩, ⟨p0, p1, p2⟩, pst⟩ := HE.out
 go_wp2_with fail
 clear y0 y1 y2 y3 y4 r0 r1 r2 r3 f0 f1 f2 f3 p0 p1 p2 pst
 generalize w4.alloc (.cells #[.slice d0 S.nc e0, .slice d1 S.nl e1, .slice d2 S.nw e2] 28) = w5 at HE HO B45 ⊢
 obtain ⟨⟨⟨y0, y1, y2, y3, y4⟩, _⟩, ⟨⟨r0, r1, r2, r3⟩, f0, f1, f2, f3⟩, ⟨p0, p1, p2⟩, pst⟩ := HE.out
 obtain ⟨⟨t0, t1, t2⟩, _⟩ := HO.out
 refine (l2Lock_is S b _ _ _ a (-1) _ HE.out.2.2 hn1 HJ.out.1).mono ?_
 rintro e w' ⟨rfl, rfl⟩
 clear pst
 go_wp2_with fail
 refine (cellAt_is S b _ _ _ a s _ _ HE.out.2.2 hn0 HJ.out.2).mono ?_
 rintro e w'' ⟨rfl, rfl⟩
 clear HJ
 go_wp2_with fail
 refine (l2AddLock_any S.nl S.l d1 e1 w3.heap.size a s 1 pr un _ (HS.out.1.1.2.1.later B45.out) (by omega) g1).mono ?_
 rintro e w7 ⟨k', y1', z1', hk', rfl, O7, q7⟩
 have HO7 : Hid (Blk3 w7 w4.heap.size (.slice d0 S.nc e0) (.slice d1 S.nl e1) (.slice d2 S.nw e2)) := HO.out.later q7
 have HE7 : Hid (PrS w b S (.slice a0 S.nc c0) (.slice a1 S.nl c1) (.slice a2 S.nw c2) a s 1 pr un w7) := HE.out.later q7
 have B47 : Hid (Below w4.heap.size w4 w7) := B45.out.trans (q7.mono B45.out.size)
 have O7' : Hid (OwnM w7 w''.heap.size 40 5 (.slice y1' (S.nl + 1) z1') (S.nl + 1) (nums S.l (k' * 5) ++ [a, s, 1, pr, un] ++ nums (fun p => S.l (k' * 5 + p)) ((S.nl - k') * 5))) := O7
 have hk1 : Hid (placeAt (aheadL S.l a) S.nl k') := hk'
 have hz5 : Hid (w4.heap.size < w''.heap.size) := HO.out.lt
 have hz7 : Hid (w''.heap.size ≤ w7.heap.size) := q7.size
 clear O7 q7 hk' y0 y1 y2 y3 y4 r0 r1 r2 r3 f0 f1 f2 f3 p0 p1 p2 t0 t1 t2 HE HO
 obtain ⟨⟨t0, t1, t2⟩, ft0, ft1, ft2⟩ := HO7.out
 go_upto_region 13 with fail
 have hwl : w.heap.size + 1 < w4.heap.size := by have := hz3.out; have := hz4.out; omega
 have hks : ∀ i, i ≠ w4.heap.size → (w7.setCell ⟨w4.heap.size, 1, none⟩ (.slice y1' (S.nl + 1) z1')).heap[i]? = w7.heap[i]? := fun i hi => Below.heap_setCell w7 ⟨w4.heap.size, 1, none⟩ _ i hi
 have YZ : Hid (LkE w a s 1 pr un (w7.setCell ⟨w4.heap.size, 1, none⟩ (.slice y1' (S.nl + 1) z1'))) := ⟨⟨(cell_kept (hks _ (by omega)) 0).trans HE7.out.1.1.1, (cell_kept (hks _ (by omega)) 1).trans HE7.out.1.1.2.1, (cell_kept (hks _ (by omega)) 2).trans HE7.out.1.1.2.2.1, (cell_kept (hks _ (by omega)) 3).trans HE7.out.1.1.2.2.2.1, (cell_kept (hks _ (by omega)) 4).trans HE7.out.1.1.2.2.2.2⟩, HE7.out.1.2.setCell (by show w.heap.size ≤ w4.heap.size; omega) _⟩
 have RZ : Hid (Blk4 (w7.setCell ⟨w4.heap.size, 1, none⟩ (.slice y1' (S.nl + 1) z1')) (w.heap.size + 1) (.int .i64 0) (.slice none 0 0) (.slice none 0 0) (.slice none 0 0)) := HE7.out.2.1.kept (hks _ (by omega))
 have TZ : Hid (Blk3 (w7.setCell ⟨w4.heap.size, 1, none⟩ (.slice y1' (S.nl + 1) z1')) w4.heap.size (.slice d0 S.nc e0) (.slice y1' (S.nl + 1) z1') (.slice d2 S.nw e2)) := HO7.out.set1 _
 have B4Z : Hid (Below w4.heap.size w4 (w7.setCell ⟨w4.heap.size, 1, none⟩ (.slice y1' (S.nl + 1) z1'))) := B47.out.setCell (Nat.le_refl _) _
 have OZ : Hid (OwnM (w7.setCell ⟨w4.heap.size, 1, none⟩ (.slice y1' (S.nl + 1) z1')) w''.heap.size 40 5 (.slice y1' (S.nl + 1) z1') (S.nl + 1) (nums S.l (k' * 5) ++ [a, s, 1, pr, un] ++ nums (fun p => S.l (k' * 5 + p)) ((S.nl - k') * 5))) := O7'.out.far hz5.out _
 have zZ : Hid (w''.heap.size ≤ (w7.setCell ⟨w4.heap.size, 1, none⟩ (.slice y1' (S.nl + 1) z1')).heap.size) := by
  have := hz7.out
  unfold Hid
  simpa [World.setCell] using this
 generalize (w7.setCell ⟨w4.heap.size, 1, none⟩ (.slice y1' (S.nl + 1) z1')) = X0 at YZ RZ TZ B4Z OZ zZ ⊢
 clear hks t0 t1 t2 ft0 ft1 ft2 HO7 HE7 B47 O7' B45
 have hobL : Hid (∀ q, (Value.slice y1' (S.nl + 1) z1').ownBlock = some q → w''.heap.size ≤ q ∧ q < X0.heap.size) := OZ.out.block
 obtain ⟨⟨y0, y1, y2, y3, y4⟩, _⟩ := YZ.out
 obtain ⟨⟨r0, r1, r2, r3⟩, f0, f1, f2, f3⟩ := RZ.out
 obtain ⟨⟨t0, t1, t2⟩, ft0, ft1, ft2⟩ := TZ.out
 go_wp2_with fail
 refine (l2AddCell_any S.nc (S.c) d0 e0 w3.heap.size a s va _ (HS.out.1.1.1.later B4Z.out) (by omega) g0).mono ?_
 rintro e w9 ⟨q', y0', z0', hq', rfl, O9, q9⟩
 have hq1 : Hid (placeAt (aheadC (S.c) a s) S.nc q') := hq'
 have R9 : Hid (Blk4 w9 (w.heap.size + 1) (.int .i64 0) (.slice none 0 0) (.slice none 0 0) (.slice none 0 0)) := RZ.out.later q9
 have T9 : Hid (Blk3 w9 w4.heap.size (.slice d0 S.nc e0) (.slice y1' (S.nl + 1) z1') (.slice d2 S.nw e2)) := TZ.out.later q9
 have B49 : Hid (Below w4.heap.size w4 w9) := B4Z.out.trans (q9.mono B4Z.out.size)
 have BW9 : Hid (Below w.heap.size w w9) := YZ.out.2.trans (q9.mono YZ.out.2.size)
 have OL9 : Hid (OwnM w9 w''.heap.size 40 5 (.slice y1' (S.nl + 1) z1') (S.nl + 1) (nums S.l (k' * 5) ++ [a, s, 1, pr, un] ++ nums (fun p => S.l (k' * 5 + p)) ((S.nl - k') * 5))) := OZ.out.later q9
 have OC9 : Hid (OwnM w9 X0.heap.size 93 3 (.slice y0' (S.nc + 1) z0') (S.nc + 1) (nums (S.c) (q' * 3) ++ [a, s, va] ++ nums (fun p => (S.c) (q' * 3 + p)) ((S.nc - q') * 3))) := O9
 clear O9 q9 hq' y0 y1 y2 y3 y4 r0 r1 r2 r3 f0 f1 f2 f3 t0 t1 t2 ft0 ft1 ft2
 obtain ⟨⟨t0, t1, t2⟩, ft0, ft1, ft2⟩ := T9.out
 go_upto_region 17 with fail
 have hks : ∀ i, i ≠ w4.heap.size → (w9.setCell ⟨w4.heap.size, 0, none⟩ (.slice y0' (S.nc + 1) z0')).heap[i]? = w9.heap[i]? := fun i hi => Below.heap_setCell w9 ⟨w4.heap.size, 0, none⟩ _ i hi
 have RY : Blk4 (w9.setCell ⟨w4.heap.size, 0, none⟩ (.slice y0' (S.nc + 1) z0')) (w.heap.size + 1) (.int .i64 0) (.slice none 0 0) (.slice none 0 0) (.slice none 0 0) := R9.out.kept (hks _ (by omega))
 have TY : Blk3 (w9.setCell ⟨w4.heap.size, 0, none⟩ (.slice y0' (S.nc + 1) z0')) w4.heap.size (.slice y0' (S.nc + 1) z0') (.slice y1' (S.nl + 1) z1') (.slice d2 S.nw e2) := T9.out.set0 _
 have BY : Hid (Below w.heap.size w (w9.setCell ⟨w4.heap.size, 0, none⟩ (.slice y0' (S.nc + 1) z0'))) := BW9.out.setCell (by show w.heap.size ≤ w4.heap.size; omega) _
 have B4Y : Hid (Below w4.heap.size w4 (w9.setCell ⟨w4.heap.size, 0, none⟩ (.slice y0' (S.nc + 1) z0'))) := B49.out.setCell (Nat.le_refl _) _
 have OLY : Hid (OwnM (w9.setCell ⟨w4.heap.size, 0, none⟩ (.slice y0' (S.nc + 1) z0')) w''.heap.size 40 5 (.slice y1' (S.nl + 1) z1') (S.nl + 1) (nums S.l (k' * 5) ++ [a, s, 1, pr, un] ++ nums (fun p => S.l (k' * 5 + p)) ((S.nl - k') * 5))) := OL9.out.far hz5.out _
 have OCY : Hid (OwnM (w9.setCell ⟨w4.heap.size, 0, none⟩ (.slice y0' (S.nc + 1) z0')) X0.heap.size 93 3 (.slice y0' (S.nc + 1) z0') (S.nc + 1) (nums (S.c) (q' * 3) ++ [a, s, va] ++ nums (fun p => (S.c) (q' * 3 + p)) ((S.nc - q') * 3))) := OC9.out.far (by show w4.heap.size < _; have := hz5.out; have := zZ.out; omega) _
 generalize (w9.setCell ⟨w4.heap.size, 0, none⟩ (.slice y0' (S.nc + 1) z0')) = w8 at RY TY BY B4Y OLY OCY ⊢
 clear hks t0 t1 t2 ft0 ft1 ft2 R9 T9 B49 BW9 OL9 OC9
 obtain ⟨⟨r0, r1, r2, r3⟩, f0, f1, f2, f3⟩ := RY
 obtain ⟨⟨t0, t1, t2⟩, _⟩ := TY
 obtain rfl : k' = k := hk1.out.one HK.out.1
 obtain rfl : q' = q := hq1.out.one HK.out.2
 have lenL : (nums S.l (k' * 5) ++ [a, s, 1, pr, un] ++ nums (fun p => S.l (k' * 5 + p)) ((S.nl - k') * 5)).length = (S.nl + 1) * 5 := by
  have := hk1.out.1
  rw [List.length_append, List.length_append, nums_length, nums_length]
  simp only [List.length_cons, List.length_nil]
  omega
 have lenC : (nums (S.c) (q' * 3) ++ [a, s, va] ++ nums (fun p => (S.c) (q' * 3 + p)) ((S.nc - q') * 3)).length = (S.nc + 1) * 3 := by
  have := hq1.out.1
  rw [List.length_append, List.length_append, nums_length, nums_length]
  simp only [List.length_cons, List.length_nil]
  omega
 have HL8 : Hid (Own _ _ _ _ _ _ _) := OLY.out.own lenL
 have HC8 : Hid (Own _ _ _ _ _ _ _) := OCY.out.own lenC
 clear lenL lenC
 go_wp2
 have O8 : OwnS w8 w3.heap.size (putS S k' q' a s pr un va) (.slice y0' (S.nc + 1) z0') (.slice y1' (S.nl + 1) z1') (.slice d2 S.nw e2) :=
  ⟨⟨HC8.out.mono (by have := hz4.out; have := hz5.out; have := zZ.out; omega), HL8.out.mono (by have := hz4.out; have := hz5.out; omega), HOS.out.1.2.2.later B4Y.out⟩, fun q a b => by have h1 := (OCY.out.block q a).1; have h2 := (hobL.out q b).2; omega, fun q a b => by have h1 := (OCY.out.block q a).1; have h2 := (own_blk HOS.out.1.2.2 q b).2; have := zZ.out; have := hz5.out; omega, fun q a b => by have h1 := (hobL.out q a).1; have h2 := (own_blk HOS.out.1.2.2 q b).2; have := hz5.out; omega⟩
 have hlo : (w.heap.size + 1 : Nat) < w3.heap.size := by have := hz3.out; omega
 exact bodyPost_ret (v := .agg #[.int .i64 0, .slice y0' (S.nc + 1) z0', .slice y1' (S.nl + 1) z1', .slice d2 S.nw e2]) (by simp [results, Tryz.results45, go_sem, r0, r1, r2, r3]) rfl ⟨y0', z0', y1', z1', d2, e2, rfl, ((((O8.far hlo _).far hlo _).far hlo _).far hlo _).mono (by omega), (((BY.out.setCell (Nat.le_succ _) _).setCell (Nat.le_succ _) _).setCell (Nat.le_succ _) _).setCell (Nat.le_succ _) _⟩
end
end Go.Proofs.YtiadbiiiikhfaaaGreatDoor

