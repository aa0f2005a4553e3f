/-
  Own text. What CellAt answers, the program's and the model's: the code and the value of the cell, as plain functions of the store's numbers.
-/
import Derived.Test.YtjhloobjbbdmcahStorA
import Derived.Test.YtjhloobjbbdmcahStorB
import Derived.Test.YtjhloobjbbdmcahStorQ
namespace Go.Proofs.Ytjhloobjbbdmcah
open Go.RowKit

set_option maxRecDepth 100000 in
set_option maxHeartbeats 2000000 in
theorem implCellAt_any (S : Sto) (v0 v1 v2 : Value) (key start : Int) (B : Nat) (w : World) (h : St w B S v0 v1 v2) (hst : Wf start) :
    Calls Try.prog 18 #[.agg #[v0, v1, v2], .int .i64 key, .int .i64 start] w fun e w' => e = .returned (.agg #[.int .i64 (cellAtC S key start), .int .i64 (cellAtV S key start)]) ∧ Below w.heap.size w w' := by
  obtain ⟨a0, c0, a1, c1, a2, c2, rfl, rfl, rfl⟩ := h.form
  have HE : Hid (CallEnv w B S (.slice a0 S.nc c0) (.slice a1 S.nl c1) (.slice a2 S.nw c2) (.int .i64 0) (.int .i64 0) ((w.alloc (.cells #[.slice a0 S.nc c0, .slice a1 S.nl c1, .slice a2 S.nw c2] 35)).alloc (.cells #[.int .i64 0, .int .i64 0] 43))) := CallEnv.new h _ _ _ _
  clear h
  by_cases hz : askF S key = 0
  case neg =>
    obtain ⟨f, hf⟩ : ∃ f, askF S key = f := ⟨_, rfl⟩
    have E : Hid (cellAtC S key start = f ∧ cellAtV S key start = 0) := ⟨by unfold cellAtC; rw [if_pos hz, hf], by unfold cellAtV; rw [if_pos hz]⟩
    have HF : Hid (askF S key = f) := hf
    have hfn : (f == 0) = false := beq_eq_false_iff_ne.2 (by rw [← hf]; exact hz)
    clear hz hf
    go_enter Try.func18, Try.ntmps18
    go_wp2_with fail
    refine (askFault_any S _ _ _ key B _ HE.out.2.2.1).mono ?_
    rw [HF.out]
    rintro e w1 ⟨rfl, q1⟩
    have HE : Hid (CallEnv w B S (.slice a0 S.nc c0) (.slice a1 S.nl c1) (.slice a2 S.nw c2) (.int .i64 0) (.int .i64 0) w1) := HE.out.later q1
    obtain ⟨⟨⟨p0, p1, p2⟩, _⟩, ⟨⟨r0, r1⟩, f0, f1⟩, _⟩ := HE.out
    clear q1
    go_wp2
    exact bodyPost_ret (v := .agg #[.int .i64 f, .int .i64 0]) (by simp [results, Try.results18, go_sem, r0, r1]) rfl ⟨by rw [E.out.1, E.out.2], (HE.out.2.2.2.setCell (Nat.le_succ _) _).setCell (Nat.le_succ _) _⟩
  have Z := storeF_zero (askF_zero hz).1
  have hw : Wf key := wf_small (faultOf_zero (askF_zero hz).2).1 (by have := (faultOf_zero (askF_zero hz).2).2; omega)
  have HZ : Hid (scan (cellF S.c) S.nc = 0 ∧ (S.nc ≤ 200 ∧ S.nl ≤ 200 ∧ S.nw ≤ 200)) := ⟨Z.2.1, Z.1⟩
  have HA : Hid (askF S key = 0) := hz
  clear Z
  by_cases hh : hasCell S S.nc key start
  · obtain ⟨u, hu⟩ : ∃ u, cellM S S.nc key start = some u := Option.isSome_iff_exists.1 ((cellM_has S _ _ _).2 hh)
    have E : Hid (cellAtC S key start = 0 ∧ cellAtV S key start = u) := ⟨by unfold cellAtC; rw [if_neg (fun q => q hz), if_pos hh], by unfold cellAtV; rw [if_neg (fun q => q hz), hu]; rfl⟩
    have HU : Hid (cellM S S.nc key start = some u) := hu
    clear hu hh hz
    go_enter Try.func18, Try.ntmps18
    go_wp2_with fail
    refine (askFault_any S _ _ _ key B _ HE.out.2.2.1).mono ?_
    rw [HA.out]
    rintro e w1 ⟨rfl, q1⟩
    have HE : Hid (CallEnv w B S (.slice a0 S.nc c0) (.slice a1 S.nl c1) (.slice a2 S.nw c2) (.int .i64 0) (.int .i64 0) w1) := HE.out.later q1
    obtain ⟨⟨⟨p0, p1, p2⟩, _⟩, ⟨⟨r0, r1⟩, f0, f1⟩, _⟩ := HE.out
    clear q1
    go_wp2_with fail
    refine (columnsOf_any S B _ _ _ _ HE.out.2.2.1 HZ.out.2.1 HZ.out.2.2.1 HZ.out.2.2.2 HZ.out.1).mono ?_
    rintro e w2 ⟨b, g, u1, u2, rfl, hC, q1⟩
    clear p0 p1 p2 r0 r1 f0 f1
    have HE : Hid (CallEnv w B S (.slice a0 S.nc c0) (.slice a1 S.nl c1) (.slice a2 S.nw c2) (.int .i64 0) (.int .i64 0) w2) := HE.out.later q1
    obtain ⟨_, ⟨⟨r0, r1⟩, f0, f1⟩, _⟩ := HE.out
    have m0 := hC.2.2.1.1.1
    have hlk := hC.2.2.2.1.look hw hst
    rw [HU.out] at hlk
    clear q1 hC
    go_wp2
    exact bodyPost_ret (v := .agg #[.int .i64 0, .int .i64 u]) (by simp [results, Try.results18, go_sem, r0, r1]) rfl ⟨by rw [E.out.1, E.out.2], (HE.out.2.2.2.setCell (Nat.le_succ _) _).setCell (Nat.le_succ _) _⟩
  · have hu : cellM S S.nc key start = none := by
      cases hq : cellM S S.nc key start with
      | none => rfl
      | some u => exact absurd ((cellM_has S _ _ _).1 (by rw [hq]; rfl)) hh
    have E : Hid (cellAtC S key start = 4 ∧ cellAtV S key start = 0) := ⟨by unfold cellAtC; rw [if_neg (fun q => q hz), if_neg hh], by unfold cellAtV; rw [if_neg (fun q => q hz), hu]; rfl⟩
    have HU : Hid (cellM S S.nc key start = none) := hu
    clear hu hh hz
    go_enter Try.func18, Try.ntmps18
    go_wp2_with fail
    refine (askFault_any S _ _ _ key B _ HE.out.2.2.1).mono ?_
    rw [HA.out]
    rintro e w1 ⟨rfl, q1⟩
    have HE : Hid (CallEnv w B S (.slice a0 S.nc c0) (.slice a1 S.nl c1) (.slice a2 S.nw c2) (.int .i64 0) (.int .i64 0) w1) := HE.out.later q1
    obtain ⟨⟨⟨p0, p1, p2⟩, _⟩, ⟨⟨r0, r1⟩, f0, f1⟩, _⟩ := HE.out
    clear q1
    go_wp2_with fail
    refine (columnsOf_any S B _ _ _ _ HE.out.2.2.1 HZ.out.2.1 HZ.out.2.2.1 HZ.out.2.2.2 HZ.out.1).mono ?_
    rintro e w2 ⟨b, g, u1, u2, rfl, hC, q1⟩
    clear p0 p1 p2 r0 r1 f0 f1
    have HE : Hid (CallEnv w B S (.slice a0 S.nc c0) (.slice a1 S.nl c1) (.slice a2 S.nw c2) (.int .i64 0) (.int .i64 0) w2) := HE.out.later q1
    obtain ⟨_, ⟨⟨r0, r1⟩, f0, f1⟩, _⟩ := HE.out
    have m0 := hC.2.2.1.1.1
    have hlk := hC.2.2.2.1.look hw hst
    rw [HU.out] at hlk
    clear q1 hC
    go_wp2
    exact bodyPost_ret (v := .agg #[.int .i64 4, .int .i64 0]) (by simp [results, Try.results18, go_sem, r0, r1]) rfl ⟨by rw [E.out.1, E.out.2], (HE.out.2.2.2.setCell (Nat.le_succ _) _).setCell (Nat.le_succ _) _⟩
set_option maxRecDepth 100000 in
set_option maxHeartbeats 2000000 in
theorem specCellAt_any (S : Sto) (v0 v1 v2 : Value) (key start : Int) (B : Nat) (w : World) (h : St w B S v0 v1 v2) :
    Calls Try.prog 17 #[.agg #[v0, v1, v2], .int .i64 key, .int .i64 start] w fun e w' => e = .returned (.agg #[.int .i64 (cellAtC S key start), .int .i64 (cellAtV S key start)]) ∧ Below w.heap.size w w' := by
  obtain ⟨a0, c0, a1, c1, a2, c2, rfl, rfl, rfl⟩ := h.form
  have HE : Hid (CallEnv w B S (.slice a0 S.nc c0) (.slice a1 S.nl c1) (.slice a2 S.nw c2) (.int .i64 0) (.int .i64 0) ((w.alloc (.cells #[.slice a0 S.nc c0, .slice a1 S.nl c1, .slice a2 S.nw c2] 35)).alloc (.cells #[.int .i64 0, .int .i64 0] 43))) := CallEnv.new h _ _ _ _
  clear h
  by_cases hz : askF S key = 0
  case neg =>
    obtain ⟨f, hf⟩ : ∃ f, askF S key = f := ⟨_, rfl⟩
    have E : Hid (cellAtC S key start = f ∧ cellAtV S key start = 0) := ⟨by unfold cellAtC; rw [if_pos hz, hf], by unfold cellAtV; rw [if_pos hz]⟩
    have HF : Hid (askF S key = f) := hf
    have hfn : (f == 0) = false := beq_eq_false_iff_ne.2 (by rw [← hf]; exact hz)
    clear hz hf
    go_enter Try.func17, Try.ntmps17
    go_wp2_with fail
    refine (asked_any S w.heap.size _ _ _ key _ ⟨HE.out.1.1, HE.out.2.2.1.mono (Nat.zero_le _)⟩).mono ?_
    rw [HF.out]
    rintro e w1 ⟨rfl, q1⟩
    have HE : Hid (CallEnv w B S (.slice a0 S.nc c0) (.slice a1 S.nl c1) (.slice a2 S.nw c2) (.int .i64 0) (.int .i64 0) w1) := HE.out.later q1
    obtain ⟨⟨⟨p0, p1, p2⟩, _⟩, ⟨⟨r0, r1⟩, f0, f1⟩, _⟩ := HE.out
    clear q1
    go_wp2
    exact bodyPost_ret (v := .agg #[.int .i64 f, .int .i64 0]) (by simp [results, Try.results17, go_sem, r0, r1]) rfl ⟨by rw [E.out.1, E.out.2], (HE.out.2.2.2.setCell (Nat.le_succ _) _).setCell (Nat.le_succ _) _⟩
  have Z := storeF_zero (askF_zero hz).1
  have HZ : Hid (scan (cellF S.c) S.nc = 0 ∧ (S.nc ≤ 200 ∧ S.nl ≤ 200 ∧ S.nw ≤ 200)) := ⟨Z.2.1, Z.1⟩
  have HA : Hid (askF S key = 0) := hz
  obtain ⟨c, HC⟩ : ∃ c, Hid (FirstAt (cellIs S.c key start) S.nc c) := FirstAt.get _ _
  rcases HC.out with ⟨rfl, hno⟩ | ⟨i, hi, rfl, hp, _⟩
  · have hh : ¬ hasCell S S.nc key start := fun ⟨i, hi, q⟩ => hno i hi q
    have hu : cellM S S.nc key start = none := by
      cases hq : cellM S S.nc key start with
      | none => rfl
      | some u => exact absurd ((cellM_has S _ _ _).1 (by rw [hq]; rfl)) hh
    have E : Hid (cellAtC S key start = 4 ∧ cellAtV S key start = 0) := ⟨by unfold cellAtC; rw [if_neg (fun q => q hz), if_neg hh], by unfold cellAtV; rw [if_neg (fun q => q hz), hu]; rfl⟩
    clear hu hh hz Z hno
    go_enter Try.func17, Try.ntmps17
    go_wp2_with fail
    refine (asked_any S w.heap.size _ _ _ key _ ⟨HE.out.1.1, HE.out.2.2.1.mono (Nat.zero_le _)⟩).mono ?_
    rw [HA.out]
    rintro e w1 ⟨rfl, q1⟩
    have HE : Hid (CallEnv w B S (.slice a0 S.nc c0) (.slice a1 S.nl c1) (.slice a2 S.nw c2) (.int .i64 0) (.int .i64 0) w1) := HE.out.later q1
    obtain ⟨⟨⟨p0, p1, p2⟩, _⟩, ⟨⟨r0, r1⟩, f0, f1⟩, _⟩ := HE.out
    clear q1
    go_wp2_with fail
    refine (l2Cell_is S w.heap.size _ _ _ key start (-1) _ ⟨HE.out.1.1, HE.out.2.2.1.mono (Nat.zero_le _)⟩ HZ.out.2.1 HC.out).mono ?_
    rintro e w2 ⟨rfl, rfl⟩
    go_wp2
    exact bodyPost_ret (v := .agg #[.int .i64 4, .int .i64 0]) (by simp [results, Try.results17, go_sem, r0, r1]) rfl ⟨by rw [E.out.1, E.out.2], (HE.out.2.2.2.setCell (Nat.le_succ _) _).setCell (Nat.le_succ _) _⟩
  · have hu := cellM_at Z.2.1 hi hp
    obtain ⟨u, hu2⟩ : ∃ u, S.c (i * 3 + 2) = u := ⟨_, rfl⟩
    rw [hu2] at hu
    have E : Hid (cellAtC S key start = 0 ∧ cellAtV S key start = u) := ⟨by unfold cellAtC; rw [if_neg (fun q => q hz), if_pos ⟨i, hi, hp⟩], by unfold cellAtV; rw [if_neg (fun q => q hz), hu]; rfl⟩
    have HU : Hid (S.c (i * 3 + 2) = u) := hu2
    clear hu hu2 hz Z hp
    go_enter Try.func17, Try.ntmps17
    go_wp2_with fail
    refine (asked_any S w.heap.size _ _ _ key _ ⟨HE.out.1.1, HE.out.2.2.1.mono (Nat.zero_le _)⟩).mono ?_
    rw [HA.out]
    rintro e w1 ⟨rfl, q1⟩
    have HE : Hid (CallEnv w B S (.slice a0 S.nc c0) (.slice a1 S.nl c1) (.slice a2 S.nw c2) (.int .i64 0) (.int .i64 0) w1) := HE.out.later q1
    obtain ⟨⟨⟨p0, p1, p2⟩, _⟩, ⟨⟨r0, r1⟩, f0, f1⟩, _⟩ := HE.out
    clear q1
    go_wp2_with fail
    refine (l2Cell_is S w.heap.size _ _ _ key start i _ ⟨HE.out.1.1, HE.out.2.2.1.mono (Nat.zero_le _)⟩ HZ.out.2.1 HC.out).mono ?_
    rintro e w2 ⟨rfl, rfl⟩
    obtain ⟨g, o, rfl, _, hg, x0, x1, x2⟩ := HE.out.2.2.1.1.at3 hi
    rw [HU.out] at x2
    have hin : (i : Int) < (S.nc : Int) := by omega
    go_wp2
    exact bodyPost_ret (v := .agg #[.int .i64 0, .int .i64 u]) (by simp [results, Try.results17, go_sem, r0, r1]) rfl ⟨by rw [E.out.1, E.out.2], (HE.out.2.2.2.setCell (Nat.le_succ _) _).setCell (Nat.le_succ _) _⟩
end Go.Proofs.Ytjhloobjbbdmcah
