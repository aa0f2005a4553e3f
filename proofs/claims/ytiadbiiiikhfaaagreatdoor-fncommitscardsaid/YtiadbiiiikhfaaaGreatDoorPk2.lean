/-
 Own text, merged of KeysB, ColsN, ColsR, ColsU, StorP, PartD, ColsF, ColsG.
-/
import Derived.Test.YtiadbiiiikhfaaaGreatDoorPk1
namespace Go.Proofs.YtiadbiiiikhfaaaGreatDoor
open Go.RowKit

/-- The kind of a key from 0 to 199, and where its kind begins. -/
def kindAt (key : Int) : Int := if key < 10 then 0 else if key < 20 then 1 else if key < 180 then 2 else 3
def firstAt (key : Int) : Int := if key < 10 then 0 else if key < 20 then 10 else if key < 180 then 20 else 180

set_option maxHeartbeats 400000 in
theorem tellKey_any (key : Int) (w : World) (h0 : 0 ≤ key) (h1 : key ≤ 199) :
  Calls Tryz.prog 72 #[.int .i64 key] w fun e w' => e = .returned (.complex .f64 (floatOfInt .f64 (kindAt key)) (floatOfInt .f64 (key - firstAt key))) ∧ w' = w := by
 by_cases h180 : 180 ≤ key
 ·have e1 : kindAt key = 3 := by unfold kindAt; repeat rw [if_neg (by omega)]
  have e2 : firstAt key = 180 := by unfold firstAt; repeat rw [if_neg (by omega)]
  rw [e1, e2]; clear e1 e2
  go_enter Tryz.func72, Tryz.ntmps72
  go_wp2
  go_rounds 1
  go_ret
  exact ⟨rfl, rfl⟩
 by_cases h20 : 20 ≤ key
 ·have e1 : kindAt key = 2 := by unfold kindAt; rw [if_neg (by omega), if_neg (by omega), if_pos (by omega)]
  have e2 : firstAt key = 20 := by unfold firstAt; rw [if_neg (by omega), if_neg (by omega), if_pos (by omega)]
  rw [e1, e2]; clear e1 e2
  go_enter Tryz.func72, Tryz.ntmps72
  go_wp2
  go_rounds 2
  go_ret
  exact ⟨rfl, rfl⟩
 by_cases h10 : 10 ≤ key
 ·have e1 : kindAt key = 1 := by unfold kindAt; rw [if_neg (by omega), if_pos (by omega)]
  have e2 : firstAt key = 10 := by unfold firstAt; rw [if_neg (by omega), if_pos (by omega)]
  rw [e1, e2]; clear e1 e2
  go_enter Tryz.func72, Tryz.ntmps72
  go_wp2
  go_rounds 3
  go_ret
  exact ⟨rfl, rfl⟩
 ·have e1 : kindAt key = 0 := by unfold kindAt; rw [if_pos (by omega)]
  have e2 : firstAt key = 0 := by unfold firstAt; rw [if_pos (by omega)]
  rw [e1, e2]; clear e1 e2
  go_enter Tryz.func72, Tryz.ntmps72
  go_wp2
  go_rounds 4
  go_ret
  exact ⟨by simp, rfl⟩

theorem kindAt_0 {key : Int} (h : key < 10) : kindAt key = 0 ∧ firstAt key = 0 := by unfold kindAt firstAt; rw [if_pos h, if_pos h]; exact ⟨rfl, rfl⟩
theorem kindAt_1 {key : Int} (h : 10 ≤ key) (h' : key < 20) : kindAt key = 1 ∧ firstAt key = 10 := by
 unfold kindAt firstAt; rw [if_neg (by omega), if_pos h', if_neg (by omega), if_pos h']; exact ⟨rfl, rfl⟩
theorem kindAt_2 {key : Int} (h : 20 ≤ key) (h' : key < 180) : kindAt key = 2 ∧ firstAt key = 20 := by
 unfold kindAt firstAt; rw [if_neg (by omega), if_neg (by omega), if_pos h', if_neg (by omega), if_neg (by omega), if_pos h']; exact ⟨rfl, rfl⟩
theorem kindAt_3 {key : Int} (h : 180 ≤ key) : kindAt key = 3 ∧ firstAt key = 180 := by
 unfold kindAt firstAt; rw [if_neg (by omega), if_neg (by omega), if_neg (by omega), if_neg (by omega), if_neg (by omega), if_neg (by omega)]; exact ⟨rfl, rfl⟩

set_option maxHeartbeats 400000 in
theorem partsTold_entry (r : Int) (w : World) (h0 : 0 ≤ r) (h1 : r ≤ 199) :
  Calls Tryz.prog 71 #[.complex .f64 (floatOfInt .f64 2) (floatOfInt .f64 r)] w fun e w' => e = .returned (.tuple #[.int .i64 2, .int .i64 (r / 10), .int .i64 (r % 10)]) ∧ w' = w := by
 have k2 := fun w => run_to_int 2 (by omega) (by omega) w
 have kr := fun w => run_to_int r h0 h1 w
 go_enter Tryz.func71, Tryz.ntmps71
 go_wp2
 go_ret3
 exact ⟨rfl, rfl⟩
set_option maxHeartbeats 400000 in
theorem partsTold_other (k r : Int) (w : World) (hk0 : 0 ≤ k) (hk3 : k ≤ 3) (hk : (k == 2) = false) (h0 : 0 ≤ r) (h1 : r ≤ 199) :
  Calls Tryz.prog 71 #[.complex .f64 (floatOfInt .f64 k) (floatOfInt .f64 r)] w fun e w' => e = .returned (.tuple #[.int .i64 k, .int .i64 r, .int .i64 0]) ∧ w' = w := by
 have k2 := fun w => run_to_int k hk0 (by omega) w
 have kr := fun w => run_to_int r h0 h1 w
 go_enter Tryz.func71, Tryz.ntmps71
 go_wp2
 go_ret3
 exact ⟨rfl, rfl⟩

set_option maxHeartbeats 1000000 in
theorem keyFault_any (key : Int) (w : World) :
  Calls Tryz.prog 32 #[.int .i64 key] w fun e w' => e = .returned (.int .i64 (faultOf key)) ∧ w' = w := by
 by_cases hlo : key < 0
 ·rw [faultOf_range (Or.inl hlo)]
  go_enter Tryz.func32, Tryz.ntmps32
  go_wp2
  go_ret
  exact ⟨rfl, rfl⟩
 by_cases hhi : 199 < key
 ·rw [faultOf_range (Or.inr hhi)]
  go_enter Tryz.func32, Tryz.ntmps32
  go_wp2
  go_ret
  exact ⟨rfl, rfl⟩
 by_cases h10 : key < 10
 ·have HE := kindAt_0 h10
  by_cases hz : key = 0
  ·subst hz
   rw [faultOf_ok (Or.inl rfl)]
   go_enter Tryz.func32, Tryz.ntmps32
   go_wp2_with fail
   refine (tellKey_any _ _ (by omega) (by omega)).mono ?_
   rintro e w' ⟨rfl, rfl⟩
   rw [HE.1, HE.2]; clear HE
   go_wp2_with fail
   refine (partsTold_other _ _ _ (by omega) (by omega) rfl (by omega) (by omega)).mono ?_
   rintro e w' ⟨rfl, rfl⟩
   go_wp2
   go_ret
   exact ⟨rfl, rfl⟩
  ·rw [faultOf_form (by omega) (by omega) (by omega)]
   have d0 : (key == 0) = false := beq_eq_false_iff_ne.2 hz
   go_enter Tryz.func32, Tryz.ntmps32
   go_wp2_with fail
   refine (tellKey_any _ _ (by omega) (by omega)).mono ?_
   rintro e w' ⟨rfl, rfl⟩
   rw [HE.1, HE.2]; clear HE
   go_wp2_with fail
   refine (partsTold_other _ _ _ (by omega) (by omega) rfl (by omega) (by omega)).mono ?_
   rintro e w' ⟨rfl, rfl⟩
   go_wp2
   go_ret
   exact ⟨rfl, rfl⟩
 by_cases h20 : key < 20
 ·have HE := kindAt_1 (by omega) h20
  rw [faultOf_ok (by omega)]
  go_enter Tryz.func32, Tryz.ntmps32
  go_wp2_with fail
  refine (tellKey_any _ _ (by omega) (by omega)).mono ?_
  rintro e w' ⟨rfl, rfl⟩
  rw [HE.1, HE.2]; clear HE
  go_wp2_with fail
  refine (partsTold_other _ _ _ (by omega) (by omega) rfl (by omega) (by omega)).mono ?_
  rintro e w' ⟨rfl, rfl⟩
  go_wp2
  go_ret
  exact ⟨rfl, rfl⟩
 by_cases h180 : key < 180
 ·have HE := kindAt_2 (by omega) h180
  by_cases hok : key < 120 ∧ key % 10 ≤ 5
  ·rw [faultOf_ok (by omega)]
   have b1 : (key - 20) / 10 ≤ 9 := by omega
   have b2 : 0 ≤ (key - 20) / 10 := by omega
   have b3 : (key - 20) % 10 ≤ 5 := by omega
   have b4 : 0 ≤ (key - 20) % 10 := by omega
   clear hok
   go_enter Tryz.func32, Tryz.ntmps32
   go_wp2_with fail
   refine (tellKey_any _ _ (by omega) (by omega)).mono ?_
   rintro e w' ⟨rfl, rfl⟩
   rw [HE.1, HE.2]; clear HE
   go_wp2_with fail
   refine (partsTold_entry _ _ (by omega) (by omega)).mono ?_
   rintro e w' ⟨rfl, rfl⟩
   go_wp2
   go_ret
   exact ⟨rfl, rfl⟩
  ·rw [faultOf_form (by omega) (by omega) (by omega)]
   have b2 : 0 ≤ (key - 20) / 10 := by omega
   have b4 : 0 ≤ (key - 20) % 10 := by omega
   by_cases b1 : (key - 20) / 10 ≤ 9
   ·have b3 : 5 < (key - 20) % 10 := by omega
    have d3 : decide (5 < (key - 20) % 10) = true := decide_eq_true b3
    clear hok
    go_enter Tryz.func32, Tryz.ntmps32
    go_wp2_with fail
    refine (tellKey_any _ _ (by omega) (by omega)).mono ?_
    rintro e w' ⟨rfl, rfl⟩
    rw [HE.1, HE.2]; clear HE
    go_wp2_with fail
    refine (partsTold_entry _ _ (by omega) (by omega)).mono ?_
    rintro e w' ⟨rfl, rfl⟩
    go_wp2
    go_ret
    exact ⟨rfl, rfl⟩
   ·have b3 : 9 < (key - 20) / 10 := by omega
    have d3 : decide (9 < (key - 20) / 10) = true := decide_eq_true b3
    clear hok b1
    go_enter Tryz.func32, Tryz.ntmps32
    go_wp2_with fail
    refine (tellKey_any _ _ (by omega) (by omega)).mono ?_
    rintro e w' ⟨rfl, rfl⟩
    rw [HE.1, HE.2]; clear HE
    go_wp2_with fail
    refine (partsTold_entry _ _ (by omega) (by omega)).mono ?_
    rintro e w' ⟨rfl, rfl⟩
    go_wp2
    go_ret
    exact ⟨rfl, rfl⟩
 ·have HE := kindAt_3 (key := key) (by omega)
  by_cases hok : key < 190
  focus
   rw [faultOf_ok (by omega)]
  rotate_left
  focus
   rw [faultOf_form (by omega) (by omega) (by omega)]
   have d3 : decide (9 < key - 180) = true := decide_eq_true (by omega)
  rotate_left
  all_goals
   go_enter Tryz.func32, Tryz.ntmps32
   go_wp2_with fail
   refine (tellKey_any _ _ (by omega) (by omega)).mono ?_
   rintro e w' ⟨rfl, rfl⟩
   rw [HE.1, HE.2]; clear HE
   go_wp2_with fail
   refine (partsTold_other _ _ _ (by omega) (by omega) rfl (by omega) (by omega)).mono ?_
   rintro e w' ⟨rfl, rfl⟩
   go_wp2
   go_ret
   exact ⟨rfl, rfl⟩
end Go.Proofs.YtiadbiiiikhfaaaGreatDoor

namespace Go.Proofs.YtiadbiiiikhfaaaGreatDoor
open Go.RowKit

theorem below_dn {B : Nat} {a w : World} (h : Below B a w) (q : Nat) : Below B a (w.drewN q) := ⟨h.os, h.tape, h.output, h.size, h.block⟩
theorem orOf_neg (a b c d : Int) : orOf (cmpOf a b) (cmpOf c d) < 0 ↔ a < b ∨ a = b ∧ c < d := by
 unfold orOf cmpOf
 repeat' split
 all_goals omega
theorem wrap_pred (k : Nat) (h : 0 < k) (h2 : k ≤ 200) : IntKind.i64.wrap ((k : Int) - 1) = ((k - 1 : Nat) : Int) := by
 have e : (k : Int) - 1 = ((k - 1 : Nat) : Int) := by omega
 rw [e]
 simp [IntKind.wrap, IntKind.bits, IntKind.signed]
 omega
theorem cmpOf_neg (a b : Int) : cmpOf a b < 0 ↔ a < b := by
 unfold cmpOf
 repeat' split
 all_goals omega
/-- The element ahead and the one that is asked, and that nothing old has turned. -/
def PrevCell (w : World) (g o k N : Nat) (m0 m1 m2 n0 n1 n2 : Int) (x : World) : Prop := (x.cell? ⟨g, o + (k - 1) * 3, none⟩ = some (.int .i64 m0) ∧ x.cell? ⟨g, o + (k - 1) * 3 + 1, none⟩ = some (.int .i64 m1) ∧ x.cell? ⟨g, o + (k - 1) * 3 + 2, none⟩ = some (.int .i64 m2) ∧ x.cell? ⟨N, 0, none⟩ = some (.int .i64 n0) ∧ x.cell? ⟨N, 1, none⟩ = some (.int .i64 n1) ∧ x.cell? ⟨N, 2, none⟩ = some (.int .i64 n2)) ∧ Below w.heap.size w x
theorem PrevCell.later {w x x' : World} {g o k N : Nat} {m0 m1 m2 n0 n1 n2 : Int} (h : PrevCell w g o k N m0 m1 m2 n0 n1 n2 x) (hb : Below x.heap.size x x') : PrevCell w g o k N m0 m1 m2 n0 n1 n2 x' := by
 obtain ⟨⟨hx0, hx1, hx2, hx3, hx4, hx5⟩, hy⟩ := h
 exact ⟨⟨(hb.cell (World.block_lt_of_cell? x _ hx0)).trans hx0, (hb.cell (World.block_lt_of_cell? x _ hx1)).trans hx1, (hb.cell (World.block_lt_of_cell? x _ hx2)).trans hx2, (hb.cell (World.block_lt_of_cell? x _ hx3)).trans hx3, (hb.cell (World.block_lt_of_cell? x _ hx4)).trans hx4, (hb.cell (World.block_lt_of_cell? x _ hx5)).trans hx5⟩, hy.trans (hb.mono hy.size)⟩
set_option maxRecDepth 100000 in
set_option maxHeartbeats 4000000 in
theorem cellsFault_any (S : Sto) (v : Value) (B : Nat) (w : World) (h : Row w B 3 S.nc S.c v) (hn : S.nc ≤ 200) :
  Calls Tryz.prog 48 #[v] w fun e w' => e = .returned (.int .i64 (scan (cellF S.c) S.nc)) ∧ Below w.heap.size w w' := by
 obtain ⟨ao, cp, rfl⟩ := h.form
 have H : Hid (Row w B 3 S.nc S.c (.slice ao S.nc cp)) := h
 clear h
 go_enter Tryz.func48, Tryz.ntmps48
 go_wp2
 go_loopw [8] (fun i wr => ∃ k : Nat, k ≤ S.nc ∧ i = .int .i64 k ∧ Hid (scan (cellF S.c) k = 0) ∧ Below w.heap.size w wr) (fun i _ => S.nc - (intOf i).toNat)
 case atStart => exact ⟨0, Nat.zero_le _, rfl, rfl, Below.refl _ _⟩
 case round =>
  obtain ⟨k, hk, rfl, HS, hbw⟩ := hrel
  by_cases hlt : k < S.nc
  case neg =>
   have en : k = S.nc := by omega
   have E : Hid (scan (cellF S.c) S.nc = 0) := en ▸ HS.out
   clear HS
   go_wp2
   go_ret
   exact ⟨by rw [E.out]; rfl, hbw⟩
  obtain ⟨g, o, rfl, _, hg, x0, x1, x2⟩ := (H.out.later hbw).at3 hlt
  obtain ⟨n0, N0⟩ : ∃ x, S.c (k * 3) = x := ⟨_, rfl⟩
  rw [N0] at x0
  obtain ⟨n1, N1⟩ : ∃ x, S.c (k * 3 + 1) = x := ⟨_, rfl⟩
  rw [N1] at x1
  obtain ⟨n2, N2⟩ : ∃ x, S.c (k * 3 + 2) = x := ⟨_, rfl⟩
  rw [N2] at x2
  have NN : Hid (S.c (k * 3) = n0 ∧ S.c (k * 3 + 1) = n1 ∧ S.c (k * 3 + 2) = n2) := ⟨N0, N1, N2⟩
  clear N0 N1 N2
  by_cases h0 : faultOf n0 = 0
  case neg =>
   obtain ⟨f, hff⟩ : ∃ f, faultOf n0 = f := ⟨_, rfl⟩
   have L0 : Hid (∀ w, Calls Tryz.prog 32 #[.int .i64 n0] w fun e w' => e = .returned (.int .i64 f) ∧ w' = w) := fun w => hff ▸ keyFault_any n0 w
   have E : Hid (scan (cellF S.c) S.nc = f) := by
    have : cellF S.c k = f := by
     unfold cellF
     rw [NN.out.1, NN.out.2.1, NN.out.2.2]
     rw [if_pos h0]; exact hff
    exact (scan_stop HS.out (by rw [this, ← hff]; exact h0) hlt).trans this
   have hfn : (f == 0) = false := beq_eq_false_iff_ne.2 (by rw [← hff]; exact h0)
   clear hff h0 HS NN
   go_wp2_with fail
   refine (L0.out _).mono ?_
   rintro e w1 ⟨rfl, rfl⟩
   go_wp2
   go_ret
   exact ⟨by rw [E.out]; rfl, by first | exact hbw.alloc hbw.size _ | exact below_dn (hbw.alloc hbw.size _) _ | exact below_dn (below_dn (hbw.alloc hbw.size _) _) _⟩
  have L0 : Hid (∀ w, Calls Tryz.prog 32 #[.int .i64 n0] w fun e w' => e = .returned (.int .i64 0) ∧ w' = w) := fun w => h0 ▸ keyFault_any n0 w
  have G0 : Hid (faultOf n0 = 0) := h0
  clear h0
  by_cases h1 : 1 ≤ n1 ∧ n1 ≤ 100000
  case neg =>
   have L1 : Hid (decide (1 ≤ n1 ∧ n1 ≤ 100000) = false) := decide_eq_false h1
   have E : Hid (scan (cellF S.c) S.nc = 3) := by
    have : cellF S.c k = 3 := by
     unfold cellF
     rw [NN.out.1, NN.out.2.1, NN.out.2.2]
     rw [if_neg (fun h => h G0.out)]
     rw [if_pos (by omega)]
    exact (scan_stop HS.out (by rw [this]; decide) hlt).trans this
   clear h1 HS NN G0
   go_wp2_with fail
   refine (L0.out _).mono ?_
   rintro e w1 ⟨rfl, rfl⟩
   go_wp2_with fail
   refine (isTime_is _ false L1.out _).mono ?_
   rintro e w1 ⟨rfl, rfl⟩
   go_wp2
   go_ret
   exact ⟨by rw [E.out]; rfl, by first | exact hbw.alloc hbw.size _ | exact below_dn (hbw.alloc hbw.size _) _ | exact below_dn (below_dn (hbw.alloc hbw.size _) _) _⟩
  have L1 : Hid (decide (1 ≤ n1 ∧ n1 ≤ 100000) = true) := decide_eq_true h1
  have G1 : Hid (1 ≤ n1 ∧ n1 ≤ 100000) := h1
  clear h1
  by_cases h2 : 0 ≤ n2 ∧ n2 ≤ 9999
  case neg =>
   have L2 : Hid (decide (0 ≤ n2 ∧ n2 ≤ 9999) = false) := decide_eq_false h2
   have E : Hid (scan (cellF S.c) S.nc = 3) := by
    have : cellF S.c k = 3 := by
     unfold cellF
     rw [NN.out.1, NN.out.2.1, NN.out.2.2]
     rw [if_neg (fun h => h G0.out)]
     rw [if_pos (by omega)]
    exact (scan_stop HS.out (by rw [this]; decide) hlt).trans this
   clear h2 HS NN G0 G1
   go_wp2_with fail
   refine (L0.out _).mono ?_
   rintro e w1 ⟨rfl, rfl⟩
   go_wp2_with fail
   refine (isTime_is _ true L1.out _).mono ?_
   rintro e w1 ⟨rfl, rfl⟩
   go_wp2_with fail
   refine (isValue_is _ false L2.out _).mono ?_
   rintro e w1 ⟨rfl, rfl⟩
   go_wp2
   go_ret
   exact ⟨by rw [E.out]; rfl, by first | exact hbw.alloc hbw.size _ | exact below_dn (hbw.alloc hbw.size _) _ | exact below_dn (below_dn (hbw.alloc hbw.size _) _) _⟩
  have L2 : Hid (decide (0 ≤ n2 ∧ n2 ≤ 9999) = true) := decide_eq_true h2
  have G2 : Hid (0 ≤ n2 ∧ n2 ≤ 9999) := h2
  clear h2
  rcases Nat.eq_zero_or_pos k with hk0 | hk0
  ·have E : Hid (scan (cellF S.c) (k + 1) = 0) := by
    have : cellF S.c k = 0 := by
     unfold cellF
     rw [NN.out.1, NN.out.2.1, NN.out.2.2]
     rw [if_neg (fun h => h G0.out)]
     have g1 := G1.out; have g2 := G2.out; rw [if_neg (by omega)]
     rw [if_neg (by omega)]
    exact scan_go HS.out this
   have dk : decide (0 < k) = false := decide_eq_false (by omega)
   clear HS NN G0 G1 G2 hk0
   go_wp2_with fail
   refine (L0.out _).mono ?_
   rintro e w1 ⟨rfl, rfl⟩
   go_wp2_with fail
   refine (isTime_is _ true L1.out _).mono ?_
   rintro e w1 ⟨rfl, rfl⟩
   go_wp2_with fail
   refine (isValue_is _ true L2.out _).mono ?_
   rintro e w1 ⟨rfl, rfl⟩
   go_wp2_with fail
   go_quiet (fail)
   go_wp2
   go_roundw
   case rel => exact ⟨k + 1, by omega, by go_num, E, by first | exact hbw.alloc hbw.size _ | exact below_dn (hbw.alloc hbw.size _) _ | exact below_dn (below_dn (hbw.alloc hbw.size _) _) _⟩
   case measure => simp [intOf]; omega
  obtain ⟨g', o', he, _, _, y0, y1, y2⟩ := (H.out.later hbw).at3 (k := k - 1) (by omega)
  simp only [Option.some.injEq, Addr.mk.injEq, and_true] at he
  obtain ⟨rfl, rfl⟩ := he
  obtain ⟨m0, M0⟩ : ∃ x, S.c ((k - 1) * 3) = x := ⟨_, rfl⟩
  rw [M0] at y0
  obtain ⟨m1, M1⟩ : ∃ x, S.c ((k - 1) * 3 + 1) = x := ⟨_, rfl⟩
  rw [M1] at y1
  obtain ⟨m2, M2⟩ : ∃ x, S.c ((k - 1) * 3 + 2) = x := ⟨_, rfl⟩
  rw [M2] at y2
  have MM : Hid (S.c ((k - 1) * 3) = m0 ∧ S.c ((k - 1) * 3 + 1) = m1) := ⟨M0, M1⟩
  clear M0 M1 M2
  have dk : decide (0 < k) = true := decide_eq_true hk0
  have hwr := wrap_pred k hk0 (by omega)
  have hkn : ((k - 1 : Nat) : Int) < (S.nc : Int) := by omega
  obtain ⟨r, HR⟩ : ∃ r, Hid (orOf (cmpOf m0 n0) (cmpOf m1 n1) = r) := ⟨_, rfl⟩
  have HO : Hid (r < 0 ↔ m0 < n0 ∨ m0 = n0 ∧ m1 < n1) := by unfold Hid; rw [← HR.out]; exact orOf_neg _ _ _ _
  have h0 : PrevCell w g o k wr.heap.size m0 m1 m2 n0 n1 n2 (wr.alloc (.cells #[.int .i64 n0, .int .i64 n1, .int .i64 n2] 93)).drew := ⟨⟨(World.cell?_alloc_lt _ _ _ hg).trans y0, (World.cell?_alloc_lt _ _ _ hg).trans y1, (World.cell?_alloc_lt _ _ _ hg).trans y2, World.cell?_alloc_mark wr _ _ _ 0, World.cell?_alloc_mark wr _ _ _ 1, World.cell?_alloc_mark wr _ _ _ 2⟩, (hbw.alloc hbw.size _).drew⟩
  by_cases hr : 0 ≤ r
  ·have E : Hid (scan (cellF S.c) S.nc = 1) := by
    have : cellF S.c k = 1 := by
     unfold cellF
     rw [NN.out.1, NN.out.2.1, NN.out.2.2]
     rw [if_neg (fun h => h G0.out)]
     have g1 := G1.out; have g2 := G2.out; rw [if_neg (by omega)]
     rw [MM.out.1, MM.out.2]
     have ho := HO.out
     rw [if_pos (by omega)]
    exact (scan_stop HS.out (by rw [this]; decide) hlt).trans this
   have dr : decide (0 ≤ r) = true := decide_eq_true hr
   clear HS NN G0 G1 G2 MM HO hr
   go_wp2_with fail
   refine (L0.out _).mono ?_
   rintro e w1 ⟨rfl, rfl⟩
   go_wp2_with fail
   refine (isTime_is _ true L1.out _).mono ?_
   rintro e w1 ⟨rfl, rfl⟩
   go_wp2_with fail
   refine (isValue_is _ true L2.out _).mono ?_
   rintro e w1 ⟨rfl, rfl⟩
   go_wp2_with fail
   refine wp_region_held_drew (S := PrevCell w g o k wr.heap.size m0 m1 m2 n0 n1 n2) (by kernel_rfl) h0 (fun hS => ?_)
   clear h0
   refine tkH 0 ?_ hS (fun wx hx => ?_) ?_; rotate_left
   ·obtain ⟨⟨hx0, hx1, hx2, hx3, hx4, hx5⟩, _⟩ := hx; go_simp; try with_reducible rfl
   refine tkH 1 ?_ hS (fun wx hx => ?_) ?_; rotate_left
   ·obtain ⟨⟨hx0, hx1, hx2, hx3, hx4, hx5⟩, _⟩ := hx; go_simp; try with_reducible rfl
   refine tkH 2 ?_ hS (fun wx hx => ?_) ?_; rotate_left
   ·obtain ⟨⟨hx0, hx1, hx2, hx3, hx4, hx5⟩, _⟩ := hx; go_simp; try with_reducible rfl
   refine tkH 3 ?_ hS (fun wx hx => ?_) ?_; rotate_left
   ·obtain ⟨⟨hx0, hx1, hx2, hx3, hx4, hx5⟩, _⟩ := hx; go_simp; try with_reducible rfl
   refine tkH 4 ?_ hS (fun wx hx => ?_) ?_; rotate_left
   ·obtain ⟨⟨hx0, hx1, hx2, hx3, hx4, hx5⟩, _⟩ := hx; go_simp; try with_reducible rfl
   refine tkH 5 ?_ hS (fun wx hx => ?_) ?_; rotate_left
   ·obtain ⟨⟨hx0, hx1, hx2, hx3, hx4, hx5⟩, _⟩ := hx; go_simp; try with_reducible rfl
   refine tkH 6 ?_ hS (fun wx hx => ?_) ?_; rotate_left
   ·obtain ⟨⟨hx0, hx1, hx2, hx3, hx4, hx5⟩, _⟩ := hx; go_simp; try with_reducible rfl
   refine tkH 7 ?_ hS (fun wx hx => ?_) ?_; rotate_left
   ·obtain ⟨⟨hx0, hx1, hx2, hx3, hx4, hx5⟩, _⟩ := hx; go_simp; try with_reducible rfl
   refine tkH 8 ?_ hS (fun wx hx => ?_) ?_; rotate_left
   ·obtain ⟨⟨hx0, hx1, hx2, hx3, hx4, hx5⟩, _⟩ := hx; go_simp; try with_reducible rfl
   refine rdH 9 (fun K hK => ?_)
   go_simp
   go_wp2_with fail
   refine (compareCells_is _ _ _ _ _ _ r HR.out _).mono ?_
   rintro e w1 ⟨rfl, q1⟩
   have hS' := hS.later q1
   clear q1
   go_wp2_with fail
   refine hK.out _ _ hS' (fun hS => ?_)
   clear hK K hS'
   refine tkH 10 ?_ hS (fun wx hx => ?_) ?_; rotate_left
   ·obtain ⟨⟨hx0, hx1, hx2, hx3, hx4, hx5⟩, _⟩ := hx; go_simp; try with_reducible rfl
   refine tkH 11 ?_ hS (fun wx hx => ?_) ?_; rotate_left
   ·obtain ⟨⟨hx0, hx1, hx2, hx3, hx4, hx5⟩, _⟩ := hx; go_simp; try with_reducible rfl
   refine wpAnyH_done (by kernel_rfl) ?_ _
   go_simp
   go_wp2
   go_ret
   exact ⟨by rw [E.out]; rfl, hS.2⟩
  ·have E : Hid (scan (cellF S.c) (k + 1) = 0) := by
    have : cellF S.c k = 0 := by
     unfold cellF
     rw [NN.out.1, NN.out.2.1, NN.out.2.2]
     rw [if_neg (fun h => h G0.out)]
     have g1 := G1.out; have g2 := G2.out; rw [if_neg (by omega)]
     rw [MM.out.1, MM.out.2]
     have ho := HO.out
     rw [if_neg (by omega)]
    exact scan_go HS.out this
   have dr : decide (0 ≤ r) = false := decide_eq_false hr
   clear HS NN G0 G1 G2 MM HO hr
   go_wp2_with fail
   refine (L0.out _).mono ?_
   rintro e w1 ⟨rfl, rfl⟩
   go_wp2_with fail
   refine (isTime_is _ true L1.out _).mono ?_
   rintro e w1 ⟨rfl, rfl⟩
   go_wp2_with fail
   refine (isValue_is _ true L2.out _).mono ?_
   rintro e w1 ⟨rfl, rfl⟩
   go_wp2_with fail
   refine wp_region_held_drew (S := PrevCell w g o k wr.heap.size m0 m1 m2 n0 n1 n2) (by kernel_rfl) h0 (fun hS => ?_)
   clear h0
   refine tkH 0 ?_ hS (fun wx hx => ?_) ?_; rotate_left
   ·obtain ⟨⟨hx0, hx1, hx2, hx3, hx4, hx5⟩, _⟩ := hx; go_simp; try with_reducible rfl
   refine tkH 1 ?_ hS (fun wx hx => ?_) ?_; rotate_left
   ·obtain ⟨⟨hx0, hx1, hx2, hx3, hx4, hx5⟩, _⟩ := hx; go_simp; try with_reducible rfl
   refine tkH 2 ?_ hS (fun wx hx => ?_) ?_; rotate_left
   ·obtain ⟨⟨hx0, hx1, hx2, hx3, hx4, hx5⟩, _⟩ := hx; go_simp; try with_reducible rfl
   refine tkH 3 ?_ hS (fun wx hx => ?_) ?_; rotate_left
   ·obtain ⟨⟨hx0, hx1, hx2, hx3, hx4, hx5⟩, _⟩ := hx; go_simp; try with_reducible rfl
   refine tkH 4 ?_ hS (fun wx hx => ?_) ?_; rotate_left
   ·obtain ⟨⟨hx0, hx1, hx2, hx3, hx4, hx5⟩, _⟩ := hx; go_simp; try with_reducible rfl
   refine tkH 5 ?_ hS (fun wx hx => ?_) ?_; rotate_left
   ·obtain ⟨⟨hx0, hx1, hx2, hx3, hx4, hx5⟩, _⟩ := hx; go_simp; try with_reducible rfl
   refine tkH 6 ?_ hS (fun wx hx => ?_) ?_; rotate_left
   ·obtain ⟨⟨hx0, hx1, hx2, hx3, hx4, hx5⟩, _⟩ := hx; go_simp; try with_reducible rfl
   refine tkH 7 ?_ hS (fun wx hx => ?_) ?_; rotate_left
   ·obtain ⟨⟨hx0, hx1, hx2, hx3, hx4, hx5⟩, _⟩ := hx; go_simp; try with_reducible rfl
   refine tkH 8 ?_ hS (fun wx hx => ?_) ?_; rotate_left
   ·obtain ⟨⟨hx0, hx1, hx2, hx3, hx4, hx5⟩, _⟩ := hx; go_simp; try with_reducible rfl
   refine rdH 9 (fun K hK => ?_)
   go_simp
   go_wp2_with fail
   refine (compareCells_is _ _ _ _ _ _ r HR.out _).mono ?_
   rintro e w1 ⟨rfl, q1⟩
   have hS' := hS.later q1
   clear q1
   go_wp2_with fail
   refine hK.out _ _ hS' (fun hS => ?_)
   clear hK K hS'
   refine tkH 10 ?_ hS (fun wx hx => ?_) ?_; rotate_left
   ·obtain ⟨⟨hx0, hx1, hx2, hx3, hx4, hx5⟩, _⟩ := hx; go_simp; try with_reducible rfl
   refine tkH 11 ?_ hS (fun wx hx => ?_) ?_; rotate_left
   ·obtain ⟨⟨hx0, hx1, hx2, hx3, hx4, hx5⟩, _⟩ := hx; go_simp; try with_reducible rfl
   refine wpAnyH_done (by kernel_rfl) ?_ _
   go_simp
   go_wp2
   go_roundw
   case rel => exact ⟨k + 1, by omega, by go_num, E, hS.2⟩
   case measure => simp [intOf]; omega

/-- The element ahead and the one that is asked, and that nothing old has turned. -/
def PrevLock (w : World) (g o k N : Nat) (m0 m1 m2 m3 m4 n0 n1 n2 n3 n4 : Int) (x : World) : Prop := (x.cell? ⟨g, o + (k - 1) * 5, none⟩ = some (.int .i64 m0) ∧ x.cell? ⟨g, o + (k - 1) * 5 + 1, none⟩ = some (.int .i64 m1) ∧ x.cell? ⟨g, o + (k - 1) * 5 + 2, none⟩ = some (.int .i64 m2) ∧ x.cell? ⟨g, o + (k - 1) * 5 + 3, none⟩ = some (.int .i64 m3) ∧ x.cell? ⟨g, o + (k - 1) * 5 + 4, none⟩ = some (.int .i64 m4) ∧ x.cell? ⟨N, 0, none⟩ = some (.int .i64 n0) ∧ x.cell? ⟨N, 1, none⟩ = some (.int .i64 n1) ∧ x.cell? ⟨N, 2, none⟩ = some (.int .i64 n2) ∧ x.cell? ⟨N, 3, none⟩ = some (.int .i64 n3) ∧ x.cell? ⟨N, 4, none⟩ = some (.int .i64 n4)) ∧ Below w.heap.size w x
theorem PrevLock.later {w x x' : World} {g o k N : Nat} {m0 m1 m2 m3 m4 n0 n1 n2 n3 n4 : Int} (h : PrevLock w g o k N m0 m1 m2 m3 m4 n0 n1 n2 n3 n4 x) (hb : Below x.heap.size x x') : PrevLock w g o k N m0 m1 m2 m3 m4 n0 n1 n2 n3 n4 x' := by
 obtain ⟨⟨hx0, hx1, hx2, hx3, hx4, hx5, hx6, hx7, hx8, hx9⟩, hy⟩ := h
 exact ⟨⟨(hb.cell (World.block_lt_of_cell? x _ hx0)).trans hx0, (hb.cell (World.block_lt_of_cell? x _ hx1)).trans hx1, (hb.cell (World.block_lt_of_cell? x _ hx2)).trans hx2, (hb.cell (World.block_lt_of_cell? x _ hx3)).trans hx3, (hb.cell (World.block_lt_of_cell? x _ hx4)).trans hx4, (hb.cell (World.block_lt_of_cell? x _ hx5)).trans hx5, (hb.cell (World.block_lt_of_cell? x _ hx6)).trans hx6, (hb.cell (World.block_lt_of_cell? x _ hx7)).trans hx7, (hb.cell (World.block_lt_of_cell? x _ hx8)).trans hx8, (hb.cell (World.block_lt_of_cell? x _ hx9)).trans hx9⟩, hy.trans (hb.mono hy.size)⟩
set_option maxRecDepth 100000 in
set_option maxHeartbeats 4000000 in
theorem locksFault_any (S : Sto) (v : Value) (B : Nat) (w : World) (h : Row w B 5 S.nl S.l v) (hn : S.nl ≤ 200) :
  Calls Tryz.prog 49 #[v] w fun e w' => e = .returned (.int .i64 (scan (lockF S.l) S.nl)) ∧ Below w.heap.size w w' := by
 obtain ⟨ao, cp, rfl⟩ := h.form
 have H : Hid (Row w B 5 S.nl S.l (.slice ao S.nl cp)) := h
 clear h
 go_enter Tryz.func49, Tryz.ntmps49
 go_wp2
 go_loopw [9] (fun i wr => ∃ k : Nat, k ≤ S.nl ∧ i = .int .i64 k ∧ Hid (scan (lockF S.l) k = 0) ∧ Below w.heap.size w wr) (fun i _ => S.nl - (intOf i).toNat)
 case atStart => exact ⟨0, Nat.zero_le _, rfl, rfl, Below.refl _ _⟩
 case round =>
  obtain ⟨k, hk, rfl, HS, hbw⟩ := hrel
  by_cases hlt : k < S.nl
  case neg =>
   have en : k = S.nl := by omega
   have E : Hid (scan (lockF S.l) S.nl = 0) := en ▸ HS.out
   clear HS
   go_wp2
   go_ret
   exact ⟨by rw [E.out]; rfl, hbw⟩
  obtain ⟨g, o, rfl, _, hg, x0, x1, x2, x3, x4⟩ := (H.out.later hbw).at5 hlt
  obtain ⟨n0, N0⟩ : ∃ x, S.l (k * 5) = x := ⟨_, rfl⟩
  rw [N0] at x0
  obtain ⟨n1, N1⟩ : ∃ x, S.l (k * 5 + 1) = x := ⟨_, rfl⟩
  rw [N1] at x1
  obtain ⟨n2, N2⟩ : ∃ x, S.l (k * 5 + 2) = x := ⟨_, rfl⟩
  rw [N2] at x2
  obtain ⟨n3, N3⟩ : ∃ x, S.l (k * 5 + 3) = x := ⟨_, rfl⟩
  rw [N3] at x3
  obtain ⟨n4, N4⟩ : ∃ x, S.l (k * 5 + 4) = x := ⟨_, rfl⟩
  rw [N4] at x4
  have NN : Hid (S.l (k * 5) = n0 ∧ S.l (k * 5 + 1) = n1 ∧ S.l (k * 5 + 2) = n2 ∧ S.l (k * 5 + 3) = n3 ∧ S.l (k * 5 + 4) = n4) := ⟨N0, N1, N2, N3, N4⟩
  clear N0 N1 N2 N3 N4
  by_cases h0 : faultOf n0 = 0
  case neg =>
   obtain ⟨f, hff⟩ : ∃ f, faultOf n0 = f := ⟨_, rfl⟩
   have L0 : Hid (∀ w, Calls Tryz.prog 32 #[.int .i64 n0] w fun e w' => e = .returned (.int .i64 f) ∧ w' = w) := fun w => hff ▸ keyFault_any n0 w
   have E : Hid (scan (lockF S.l) S.nl = f) := by
    have : lockF S.l k = f := by
     unfold lockF
     rw [NN.out.1, NN.out.2.1, NN.out.2.2.1, NN.out.2.2.2.1, NN.out.2.2.2.2]
     rw [if_pos h0]; exact hff
    exact (scan_stop HS.out (by rw [this, ← hff]; exact h0) hlt).trans this
   have hfn : (f == 0) = false := beq_eq_false_iff_ne.2 (by rw [← hff]; exact h0)
   clear hff h0 HS NN
   go_wp2_with fail
   refine (L0.out _).mono ?_
   rintro e w1 ⟨rfl, rfl⟩
   go_wp2
   go_ret
   exact ⟨by rw [E.out]; rfl, by first | exact hbw.alloc hbw.size _ | exact below_dn (hbw.alloc hbw.size _) _ | exact below_dn (below_dn (hbw.alloc hbw.size _) _) _⟩
  have L0 : Hid (∀ w, Calls Tryz.prog 32 #[.int .i64 n0] w fun e w' => e = .returned (.int .i64 0) ∧ w' = w) := fun w => h0 ▸ keyFault_any n0 w
  have G0 : Hid (faultOf n0 = 0) := h0
  clear h0
  by_cases h1 : faultOf n3 = 0
  case neg =>
   obtain ⟨f, hff⟩ : ∃ f, faultOf n3 = f := ⟨_, rfl⟩
   have L1 : Hid (∀ w, Calls Tryz.prog 32 #[.int .i64 n3] w fun e w' => e = .returned (.int .i64 f) ∧ w' = w) := fun w => hff ▸ keyFault_any n3 w
   have E : Hid (scan (lockF S.l) S.nl = f) := by
    have : lockF S.l k = f := by
     unfold lockF
     rw [NN.out.1, NN.out.2.1, NN.out.2.2.1, NN.out.2.2.2.1, NN.out.2.2.2.2]
     rw [if_neg (fun h => h G0.out)]
     rw [if_pos h1]; exact hff
    exact (scan_stop HS.out (by rw [this, ← hff]; exact h1) hlt).trans this
   have hfn : (f == 0) = false := beq_eq_false_iff_ne.2 (by rw [← hff]; exact h1)
   clear hff h1 HS NN G0
   go_wp2_with fail
   refine (L0.out _).mono ?_
   rintro e w1 ⟨rfl, rfl⟩
   go_wp2_with fail
   refine (L1.out _).mono ?_
   rintro e w1 ⟨rfl, rfl⟩
   go_wp2
   go_ret
   exact ⟨by rw [E.out]; rfl, by first | exact hbw.alloc hbw.size _ | exact below_dn (hbw.alloc hbw.size _) _ | exact below_dn (below_dn (hbw.alloc hbw.size _) _) _⟩
  have L1 : Hid (∀ w, Calls Tryz.prog 32 #[.int .i64 n3] w fun e w' => e = .returned (.int .i64 0) ∧ w' = w) := fun w => h1 ▸ keyFault_any n3 w
  have G1 : Hid (faultOf n3 = 0) := h1
  clear h1
  by_cases h2 : 1 ≤ n1 ∧ n1 ≤ 100000
  case neg =>
   have L2 : Hid (decide (1 ≤ n1 ∧ n1 ≤ 100000) = false) := decide_eq_false h2
   have E : Hid (scan (lockF S.l) S.nl = 3) := by
    have : lockF S.l k = 3 := by
     unfold lockF
     rw [NN.out.1, NN.out.2.1, NN.out.2.2.1, NN.out.2.2.2.1, NN.out.2.2.2.2]
     rw [if_neg (fun h => h G0.out)]
     rw [if_neg (fun h => h G1.out)]
     rw [if_pos (by omega)]
    exact (scan_stop HS.out (by rw [this]; decide) hlt).trans this
   clear h2 HS NN G0 G1
   go_wp2_with fail
   refine (L0.out _).mono ?_
   rintro e w1 ⟨rfl, rfl⟩
   go_wp2_with fail
   refine (L1.out _).mono ?_
   rintro e w1 ⟨rfl, rfl⟩
   go_wp2_with fail
   refine (isTime_is _ false L2.out _).mono ?_
   rintro e w1 ⟨rfl, rfl⟩
   go_wp2
   go_ret
   exact ⟨by rw [E.out]; rfl, by first | exact hbw.alloc hbw.size _ | exact below_dn (hbw.alloc hbw.size _) _ | exact below_dn (below_dn (hbw.alloc hbw.size _) _) _⟩
  have L2 : Hid (decide (1 ≤ n1 ∧ n1 ≤ 100000) = true) := decide_eq_true h2
  have G2 : Hid (1 ≤ n1 ∧ n1 ≤ 100000) := h2
  clear h2
  by_cases h3 : 1 ≤ n2 ∧ n2 ≤ 3
  case neg =>
   have L3 : Hid (decide (1 ≤ n2 ∧ n2 ≤ 3) = false) := decide_eq_false h3
   have E : Hid (scan (lockF S.l) S.nl = 3) := by
    have : lockF S.l k = 3 := by
     unfold lockF
     rw [NN.out.1, NN.out.2.1, NN.out.2.2.1, NN.out.2.2.2.1, NN.out.2.2.2.2]
     rw [if_neg (fun h => h G0.out)]
     rw [if_neg (fun h => h G1.out)]
     rw [if_pos (by omega)]
    exact (scan_stop HS.out (by rw [this]; decide) hlt).trans this
   clear h3 HS NN G0 G1 G2
   go_wp2_with fail
   refine (L0.out _).mono ?_
   rintro e w1 ⟨rfl, rfl⟩
   go_wp2_with fail
   refine (L1.out _).mono ?_
   rintro e w1 ⟨rfl, rfl⟩
   go_wp2_with fail
   refine (isTime_is _ true L2.out _).mono ?_
   rintro e w1 ⟨rfl, rfl⟩
   go_wp2_with fail
   refine (isLockKind_is _ false L3.out _).mono ?_
   rintro e w1 ⟨rfl, rfl⟩
   go_wp2
   go_ret
   exact ⟨by rw [E.out]; rfl, by first | exact hbw.alloc hbw.size _ | exact below_dn (hbw.alloc hbw.size _) _ | exact below_dn (below_dn (hbw.alloc hbw.size _) _) _⟩
  have L3 : Hid (decide (1 ≤ n2 ∧ n2 ≤ 3) = true) := decide_eq_true h3
  have G3 : Hid (1 ≤ n2 ∧ n2 ≤ 3) := h3
  clear h3
  by_cases h4 : 0 ≤ n4 ∧ n4 ≤ 100000
  case neg =>
   have L4 : Hid (decide (0 ≤ n4 ∧ n4 ≤ 100000) = false) := decide_eq_false h4
   have E : Hid (scan (lockF S.l) S.nl = 3) := by
    have : lockF S.l k = 3 := by
     unfold lockF
     rw [NN.out.1, NN.out.2.1, NN.out.2.2.1, NN.out.2.2.2.1, NN.out.2.2.2.2]
     rw [if_neg (fun h => h G0.out)]
     rw [if_neg (fun h => h G1.out)]
     rw [if_pos (by omega)]
    exact (scan_stop HS.out (by rw [this]; decide) hlt).trans this
   clear h4 HS NN G0 G1 G2 G3
   go_wp2_with fail
   refine (L0.out _).mono ?_
   rintro e w1 ⟨rfl, rfl⟩
   go_wp2_with fail
   refine (L1.out _).mono ?_
   rintro e w1 ⟨rfl, rfl⟩
   go_wp2_with fail
   refine (isTime_is _ true L2.out _).mono ?_
   rintro e w1 ⟨rfl, rfl⟩
   go_wp2_with fail
   refine (isLockKind_is _ true L3.out _).mono ?_
   rintro e w1 ⟨rfl, rfl⟩
   go_wp2_with fail
   refine (isUntil_is _ false L4.out _).mono ?_
   rintro e w1 ⟨rfl, rfl⟩
   go_wp2
   go_ret
   exact ⟨by rw [E.out]; rfl, by first | exact hbw.alloc hbw.size _ | exact below_dn (hbw.alloc hbw.size _) _ | exact below_dn (below_dn (hbw.alloc hbw.size _) _) _⟩
  have L4 : Hid (decide (0 ≤ n4 ∧ n4 ≤ 100000) = true) := decide_eq_true h4
  have G4 : Hid (0 ≤ n4 ∧ n4 ≤ 100000) := h4
  clear h4
  rcases Nat.eq_zero_or_pos k with hk0 | hk0
  ·have E : Hid (scan (lockF S.l) (k + 1) = 0) := by
    have : lockF S.l k = 0 := by
     unfold lockF
     rw [NN.out.1, NN.out.2.1, NN.out.2.2.1, NN.out.2.2.2.1, NN.out.2.2.2.2]
     rw [if_neg (fun h => h G0.out)]
     rw [if_neg (fun h => h G1.out)]
     have g2 := G2.out; have g3 := G3.out; have g4 := G4.out; rw [if_neg (by omega)]
     rw [if_neg (by omega)]
    exact scan_go HS.out this
   have dk : decide (0 < k) = false := decide_eq_false (by omega)
   clear HS NN G0 G1 G2 G3 G4 hk0
   go_wp2_with fail
   refine (L0.out _).mono ?_
   rintro e w1 ⟨rfl, rfl⟩
   go_wp2_with fail
   refine (L1.out _).mono ?_
   rintro e w1 ⟨rfl, rfl⟩
   go_wp2_with fail
   refine (isTime_is _ true L2.out _).mono ?_
   rintro e w1 ⟨rfl, rfl⟩
   go_wp2_with fail
   refine (isLockKind_is _ true L3.out _).mono ?_
   rintro e w1 ⟨rfl, rfl⟩
   go_wp2_with fail
   refine (isUntil_is _ true L4.out _).mono ?_
   rintro e w1 ⟨rfl, rfl⟩
   go_wp2_with fail
   go_quiet (fail)
   go_wp2
   go_roundw
   case rel => exact ⟨k + 1, by omega, by go_num, E, by first | exact hbw.alloc hbw.size _ | exact below_dn (hbw.alloc hbw.size _) _ | exact below_dn (below_dn (hbw.alloc hbw.size _) _) _⟩
   case measure => simp [intOf]; omega
  obtain ⟨g', o', he, _, _, y0, y1, y2, y3, y4⟩ := (H.out.later hbw).at5 (k := k - 1) (by omega)
  simp only [Option.some.injEq, Addr.mk.injEq, and_true] at he
  obtain ⟨rfl, rfl⟩ := he
  obtain ⟨m0, M0⟩ : ∃ x, S.l ((k - 1) * 5) = x := ⟨_, rfl⟩
  rw [M0] at y0
  obtain ⟨m1, M1⟩ : ∃ x, S.l ((k - 1) * 5 + 1) = x := ⟨_, rfl⟩
  rw [M1] at y1
  obtain ⟨m2, M2⟩ : ∃ x, S.l ((k - 1) * 5 + 2) = x := ⟨_, rfl⟩
  rw [M2] at y2
  obtain ⟨m3, M3⟩ : ∃ x, S.l ((k - 1) * 5 + 3) = x := ⟨_, rfl⟩
  rw [M3] at y3
  obtain ⟨m4, M4⟩ : ∃ x, S.l ((k - 1) * 5 + 4) = x := ⟨_, rfl⟩
  rw [M4] at y4
  have MM : Hid (S.l ((k - 1) * 5) = m0 ∧ S.l ((k - 1) * 5 + 1) = m1) := ⟨M0, M1⟩
  clear M0 M1 M2 M3 M4
  have dk : decide (0 < k) = true := decide_eq_true hk0
  have hwr := wrap_pred k hk0 (by omega)
  have hkn : ((k - 1 : Nat) : Int) < (S.nl : Int) := by omega
  obtain ⟨r, HR⟩ : ∃ r, Hid (cmpOf m0 n0 = r) := ⟨_, rfl⟩
  have HO : Hid (r < 0 ↔ m0 < n0) := by unfold Hid; rw [← HR.out]; exact cmpOf_neg _ _
  have h0 : PrevLock w g o k wr.heap.size m0 m1 m2 m3 m4 n0 n1 n2 n3 n4 (wr.alloc (.cells #[.int .i64 n0, .int .i64 n1, .int .i64 n2, .int .i64 n3, .int .i64 n4] 40)).drew := ⟨⟨(World.cell?_alloc_lt _ _ _ hg).trans y0, (World.cell?_alloc_lt _ _ _ hg).trans y1, (World.cell?_alloc_lt _ _ _ hg).trans y2, (World.cell?_alloc_lt _ _ _ hg).trans y3, (World.cell?_alloc_lt _ _ _ hg).trans y4, World.cell?_alloc_mark wr _ _ _ 0, World.cell?_alloc_mark wr _ _ _ 1, World.cell?_alloc_mark wr _ _ _ 2, World.cell?_alloc_mark wr _ _ _ 3, World.cell?_alloc_mark wr _ _ _ 4⟩, (hbw.alloc hbw.size _).drew⟩
  by_cases hr : 0 ≤ r
  ·have E : Hid (scan (lockF S.l) S.nl = 1) := by
    have : lockF S.l k = 1 := by
     unfold lockF
     rw [NN.out.1, NN.out.2.1, NN.out.2.2.1, NN.out.2.2.2.1, NN.out.2.2.2.2]
     rw [if_neg (fun h => h G0.out)]
     rw [if_neg (fun h => h G1.out)]
     have g2 := G2.out; have g3 := G3.out; have g4 := G4.out; rw [if_neg (by omega)]
     rw [MM.out.1]
     have ho := HO.out
     rw [if_pos (by omega)]
    exact (scan_stop HS.out (by rw [this]; decide) hlt).trans this
   have dr : decide (0 ≤ r) = true := decide_eq_true hr
   clear HS NN G0 G1 G2 G3 G4 MM HO hr
   go_wp2_with fail
   refine (L0.out _).mono ?_
   rintro e w1 ⟨rfl, rfl⟩
   go_wp2_with fail
   refine (L1.out _).mono ?_
   rintro e w1 ⟨rfl, rfl⟩
   go_wp2_with fail
   refine (isTime_is _ true L2.out _).mono ?_
   rintro e w1 ⟨rfl, rfl⟩
   go_wp2_with fail
   refine (isLockKind_is _ true L3.out _).mono ?_
   rintro e w1 ⟨rfl, rfl⟩
   go_wp2_with fail
   refine (isUntil_is _ true L4.out _).mono ?_
   rintro e w1 ⟨rfl, rfl⟩
   go_wp2_with fail
   refine wp_region_held_drew (S := PrevLock w g o k wr.heap.size m0 m1 m2 m3 m4 n0 n1 n2 n3 n4) (by kernel_rfl) h0 (fun hS => ?_)
   clear h0
   refine tkH 0 ?_ hS (fun wx hx => ?_) ?_; rotate_left
   ·obtain ⟨⟨hx0, hx1, hx2, hx3, hx4, hx5, hx6, hx7, hx8, hx9⟩, _⟩ := hx; go_simp; try with_reducible rfl
   refine tkH 1 ?_ hS (fun wx hx => ?_) ?_; rotate_left
   ·obtain ⟨⟨hx0, hx1, hx2, hx3, hx4, hx5, hx6, hx7, hx8, hx9⟩, _⟩ := hx; go_simp; try with_reducible rfl
   refine tkH 2 ?_ hS (fun wx hx => ?_) ?_; rotate_left
   ·obtain ⟨⟨hx0, hx1, hx2, hx3, hx4, hx5, hx6, hx7, hx8, hx9⟩, _⟩ := hx; go_simp; try with_reducible rfl
   refine tkH 3 ?_ hS (fun wx hx => ?_) ?_; rotate_left
   ·obtain ⟨⟨hx0, hx1, hx2, hx3, hx4, hx5, hx6, hx7, hx8, hx9⟩, _⟩ := hx; go_simp; try with_reducible rfl
   refine tkH 4 ?_ hS (fun wx hx => ?_) ?_; rotate_left
   ·obtain ⟨⟨hx0, hx1, hx2, hx3, hx4, hx5, hx6, hx7, hx8, hx9⟩, _⟩ := hx; go_simp; try with_reducible rfl
   refine tkH 5 ?_ hS (fun wx hx => ?_) ?_; rotate_left
   ·obtain ⟨⟨hx0, hx1, hx2, hx3, hx4, hx5, hx6, hx7, hx8, hx9⟩, _⟩ := hx; go_simp; try with_reducible rfl
   refine tkH 6 ?_ hS (fun wx hx => ?_) ?_; rotate_left
   ·obtain ⟨⟨hx0, hx1, hx2, hx3, hx4, hx5, hx6, hx7, hx8, hx9⟩, _⟩ := hx; go_simp; try with_reducible rfl
   refine tkH 7 ?_ hS (fun wx hx => ?_) ?_; rotate_left
   ·obtain ⟨⟨hx0, hx1, hx2, hx3, hx4, hx5, hx6, hx7, hx8, hx9⟩, _⟩ := hx; go_simp; try with_reducible rfl
   refine tkH 8 ?_ hS (fun wx hx => ?_) ?_; rotate_left
   ·obtain ⟨⟨hx0, hx1, hx2, hx3, hx4, hx5, hx6, hx7, hx8, hx9⟩, _⟩ := hx; go_simp; try with_reducible rfl
   refine rdH 9 (fun K hK => ?_)
   go_simp
   go_wp2_with fail
   refine (compareLocks_is _ _ _ _ _ _ _ _ _ _ r HR.out _).mono ?_
   rintro e w1 ⟨rfl, q1⟩
   have hS' := hS.later q1
   clear q1
   go_wp2_with fail
   refine hK.out _ _ hS' (fun hS => ?_)
   clear hK K hS'
   refine tkH 10 ?_ hS (fun wx hx => ?_) ?_; rotate_left
   ·obtain ⟨⟨hx0, hx1, hx2, hx3, hx4, hx5, hx6, hx7, hx8, hx9⟩, _⟩ := hx; go_simp; try with_reducible rfl
   refine tkH 11 ?_ hS (fun wx hx => ?_) ?_; rotate_left
   ·obtain ⟨⟨hx0, hx1, hx2, hx3, hx4, hx5, hx6, hx7, hx8, hx9⟩, _⟩ := hx; go_simp; try with_reducible rfl
   refine wpAnyH_done (by kernel_rfl) ?_ _
   go_simp
   go_wp2
   go_ret
   exact ⟨by rw [E.out]; rfl, hS.2⟩
  ·have E : Hid (scan (lockF S.l) (k + 1) = 0) := by
    have : lockF S.l k = 0 := by
     unfold lockF
     rw [NN.out.1, NN.out.2.1, NN.out.2.2.1, NN.out.2.2.2.1, NN.out.2.2.2.2]
     rw [if_neg (fun h => h G0.out)]
     rw [if_neg (fun h => h G1.out)]
     have g2 := G2.out; have g3 := G3.out; have g4 := G4.out; rw [if_neg (by omega)]
     rw [MM.out.1]
     have ho := HO.out
     rw [if_neg (by omega)]
    exact scan_go HS.out this
   have dr : decide (0 ≤ r) = false := decide_eq_false hr
   clear HS NN G0 G1 G2 G3 G4 MM HO hr
   go_wp2_with fail
   refine (L0.out _).mono ?_
   rintro e w1 ⟨rfl, rfl⟩
   go_wp2_with fail
   refine (L1.out _).mono ?_
   rintro e w1 ⟨rfl, rfl⟩
   go_wp2_with fail
   refine (isTime_is _ true L2.out _).mono ?_
   rintro e w1 ⟨rfl, rfl⟩
   go_wp2_with fail
   refine (isLockKind_is _ true L3.out _).mono ?_
   rintro e w1 ⟨rfl, rfl⟩
   go_wp2_with fail
   refine (isUntil_is _ true L4.out _).mono ?_
   rintro e w1 ⟨rfl, rfl⟩
   go_wp2_with fail
   refine wp_region_held_drew (S := PrevLock w g o k wr.heap.size m0 m1 m2 m3 m4 n0 n1 n2 n3 n4) (by kernel_rfl) h0 (fun hS => ?_)
   clear h0
   refine tkH 0 ?_ hS (fun wx hx => ?_) ?_; rotate_left
   ·obtain ⟨⟨hx0, hx1, hx2, hx3, hx4, hx5, hx6, hx7, hx8, hx9⟩, _⟩ := hx; go_simp; try with_reducible rfl
   refine tkH 1 ?_ hS (fun wx hx => ?_) ?_; rotate_left
   ·obtain ⟨⟨hx0, hx1, hx2, hx3, hx4, hx5, hx6, hx7, hx8, hx9⟩, _⟩ := hx; go_simp; try with_reducible rfl
   refine tkH 2 ?_ hS (fun wx hx => ?_) ?_; rotate_left
   ·obtain ⟨⟨hx0, hx1, hx2, hx3, hx4, hx5, hx6, hx7, hx8, hx9⟩, _⟩ := hx; go_simp; try with_reducible rfl
   refine tkH 3 ?_ hS (fun wx hx => ?_) ?_; rotate_left
   ·obtain ⟨⟨hx0, hx1, hx2, hx3, hx4, hx5, hx6, hx7, hx8, hx9⟩, _⟩ := hx; go_simp; try with_reducible rfl
   refine tkH 4 ?_ hS (fun wx hx => ?_) ?_; rotate_left
   ·obtain ⟨⟨hx0, hx1, hx2, hx3, hx4, hx5, hx6, hx7, hx8, hx9⟩, _⟩ := hx; go_simp; try with_reducible rfl
   refine tkH 5 ?_ hS (fun wx hx => ?_) ?_; rotate_left
   ·obtain ⟨⟨hx0, hx1, hx2, hx3, hx4, hx5, hx6, hx7, hx8, hx9⟩, _⟩ := hx; go_simp; try with_reducible rfl
   refine tkH 6 ?_ hS (fun wx hx => ?_) ?_; rotate_left
   ·obtain ⟨⟨hx0, hx1, hx2, hx3, hx4, hx5, hx6, hx7, hx8, hx9⟩, _⟩ := hx; go_simp; try with_reducible rfl
   refine tkH 7 ?_ hS (fun wx hx => ?_) ?_; rotate_left
   ·obtain ⟨⟨hx0, hx1, hx2, hx3, hx4, hx5, hx6, hx7, hx8, hx9⟩, _⟩ := hx; go_simp; try with_reducible rfl
   refine tkH 8 ?_ hS (fun wx hx => ?_) ?_; rotate_left
   ·obtain ⟨⟨hx0, hx1, hx2, hx3, hx4, hx5, hx6, hx7, hx8, hx9⟩, _⟩ := hx; go_simp; try with_reducible rfl
   refine rdH 9 (fun K hK => ?_)
   go_simp
   go_wp2_with fail
   refine (compareLocks_is _ _ _ _ _ _ _ _ _ _ r HR.out _).mono ?_
   rintro e w1 ⟨rfl, q1⟩
   have hS' := hS.later q1
   clear q1
   go_wp2_with fail
   refine hK.out _ _ hS' (fun hS => ?_)
   clear hK K hS'
   refine tkH 10 ?_ hS (fun wx hx => ?_) ?_; rotate_left
   ·obtain ⟨⟨hx0, hx1, hx2, hx3, hx4, hx5, hx6, hx7, hx8, hx9⟩, _⟩ := hx; go_simp; try with_reducible rfl
   refine tkH 11 ?_ hS (fun wx hx => ?_) ?_; rotate_left
   ·obtain ⟨⟨hx0, hx1, hx2, hx3, hx4, hx5, hx6, hx7, hx8, hx9⟩, _⟩ := hx; go_simp; try with_reducible rfl
   refine wpAnyH_done (by kernel_rfl) ?_ _
   go_simp
   go_wp2
   go_roundw
   case rel => exact ⟨k + 1, by omega, by go_num, E, hS.2⟩
   case measure => simp [intOf]; omega

end Go.Proofs.YtiadbiiiikhfaaaGreatDoor

namespace Go.Proofs.YtiadbiiiikhfaaaGreatDoor
open Go.RowKit Go.Maps

theorem laid_out : laidOutB Tryz.prog = true := by kernel_rfl
theorem placeKeyed : Keyed Tryz.prog 105 := Keyed.of_law (deep_law_laid laid_out (m := 3) (by omega) (of_decide_eq_true (by kernel_rfl)) (by kernel_rfl) (by kernel_rfl))
def Wf (a : Int) : Prop := (Lit.int .i64 a).wf = true
theorem wf_small {a : Int} (h0 : 0 ≤ a) (h1 : a ≤ 100000) : Wf a := by
 have e0 : IntKind.i64.min = -9223372036854775808 := by decide
 have e1 : IntKind.i64.max = 9223372036854775807 := by decide
 unfold Wf
 simp [Lit.wf, e0, e1]
 omega
def place (a b : Int) : Value := .agg #[.int .i64 a, .int .i64 b]
def kp (a b : Int) : Lit := .string (keyBytes [.int .i64 a, .int .i64 b])
theorem kp_key (a b : Int) : WideAt.IsKeyLit (kp a b) := trivial
theorem keyOf_place {a b : Int} (ha : Wf a) (hb : Wf b) : keyOf Tryz.prog 105 (.agg #[.int .i64 a, .int .i64 b]) = some (kp a b) := by
 have h1 : Tryz.prog.keyType 105 = true := by kernel_rfl
 have h2 : Tryz.prog.cellsOf 105 = 2 := by kernel_rfl
 have h3 : Tryz.prog.cellsOf 2 = 1 := by kernel_rfl
 have h4 : ∃ m, Tryz.prog.types.size = m + 1 := ⟨Tryz.prog.types.size - 1, by kernel_rfl⟩
 obtain ⟨m, h4⟩ := h4
 unfold Wf at ha hb
 unfold keyOf
 simp only [Tryz.underlying105]
 rw [if_pos (by simp [h1, Value.formed, Tryz.underlying105, h2]), h4]
 unfold Program.keyLits
 simp only [Tryz.underlying105, Value.cells]
 rw [if_pos (by rw [h2]; exact ⟨rfl, by kernel_rfl⟩)]
 simp [Program.keyLits, Tryz.underlying2, h3, ha, hb, kp]
theorem kp_inj {a b c d : Int} (ha : Wf a) (hb : Wf b) (hc : Wf c) (hd : Wf d) (h : kp a b = kp c d) : a = c ∧ b = d := by
 have := placeKeyed.inj (keyOf_place ha hb) (by rw [h]; exact keyOf_place hc hd)
 simpa using this
/-- Block b is a map of at most n entries; it has m a b at the key (a, b). -/
def PM (w : World) (b n : Nat) (m : Int → Int → Option Int) : Prop :=
 ∃ D : DataW Unit, w.ownsMap Tryz.prog 105 (plainElem Tryz.prog 2) b n D ∧ ∀ x y, Wf x → Wf y → Maps.has D (kp x y) = (m x y).isSome ∧ D.atKey (kp x y) (.lit (.int .i64 0)) = .lit (.int .i64 ((m x y).getD 0))
theorem PM.made (w : World) : PM (w.alloc (.map #[] 0)) w.heap.size 0 (fun _ _ => none) := ⟨.map [], World.ownsMap_made w _ _ _, fun _ _ _ _ => ⟨rfl, rfl⟩⟩
theorem PM.lt {w : World} {b n : Nat} {m : Int → Int → Option Int} (h : PM w b n m) : b < w.heap.size := by
 obtain ⟨D, h, _⟩ := h; exact h.lt
theorem PM.mono {w : World} {b n n' : Nat} {m : Int → Int → Option Int} (h : PM w b n m) (hn : n ≤ n') : PM w b n' m := by
 obtain ⟨D, h, r⟩ := h; exact ⟨D, h.mono hn, r⟩
theorem PM.kept {w w' : World} {b n : Nat} {m : Int → Int → Option Int} (h : PM w b n m) (hb : w'.heap[b]? = w.heap[b]?) : PM w' b n m := by
 obtain ⟨D, ⟨es, clock, h1, h2⟩, r⟩ := h
 exact ⟨D, ⟨es, clock, hb.trans h1, h2⟩, r⟩
theorem PM.later {w w' : World} {b n : Nat} {m : Int → Int → Option Int} (h : PM w b n m) (hb : Below w.heap.size w w') : PM w' b n m := h.kept (hb.block b h.lt)
theorem PM.alloc {w : World} {b n : Nat} {m : Int → Int → Option Int} (h : PM w b n m) (o : Obj) : PM (w.alloc o) b n m := h.later ((Below.refl _ _).alloc (Nat.le_refl _) o)
theorem PM.setCell {w : World} {b n : Nat} {m : Int → Int → Option Int} (h : PM w b n m) {a : Addr} (ha : b ≠ a.block) (u : Value) : PM (w.setCell a u) b n m := h.kept (Below.heap_setCell w a u b ha)
theorem PM.congr {w : World} {b n : Nat} {m m' : Int → Int → Option Int} (h : PM w b n m) (e : ∀ x y, m x y = m' x y) : PM w b n m' := by
 obtain ⟨D, h1, r⟩ := h; exact ⟨D, h1, fun x y hx hy => by rw [← e]; exact r x y hx hy⟩
theorem zero_i64 (w : World) : (zeroValue 2).run Tryz.prog w = .ok (.int .i64 0) w := by kernel_rfl
/-- 'v, ok := m[k]'. -/
theorem PM.look {w : World} {b n : Nat} {m : Int → Int → Option Int} (h : PM w b n m) {x y : Int} (hx : Wf x) (hy : Wf y) :
  (Instr.lookup 101 (.map (some b)) (.agg #[.int .i64 x, .int .i64 y]) true).run Tryz.prog w = .ok (.tuple #[.int .i64 ((m x y).getD 0), .bool (m x y).isSome]) w := by
 obtain ⟨D, h, r⟩ := h
 obtain ⟨v, ps, hrun, hv⟩ := h.look_ok placeKeyed Tryz.underlying101 (zero_i64 w) (plainElem_int Tryz.underlying2 (by decide)) (keyOf_place hx hy)
 obtain ⟨c, rfl, hc, _⟩ := plainElem_int_inv Tryz.underlying2 hv
 rw [hrun, (r x y hx hy).1]
 have := congrArg Prod.fst hc
 rw [(r x y hx hy).2] at this
 simp at this
 rw [this]
def putM (m : Int → Int → Option Int) (a b v : Int) (x y : Int) : Option Int := if x = a ∧ y = b then some v else m x y
/-- 'm[k] = v'. -/
theorem PM.put {w : World} {b n : Nat} {m : Int → Int → Option Int} (h : PM w b n m) (hn : n < maxLen) {x y v : Int} (hx : Wf x) (hy : Wf y) (hv : Wf v) :
  ∃ w', (Instr.mapUpdate 101 (.map (some b)) (.agg #[.int .i64 x, .int .i64 y]) (.int .i64 v)).run Tryz.prog w = .ok () w' ∧ PM w' b (n + 1) (putM m x y v) ∧ w.grownBy w' (some b) := by
 obtain ⟨D, h, r⟩ := h
 obtain ⟨w', hrun, h', hg⟩ := h.update placeKeyed Tryz.underlying101 hn (keyOf_place hx hy) (plainElem_int Tryz.underlying2 hv)
 refine ⟨w', hrun, ⟨_, h', fun p q hp hq => ?_⟩, hg⟩
 unfold putM
 by_cases e : p = x ∧ q = y
 ·obtain ⟨rfl, rfl⟩ := e
  rw [if_pos ⟨rfl, rfl⟩]
  exact ⟨has_put_same h.isMap (kp_key _ _) _, atKey_put_same h.isMap (kp_key _ _) _ _⟩
 ·rw [if_neg e, has_put_other (fun q => e (kp_inj hp hq hx hy q)), atKey_put_other (fun q => e (kp_inj hp hq hx hy q))]
  exact r p q hp hq
theorem wpList_put (w : World) {ops : Array Oper} {rest : List Oper} {o : Oper} {a : Act} {Q : Exit → Act → World → Prop}
  (hg : o.guard = none) (mo x v : Operand) (hop : o.op = Op.mapUpdate 101 mo x v)
  (b n : Nat) (m : Int → Int → Option Int) (hm : a.eval mo = .map (some b)) (h : PM w b n m) (hn : n < maxLen) (p q u : Int) (hx : a.eval x = .agg #[.int .i64 p, .int .i64 q]) (hv : a.eval v = .int .i64 u) (hp : Wf p) (hq : Wf q) (hu : Wf u)
  (hK : ∀ w', PM w' b (n + 1) (putM m p q u) → w.grownBy w' (some b) → wpList Tryz.prog ops Q rest (a.put o.dst undef) w') :
  wpList Tryz.prog ops Q (o :: rest) a w := by
 refine wpList_plain hg fun K' hK' => ?_
 obtain ⟨w', hrun, r1, r2⟩ := h.put hn hp hq hu
 unfold Oper.wp
 simp [execOp, hop, hm, hx, hv, hrun, Result.andThen]
 exact hK' _ _ (hK w' r1 r2)
/-- What a map has behind n puts, put i at (p i, q i), of v i. -/
def puts (p q v : Nat → Int) : Nat → Int → Int → Option Int
 | 0, _, _ => none
 | n + 1, x, y => putM (puts p q v n) (p n) (q n) (v n) x y
theorem puts_has (p q v : Nat → Int) (x y : Int) : ∀ n, (puts p q v n x y).isSome = true ↔ ∃ i, i < n ∧ p i = x ∧ q i = y
 | 0 => by simp [puts]
 | n + 1 => by
  have ih := puts_has p q v x y n
  unfold puts putM
  by_cases e : x = p n ∧ y = q n
  ·rw [if_pos e]
   exact ⟨fun _ => ⟨n, by omega, e.1.symm, e.2.symm⟩, fun _ => rfl⟩
  ·rw [if_neg e, ih]
   constructor
   ·rintro ⟨i, hi, h⟩; exact ⟨i, by omega, h⟩
   ·rintro ⟨i, hi, h1, h2⟩
    by_cases hin : i = n
    ·subst hin; exact absurd ⟨h1.symm, h2.symm⟩ e
    ·exact ⟨i, by omega, h1, h2⟩
def cellM (S : Sto) (n : Nat) : Int → Int → Option Int := puts (fun i => S.c (i * 3)) (fun i => S.c (i * 3 + 1)) (fun i => S.c (i * 3 + 2)) n
def writeM (S : Sto) (n : Nat) : Int → Int → Option Int := puts (fun i => S.k (i * 4)) (fun i => S.k (i * 4 + 2)) (fun i => S.k (i * 4 + 3)) n
theorem cellM_has (S : Sto) (n : Nat) (x y : Int) : (cellM S n x y).isSome = true ↔ hasCell S n x y := puts_has _ _ _ x y n
theorem writeM_has (S : Sto) (n : Nat) (x y : Int) : (writeM S n x y).isSome = true ↔ hasWrite S n x y := puts_has _ _ _ x y n
end Go.Proofs.YtiadbiiiikhfaaaGreatDoor

namespace Go.Proofs.YtiadbiiiikhfaaaGreatDoor
open Go.RowKit Go.Maps

theorem scan_zero {g : Nat → Int} : ∀ {n : Nat}, scan g n = 0 → ∀ i, i < n → g i = 0
 | 0, _, i, hi => by omega
 | n + 1, h, i, hi => by
  unfold scan at h
  by_cases e : scan g n = 0
  ·rw [if_pos e] at h
   by_cases hin : i = n
   ·subst hin; exact h
   ·exact scan_zero e i (by omega)
  ·rw [if_neg e] at h; exact absurd h e
theorem faultOf_zero {a : Int} (h : faultOf a = 0) : 0 ≤ a ∧ a ≤ 199 := by
 by_cases e : a < 0 ∨ 199 < a
 ·rw [faultOf_range e] at h; exact absurd h (by decide)
 ·omega
theorem cellF_zero {c : Nat → Int} {i : Nat} (h : cellF c i = 0) : faultOf (c (i * 3)) = 0 ∧ 1 ≤ c (i * 3 + 1) ∧ c (i * 3 + 1) ≤ 100000 ∧ 0 ≤ c (i * 3 + 2) ∧ c (i * 3 + 2) ≤ 9999 := by
 unfold cellF at h
 by_cases h0 : faultOf (c (i * 3)) = 0
 ·rw [if_neg (fun q => q h0)] at h
  refine ⟨h0, ?_⟩
  by_cases h1 : 1 ≤ c (i * 3 + 1) ∧ c (i * 3 + 1) ≤ 100000 ∧ 0 ≤ c (i * 3 + 2) ∧ c (i * 3 + 2) ≤ 9999
  ·exact h1
  ·rw [if_pos h1] at h; exact absurd h (by decide)
 ·rw [if_pos h0] at h; exact absurd h h0
theorem lockF_zero {l : Nat → Int} {i : Nat} (h : lockF l i = 0) : faultOf (l (i * 5)) = 0 ∧ 1 ≤ l (i * 5 + 1) ∧ l (i * 5 + 1) ≤ 100000 := by
 unfold lockF at h
 by_cases h0 : faultOf (l (i * 5)) = 0
 ·rw [if_neg (fun q => q h0)] at h
  refine ⟨h0, ?_⟩
  by_cases h2 : faultOf (l (i * 5 + 3)) = 0
  ·rw [if_neg (fun q => q h2)] at h
   by_cases h1 : 1 ≤ l (i * 5 + 1) ∧ l (i * 5 + 1) ≤ 100000 ∧ 1 ≤ l (i * 5 + 2) ∧ l (i * 5 + 2) ≤ 3 ∧ 0 ≤ l (i * 5 + 4) ∧ l (i * 5 + 4) ≤ 100000
   ·exact ⟨h1.1, h1.2.1⟩
   ·rw [if_pos h1] at h; exact absurd h (by decide)
  ·rw [if_pos h2] at h; exact absurd h h2
 ·rw [if_pos h0] at h; exact absurd h h0
theorem writeF_zero {k : Nat → Int} {i : Nat} (h : writeF k i = 0) : faultOf (k (i * 4)) = 0 ∧ 1 ≤ k (i * 4 + 1) ∧ k (i * 4 + 1) ≤ 100000 ∧ 1 ≤ k (i * 4 + 2) ∧ k (i * 4 + 2) ≤ 100000 ∧ 1 ≤ k (i * 4 + 3) ∧ k (i * 4 + 3) ≤ 4 := by
 unfold writeF at h
 by_cases h0 : faultOf (k (i * 4)) = 0
 ·rw [if_neg (fun q => q h0)] at h
  refine ⟨h0, ?_⟩
  by_cases h1 : 1 ≤ k (i * 4 + 1) ∧ k (i * 4 + 1) ≤ 100000 ∧ 1 ≤ k (i * 4 + 2) ∧ k (i * 4 + 2) ≤ 100000 ∧ 1 ≤ k (i * 4 + 3) ∧ k (i * 4 + 3) ≤ 4
  ·exact h1
  ·rw [if_pos h1] at h; exact absurd h (by decide)
 ·rw [if_pos h0] at h; exact absurd h h0
theorem below_grown {B b : Nat} {w x x' : World} (h : Below B w x) (hB : B ≤ x.heap.size) (hb : B ≤ b) (g : x.grownBy x' (some b)) : Below B w x' :=
 ⟨g.os.trans h.os, g.tape.trans h.tape, g.output.trans h.output, Nat.le_trans h.size g.size, fun i hi => (g.block i (by omega) (by intro e; injection e with e; omega)).trans (h.block i hi)⟩
theorem run_makeMap_i64 (n : Int) (w : World) : (Instr.makeMap 101 (some (.int .i64 n))).run Tryz.prog w = .ok (.map (some w.heap.size)) (w.alloc (.map #[] 0)) := by
 simp [Instr.makeMap, run_underlying Tryz.underlying101, asInt, asIntOf, Result.andThen]
theorem small_maxLen {n : Nat} (h : n ≤ 200) : n < maxLen := Nat.lt_of_le_of_lt h (by decide)
set_option maxRecDepth 100000 in
theorem cellsByPlace_any (S : Sto) (v : Value) (B : Nat) (w : World) (h : Row w B 3 S.nc S.c v) (hn : S.nc ≤ 200) (hz : scan (cellF S.c) S.nc = 0) :
  Calls Tryz.prog 74 #[v] w fun e w' => e = .returned (.map (some w.heap.size)) ∧ PM w' w.heap.size S.nc (cellM S S.nc) ∧ Below w.heap.size w w' := by
 obtain ⟨ao, cp, rfl⟩ := h.form
 have H : Hid (Row w B 3 S.nc S.c (.slice ao S.nc cp)) := h
 have HZ : Hid (∀ i, i < S.nc → cellF S.c i = 0) := scan_zero hz
 clear h hz
 have hmm := run_makeMap_i64
 go_enter Tryz.func74, Tryz.ntmps74
 go_wp2
 go_loopw [11] (fun i wr => ∃ k : Nat, k ≤ S.nc ∧ i = .int .i64 k ∧ Hid (PM wr w.heap.size k (cellM S k)) ∧ Below w.heap.size w wr) (fun i _ => S.nc - (intOf i).toNat)
 case atStart => exact ⟨0, Nat.zero_le _, rfl, PM.made w, below_alloc _ _⟩
 case round =>
  obtain ⟨k, hk, rfl, HM, hbw⟩ := hrel
  by_cases hlt : k < S.nc
  case neg =>
   obtain rfl : k = S.nc := by omega
   go_wp2
   go_ret
   exact ⟨rfl, HM.out, hbw⟩
  obtain ⟨g, o, rfl, _, hg, x0, x1, x2⟩ := (H.out.later hbw).at3 hlt
  have HC := cellF_zero (HZ.out k hlt)
  have hk2 := faultOf_zero HC.1
  obtain ⟨n0, N0⟩ : ∃ x, S.c (k * 3) = x := ⟨_, rfl⟩
  obtain ⟨n1, N1⟩ : ∃ x, S.c (k * 3 + 1) = x := ⟨_, rfl⟩
  obtain ⟨n2, N2⟩ : ∃ x, S.c (k * 3 + 2) = x := ⟨_, rfl⟩
  rw [N0] at x0 hk2
  rw [N1] at x1
  rw [N2] at x2
  rw [N1, N2] at HC
  have hP := HM.out.alloc (.cells #[.int .i64 n0, .int .i64 n1, .int .i64 n2] 93)
  have hw0 : Wf n0 := wf_small hk2.1 (by omega)
  have hw1 : Wf n1 := wf_small (by omega) HC.2.2.1
  have hw2 : Wf n2 := wf_small HC.2.2.2.1 (by omega)
  have hb2 := hbw.alloc hbw.size (.cells #[.int .i64 n0, .int .i64 n1, .int .i64 n2] 93)
  have NN : Hid (S.c (k * 3) = n0 ∧ S.c (k * 3 + 1) = n1 ∧ S.c (k * 3 + 2) = n2) := ⟨N0, N1, N2⟩
  clear N0 N1 N2 HC hk2
  go_wp2_with (first | (at_mapUpdate; refine wpList_put _ rfl _ _ _ rfl w.heap.size k _ rfl hP (small_maxLen (Nat.le_trans hk hn)) n0 n1 n2 rfl rfl hw0 hw1 hw2 ?_; intro w1 hP1 hg1) | go_in)
  go_roundw
  case rel => exact ⟨k + 1, by omega, by go_num, by rw [← NN.out.1, ← NN.out.2.1, ← NN.out.2.2] at hP1; exact hP1, below_grown hb2 (Nat.le_trans hbw.size (by simp)) (Nat.le_refl _) hg1⟩
  case measure => simp [intOf]; omega
end Go.Proofs.YtiadbiiiikhfaaaGreatDoor

namespace Go.Proofs.YtiadbiiiikhfaaaGreatDoor
open Go.RowKit Go.Maps

open Classical in
/-- What is asked first: the store's fault, then the key's. -/
noncomputable def askF (S : Sto) (key : Int) : Int := if storeF S ≠ 0 then storeF S else faultOf key
theorem storeF_zero {S : Sto} (h : storeF S = 0) : (S.nc ≤ 200 ∧ S.nl ≤ 200 ∧ S.nw ≤ 200) ∧ scan (cellF S.c) S.nc = 0 ∧ scan (lockF S.l) S.nl = 0 ∧ scan (writeF S.k) S.nw = 0 ∧ needs S ∧ once S := by
 unfold storeF at h
 by_cases h0 : 200 < S.nc ∨ 200 < S.nl ∨ 200 < S.nw
 ·rw [if_pos h0] at h; exact absurd h (by decide)
 rw [if_neg h0] at h
 by_cases h1 : scan (cellF S.c) S.nc = 0
 case neg => rw [if_pos h1] at h; exact absurd h h1
 rw [if_neg (fun q => q h1)] at h
 by_cases h2 : scan (lockF S.l) S.nl = 0
 case neg => rw [if_pos h2] at h; exact absurd h h2
 rw [if_neg (fun q => q h2)] at h
 by_cases h3 : scan (writeF S.k) S.nw = 0
 case neg => rw [if_pos h3] at h; exact absurd h h3
 rw [if_neg (fun q => q h3)] at h
 by_cases h4 : needs S
 case neg => rw [if_pos h4] at h; exact absurd h (by decide)
 rw [if_neg (fun q => q h4)] at h
 by_cases h5 : once S
 case neg => rw [if_pos h5] at h; exact absurd h (by decide)
 exact ⟨⟨by omega, by omega, by omega⟩, h1, h2, h3, h4, h5⟩
theorem askF_zero {S : Sto} {key : Int} (h : askF S key = 0) : storeF S = 0 ∧ faultOf key = 0 := by
 unfold askF at h
 by_cases h0 : storeF S = 0
 ·rw [if_neg (fun q => q h0)] at h; exact ⟨h0, h⟩
 ·rw [if_pos h0] at h; exact absurd h h0
/-- The order of two pairs of numbers. -/
def pairLt (a b c d : Int) : Prop := a < c ∨ a = c ∧ b < d
theorem pairLt.trans {a b c d e f : Int} (h : pairLt a b c d) (h' : pairLt c d e f) : pairLt a b e f := by unfold pairLt at *; omega
theorem pairLt.ne {a b c d : Int} (h : pairLt a b c d) : ¬ (a = c ∧ b = d) := by unfold pairLt at h; omega
theorem rise_pairs {p q : Nat → Int} {n : Nat} (h : ∀ i, i + 1 < n → pairLt (p i) (q i) (p (i + 1)) (q (i + 1))) : ∀ j, j < n → ∀ i, i < j → pairLt (p i) (q i) (p j) (q j)
 | 0, _, i, hi => by omega
 | j + 1, hj, i, hi => by
  rcases Nat.lt_or_ge i j with e | e
  ·exact (rise_pairs h j (by omega) i e).trans (h j hj)
  ·obtain rfl : i = j := by omega
   exact h i hj
theorem cellF_next {c : Nat → Int} {i : Nat} (h : cellF c (i + 1) = 0) : pairLt (c (i * 3)) (c (i * 3 + 1)) (c ((i + 1) * 3)) (c ((i + 1) * 3 + 1)) := by
 have hz := cellF_zero h
 unfold cellF at h
 rw [if_neg (fun q => q hz.1), if_neg (fun q => q hz.2)] at h
 by_cases e : 0 < i + 1 ∧ ¬ (c ((i + 1 - 1) * 3) < c ((i + 1) * 3) ∨ c ((i + 1 - 1) * 3) = c ((i + 1) * 3) ∧ c ((i + 1 - 1) * 3 + 1) < c ((i + 1) * 3 + 1))
 ·rw [if_pos e] at h; exact absurd h (by decide)
 ·exact Classical.byContradiction fun q => e ⟨Nat.succ_pos i, q⟩
theorem cells_rise {S : Sto} (h : scan (cellF S.c) S.nc = 0) : ∀ j, j < S.nc → ∀ i, i < j → pairLt (S.c (i * 3)) (S.c (i * 3 + 1)) (S.c (j * 3)) (S.c (j * 3 + 1)) :=
 rise_pairs (p := fun i => S.c (i * 3)) (q := fun i => S.c (i * 3 + 1)) (fun i hi => cellF_next (scan_zero h (i + 1) hi))
theorem puts_at {p q v : Nat → Int} {x y : Int} {j : Nat} (hj : p j = x ∧ q j = y) : ∀ n, j < n → (∀ i, j < i → i < n → ¬ (p i = x ∧ q i = y)) → puts p q v n x y = some (v j)
 | 0, h, _ => by omega
 | n + 1, h, hu => by
  unfold puts putM
  by_cases e : j = n
  ·subst e; rw [if_pos ⟨hj.1.symm, hj.2.symm⟩]
  ·rw [if_neg (fun r => hu n (by omega) (by omega) ⟨r.1.symm, r.2.symm⟩)]
   exact puts_at hj n (by omega) (fun i h1 h2 => hu i h1 (by omega))
theorem cellM_at {S : Sto} (h : scan (cellF S.c) S.nc = 0) {a b : Int} {j : Nat} (hj : j < S.nc) (e : cellIs S.c a b j) : cellM S S.nc a b = some (S.c (j * 3 + 2)) := by
 refine puts_at (p := fun i => S.c (i * 3)) (q := fun i => S.c (i * 3 + 1)) (v := fun i => S.c (i * 3 + 2)) e S.nc hj (fun i h1 h2 q => ?_)
 refine (cells_rise h i h2 j h1).ne ⟨e.1.trans q.1.symm, e.2.trans q.2.symm⟩
open Classical in
noncomputable def cellAtC (S : Sto) (key start : Int) : Int := if askF S key ≠ 0 then askF S key else if hasCell S S.nc key start then 0 else 4
open Classical in
noncomputable def cellAtV (S : Sto) (key start : Int) : Int := if askF S key ≠ 0 then 0 else (cellM S S.nc key start).getD 0
end Go.Proofs.YtiadbiiiikhfaaaGreatDoor

namespace Go.Proofs.YtiadbiiiikhfaaaGreatDoor
section
open Go.RowKit Go.Sort Go.Shelf Go.Lib
/-- x is w behind some draws, with new blocks. -/
def Grw (w x : World) : Prop := ∃ q os, x = grow (w.drewN q) os
theorem grw_two (w : World) (o o' : Obj) : Grw w ((w.alloc o).alloc o').drew := ⟨1, #[o] ++ #[o'], by rw [← grow_grow, ← alloc_eq_grow, ← alloc_eq_grow]; rfl⟩
theorem Grw.alloc_drew {w X : World} {o : Obj} (h : Grw w X.drew) : Grw w (X.alloc o).drew := by
 obtain ⟨q, os, e⟩ := h
 exact ⟨q, os ++ #[o], by rw [← grow_grow, ← e, ← alloc_eq_grow]; rfl⟩
def Four6 (w : World) (a0 a1 b0 b1 : Int) (x : World) : Prop := Four w a0 a1 b0 b1 x ∧ Grw w x
set_option maxRecDepth 100000 in
set_option maxHeartbeats 1000000 in
theorem compareCells_lays (x0 x1 x2 y0 y1 y2 : Int) (r : Int) (hr : orOf (cmpOf x0 y0) (cmpOf x1 y1) = r) (w : World) :
  Calls Tryz.prog 92 #[.agg #[.int .i64 x0, .int .i64 x1, .int .i64 x2], .agg #[.int .i64 y0, .int .i64 y1, .int .i64 y2]] w fun e w' => e = .returned (.int .i64 r) ∧ Grw w w' := by
 obtain ⟨c0, C0⟩ : ∃ c, Hid (cmpOf x0 y0 = c) := ⟨_, rfl⟩
 obtain ⟨c1, C1⟩ : ∃ c, Hid (cmpOf x1 y1 = c) := ⟨_, rfl⟩
 have HR : Hid (orOf c0 c1 = r) := by unfold Hid; rw [← C0.out, ← C1.out]; exact hr
 clear hr
 go_enter Tryz.func92, Tryz.ntmps92
 go_wp2_with fail
 have h0 : Four6 w x0 x1 y0 y1 (((w.alloc (.cells #[.int .i64 x0, .int .i64 x1, .int .i64 x2] 93)).alloc (.cells #[.int .i64 y0, .int .i64 y1, .int .i64 y2] 93)).drew) := ⟨⟨by simp, by simp, by simp, by simp, ((below_alloc _ _).alloc (by simp) _).drew⟩, grw_two _ _ _⟩
 refine wp_region_held_drew (S := Four6 w x0 x1 y0 y1) (by kernel_rfl) h0 (fun hS => ?_)
 clear h0
 refine tkH 0 ?_ hS (fun wx hx => ?_) ?_; rotate_left
 ·obtain ⟨⟨hx0, hx1, hx2, hx3, _⟩, _⟩ := hx; go_simp; try with_reducible rfl
 refine tkH 1 ?_ hS (fun wx hx => ?_) ?_; rotate_left
 ·obtain ⟨⟨hx0, hx1, hx2, hx3, _⟩, _⟩ := hx; go_simp; try with_reducible rfl
 refine tkH 2 ?_ hS (fun wx hx => ?_) ?_; rotate_left
 ·obtain ⟨⟨hx0, hx1, hx2, hx3, _⟩, _⟩ := hx; go_simp; try with_reducible rfl
 refine tkH 3 ?_ hS (fun wx hx => ?_) ?_; rotate_left
 ·obtain ⟨⟨hx0, hx1, hx2, hx3, _⟩, _⟩ := hx; go_simp; try with_reducible rfl
 refine tkH 5 ?_ hS (fun wx hx => ?_) ?_; rotate_left
 ·obtain ⟨⟨hx0, hx1, hx2, hx3, _⟩, _⟩ := hx; go_simp; try with_reducible rfl
 refine tkH 6 ?_ hS (fun wx hx => ?_) ?_; rotate_left
 ·obtain ⟨⟨hx0, hx1, hx2, hx3, _⟩, _⟩ := hx; go_simp; try with_reducible rfl
 refine tkH 7 ?_ hS (fun wx hx => ?_) ?_; rotate_left
 ·obtain ⟨⟨hx0, hx1, hx2, hx3, _⟩, _⟩ := hx; go_simp; try with_reducible rfl
 refine tkH 8 ?_ hS (fun wx hx => ?_) ?_; rotate_left
 ·obtain ⟨⟨hx0, hx1, hx2, hx3, _⟩, _⟩ := hx; go_simp; try with_reducible rfl
 refine rdH 4 (fun K hK => ?_)
 go_simp
 go_wp2_with fail
 refine (compare_is _ _ c0 C0.out _).mono ?_
 rintro e w1 ⟨rfl, rfl⟩
 have hS' := hS
 go_wp2_with fail
 refine hK.out _ _ hS' (fun hS => ?_)
 clear hK K hS'
 refine rdH 9 (fun K hK => ?_)
 go_simp
 go_wp2_with fail
 refine (compare_is _ _ c1 C1.out _).mono ?_
 rintro e w1 ⟨rfl, rfl⟩
 have hS' := hS
 go_wp2_with fail
 refine hK.out _ _ hS' (fun hS => ?_)
 clear hK K hS'
 refine rdH 10 (fun K hK => ?_)
 go_simp
 refine hK.out _ _ ⟨hS.1.later (below_alloc_drew _ _), hS.2.alloc_drew⟩ (fun hS => ?_)
 clear hK K
 refine rdH 11 (fun K hK => ?_)
 go_simp
 go_wp2_with fail
 refine (or_is c0 c1 r _ HR.out _ (two_cells _ _ (by simp) _ _ _).1 (two_cells _ _ (by simp) _ _ _).2).mono ?_
 rintro e w1 ⟨rfl, rfl⟩
 have hS' := hS
 go_wp2_with fail
 refine hK.out _ _ hS' (fun hS => ?_)
 clear hK K hS'
 refine tkH 12 ?_ hS (fun wx hx => ?_) ?_; rotate_left
 ·obtain ⟨⟨hx0, hx1, hx2, hx3, _⟩, _⟩ := hx; go_simp; try with_reducible rfl
 refine wpAnyH_done (by kernel_rfl) ?_ _
 go_simp
 go_wp2
 go_ret
 exact ⟨rfl, hS.2⟩
theorem lt_cmpOf (a b : Int) : cmpOf a b < 0 ↔ a < b := by
 unfold cmpOf
 by_cases h1 : a < b
 ·simp [h1]
 ·by_cases h2 : b < a <;> simp [h1, h2]
theorem cmpOf_zero (a b : Int) : cmpOf a b = 0 ↔ a = b := by
 unfold cmpOf
 by_cases h1 : a < b
 ·simp [h1]; omega
 ·by_cases h2 : b < a
  ·simp [h1, h2]; omega
  ·simp [h1, h2]; omega
/-- The order by two numbers. -/
def cf2 {α : Type} (k s : α → Int) (x y : α) : Int := orOf (cmpOf (k x) (k y)) (cmpOf (s x) (s y))
theorem lt_cf2 {α : Type} (k s : α → Int) (x y : α) : ltOf (cf2 k s) x y = decide (k x < k y ∨ k x = k y ∧ s x < s y) := by
 unfold ltOf cf2 orOf
 by_cases h : cmpOf (k x) (k y) = 0
 ·rw [if_pos h]
  have := (cmpOf_zero _ _).1 h
  simp [lt_cmpOf, this]
 ·rw [if_neg h]
  have : ¬ k x = k y := fun e => h ((cmpOf_zero _ _).2 e)
  simp [lt_cmpOf, this]
theorem swo_cf2 {α : Type} (k s : α → Int) : SWO (ltOf (cf2 k s)) where
 irrefl x := by rw [lt_cf2]; simp
 trans x y z h1 h2 := by rw [lt_cf2] at *; simp at *; omega
 ntrans x y z h1 h2 := by rw [lt_cf2] at *; simp at *; omega
end

section
open Go.RowKit Go.Sort Go.Shelf Go.Lib
/-- A struct of m numbers, as its cells. -/
def encM (m : Nat) (x : List Int) : List Value := (List.range m).map fun q => Value.int .i64 (x.getD q 0)
theorem encM_len (m : Nat) (x : List Int) : (encM m x).length = m := by simp [encM]
theorem encM_one (m : Nat) (x : List Int) : ∀ v ∈ encM m x, v.oneCell' = true := by
 intro v hv
 simp only [encM, List.mem_map] at hv
 obtain ⟨q, _, rfl⟩ := hv
 rfl
theorem encM_get (m : Nat) (x : List Int) (q : Nat) (hq : q < m) : (encM m x)[q]! = .int .i64 (x.getD q 0) := by
 rw [getElem!_pos _ q (by rw [encM_len]; exact hq)]
 simp [encM]
/-- The structs of a row. -/
def rowD (m n : Nat) (F : Nat → Int) : Array (List Int) := (Array.range n).map fun i => (List.range m).map fun q => F (i * m + q)
theorem rowD_size (m n : Nat) (F : Nat → Int) : (rowD m n F).size = n := by simp [rowD]
theorem rowD_get (m n : Nat) (F : Nat → Int) (i : Nat) (hi : i < n) : (rowD m n F)[i]! = (List.range m).map fun q => F (i * m + q) := by
 rw [getElem!_pos _ i (by rw [rowD_size]; exact hi)]
 simp [rowD]
/-- The numbers of a row of structs. -/
def rowF (m : Nat) (d : Array (List Int)) : Nat → Int := fun t => (d[t / m]!).getD (t % m) 0
theorem div_lt {m n t : Nat} (ht : t < n * m) : t / m < n ∧ t % m < m := by
 have hm : 0 < m := Nat.pos_of_ne_zero (fun e => by subst e; simp at ht)
 exact ⟨(Nat.div_lt_iff_lt_mul hm).2 ht, Nat.mod_lt _ hm⟩
theorem rowF_rowD (m n : Nat) (F : Nat → Int) (t : Nat) (ht : t < n * m) : rowF m (rowD m n F) t = F t := by
 obtain ⟨h1, h2⟩ := div_lt ht
 unfold rowF
 rw [rowD_get m n F _ h1]
 have : ((List.range m).map fun q => F (t / m * m + q)).getD (t % m) 0 = F (t / m * m + t % m) := by simp [h2]
 rw [this, Nat.mul_comm, Nat.div_add_mod]
theorem holds_row {w : World} {B m n blk off cap : Nat} {F : Nat → Int} (h : Row w B m n F (.slice (some ⟨blk, off, none⟩) n cap)) (hf : Free w (n * m) (.slice (some ⟨blk, off, none⟩) n cap)) : HoldsK (encM m) m w blk off (rowD m n F) := by
 intro t ht
 rw [size_flatK, rowD_size] at ht
 obtain ⟨h1, h2⟩ := div_lt ht
 rw [get_flatK _ _ _ _ (by rw [rowD_size]; exact ht), encM_get _ _ _ h2]
 have hF := rowF_rowD m n F t ht
 unfold rowF at hF
 rw [hF]
 refine ⟨?_, hf blk off n cap rfl t ht⟩
 obtain ⟨g, o, he, _, _, hc⟩ := h.at h1
 simp at he
 obtain ⟨rfl, rfl⟩ := he
 have := hc (t % m) h2
 rw [Nat.add_assoc, Nat.mul_comm (t / m) m, Nat.div_add_mod] at this
 exact this
theorem row_holds {w : World} {B m n blk off cap : Nat} {d : Array (List Int)} (hd : d.size = n) (hB : B ≤ blk) (hb : blk < w.heap.size) (h : HoldsK (encM m) m w blk off d) : Row w B m n (rowF m d) (.slice (some ⟨blk, off, none⟩) n cap) ∧ Free w (n * m) (.slice (some ⟨blk, off, none⟩) n cap) := by
 have hc : ∀ t, t < n * m → w.cell? ⟨blk, off + t, none⟩ = some (.int .i64 (rowF m d t)) ∧ w.frozen? ⟨blk, off + t, none⟩ = false := by
  intro t ht
  obtain ⟨h1, h2⟩ := div_lt ht
  have := h t (by rw [size_flatK, hd]; exact ht)
  rw [get_flatK _ _ _ _ (by rw [hd]; exact ht), encM_get _ _ _ h2] at this
  exact this
 refine ⟨⟨_, _, rfl, fun _ => ⟨blk, off, rfl, hB, hb, fun t ht => (hc t ht).1⟩⟩, ?_⟩
 intro g o n' c hv t ht
 simp only [Value.slice.injEq, Option.some.injEq, Addr.mk.injEq] at hv
 obtain ⟨⟨rfl, rfl, _⟩, _, _⟩ := hv
 exact (hc t ht).2
theorem sort_grown (enc : List Int → List Value) (k : Nat) (w : World) (blk off q : Nat) (d : Array (List Int)) (os : Array Obj) : w.grownBy (sortWorldK enc k w blk off q d os) (some blk) := by
 refine ⟨rfl, rfl, rfl, size_sortWorldK_c enc k w blk off q d os, fun i hi hne => ?_⟩
 unfold sortWorldK putRowK putRow grow
 have h1 : i < (mapBlock (Go.Sort.ahead w q) blk (putCells id off (flatK enc k d))).heap.size := by simpa [mapBlock, Go.Sort.ahead] using hi
 show ((mapBlock (Go.Sort.ahead w q) blk (putCells id off (flatK enc k d))).heap ++ os)[i]? = w.heap[i]?
 rw [Array.getElem?_append_left h1]
 simp [mapBlock, Go.Sort.ahead, Array.getElem?_modify]
 intro e
 exact absurd (by rw [e]) hne
theorem extract_all (d : Array (List Int)) (n : Nat) (h : d.size = n) : d.extract 0 n = d := by
 subst h
 simp
theorem cmpCell_lays (blk off size : Nat) (w : World) : CmpLays Tryz.prog 92 #[] (encM 3) 3 (cf2 (fun x => x.getD 0 0) (fun x => x.getD 1 0)) blk off size w :=
 fun _ _ _ _ x y => compareCells_lays (x.getD 0 0) (x.getD 1 0) (x.getD 2 0) (y.getD 0 0) (y.getD 1 0) (y.getD 2 0) _ rfl _
set_option maxHeartbeats 1000000 in
theorem sortCell_is (B n blk off cap : Nat) (F : Nat → Int) (w : World) (h : Row w B 3 n F (.slice (some ⟨blk, off, none⟩) n cap)) (hf : Free w (n * 3) (.slice (some ⟨blk, off, none⟩) n cap)) (hB : B ≤ blk) (hb : blk < w.heap.size) (hn : n ≤ 1048576) :
  Calls Tryz.prog 105 #[.slice (some ⟨blk, off, none⟩) n cap, .func (.func 92) #[] #[]] w fun e w' => e = .returned (.tuple #[]) ∧ ∃ d : Array (List Int), d.size = n ∧ (d.toList.Perm (rowD 3 n F).toList ∧ SortedIn (ltOf (cf2 (fun x => x.getD 0 0) (fun x => x.getD 1 0))) 0 n d) ∧ (Row w' B 3 n (rowF 3 d) (.slice (some ⟨blk, off, none⟩) n cap) ∧ Free w' (n * 3) (.slice (some ⟨blk, off, none⟩) n cap)) ∧ w.grownBy w' (some blk) := by
 have eg : ∀ args w, (callFunc 92 args).run Tryz.prog w = .ok (.enter 92 args) w := enters_of Tryz.func92 (by kernel_rfl) rfl
 have hH := holds_row h hf
 have hcon := AnyQ.slices_SortFunc Tryz.sortCell 3 Tryz.isAgg93 Tryz.sizeOf93 (encM 3) (encM_len 3) (encM_one 3) (cf2 (fun x => x.getD 0 0) (fun x => x.getD 1 0)) (swo_cf2 _ _) 92 #[] blk off cap (rowD 3 n F) w eg (cmpCell_lays blk off _ w) hH hb (by rw [rowD_size]; omega)
 rw [rowD_size] at hcon
 change Calls Tryz.prog 105 _ _ _ at hcon
 refine hcon.mono ?_
 rintro e w' ⟨rfl, d, q, os, ⟨p1, _, p3⟩, hs, rfl⟩
 rw [rowD_size] at p1
 refine ⟨rfl, d, p1, ⟨?_, hs⟩, row_holds p1 hB (Nat.lt_of_lt_of_le hb (size_sortWorldK_c _ _ _ _ _ _ _ _)) (holdsK_sortWorldK_c _ _ _ _ _ (rowD 3 n F) _ _ _ hH hb (by rw [rowD_size, p1])), sort_grown _ _ _ _ _ _ _ _⟩
 rw [extract_all d n p1, extract_all (rowD 3 n F) n (rowD_size _ _ _)] at p3
 exact p3
end

section
open Go.RowKit Go.Sort Go.Shelf Go.Lib
/-- What a sort by two numbers leaves is the list in which they rise, if there is one. -/
theorem sorted_is {k s : List Int → Int} {d : Array (List Int)} {n : Nat} (hd : d.size = n) (hs : SortedIn (ltOf (cf2 k s)) 0 n d) {l : List (List Int)} (hp : d.toList.Perm l) (hl : l.Pairwise (Lt2 k s)) : d.toList = l := by
 refine perm_strict (fun _ _ h => h.asym) hp ?_ hl
 have h1 : l.Pairwise (fun x y => ¬ (k x = k y ∧ s x = s y)) := hl.imp (fun h => h.ne)
 have h2 : d.toList.Pairwise (fun x y => ¬ (k x = k y ∧ s x = s y)) := (hp.pairwise_iff (fun {x y} h q => h ⟨q.1.symm, q.2.symm⟩)).2 h1
 rw [List.pairwise_iff_getElem] at h2 ⊢
 intro i j hi hj hij
 refine Lt2.total ?_ (h2 i j hi hj hij)
 have hi' : i < d.size := by simpa using hi
 have hj' : j < d.size := by simpa using hj
 have h3 := hs i j (Nat.zero_le _) hij (by omega)
 rw [lt_cf2, getElem!_pos d i hi', getElem!_pos d j hj'] at h3
 have h4 := of_decide_eq_false h3
 simpa [Lt2] using h4
end

section
open Go.RowKit Go.Sort Go.Shelf Go.Lib
end
end Go.Proofs.YtiadbiiiikhfaaaGreatDoor

namespace Go.Proofs.YtiadbiiiikhfaaaGreatDoor
open Go.RowKit

/-- Block b holds a store: its three lists, and all their numbers. -/
def Lies (w : World) (b : Nat) (S : Sto) (v0 v1 v2 : Value) : Prop := (w.cell? ⟨b, 0, none⟩ = some v0 ∧ w.cell? ⟨b, 1, none⟩ = some v1 ∧ w.cell? ⟨b, 2, none⟩ = some v2) ∧ St w 0 S v0 v1 v2
theorem Lies.lt {w : World} {b : Nat} {S : Sto} {v0 v1 v2 : Value} (h : Lies w b S v0 v1 v2) : b < w.heap.size := World.block_lt_of_cell? w _ h.1.1
theorem Lies.later {w w' : World} {b : Nat} {S : Sto} {v0 v1 v2 : Value} (h : Lies w b S v0 v1 v2) (hb : Below w.heap.size w w') : Lies w' b S v0 v1 v2 :=
 ⟨⟨(hb.cell (p := ⟨b, 0, none⟩) h.lt).trans h.1.1, (hb.cell (p := ⟨b, 1, none⟩) h.lt).trans h.1.2.1, (hb.cell (p := ⟨b, 2, none⟩) h.lt).trans h.1.2.2⟩, h.2.later hb⟩

/-- From place oo of block b on lies a store: its three lists, and all their numbers. -/
def LiesO (w : World) (b oo : Nat) (S : Sto) (v0 v1 v2 : Value) : Prop := (w.cell? ⟨b, oo, none⟩ = some v0 ∧ w.cell? ⟨b, oo + 1, none⟩ = some v1 ∧ w.cell? ⟨b, oo + 2, none⟩ = some v2) ∧ St w 0 S v0 v1 v2
theorem LiesO.lt {w : World} {b oo : Nat} {S : Sto} {v0 v1 v2 : Value} (h : LiesO w b oo S v0 v1 v2) : b < w.heap.size := World.block_lt_of_cell? w ⟨b, oo, none⟩ h.1.1
theorem LiesO.later {w w' : World} {b oo : Nat} {S : Sto} {v0 v1 v2 : Value} (h : LiesO w b oo S v0 v1 v2) (hb : Below w.heap.size w w') : LiesO w' b oo S v0 v1 v2 :=
 ⟨⟨(hb.cell (p := ⟨b, oo, none⟩) h.lt).trans h.1.1, (hb.cell (p := ⟨b, oo + 1, none⟩) h.lt).trans h.1.2.1, (hb.cell (p := ⟨b, oo + 2, none⟩) h.lt).trans h.1.2.2⟩, h.2.later hb⟩
theorem Lies.o {w : World} {b : Nat} {S : Sto} {v0 v1 v2 : Value} (h : Lies w b S v0 v1 v2) : LiesO w b 0 S v0 v1 v2 := h

theorem l1In_is (v lo hi : Int) (r : Bool) (hr : decide (lo ≤ v ∧ v ≤ hi) = r) (w : World) :
  Calls Tryz.prog 44 #[.int .i64 v, .int .i64 lo, .int .i64 hi] w fun e w' => e = .returned (.bool r) ∧ w' = w := by
 by_cases h1 : lo ≤ v
 ·by_cases h2 : v ≤ hi
  ·have d : decide (v ≤ hi) = true := decide_eq_true h2
   rw [decide_eq_true (show lo ≤ v ∧ v ≤ hi from ⟨h1, h2⟩)] at hr
   subst hr
   go_enter Tryz.func44, Tryz.ntmps44
   go_wp2
   go_ret
   exact ⟨rfl, rfl⟩
  ·have d : decide (v ≤ hi) = false := decide_eq_false h2
   rw [decide_eq_false (show ¬ (lo ≤ v ∧ v ≤ hi) from fun h => h2 h.2)] at hr
   subst hr
   go_enter Tryz.func44, Tryz.ntmps44
   go_wp2
   go_ret
   exact ⟨rfl, rfl⟩
 ·have d : decide (lo ≤ v) = false := decide_eq_false h1
  rw [decide_eq_false (show ¬ (lo ≤ v ∧ v ≤ hi) from fun h => h1 h.1)] at hr
  subst hr
  go_enter Tryz.func44, Tryz.ntmps44
  go_wp2
  go_ret
  exact ⟨rfl, rfl⟩
theorem l2Ts_is (t : Int) (r : Bool) (hr : decide (1 ≤ t ∧ t ≤ 100000) = r) (w : World) :
  Calls Tryz.prog 43 #[.int .i64 t] w fun e w' => e = .returned (.bool r) ∧ w' = w := by
 have H : Hid (decide (1 ≤ t ∧ t ≤ 100000) = r) := hr
 clear hr
 go_enter Tryz.func43, Tryz.ntmps43
 go_wp2_with fail
 refine (l1In_is _ _ _ r H.out _).mono ?_
 rintro e w' ⟨rfl, rfl⟩
 go_wp2
 go_ret
 exact ⟨rfl, rfl⟩

theorem below_dr {B : Nat} {a w : World} (h : Below B a w) (q : Nat) : Below B a (w.drewN q) := ⟨h.os, h.tape, h.output, h.size, h.block⟩
set_option maxRecDepth 10000 in
set_option maxHeartbeats 4000000 in
theorem l2Cells_anyO (S : Sto) (b oo : Nat) (v0 v1 v2 : Value) (w : World) (h : LiesO w b oo S v0 v1 v2) (hn : S.nc ≤ 200) :
  Calls Tryz.prog 109 #[.pointer (some ⟨b, oo, none⟩)] w fun e w' => e = .returned (.int .i64 (scan (cellF S.c) S.nc)) ∧ Below w.heap.size w w' := by
 obtain ⟨a0, c0, a1, c1, a2, c2, rfl, rfl, rfl⟩ := h.2.form
 have H : Hid (LiesO w b oo S (.slice a0 S.nc c0) (.slice a1 S.nl c1) (.slice a2 S.nw c2)) := h
 have p0 := h.1.1
 have hb := h.lt
 clear h
 go_enter Tryz.func109, Tryz.ntmps109
 go_wp2
 go_loopw [3] (fun i wr => ∃ k : Nat, k ≤ S.nc ∧ i = .int .i64 k ∧ Hid (scan (cellF S.c) k = 0) ∧ Below w.heap.size w wr) (fun i _ => S.nc - (intOf i).toNat)
 case atStart => exact ⟨0, Nat.zero_le _, rfl, rfl, Below.refl _ _⟩
 case round =>
  obtain ⟨k, hk, rfl, HS, hbw⟩ := hrel
  have e0 := (hbw.cell (p := ⟨b, oo, none⟩) hb).trans p0
  have hbr : b < wr.heap.size := Nat.lt_of_lt_of_le hb hbw.size
  by_cases hlt : k < S.nc
  case neg =>
   have en : k = S.nc := by omega
   have E : Hid (scan (cellF S.c) S.nc = 0) := en ▸ HS.out
   clear HS
   go_wp2
   go_ret
   exact ⟨by rw [E.out]; rfl, hbw⟩
  obtain ⟨g, o, rfl, _, hg, x0, x1, x2⟩ := (H.out.2.1.later hbw).at3 hlt
  obtain ⟨n0, N0⟩ : ∃ x, S.c (k * 3) = x := ⟨_, rfl⟩
  rw [N0] at x0
  obtain ⟨n1, N1⟩ : ∃ x, S.c (k * 3 + 1) = x := ⟨_, rfl⟩
  rw [N1] at x1
  obtain ⟨n2, N2⟩ : ∃ x, S.c (k * 3 + 2) = x := ⟨_, rfl⟩
  rw [N2] at x2
  have NN : Hid (S.c (k * 3) = n0 ∧ S.c (k * 3 + 1) = n1 ∧ S.c (k * 3 + 2) = n2) := ⟨N0, N1, N2⟩
  clear N0 N1 N2
  by_cases h0 : faultOf n0 = 0
  case neg =>
   obtain ⟨f, hff⟩ : ∃ f, faultOf n0 = f := ⟨_, rfl⟩
   have L0 : Hid (∀ w, Calls Tryz.prog 42 #[.int .i64 n0] w fun e w' => e = .returned (.int .i64 f) ∧ w' = w) := fun w => hff ▸ l1Fault_any n0 w
   have E : Hid (scan (cellF S.c) S.nc = f) := by
    have : cellF S.c k = f := by
     unfold cellF
     rw [NN.out.1, NN.out.2.1, NN.out.2.2]
     rw [if_pos h0]; exact hff
    exact (scan_stop HS.out (by rw [this, ← hff]; exact h0) hlt).trans this
   have hfn : (f == 0) = false := beq_eq_false_iff_ne.2 (by rw [← hff]; exact h0)
   clear hff h0 HS NN
   go_wp2_with fail
   refine (L0.out _).mono ?_
   rintro e w1 ⟨rfl, rfl⟩
   go_wp2
   go_ret
   exact ⟨by rw [E.out]; rfl, by first | exact hbw.alloc hbw.size _ | exact below_dr (hbw.alloc hbw.size _) _ | exact below_dr (below_dr (hbw.alloc hbw.size _) _) _⟩
  have L0 : Hid (∀ w, Calls Tryz.prog 42 #[.int .i64 n0] w fun e w' => e = .returned (.int .i64 0) ∧ w' = w) := fun w => h0 ▸ l1Fault_any n0 w
  have G0 : Hid (faultOf n0 = 0) := h0
  clear h0
  by_cases h1 : 1 ≤ n1 ∧ n1 ≤ 100000
  case neg =>
   have L1 : Hid (decide (1 ≤ n1 ∧ n1 ≤ 100000) = false) := decide_eq_false h1
   have E : Hid (scan (cellF S.c) S.nc = 3) := by
    have : cellF S.c k = 3 := by
     unfold cellF
     rw [NN.out.1, NN.out.2.1, NN.out.2.2]
     rw [if_neg (fun h => h G0.out)]
     rw [if_pos (by omega)]
    exact (scan_stop HS.out (by rw [this]; decide) hlt).trans this
   clear h1 HS NN G0
   go_wp2_with fail
   refine (L0.out _).mono ?_
   rintro e w1 ⟨rfl, rfl⟩
   go_wp2_with fail
   refine (l2Ts_is _ false L1.out _).mono ?_
   rintro e w1 ⟨rfl, rfl⟩
   go_wp2
   go_ret
   exact ⟨by rw [E.out]; rfl, by first | exact hbw.alloc hbw.size _ | exact below_dr (hbw.alloc hbw.size _) _ | exact below_dr (below_dr (hbw.alloc hbw.size _) _) _⟩
  have L1 : Hid (decide (1 ≤ n1 ∧ n1 ≤ 100000) = true) := decide_eq_true h1
  have G1 : Hid (1 ≤ n1 ∧ n1 ≤ 100000) := h1
  clear h1
  by_cases h2 : 0 ≤ n2 ∧ n2 ≤ 9999
  case neg =>
   have L2 : Hid (decide (0 ≤ n2 ∧ n2 ≤ 9999) = false) := decide_eq_false h2
   have E : Hid (scan (cellF S.c) S.nc = 3) := by
    have : cellF S.c k = 3 := by
     unfold cellF
     rw [NN.out.1, NN.out.2.1, NN.out.2.2]
     rw [if_neg (fun h => h G0.out)]
     rw [if_pos (by omega)]
    exact (scan_stop HS.out (by rw [this]; decide) hlt).trans this
   clear h2 HS NN G0 G1
   go_wp2_with fail
   refine (L0.out _).mono ?_
   rintro e w1 ⟨rfl, rfl⟩
   go_wp2_with fail
   refine (l2Ts_is _ true L1.out _).mono ?_
   rintro e w1 ⟨rfl, rfl⟩
   go_wp2_with fail
   refine (l1In_is _ _ _ false L2.out _).mono ?_
   rintro e w1 ⟨rfl, rfl⟩
   go_wp2
   go_ret
   exact ⟨by rw [E.out]; rfl, by first | exact hbw.alloc hbw.size _ | exact below_dr (hbw.alloc hbw.size _) _ | exact below_dr (below_dr (hbw.alloc hbw.size _) _) _⟩
  have L2 : Hid (decide (0 ≤ n2 ∧ n2 ≤ 9999) = true) := decide_eq_true h2
  have G2 : Hid (0 ≤ n2 ∧ n2 ≤ 9999) := h2
  clear h2
  rcases Nat.eq_zero_or_pos k with hk0 | hk0
  ·have E : Hid (scan (cellF S.c) (k + 1) = 0) := by
    have : cellF S.c k = 0 := by
     unfold cellF
     rw [NN.out.1, NN.out.2.1, NN.out.2.2]
     rw [if_neg (fun h => h G0.out)]
     have g1 := G1.out; have g2 := G2.out; rw [if_neg (by omega)]
     rw [if_neg (by omega)]
    exact scan_go HS.out this
   have dk : decide (0 < k) = false := decide_eq_false (by omega)
   clear HS NN G0 G1 G2 hk0
   go_wp2_with fail
   refine (L0.out _).mono ?_
   rintro e w1 ⟨rfl, rfl⟩
   go_wp2_with fail
   refine (l2Ts_is _ true L1.out _).mono ?_
   rintro e w1 ⟨rfl, rfl⟩
   go_wp2_with fail
   refine (l1In_is _ _ _ true L2.out _).mono ?_
   rintro e w1 ⟨rfl, rfl⟩
   go_wp2_with fail
   go_quiet (fail)
   go_wp2
   go_roundw
   case rel => exact ⟨k + 1, by omega, by go_num, E, by first | exact hbw.alloc hbw.size _ | exact below_dr (hbw.alloc hbw.size _) _ | exact below_dr (below_dr (hbw.alloc hbw.size _) _) _⟩
   case measure => simp [intOf]; omega
  obtain ⟨g', o', he, _, _, y0, y1, _⟩ := (H.out.2.1.later hbw).at3 (k := k - 1) (by omega)
  simp only [Option.some.injEq, Addr.mk.injEq, and_true] at he
  obtain ⟨rfl, rfl⟩ := he
  obtain ⟨m0, M0⟩ : ∃ x, S.c ((k - 1) * 3) = x := ⟨_, rfl⟩
  rw [M0] at y0
  obtain ⟨m1, M1⟩ : ∃ x, S.c ((k - 1) * 3 + 1) = x := ⟨_, rfl⟩
  rw [M1] at y1
  have MM : Hid (S.c ((k - 1) * 3) = m0 ∧ S.c ((k - 1) * 3 + 1) = m1) := ⟨M0, M1⟩
  clear M0 M1
  have dk : decide (0 < k) = true := decide_eq_true hk0
  by_cases r1 : n0 < m0
  ·have E : Hid (scan (cellF S.c) S.nc = 1) := by
    have : cellF S.c k = 1 := by
     unfold cellF
     rw [NN.out.1, NN.out.2.1, NN.out.2.2]
     rw [if_neg (fun h => h G0.out)]
     have g1 := G1.out; have g2 := G2.out; rw [if_neg (by omega)]
     rw [MM.out.1, MM.out.2]
     rw [if_pos (by omega)]
    exact (scan_stop HS.out (by rw [this]; decide) hlt).trans this
   clear HS NN G0 G1 G2 MM
   go_wp2_with fail
   refine (L0.out _).mono ?_
   rintro e w1 ⟨rfl, rfl⟩
   go_wp2_with fail
   refine (l2Ts_is _ true L1.out _).mono ?_
   rintro e w1 ⟨rfl, rfl⟩
   go_wp2_with fail
   refine (l1In_is _ _ _ true L2.out _).mono ?_
   rintro e w1 ⟨rfl, rfl⟩
   go_wp2_with fail
   go_quiet (fail)
   go_wp2
   go_ret
   exact ⟨by rw [E.out]; rfl, by first | exact hbw.alloc hbw.size _ | exact below_dr (hbw.alloc hbw.size _) _ | exact below_dr (below_dr (hbw.alloc hbw.size _) _) _⟩
  by_cases r2 : n0 = m0
  ·by_cases r3 : n1 ≤ m1
   ·have E : Hid (scan (cellF S.c) S.nc = 1) := by
     have : cellF S.c k = 1 := by
      unfold cellF
      rw [NN.out.1, NN.out.2.1, NN.out.2.2]
      rw [if_neg (fun h => h G0.out)]
      have g1 := G1.out; have g2 := G2.out; rw [if_neg (by omega)]
      rw [MM.out.1, MM.out.2]
      rw [if_pos (by omega)]
     exact (scan_stop HS.out (by rw [this]; decide) hlt).trans this
    have s1 : decide (n0 < m0) = false := decide_eq_false r1
    have s2 : (n0 == m0) = true := beq_iff_eq.2 r2
    have s3 : decide (n1 ≤ m1) = true := decide_eq_true r3
    clear HS NN G0 G1 G2 MM r1 r2
    go_wp2_with fail
    refine (L0.out _).mono ?_
    rintro e w1 ⟨rfl, rfl⟩
    go_wp2_with fail
    refine (l2Ts_is _ true L1.out _).mono ?_
    rintro e w1 ⟨rfl, rfl⟩
    go_wp2_with fail
    refine (l1In_is _ _ _ true L2.out _).mono ?_
    rintro e w1 ⟨rfl, rfl⟩
    go_wp2_with fail
    go_quiet (fail)
    go_wp2
    go_ret
    exact ⟨by rw [E.out]; rfl, by first | exact hbw.alloc hbw.size _ | exact below_dr (hbw.alloc hbw.size _) _ | exact below_dr (below_dr (hbw.alloc hbw.size _) _) _⟩
   ·have E : Hid (scan (cellF S.c) (k + 1) = 0) := by
     have : cellF S.c k = 0 := by
      unfold cellF
      rw [NN.out.1, NN.out.2.1, NN.out.2.2]
      rw [if_neg (fun h => h G0.out)]
      have g1 := G1.out; have g2 := G2.out; rw [if_neg (by omega)]
      rw [MM.out.1, MM.out.2]
      rw [if_neg (by omega)]
     exact scan_go HS.out this
    have s1 : decide (n0 < m0) = false := decide_eq_false r1
    have s2 : (n0 == m0) = true := beq_iff_eq.2 r2
    have s3 : decide (n1 ≤ m1) = false := decide_eq_false r3
    clear HS NN G0 G1 G2 MM r1 r2 r3
    go_wp2_with fail
    refine (L0.out _).mono ?_
    rintro e w1 ⟨rfl, rfl⟩
    go_wp2_with fail
    refine (l2Ts_is _ true L1.out _).mono ?_
    rintro e w1 ⟨rfl, rfl⟩
    go_wp2_with fail
    refine (l1In_is _ _ _ true L2.out _).mono ?_
    rintro e w1 ⟨rfl, rfl⟩
    go_wp2_with fail
    go_quiet (fail)
    go_wp2
    go_roundw
    case rel => exact ⟨k + 1, by omega, by go_num, E, by first | exact hbw.alloc hbw.size _ | exact below_dr (hbw.alloc hbw.size _) _ | exact below_dr (below_dr (hbw.alloc hbw.size _) _) _⟩
    case measure => simp [intOf]; omega
  ·have E : Hid (scan (cellF S.c) (k + 1) = 0) := by
    have : cellF S.c k = 0 := by
     unfold cellF
     rw [NN.out.1, NN.out.2.1, NN.out.2.2]
     rw [if_neg (fun h => h G0.out)]
     have g1 := G1.out; have g2 := G2.out; rw [if_neg (by omega)]
     rw [MM.out.1, MM.out.2]
     rw [if_neg (by omega)]
    exact scan_go HS.out this
   have s1 : decide (n0 < m0) = false := decide_eq_false r1
   have s2 : (n0 == m0) = false := beq_eq_false_iff_ne.2 r2
   clear HS NN G0 G1 G2 MM r1 r2
   go_wp2_with fail
   refine (L0.out _).mono ?_
   rintro e w1 ⟨rfl, rfl⟩
   go_wp2_with fail
   refine (l2Ts_is _ true L1.out _).mono ?_
   rintro e w1 ⟨rfl, rfl⟩
   go_wp2_with fail
   refine (l1In_is _ _ _ true L2.out _).mono ?_
   rintro e w1 ⟨rfl, rfl⟩
   go_wp2_with fail
   go_quiet (fail)
   go_wp2
   go_roundw
   case rel => exact ⟨k + 1, by omega, by go_num, E, by first | exact hbw.alloc hbw.size _ | exact below_dr (hbw.alloc hbw.size _) _ | exact below_dr (below_dr (hbw.alloc hbw.size _) _) _⟩
   case measure => simp [intOf]; omega

set_option maxRecDepth 10000 in
set_option maxHeartbeats 4000000 in
theorem l2Locks_anyO (S : Sto) (b oo : Nat) (v0 v1 v2 : Value) (w : World) (h : LiesO w b oo S v0 v1 v2) (hn : S.nl ≤ 200) :
  Calls Tryz.prog 110 #[.pointer (some ⟨b, oo, none⟩)] w fun e w' => e = .returned (.int .i64 (scan (lockF S.l) S.nl)) ∧ Below w.heap.size w w' := by
 obtain ⟨a0, c0, a1, c1, a2, c2, rfl, rfl, rfl⟩ := h.2.form
 have H : Hid (LiesO w b oo S (.slice a0 S.nc c0) (.slice a1 S.nl c1) (.slice a2 S.nw c2)) := h
 have p0 := h.1.2.1
 have hb := h.lt
 clear h
 go_enter Tryz.func110, Tryz.ntmps110
 go_wp2
 go_loopw [3] (fun i wr => ∃ k : Nat, k ≤ S.nl ∧ i = .int .i64 k ∧ Hid (scan (lockF S.l) k = 0) ∧ Below w.heap.size w wr) (fun i _ => S.nl - (intOf i).toNat)
 case atStart => exact ⟨0, Nat.zero_le _, rfl, rfl, Below.refl _ _⟩
 case round =>
  obtain ⟨k, hk, rfl, HS, hbw⟩ := hrel
  have e0 := (hbw.cell (p := ⟨b, oo + 1, none⟩) hb).trans p0
  have hbr : b < wr.heap.size := Nat.lt_of_lt_of_le hb hbw.size
  by_cases hlt : k < S.nl
  case neg =>
   have en : k = S.nl := by omega
   have E : Hid (scan (lockF S.l) S.nl = 0) := en ▸ HS.out
   clear HS
   go_wp2
   go_ret
   exact ⟨by rw [E.out]; rfl, hbw⟩
  obtain ⟨g, o, rfl, _, hg, x0, x1, x2, x3, x4⟩ := (H.out.2.2.1.later hbw).at5 hlt
  obtain ⟨n0, N0⟩ : ∃ x, S.l (k * 5) = x := ⟨_, rfl⟩
  rw [N0] at x0
  obtain ⟨n1, N1⟩ : ∃ x, S.l (k * 5 + 1) = x := ⟨_, rfl⟩
  rw [N1] at x1
  obtain ⟨n2, N2⟩ : ∃ x, S.l (k * 5 + 2) = x := ⟨_, rfl⟩
  rw [N2] at x2
  obtain ⟨n3, N3⟩ : ∃ x, S.l (k * 5 + 3) = x := ⟨_, rfl⟩
  rw [N3] at x3
  obtain ⟨n4, N4⟩ : ∃ x, S.l (k * 5 + 4) = x := ⟨_, rfl⟩
  rw [N4] at x4
  have NN : Hid (S.l (k * 5) = n0 ∧ S.l (k * 5 + 1) = n1 ∧ S.l (k * 5 + 2) = n2 ∧ S.l (k * 5 + 3) = n3 ∧ S.l (k * 5 + 4) = n4) := ⟨N0, N1, N2, N3, N4⟩
  clear N0 N1 N2 N3 N4
  by_cases h0 : faultOf n0 = 0
  case neg =>
   obtain ⟨f, hff⟩ : ∃ f, faultOf n0 = f := ⟨_, rfl⟩
   have L0 : Hid (∀ w, Calls Tryz.prog 42 #[.int .i64 n0] w fun e w' => e = .returned (.int .i64 f) ∧ w' = w) := fun w => hff ▸ l1Fault_any n0 w
   have E : Hid (scan (lockF S.l) S.nl = f) := by
    have : lockF S.l k = f := by
     unfold lockF
     rw [NN.out.1, NN.out.2.1, NN.out.2.2.1, NN.out.2.2.2.1, NN.out.2.2.2.2]
     rw [if_pos h0]; exact hff
    exact (scan_stop HS.out (by rw [this, ← hff]; exact h0) hlt).trans this
   have hfn : (f == 0) = false := beq_eq_false_iff_ne.2 (by rw [← hff]; exact h0)
   clear hff h0 HS NN
   go_wp2_with fail
   refine (L0.out _).mono ?_
   rintro e w1 ⟨rfl, rfl⟩
   go_wp2
   go_ret
   exact ⟨by rw [E.out]; rfl, by first | exact hbw.alloc hbw.size _ | exact below_dr (hbw.alloc hbw.size _) _ | exact below_dr (below_dr (hbw.alloc hbw.size _) _) _⟩
  have L0 : Hid (∀ w, Calls Tryz.prog 42 #[.int .i64 n0] w fun e w' => e = .returned (.int .i64 0) ∧ w' = w) := fun w => h0 ▸ l1Fault_any n0 w
  have G0 : Hid (faultOf n0 = 0) := h0
  clear h0
  by_cases h1 : faultOf n3 = 0
  case neg =>
   obtain ⟨f, hff⟩ : ∃ f, faultOf n3 = f := ⟨_, rfl⟩
   have L1 : Hid (∀ w, Calls Tryz.prog 42 #[.int .i64 n3] w fun e w' => e = .returned (.int .i64 f) ∧ w' = w) := fun w => hff ▸ l1Fault_any n3 w
   have E : Hid (scan (lockF S.l) S.nl = f) := by
    have : lockF S.l k = f := by
     unfold lockF
     rw [NN.out.1, NN.out.2.1, NN.out.2.2.1, NN.out.2.2.2.1, NN.out.2.2.2.2]
     rw [if_neg (fun h => h G0.out)]
     rw [if_pos h1]; exact hff
    exact (scan_stop HS.out (by rw [this, ← hff]; exact h1) hlt).trans this
   have hfn : (f == 0) = false := beq_eq_false_iff_ne.2 (by rw [← hff]; exact h1)
   clear hff h1 HS NN G0
   go_wp2_with fail
   refine (L0.out _).mono ?_
   rintro e w1 ⟨rfl, rfl⟩
   go_wp2_with fail
   refine (L1.out _).mono ?_
   rintro e w1 ⟨rfl, rfl⟩
   go_wp2
   go_ret
   exact ⟨by rw [E.out]; rfl, by first | exact hbw.alloc hbw.size _ | exact below_dr (hbw.alloc hbw.size _) _ | exact below_dr (below_dr (hbw.alloc hbw.size _) _) _⟩
  have L1 : Hid (∀ w, Calls Tryz.prog 42 #[.int .i64 n3] w fun e w' => e = .returned (.int .i64 0) ∧ w' = w) := fun w => h1 ▸ l1Fault_any n3 w
  have G1 : Hid (faultOf n3 = 0) := h1
  clear h1
  by_cases h2 : 1 ≤ n1 ∧ n1 ≤ 100000
  case neg =>
   have L2 : Hid (decide (1 ≤ n1 ∧ n1 ≤ 100000) = false) := decide_eq_false h2
   have E : Hid (scan (lockF S.l) S.nl = 3) := by
    have : lockF S.l k = 3 := by
     unfold lockF
     rw [NN.out.1, NN.out.2.1, NN.out.2.2.1, NN.out.2.2.2.1, NN.out.2.2.2.2]
     rw [if_neg (fun h => h G0.out)]
     rw [if_neg (fun h => h G1.out)]
     rw [if_pos (by omega)]
    exact (scan_stop HS.out (by rw [this]; decide) hlt).trans this
   clear h2 HS NN G0 G1
   go_wp2_with fail
   refine (L0.out _).mono ?_
   rintro e w1 ⟨rfl, rfl⟩
   go_wp2_with fail
   refine (L1.out _).mono ?_
   rintro e w1 ⟨rfl, rfl⟩
   go_wp2_with fail
   refine (l2Ts_is _ false L2.out _).mono ?_
   rintro e w1 ⟨rfl, rfl⟩
   go_wp2
   go_ret
   exact ⟨by rw [E.out]; rfl, by first | exact hbw.alloc hbw.size _ | exact below_dr (hbw.alloc hbw.size _) _ | exact below_dr (below_dr (hbw.alloc hbw.size _) _) _⟩
  have L2 : Hid (decide (1 ≤ n1 ∧ n1 ≤ 100000) = true) := decide_eq_true h2
  have G2 : Hid (1 ≤ n1 ∧ n1 ≤ 100000) := h2
  clear h2
  by_cases h3 : 1 ≤ n2 ∧ n2 ≤ 3
  case neg =>
   have L3 : Hid (decide (1 ≤ n2 ∧ n2 ≤ 3) = false) := decide_eq_false h3
   have E : Hid (scan (lockF S.l) S.nl = 3) := by
    have : lockF S.l k = 3 := by
     unfold lockF
     rw [NN.out.1, NN.out.2.1, NN.out.2.2.1, NN.out.2.2.2.1, NN.out.2.2.2.2]
     rw [if_neg (fun h => h G0.out)]
     rw [if_neg (fun h => h G1.out)]
     rw [if_pos (by omega)]
    exact (scan_stop HS.out (by rw [this]; decide) hlt).trans this
   clear h3 HS NN G0 G1 G2
   go_wp2_with fail
   refine (L0.out _).mono ?_
   rintro e w1 ⟨rfl, rfl⟩
   go_wp2_with fail
   refine (L1.out _).mono ?_
   rintro e w1 ⟨rfl, rfl⟩
   go_wp2_with fail
   refine (l2Ts_is _ true L2.out _).mono ?_
   rintro e w1 ⟨rfl, rfl⟩
   go_wp2_with fail
   refine (l1In_is _ _ _ false L3.out _).mono ?_
   rintro e w1 ⟨rfl, rfl⟩
   go_wp2
   go_ret
   exact ⟨by rw [E.out]; rfl, by first | exact hbw.alloc hbw.size _ | exact below_dr (hbw.alloc hbw.size _) _ | exact below_dr (below_dr (hbw.alloc hbw.size _) _) _⟩
  have L3 : Hid (decide (1 ≤ n2 ∧ n2 ≤ 3) = true) := decide_eq_true h3
  have G3 : Hid (1 ≤ n2 ∧ n2 ≤ 3) := h3
  clear h3
  by_cases h4 : 0 ≤ n4 ∧ n4 ≤ 100000
  case neg =>
   have L4 : Hid (decide (0 ≤ n4 ∧ n4 ≤ 100000) = false) := decide_eq_false h4
   have E : Hid (scan (lockF S.l) S.nl = 3) := by
    have : lockF S.l k = 3 := by
     unfold lockF
     rw [NN.out.1, NN.out.2.1, NN.out.2.2.1, NN.out.2.2.2.1, NN.out.2.2.2.2]
     rw [if_neg (fun h => h G0.out)]
     rw [if_neg (fun h => h G1.out)]
     rw [if_pos (by omega)]
    exact (scan_stop HS.out (by rw [this]; decide) hlt).trans this
   clear h4 HS NN G0 G1 G2 G3
   go_wp2_with fail
   refine (L0.out _).mono ?_
   rintro e w1 ⟨rfl, rfl⟩
   go_wp2_with fail
   refine (L1.out _).mono ?_
   rintro e w1 ⟨rfl, rfl⟩
   go_wp2_with fail
   refine (l2Ts_is _ true L2.out _).mono ?_
   rintro e w1 ⟨rfl, rfl⟩
   go_wp2_with fail
   refine (l1In_is _ _ _ true L3.out _).mono ?_
   rintro e w1 ⟨rfl, rfl⟩
   go_wp2_with fail
   refine (l1In_is _ _ _ false L4.out _).mono ?_
   rintro e w1 ⟨rfl, rfl⟩
   go_wp2
   go_ret
   exact ⟨by rw [E.out]; rfl, by first | exact hbw.alloc hbw.size _ | exact below_dr (hbw.alloc hbw.size _) _ | exact below_dr (below_dr (hbw.alloc hbw.size _) _) _⟩
  have L4 : Hid (decide (0 ≤ n4 ∧ n4 ≤ 100000) = true) := decide_eq_true h4
  have G4 : Hid (0 ≤ n4 ∧ n4 ≤ 100000) := h4
  clear h4
  rcases Nat.eq_zero_or_pos k with hk0 | hk0
  ·have E : Hid (scan (lockF S.l) (k + 1) = 0) := by
    have : lockF S.l k = 0 := by
     unfold lockF
     rw [NN.out.1, NN.out.2.1, NN.out.2.2.1, NN.out.2.2.2.1, NN.out.2.2.2.2]
     rw [if_neg (fun h => h G0.out)]
     rw [if_neg (fun h => h G1.out)]
     have g2 := G2.out; have g3 := G3.out; have g4 := G4.out; rw [if_neg (by omega)]
     rw [if_neg (by omega)]
    exact scan_go HS.out this
   have dk : decide (0 < k) = false := decide_eq_false (by omega)
   clear HS NN G0 G1 G2 G3 G4 hk0
   go_wp2_with fail
   refine (L0.out _).mono ?_
   rintro e w1 ⟨rfl, rfl⟩
   go_wp2_with fail
   refine (L1.out _).mono ?_
   rintro e w1 ⟨rfl, rfl⟩
   go_wp2_with fail
   refine (l2Ts_is _ true L2.out _).mono ?_
   rintro e w1 ⟨rfl, rfl⟩
   go_wp2_with fail
   refine (l1In_is _ _ _ true L3.out _).mono ?_
   rintro e w1 ⟨rfl, rfl⟩
   go_wp2_with fail
   refine (l1In_is _ _ _ true L4.out _).mono ?_
   rintro e w1 ⟨rfl, rfl⟩
   go_wp2_with fail
   go_quiet (fail)
   go_wp2
   go_roundw
   case rel => exact ⟨k + 1, by omega, by go_num, E, by first | exact hbw.alloc hbw.size _ | exact below_dr (hbw.alloc hbw.size _) _ | exact below_dr (below_dr (hbw.alloc hbw.size _) _) _⟩
   case measure => simp [intOf]; omega
  obtain ⟨g', o', he, _, _, y0, y1, _, _, _⟩ := (H.out.2.2.1.later hbw).at5 (k := k - 1) (by omega)
  simp only [Option.some.injEq, Addr.mk.injEq, and_true] at he
  obtain ⟨rfl, rfl⟩ := he
  obtain ⟨m0, M0⟩ : ∃ x, S.l ((k - 1) * 5) = x := ⟨_, rfl⟩
  rw [M0] at y0
  have MM : Hid (S.l ((k - 1) * 5) = m0) := M0
  clear M0
  have dk : decide (0 < k) = true := decide_eq_true hk0
  by_cases r1 : n0 ≤ m0
  ·have E : Hid (scan (lockF S.l) S.nl = 1) := by
    have : lockF S.l k = 1 := by
     unfold lockF
     rw [NN.out.1, NN.out.2.1, NN.out.2.2.1, NN.out.2.2.2.1, NN.out.2.2.2.2]
     rw [if_neg (fun h => h G0.out)]
     rw [if_neg (fun h => h G1.out)]
     have g2 := G2.out; have g3 := G3.out; have g4 := G4.out; rw [if_neg (by omega)]
     rw [MM.out]
     rw [if_pos (by omega)]
    exact (scan_stop HS.out (by rw [this]; decide) hlt).trans this
   have s1 : decide (n0 ≤ m0) = true := decide_eq_true r1
   clear HS NN G0 G1 G2 G3 G4 MM
   go_wp2_with fail
   refine (L0.out _).mono ?_
   rintro e w1 ⟨rfl, rfl⟩
   go_wp2_with fail
   refine (L1.out _).mono ?_
   rintro e w1 ⟨rfl, rfl⟩
   go_wp2_with fail
   refine (l2Ts_is _ true L2.out _).mono ?_
   rintro e w1 ⟨rfl, rfl⟩
   go_wp2_with fail
   refine (l1In_is _ _ _ true L3.out _).mono ?_
   rintro e w1 ⟨rfl, rfl⟩
   go_wp2_with fail
   refine (l1In_is _ _ _ true L4.out _).mono ?_
   rintro e w1 ⟨rfl, rfl⟩
   go_wp2_with fail
   go_quiet (fail)
   go_wp2
   go_ret
   exact ⟨by rw [E.out]; rfl, by first | exact hbw.alloc hbw.size _ | exact below_dr (hbw.alloc hbw.size _) _ | exact below_dr (below_dr (hbw.alloc hbw.size _) _) _⟩
  ·have E : Hid (scan (lockF S.l) (k + 1) = 0) := by
    have : lockF S.l k = 0 := by
     unfold lockF
     rw [NN.out.1, NN.out.2.1, NN.out.2.2.1, NN.out.2.2.2.1, NN.out.2.2.2.2]
     rw [if_neg (fun h => h G0.out)]
     rw [if_neg (fun h => h G1.out)]
     have g2 := G2.out; have g3 := G3.out; have g4 := G4.out; rw [if_neg (by omega)]
     rw [MM.out]
     rw [if_neg (by omega)]
    exact scan_go HS.out this
   have s1 : decide (n0 ≤ m0) = false := decide_eq_false r1
   clear HS NN G0 G1 G2 G3 G4 MM r1
   go_wp2_with fail
   refine (L0.out _).mono ?_
   rintro e w1 ⟨rfl, rfl⟩
   go_wp2_with fail
   refine (L1.out _).mono ?_
   rintro e w1 ⟨rfl, rfl⟩
   go_wp2_with fail
   refine (l2Ts_is _ true L2.out _).mono ?_
   rintro e w1 ⟨rfl, rfl⟩
   go_wp2_with fail
   refine (l1In_is _ _ _ true L3.out _).mono ?_
   rintro e w1 ⟨rfl, rfl⟩
   go_wp2_with fail
   refine (l1In_is _ _ _ true L4.out _).mono ?_
   rintro e w1 ⟨rfl, rfl⟩
   go_wp2_with fail
   go_quiet (fail)
   go_wp2
   go_roundw
   case rel => exact ⟨k + 1, by omega, by go_num, E, by first | exact hbw.alloc hbw.size _ | exact below_dr (hbw.alloc hbw.size _) _ | exact below_dr (below_dr (hbw.alloc hbw.size _) _) _⟩
   case measure => simp [intOf]; omega

end Go.Proofs.YtiadbiiiikhfaaaGreatDoor

namespace Go.Proofs.YtiadbiiiikhfaaaGreatDoor
open Go.RowKit

set_option maxRecDepth 10000 in
set_option maxHeartbeats 4000000 in
theorem l2Writes_anyO (S : Sto) (b oo : Nat) (v0 v1 v2 : Value) (w : World) (h : LiesO w b oo S v0 v1 v2) (hn : S.nw ≤ 200) :
  Calls Tryz.prog 111 #[.pointer (some ⟨b, oo, none⟩)] w fun e w' => e = .returned (.int .i64 (scan (writeF S.k) S.nw)) ∧ Below w.heap.size w w' := by
 obtain ⟨a0, c0, a1, c1, a2, c2, rfl, rfl, rfl⟩ := h.2.form
 have H : Hid (LiesO w b oo S (.slice a0 S.nc c0) (.slice a1 S.nl c1) (.slice a2 S.nw c2)) := h
 have p0 := h.1.2.2
 have hb := h.lt
 clear h
 go_enter Tryz.func111, Tryz.ntmps111
 go_wp2
 go_loopw [3] (fun i wr => ∃ k : Nat, k ≤ S.nw ∧ i = .int .i64 k ∧ Hid (scan (writeF S.k) k = 0) ∧ Below w.heap.size w wr) (fun i _ => S.nw - (intOf i).toNat)
 case atStart => exact ⟨0, Nat.zero_le _, rfl, rfl, Below.refl _ _⟩
 case round =>
  obtain ⟨k, hk, rfl, HS, hbw⟩ := hrel
  have e0 := (hbw.cell (p := ⟨b, oo + 2, none⟩) hb).trans p0
  have hbr : b < wr.heap.size := Nat.lt_of_lt_of_le hb hbw.size
  by_cases hlt : k < S.nw
  case neg =>
   have en : k = S.nw := by omega
   have E : Hid (scan (writeF S.k) S.nw = 0) := en ▸ HS.out
   clear HS
   go_wp2
   go_ret
   exact ⟨by rw [E.out]; rfl, hbw⟩
  obtain ⟨g, o, rfl, _, hg, x0, x1, x2, x3⟩ := (H.out.2.2.2.later hbw).at4 hlt
  obtain ⟨n0, N0⟩ : ∃ x, S.k (k * 4) = x := ⟨_, rfl⟩
  rw [N0] at x0
  obtain ⟨n1, N1⟩ : ∃ x, S.k (k * 4 + 1) = x := ⟨_, rfl⟩
  rw [N1] at x1
  obtain ⟨n2, N2⟩ : ∃ x, S.k (k * 4 + 2) = x := ⟨_, rfl⟩
  rw [N2] at x2
  obtain ⟨n3, N3⟩ : ∃ x, S.k (k * 4 + 3) = x := ⟨_, rfl⟩
  rw [N3] at x3
  have NN : Hid (S.k (k * 4) = n0 ∧ S.k (k * 4 + 1) = n1 ∧ S.k (k * 4 + 2) = n2 ∧ S.k (k * 4 + 3) = n3) := ⟨N0, N1, N2, N3⟩
  clear N0 N1 N2 N3
  by_cases h0 : faultOf n0 = 0
  case neg =>
   obtain ⟨f, hff⟩ : ∃ f, faultOf n0 = f := ⟨_, rfl⟩
   have L0 : Hid (∀ w, Calls Tryz.prog 42 #[.int .i64 n0] w fun e w' => e = .returned (.int .i64 f) ∧ w' = w) := fun w => hff ▸ l1Fault_any n0 w
   have E : Hid (scan (writeF S.k) S.nw = f) := by
    have : writeF S.k k = f := by
     unfold writeF
     rw [NN.out.1, NN.out.2.1, NN.out.2.2.1, NN.out.2.2.2]
     rw [if_pos h0]; exact hff
    exact (scan_stop HS.out (by rw [this, ← hff]; exact h0) hlt).trans this
   have hfn : (f == 0) = false := beq_eq_false_iff_ne.2 (by rw [← hff]; exact h0)
   clear hff h0 HS NN
   go_wp2_with fail
   refine (L0.out _).mono ?_
   rintro e w1 ⟨rfl, rfl⟩
   go_wp2
   go_ret
   exact ⟨by rw [E.out]; rfl, by first | exact hbw.alloc hbw.size _ | exact below_dr (hbw.alloc hbw.size _) _ | exact below_dr (below_dr (hbw.alloc hbw.size _) _) _⟩
  have L0 : Hid (∀ w, Calls Tryz.prog 42 #[.int .i64 n0] w fun e w' => e = .returned (.int .i64 0) ∧ w' = w) := fun w => h0 ▸ l1Fault_any n0 w
  have G0 : Hid (faultOf n0 = 0) := h0
  clear h0
  by_cases h1 : 1 ≤ n1 ∧ n1 ≤ 100000
  case neg =>
   have L1 : Hid (decide (1 ≤ n1 ∧ n1 ≤ 100000) = false) := decide_eq_false h1
   have E : Hid (scan (writeF S.k) S.nw = 3) := by
    have : writeF S.k k = 3 := by
     unfold writeF
     rw [NN.out.1, NN.out.2.1, NN.out.2.2.1, NN.out.2.2.2]
     rw [if_neg (fun h => h G0.out)]
     rw [if_pos (by omega)]
    exact (scan_stop HS.out (by rw [this]; decide) hlt).trans this
   clear h1 HS NN G0
   go_wp2_with fail
   refine (L0.out _).mono ?_
   rintro e w1 ⟨rfl, rfl⟩
   go_wp2_with fail
   refine (l2Ts_is _ false L1.out _).mono ?_
   rintro e w1 ⟨rfl, rfl⟩
   go_wp2
   go_ret
   exact ⟨by rw [E.out]; rfl, by first | exact hbw.alloc hbw.size _ | exact below_dr (hbw.alloc hbw.size _) _ | exact below_dr (below_dr (hbw.alloc hbw.size _) _) _⟩
  have L1 : Hid (decide (1 ≤ n1 ∧ n1 ≤ 100000) = true) := decide_eq_true h1
  have G1 : Hid (1 ≤ n1 ∧ n1 ≤ 100000) := h1
  clear h1
  by_cases h2 : 1 ≤ n2 ∧ n2 ≤ 100000
  case neg =>
   have L2 : Hid (decide (1 ≤ n2 ∧ n2 ≤ 100000) = false) := decide_eq_false h2
   have E : Hid (scan (writeF S.k) S.nw = 3) := by
    have : writeF S.k k = 3 := by
     unfold writeF
     rw [NN.out.1, NN.out.2.1, NN.out.2.2.1, NN.out.2.2.2]
     rw [if_neg (fun h => h G0.out)]
     rw [if_pos (by omega)]
    exact (scan_stop HS.out (by rw [this]; decide) hlt).trans this
   clear h2 HS NN G0 G1
   go_wp2_with fail
   refine (L0.out _).mono ?_
   rintro e w1 ⟨rfl, rfl⟩
   go_wp2_with fail
   refine (l2Ts_is _ true L1.out _).mono ?_
   rintro e w1 ⟨rfl, rfl⟩
   go_wp2_with fail
   refine (l2Ts_is _ false L2.out _).mono ?_
   rintro e w1 ⟨rfl, rfl⟩
   go_wp2
   go_ret
   exact ⟨by rw [E.out]; rfl, by first | exact hbw.alloc hbw.size _ | exact below_dr (hbw.alloc hbw.size _) _ | exact below_dr (below_dr (hbw.alloc hbw.size _) _) _⟩
  have L2 : Hid (decide (1 ≤ n2 ∧ n2 ≤ 100000) = true) := decide_eq_true h2
  have G2 : Hid (1 ≤ n2 ∧ n2 ≤ 100000) := h2
  clear h2
  by_cases h3 : 1 ≤ n3 ∧ n3 ≤ 4
  case neg =>
   have L3 : Hid (decide (1 ≤ n3 ∧ n3 ≤ 4) = false) := decide_eq_false h3
   have E : Hid (scan (writeF S.k) S.nw = 3) := by
    have : writeF S.k k = 3 := by
     unfold writeF
     rw [NN.out.1, NN.out.2.1, NN.out.2.2.1, NN.out.2.2.2]
     rw [if_neg (fun h => h G0.out)]
     rw [if_pos (by omega)]
    exact (scan_stop HS.out (by rw [this]; decide) hlt).trans this
   clear h3 HS NN G0 G1 G2
   go_wp2_with fail
   refine (L0.out _).mono ?_
   rintro e w1 ⟨rfl, rfl⟩
   go_wp2_with fail
   refine (l2Ts_is _ true L1.out _).mono ?_
   rintro e w1 ⟨rfl, rfl⟩
   go_wp2_with fail
   refine (l2Ts_is _ true L2.out _).mono ?_
   rintro e w1 ⟨rfl, rfl⟩
   go_wp2_with fail
   refine (l1In_is _ _ _ false L3.out _).mono ?_
   rintro e w1 ⟨rfl, rfl⟩
   go_wp2
   go_ret
   exact ⟨by rw [E.out]; rfl, by first | exact hbw.alloc hbw.size _ | exact below_dr (hbw.alloc hbw.size _) _ | exact below_dr (below_dr (hbw.alloc hbw.size _) _) _⟩
  have L3 : Hid (decide (1 ≤ n3 ∧ n3 ≤ 4) = true) := decide_eq_true h3
  have G3 : Hid (1 ≤ n3 ∧ n3 ≤ 4) := h3
  clear h3
  rcases Nat.eq_zero_or_pos k with hk0 | hk0
  ·by_cases q4 : n3 = 4
   ·by_cases q5 : n1 = n2
    ·have E : Hid (scan (writeF S.k) (k + 1) = 0) := by
      have : writeF S.k k = 0 := by
       unfold writeF
       rw [NN.out.1, NN.out.2.1, NN.out.2.2.1, NN.out.2.2.2]
       rw [if_neg (fun h => h G0.out)]
       have g1 := G1.out; have g2 := G2.out; have g3 := G3.out; rw [if_neg (by omega)]
       have hft : fits S.k k := by unfold fits; rw [NN.out.2.1, NN.out.2.2.1, NN.out.2.2.2]; omega
       rw [if_neg (by rintro (h | h); exact absurd h (by omega); exact h hft)]
      exact scan_go HS.out this
     have dk : decide (0 < k) = false := decide_eq_false (by omega)
     have w4 : (n3 == 4) = true := beq_iff_eq.2 q4
     have w6 : (n3 != 4) = false := by rw [q4]; rfl
     have w5 : (n1 != n2) = false := by rw [q5]; exact bne_self_eq_false _
     clear HS NN G0 G1 G2 G3 q4 q5 hk0
     go_wp2_with fail
     refine (L0.out _).mono ?_
     rintro e w1 ⟨rfl, rfl⟩
     go_wp2_with fail
     refine (l2Ts_is _ true L1.out _).mono ?_
     rintro e w1 ⟨rfl, rfl⟩
     go_wp2_with fail
     refine (l2Ts_is _ true L2.out _).mono ?_
     rintro e w1 ⟨rfl, rfl⟩
     go_wp2_with fail
     refine (l1In_is _ _ _ true L3.out _).mono ?_
     rintro e w1 ⟨rfl, rfl⟩
     go_wp2_with fail
     go_quiet (fail)
     go_wp2_with fail
     try go_quiet (fail)
     go_wp2
     go_roundw
     case rel => exact ⟨k + 1, by omega, by go_num, E, by first | exact hbw.alloc hbw.size _ | exact below_dr (hbw.alloc hbw.size _) _ | exact below_dr (below_dr (hbw.alloc hbw.size _) _) _⟩
     case measure => simp [intOf]; omega
    ·have E : Hid (scan (writeF S.k) S.nw = 1) := by
      have : writeF S.k k = 1 := by
       unfold writeF
       rw [NN.out.1, NN.out.2.1, NN.out.2.2.1, NN.out.2.2.2]
       rw [if_neg (fun h => h G0.out)]
       have g1 := G1.out; have g2 := G2.out; have g3 := G3.out; rw [if_neg (by omega)]
       rw [if_pos (Or.inr (fun q => by unfold fits at q; rw [NN.out.2.1, NN.out.2.2.1, NN.out.2.2.2] at q; omega))]
      exact (scan_stop HS.out (by rw [this]; decide) hlt).trans this
     have dk : decide (0 < k) = false := decide_eq_false (by omega)
     have w4 : (n3 == 4) = true := beq_iff_eq.2 q4
     have w5 : (n1 != n2) = true := bne_iff_ne.2 q5
     clear HS NN G0 G1 G2 G3 q4 q5 hk0
     go_wp2_with fail
     refine (L0.out _).mono ?_
     rintro e w1 ⟨rfl, rfl⟩
     go_wp2_with fail
     refine (l2Ts_is _ true L1.out _).mono ?_
     rintro e w1 ⟨rfl, rfl⟩
     go_wp2_with fail
     refine (l2Ts_is _ true L2.out _).mono ?_
     rintro e w1 ⟨rfl, rfl⟩
     go_wp2_with fail
     refine (l1In_is _ _ _ true L3.out _).mono ?_
     rintro e w1 ⟨rfl, rfl⟩
     go_wp2_with fail
     go_quiet (fail)
     go_wp2_with fail
     try go_quiet (fail)
     go_wp2
     go_ret
     exact ⟨by rw [E.out]; rfl, by first | exact hbw.alloc hbw.size _ | exact below_dr (hbw.alloc hbw.size _) _ | exact below_dr (below_dr (hbw.alloc hbw.size _) _) _⟩
   ·by_cases q5 : n1 ≤ n2
    ·have E : Hid (scan (writeF S.k) S.nw = 1) := by
      have : writeF S.k k = 1 := by
       unfold writeF
       rw [NN.out.1, NN.out.2.1, NN.out.2.2.1, NN.out.2.2.2]
       rw [if_neg (fun h => h G0.out)]
       have g1 := G1.out; have g2 := G2.out; have g3 := G3.out; rw [if_neg (by omega)]
       rw [if_pos (Or.inr (fun q => by unfold fits at q; rw [NN.out.2.1, NN.out.2.2.1, NN.out.2.2.2] at q; omega))]
      exact (scan_stop HS.out (by rw [this]; decide) hlt).trans this
     have dk : decide (0 < k) = false := decide_eq_false (by omega)
     have w4 : (n3 == 4) = false := beq_eq_false_iff_ne.2 q4
     have w6 : (n3 != 4) = true := bne_iff_ne.2 q4
     have w5 : decide (n1 ≤ n2) = true := decide_eq_true q5
     clear HS NN G0 G1 G2 G3 q4 q5 hk0
     go_wp2_with fail
     refine (L0.out _).mono ?_
     rintro e w1 ⟨rfl, rfl⟩
     go_wp2_with fail
     refine (l2Ts_is _ true L1.out _).mono ?_
     rintro e w1 ⟨rfl, rfl⟩
     go_wp2_with fail
     refine (l2Ts_is _ true L2.out _).mono ?_
     rintro e w1 ⟨rfl, rfl⟩
     go_wp2_with fail
     refine (l1In_is _ _ _ true L3.out _).mono ?_
     rintro e w1 ⟨rfl, rfl⟩
     go_wp2_with fail
     go_quiet (fail)
     go_wp2_with fail
     try go_quiet (fail)
     go_wp2
     go_ret
     exact ⟨by rw [E.out]; rfl, by first | exact hbw.alloc hbw.size _ | exact below_dr (hbw.alloc hbw.size _) _ | exact below_dr (below_dr (hbw.alloc hbw.size _) _) _⟩
    ·have E : Hid (scan (writeF S.k) (k + 1) = 0) := by
      have : writeF S.k k = 0 := by
       unfold writeF
       rw [NN.out.1, NN.out.2.1, NN.out.2.2.1, NN.out.2.2.2]
       rw [if_neg (fun h => h G0.out)]
       have g1 := G1.out; have g2 := G2.out; have g3 := G3.out; rw [if_neg (by omega)]
       have hft : fits S.k k := by unfold fits; rw [NN.out.2.1, NN.out.2.2.1, NN.out.2.2.2]; omega
       rw [if_neg (by rintro (h | h); exact absurd h (by omega); exact h hft)]
      exact scan_go HS.out this
     have dk : decide (0 < k) = false := decide_eq_false (by omega)
     have w4 : (n3 == 4) = false := beq_eq_false_iff_ne.2 q4
     have w6 : (n3 != 4) = true := bne_iff_ne.2 q4
     have w5 : decide (n1 ≤ n2) = false := decide_eq_false q5
     clear HS NN G0 G1 G2 G3 q4 q5 hk0
     go_wp2_with fail
     refine (L0.out _).mono ?_
     rintro e w1 ⟨rfl, rfl⟩
     go_wp2_with fail
     refine (l2Ts_is _ true L1.out _).mono ?_
     rintro e w1 ⟨rfl, rfl⟩
     go_wp2_with fail
     refine (l2Ts_is _ true L2.out _).mono ?_
     rintro e w1 ⟨rfl, rfl⟩
     go_wp2_with fail
     refine (l1In_is _ _ _ true L3.out _).mono ?_
     rintro e w1 ⟨rfl, rfl⟩
     go_wp2_with fail
     go_quiet (fail)
     go_wp2_with fail
     try go_quiet (fail)
     go_wp2
     go_roundw
     case rel => exact ⟨k + 1, by omega, by go_num, E, by first | exact hbw.alloc hbw.size _ | exact below_dr (hbw.alloc hbw.size _) _ | exact below_dr (below_dr (hbw.alloc hbw.size _) _) _⟩
     case measure => simp [intOf]; omega
  obtain ⟨g', o', he, _, _, y0, y1, _, _⟩ := (H.out.2.2.2.later hbw).at4 (k := k - 1) (by omega)
  simp only [Option.some.injEq, Addr.mk.injEq, and_true] at he
  obtain ⟨rfl, rfl⟩ := he
  obtain ⟨m0, M0⟩ : ∃ x, S.k ((k - 1) * 4) = x := ⟨_, rfl⟩
  rw [M0] at y0
  obtain ⟨m1, M1⟩ : ∃ x, S.k ((k - 1) * 4 + 1) = x := ⟨_, rfl⟩
  rw [M1] at y1
  have MM : Hid (S.k ((k - 1) * 4) = m0 ∧ S.k ((k - 1) * 4 + 1) = m1) := ⟨M0, M1⟩
  clear M0 M1
  have dk : decide (0 < k) = true := decide_eq_true hk0
  by_cases r1 : n0 < m0
  ·have E : Hid (scan (writeF S.k) S.nw = 1) := by
    have : writeF S.k k = 1 := by
     unfold writeF
     rw [NN.out.1, NN.out.2.1, NN.out.2.2.1, NN.out.2.2.2]
     rw [if_neg (fun h => h G0.out)]
     have g1 := G1.out; have g2 := G2.out; have g3 := G3.out; rw [if_neg (by omega)]
     rw [MM.out.1, MM.out.2]
     rw [if_pos (Or.inl (by omega))]
    exact (scan_stop HS.out (by rw [this]; decide) hlt).trans this
   clear HS NN G0 G1 G2 G3 MM
   go_wp2_with fail
   refine (L0.out _).mono ?_
   rintro e w1 ⟨rfl, rfl⟩
   go_wp2_with fail
   refine (l2Ts_is _ true L1.out _).mono ?_
   rintro e w1 ⟨rfl, rfl⟩
   go_wp2_with fail
   refine (l2Ts_is _ true L2.out _).mono ?_
   rintro e w1 ⟨rfl, rfl⟩
   go_wp2_with fail
   refine (l1In_is _ _ _ true L3.out _).mono ?_
   rintro e w1 ⟨rfl, rfl⟩
   go_wp2_with fail
   go_quiet (fail)
   go_wp2
   go_ret
   exact ⟨by rw [E.out]; rfl, by first | exact hbw.alloc hbw.size _ | exact below_dr (hbw.alloc hbw.size _) _ | exact below_dr (below_dr (hbw.alloc hbw.size _) _) _⟩
  by_cases r2 : n0 = m0
  ·by_cases r3 : n1 ≤ m1
   ·have E : Hid (scan (writeF S.k) S.nw = 1) := by
     have : writeF S.k k = 1 := by
      unfold writeF
      rw [NN.out.1, NN.out.2.1, NN.out.2.2.1, NN.out.2.2.2]
      rw [if_neg (fun h => h G0.out)]
      have g1 := G1.out; have g2 := G2.out; have g3 := G3.out; rw [if_neg (by omega)]
      rw [MM.out.1, MM.out.2]
      rw [if_pos (Or.inl (by omega))]
     exact (scan_stop HS.out (by rw [this]; decide) hlt).trans this
    have s1 : decide (n0 < m0) = false := decide_eq_false r1
    have s2 : (n0 == m0) = true := beq_iff_eq.2 r2
    have s3 : decide (n1 ≤ m1) = true := decide_eq_true r3
    clear HS NN G0 G1 G2 G3 MM r1 r2
    go_wp2_with fail
    refine (L0.out _).mono ?_
    rintro e w1 ⟨rfl, rfl⟩
    go_wp2_with fail
    refine (l2Ts_is _ true L1.out _).mono ?_
    rintro e w1 ⟨rfl, rfl⟩
    go_wp2_with fail
    refine (l2Ts_is _ true L2.out _).mono ?_
    rintro e w1 ⟨rfl, rfl⟩
    go_wp2_with fail
    refine (l1In_is _ _ _ true L3.out _).mono ?_
    rintro e w1 ⟨rfl, rfl⟩
    go_wp2_with fail
    go_quiet (fail)
    go_wp2
    go_ret
    exact ⟨by rw [E.out]; rfl, by first | exact hbw.alloc hbw.size _ | exact below_dr (hbw.alloc hbw.size _) _ | exact below_dr (below_dr (hbw.alloc hbw.size _) _) _⟩
   ·by_cases q4 : n3 = 4
    ·by_cases q5 : n1 = n2
     ·have E : Hid (scan (writeF S.k) (k + 1) = 0) := by
       have : writeF S.k k = 0 := by
        unfold writeF
        rw [NN.out.1, NN.out.2.1, NN.out.2.2.1, NN.out.2.2.2]
        rw [if_neg (fun h => h G0.out)]
        have g1 := G1.out; have g2 := G2.out; have g3 := G3.out; rw [if_neg (by omega)]
        rw [MM.out.1, MM.out.2]
        have hft : fits S.k k := by unfold fits; rw [NN.out.2.1, NN.out.2.2.1, NN.out.2.2.2]; omega
        rw [if_neg (by rintro (h | h); exact absurd h (by omega); exact h hft)]
       exact scan_go HS.out this
      have s1 : decide (n0 < m0) = false := decide_eq_false r1
      have s2 : (n0 == m0) = true := beq_iff_eq.2 r2
      have s3 : decide (n1 ≤ m1) = false := decide_eq_false r3
      have w4 : (n3 == 4) = true := beq_iff_eq.2 q4
      have w6 : (n3 != 4) = false := by rw [q4]; rfl
      have w5 : (n1 != n2) = false := by rw [q5]; exact bne_self_eq_false _
      clear HS NN G0 G1 G2 G3 q4 q5 MM r1 r2 r3
      go_wp2_with fail
      refine (L0.out _).mono ?_
      rintro e w1 ⟨rfl, rfl⟩
      go_wp2_with fail
      refine (l2Ts_is _ true L1.out _).mono ?_
      rintro e w1 ⟨rfl, rfl⟩
      go_wp2_with fail
      refine (l2Ts_is _ true L2.out _).mono ?_
      rintro e w1 ⟨rfl, rfl⟩
      go_wp2_with fail
      refine (l1In_is _ _ _ true L3.out _).mono ?_
      rintro e w1 ⟨rfl, rfl⟩
      go_wp2_with fail
      go_quiet (fail)
      go_wp2_with fail
      try go_quiet (fail)
      go_wp2
      go_roundw
      case rel => exact ⟨k + 1, by omega, by go_num, E, by first | exact hbw.alloc hbw.size _ | exact below_dr (hbw.alloc hbw.size _) _ | exact below_dr (below_dr (hbw.alloc hbw.size _) _) _⟩
      case measure => simp [intOf]; omega
     ·have E : Hid (scan (writeF S.k) S.nw = 1) := by
       have : writeF S.k k = 1 := by
        unfold writeF
        rw [NN.out.1, NN.out.2.1, NN.out.2.2.1, NN.out.2.2.2]
        rw [if_neg (fun h => h G0.out)]
        have g1 := G1.out; have g2 := G2.out; have g3 := G3.out; rw [if_neg (by omega)]
        rw [MM.out.1, MM.out.2]
        rw [if_pos (Or.inr (fun q => by unfold fits at q; rw [NN.out.2.1, NN.out.2.2.1, NN.out.2.2.2] at q; omega))]
       exact (scan_stop HS.out (by rw [this]; decide) hlt).trans this
      have s1 : decide (n0 < m0) = false := decide_eq_false r1
      have s2 : (n0 == m0) = true := beq_iff_eq.2 r2
      have s3 : decide (n1 ≤ m1) = false := decide_eq_false r3
      have w4 : (n3 == 4) = true := beq_iff_eq.2 q4
      have w5 : (n1 != n2) = true := bne_iff_ne.2 q5
      clear HS NN G0 G1 G2 G3 q4 q5 MM r1 r2 r3
      go_wp2_with fail
      refine (L0.out _).mono ?_
      rintro e w1 ⟨rfl, rfl⟩
      go_wp2_with fail
      refine (l2Ts_is _ true L1.out _).mono ?_
      rintro e w1 ⟨rfl, rfl⟩
      go_wp2_with fail
      refine (l2Ts_is _ true L2.out _).mono ?_
      rintro e w1 ⟨rfl, rfl⟩
      go_wp2_with fail
      refine (l1In_is _ _ _ true L3.out _).mono ?_
      rintro e w1 ⟨rfl, rfl⟩
      go_wp2_with fail
      go_quiet (fail)
      go_wp2_with fail
      try go_quiet (fail)
      go_wp2
      go_ret
      exact ⟨by rw [E.out]; rfl, by first | exact hbw.alloc hbw.size _ | exact below_dr (hbw.alloc hbw.size _) _ | exact below_dr (below_dr (hbw.alloc hbw.size _) _) _⟩
    ·by_cases q5 : n1 ≤ n2
     ·have E : Hid (scan (writeF S.k) S.nw = 1) := by
       have : writeF S.k k = 1 := by
        unfold writeF
        rw [NN.out.1, NN.out.2.1, NN.out.2.2.1, NN.out.2.2.2]
        rw [if_neg (fun h => h G0.out)]
        have g1 := G1.out; have g2 := G2.out; have g3 := G3.out; rw [if_neg (by omega)]
        rw [MM.out.1, MM.out.2]
        rw [if_pos (Or.inr (fun q => by unfold fits at q; rw [NN.out.2.1, NN.out.2.2.1, NN.out.2.2.2] at q; omega))]
       exact (scan_stop HS.out (by rw [this]; decide) hlt).trans this
      have s1 : decide (n0 < m0) = false := decide_eq_false r1
      have s2 : (n0 == m0) = true := beq_iff_eq.2 r2
      have s3 : decide (n1 ≤ m1) = false := decide_eq_false r3
      have w4 : (n3 == 4) = false := beq_eq_false_iff_ne.2 q4
      have w6 : (n3 != 4) = true := bne_iff_ne.2 q4
      have w5 : decide (n1 ≤ n2) = true := decide_eq_true q5
      clear HS NN G0 G1 G2 G3 q4 q5 MM r1 r2 r3
      go_wp2_with fail
      refine (L0.out _).mono ?_
      rintro e w1 ⟨rfl, rfl⟩
      go_wp2_with fail
      refine (l2Ts_is _ true L1.out _).mono ?_
      rintro e w1 ⟨rfl, rfl⟩
      go_wp2_with fail
      refine (l2Ts_is _ true L2.out _).mono ?_
      rintro e w1 ⟨rfl, rfl⟩
      go_wp2_with fail
      refine (l1In_is _ _ _ true L3.out _).mono ?_
      rintro e w1 ⟨rfl, rfl⟩
      go_wp2_with fail
      go_quiet (fail)
      go_wp2_with fail
      try go_quiet (fail)
      go_wp2
      go_ret
      exact ⟨by rw [E.out]; rfl, by first | exact hbw.alloc hbw.size _ | exact below_dr (hbw.alloc hbw.size _) _ | exact below_dr (below_dr (hbw.alloc hbw.size _) _) _⟩
     ·have E : Hid (scan (writeF S.k) (k + 1) = 0) := by
       have : writeF S.k k = 0 := by
        unfold writeF
        rw [NN.out.1, NN.out.2.1, NN.out.2.2.1, NN.out.2.2.2]
        rw [if_neg (fun h => h G0.out)]
        have g1 := G1.out; have g2 := G2.out; have g3 := G3.out; rw [if_neg (by omega)]
        rw [MM.out.1, MM.out.2]
        have hft : fits S.k k := by unfold fits; rw [NN.out.2.1, NN.out.2.2.1, NN.out.2.2.2]; omega
        rw [if_neg (by rintro (h | h); exact absurd h (by omega); exact h hft)]
       exact scan_go HS.out this
      have s1 : decide (n0 < m0) = false := decide_eq_false r1
      have s2 : (n0 == m0) = true := beq_iff_eq.2 r2
      have s3 : decide (n1 ≤ m1) = false := decide_eq_false r3
      have w4 : (n3 == 4) = false := beq_eq_false_iff_ne.2 q4
      have w6 : (n3 != 4) = true := bne_iff_ne.2 q4
      have w5 : decide (n1 ≤ n2) = false := decide_eq_false q5
      clear HS NN G0 G1 G2 G3 q4 q5 MM r1 r2 r3
      go_wp2_with fail
      refine (L0.out _).mono ?_
      rintro e w1 ⟨rfl, rfl⟩
      go_wp2_with fail
      refine (l2Ts_is _ true L1.out _).mono ?_
      rintro e w1 ⟨rfl, rfl⟩
      go_wp2_with fail
      refine (l2Ts_is _ true L2.out _).mono ?_
      rintro e w1 ⟨rfl, rfl⟩
      go_wp2_with fail
      refine (l1In_is _ _ _ true L3.out _).mono ?_
      rintro e w1 ⟨rfl, rfl⟩
      go_wp2_with fail
      go_quiet (fail)
      go_wp2_with fail
      try go_quiet (fail)
      go_wp2
      go_roundw
      case rel => exact ⟨k + 1, by omega, by go_num, E, by first | exact hbw.alloc hbw.size _ | exact below_dr (hbw.alloc hbw.size _) _ | exact below_dr (below_dr (hbw.alloc hbw.size _) _) _⟩
      case measure => simp [intOf]; omega
  ·by_cases q4 : n3 = 4
   ·by_cases q5 : n1 = n2
    ·have E : Hid (scan (writeF S.k) (k + 1) = 0) := by
      have : writeF S.k k = 0 := by
       unfold writeF
       rw [NN.out.1, NN.out.2.1, NN.out.2.2.1, NN.out.2.2.2]
       rw [if_neg (fun h => h G0.out)]
       have g1 := G1.out; have g2 := G2.out; have g3 := G3.out; rw [if_neg (by omega)]
       rw [MM.out.1, MM.out.2]
       have hft : fits S.k k := by unfold fits; rw [NN.out.2.1, NN.out.2.2.1, NN.out.2.2.2]; omega
       rw [if_neg (by rintro (h | h); exact absurd h (by omega); exact h hft)]
      exact scan_go HS.out this
     have s1 : decide (n0 < m0) = false := decide_eq_false r1
     have s2 : (n0 == m0) = false := beq_eq_false_iff_ne.2 r2
     have w4 : (n3 == 4) = true := beq_iff_eq.2 q4
     have w6 : (n3 != 4) = false := by rw [q4]; rfl
     have w5 : (n1 != n2) = false := by rw [q5]; exact bne_self_eq_false _
     clear HS NN G0 G1 G2 G3 q4 q5 MM r1 r2
     go_wp2_with fail
     refine (L0.out _).mono ?_
     rintro e w1 ⟨rfl, rfl⟩
     go_wp2_with fail
     refine (l2Ts_is _ true L1.out _).mono ?_
     rintro e w1 ⟨rfl, rfl⟩
     go_wp2_with fail
     refine (l2Ts_is _ true L2.out _).mono ?_
     rintro e w1 ⟨rfl, rfl⟩
     go_wp2_with fail
     refine (l1In_is _ _ _ true L3.out _).mono ?_
     rintro e w1 ⟨rfl, rfl⟩
     go_wp2_with fail
     go_quiet (fail)
     go_wp2_with fail
     try go_quiet (fail)
     go_wp2
     go_roundw
     case rel => exact ⟨k + 1, by omega, by go_num, E, by first | exact hbw.alloc hbw.size _ | exact below_dr (hbw.alloc hbw.size _) _ | exact below_dr (below_dr (hbw.alloc hbw.size _) _) _⟩
     case measure => simp [intOf]; omega
    ·have E : Hid (scan (writeF S.k) S.nw = 1) := by
      have : writeF S.k k = 1 := by
       unfold writeF
       rw [NN.out.1, NN.out.2.1, NN.out.2.2.1, NN.out.2.2.2]
       rw [if_neg (fun h => h G0.out)]
       have g1 := G1.out; have g2 := G2.out; have g3 := G3.out; rw [if_neg (by omega)]
       rw [MM.out.1, MM.out.2]
       rw [if_pos (Or.inr (fun q => by unfold fits at q; rw [NN.out.2.1, NN.out.2.2.1, NN.out.2.2.2] at q; omega))]
      exact (scan_stop HS.out (by rw [this]; decide) hlt).trans this
     have s1 : decide (n0 < m0) = false := decide_eq_false r1
     have s2 : (n0 == m0) = false := beq_eq_false_iff_ne.2 r2
     have w4 : (n3 == 4) = true := beq_iff_eq.2 q4
     have w5 : (n1 != n2) = true := bne_iff_ne.2 q5
     clear HS NN G0 G1 G2 G3 q4 q5 MM r1 r2
     go_wp2_with fail
     refine (L0.out _).mono ?_
     rintro e w1 ⟨rfl, rfl⟩
     go_wp2_with fail
     refine (l2Ts_is _ true L1.out _).mono ?_
     rintro e w1 ⟨rfl, rfl⟩
     go_wp2_with fail
     refine (l2Ts_is _ true L2.out _).mono ?_
     rintro e w1 ⟨rfl, rfl⟩
     go_wp2_with fail
     refine (l1In_is _ _ _ true L3.out _).mono ?_
     rintro e w1 ⟨rfl, rfl⟩
     go_wp2_with fail
     go_quiet (fail)
     go_wp2_with fail
     try go_quiet (fail)
     go_wp2
     go_ret
     exact ⟨by rw [E.out]; rfl, by first | exact hbw.alloc hbw.size _ | exact below_dr (hbw.alloc hbw.size _) _ | exact below_dr (below_dr (hbw.alloc hbw.size _) _) _⟩
   ·by_cases q5 : n1 ≤ n2
    ·have E : Hid (scan (writeF S.k) S.nw = 1) := by
      have : writeF S.k k = 1 := by
       unfold writeF
       rw [NN.out.1, NN.out.2.1, NN.out.2.2.1, NN.out.2.2.2]
       rw [if_neg (fun h => h G0.out)]
       have g1 := G1.out; have g2 := G2.out; have g3 := G3.out; rw [if_neg (by omega)]
       rw [MM.out.1, MM.out.2]
       rw [if_pos (Or.inr (fun q => by unfold fits at q; rw [NN.out.2.1, NN.out.2.2.1, NN.out.2.2.2] at q; omega))]
      exact (scan_stop HS.out (by rw [this]; decide) hlt).trans this
     have s1 : decide (n0 < m0) = false := decide_eq_false r1
     have s2 : (n0 == m0) = false := beq_eq_false_iff_ne.2 r2
     have w4 : (n3 == 4) = false := beq_eq_false_iff_ne.2 q4
     have w6 : (n3 != 4) = true := bne_iff_ne.2 q4
     have w5 : decide (n1 ≤ n2) = true := decide_eq_true q5
     clear HS NN G0 G1 G2 G3 q4 q5 MM r1 r2
     go_wp2_with fail
     refine (L0.out _).mono ?_
     rintro e w1 ⟨rfl, rfl⟩
     go_wp2_with fail
     refine (l2Ts_is _ true L1.out _).mono ?_
     rintro e w1 ⟨rfl, rfl⟩
     go_wp2_with fail
     refine (l2Ts_is _ true L2.out _).mono ?_
     rintro e w1 ⟨rfl, rfl⟩
     go_wp2_with fail
     refine (l1In_is _ _ _ true L3.out _).mono ?_
     rintro e w1 ⟨rfl, rfl⟩
     go_wp2_with fail
     go_quiet (fail)
     go_wp2_with fail
     try go_quiet (fail)
     go_wp2
     go_ret
     exact ⟨by rw [E.out]; rfl, by first | exact hbw.alloc hbw.size _ | exact below_dr (hbw.alloc hbw.size _) _ | exact below_dr (below_dr (hbw.alloc hbw.size _) _) _⟩
    ·have E : Hid (scan (writeF S.k) (k + 1) = 0) := by
      have : writeF S.k k = 0 := by
       unfold writeF
       rw [NN.out.1, NN.out.2.1, NN.out.2.2.1, NN.out.2.2.2]
       rw [if_neg (fun h => h G0.out)]
       have g1 := G1.out; have g2 := G2.out; have g3 := G3.out; rw [if_neg (by omega)]
       rw [MM.out.1, MM.out.2]
       have hft : fits S.k k := by unfold fits; rw [NN.out.2.1, NN.out.2.2.1, NN.out.2.2.2]; omega
       rw [if_neg (by rintro (h | h); exact absurd h (by omega); exact h hft)]
      exact scan_go HS.out this
     have s1 : decide (n0 < m0) = false := decide_eq_false r1
     have s2 : (n0 == m0) = false := beq_eq_false_iff_ne.2 r2
     have w4 : (n3 == 4) = false := beq_eq_false_iff_ne.2 q4
     have w6 : (n3 != 4) = true := bne_iff_ne.2 q4
     have w5 : decide (n1 ≤ n2) = false := decide_eq_false q5
     clear HS NN G0 G1 G2 G3 q4 q5 MM r1 r2
     go_wp2_with fail
     refine (L0.out _).mono ?_
     rintro e w1 ⟨rfl, rfl⟩
     go_wp2_with fail
     refine (l2Ts_is _ true L1.out _).mono ?_
     rintro e w1 ⟨rfl, rfl⟩
     go_wp2_with fail
     refine (l2Ts_is _ true L2.out _).mono ?_
     rintro e w1 ⟨rfl, rfl⟩
     go_wp2_with fail
     refine (l1In_is _ _ _ true L3.out _).mono ?_
     rintro e w1 ⟨rfl, rfl⟩
     go_wp2_with fail
     go_quiet (fail)
     go_wp2_with fail
     try go_quiet (fail)
     go_wp2
     go_roundw
     case rel => exact ⟨k + 1, by omega, by go_num, E, by first | exact hbw.alloc hbw.size _ | exact below_dr (hbw.alloc hbw.size _) _ | exact below_dr (below_dr (hbw.alloc hbw.size _) _) _⟩
     case measure => simp [intOf]; omega
end Go.Proofs.YtiadbiiiikhfaaaGreatDoor

