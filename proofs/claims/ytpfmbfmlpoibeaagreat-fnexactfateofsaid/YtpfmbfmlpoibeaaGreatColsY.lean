/-
  Own text. The program's StoreFault answers the plain function storeF of the store's numbers, whatever the store.
-/
import Derived.Test.YtpfmbfmlpoibeaaGreatColsQ
import Derived.Test.YtpfmbfmlpoibeaaGreatColsX
namespace Go.Proofs.YtpfmbfmlpoibeaaGreat
open Go.RowKit

theorem cellsFault_is (S : Sto) (v : Value) (B : Nat) (r : Int) (hr : scan (cellF S.c) S.nc = r) (w : World) (h : Row w B 3 S.nc S.c v) (hn : S.nc ≤ 200) :
    Calls Tryz.prog 81 #[v] w fun e w' => e = .returned (.int .i64 r) ∧ Below w.heap.size w w' :=
  (cellsFault_any S v B w h hn).mono fun e w' ⟨he, hw⟩ => ⟨by rw [he, hr], hw⟩
theorem locksFault_is (S : Sto) (v : Value) (B : Nat) (r : Int) (hr : scan (lockF S.l) S.nl = r) (w : World) (h : Row w B 5 S.nl S.l v) (hn : S.nl ≤ 200) :
    Calls Tryz.prog 82 #[v] w fun e w' => e = .returned (.int .i64 r) ∧ Below w.heap.size w w' :=
  (locksFault_any S v B w h hn).mono fun e w' ⟨he, hw⟩ => ⟨by rw [he, hr], hw⟩
theorem writesFault_is (S : Sto) (v : Value) (B : Nat) (r : Int) (hr : scan (writeF S.k) S.nw = r) (w : World) (h : Row w B 4 S.nw S.k v) (hn : S.nw ≤ 200) :
    Calls Tryz.prog 83 #[v] w fun e w' => e = .returned (.int .i64 r) ∧ Below w.heap.size w w' :=
  (writesFault_any S v B w h hn).mono fun e w' ⟨he, hw⟩ => ⟨by rw [he, hr], hw⟩
/-- What StoreFault stands on: its own copy of the store. -/
def BoxEnv (w : World) (B : Nat) (S : Sto) (v0 v1 v2 : Value) (x : World) : Prop := Blk3 x w.heap.size v0 v1 v2 ∧ St x B S v0 v1 v2 ∧ Below w.heap.size w x
theorem BoxEnv.later {w x x' : World} {B : Nat} {S : Sto} {v0 v1 v2 : Value} (h : BoxEnv w B S v0 v1 v2 x) (hb : Below x.heap.size x x') : BoxEnv w B S v0 v1 v2 x' :=
  ⟨h.1.later hb, h.2.1.later hb, h.2.2.trans (hb.mono h.2.2.size)⟩
set_option maxRecDepth 10000 in
set_option maxHeartbeats 4000000 in
theorem implFault_any (S : Sto) (v0 v1 v2 : Value) (B : Nat) (w : World) (h : St w B S v0 v1 v2) :
    Calls Tryz.prog 40 #[.agg #[v0, v1, v2]] w fun e w' => e = .returned (.int .i64 (storeF S)) ∧ Below w.heap.size w w' := by
  obtain ⟨a0, c0, a1, c1, a2, c2, rfl, rfl, rfl⟩ := h.form
  have HE : Hid (BoxEnv w B S (.slice a0 S.nc c0) (.slice a1 S.nl c1) (.slice a2 S.nw c2) (w.alloc (.cells #[.slice a0 S.nc c0, .slice a1 S.nl c1, .slice a2 S.nw c2] 37))) := ⟨Blk3.new w _ _ _ _, h.alloc _, below_alloc _ _⟩
  clear h
  by_cases m0 : 200 < S.nc
  · have E : Hid (storeF S = 2) := by unfold Hid storeF; rw [if_pos (Or.inl m0)]
    go_enter Tryz.func40, Tryz.ntmps40
    go_wp2_with fail
    go_wp2
    go_ret
    exact ⟨by rw [E.out]; rfl, HE.out.2.2⟩
  have m0' : decide ((200 : Int) < (S.nc : Int)) = false := decide_eq_false (by omega)
  by_cases m1 : 200 < S.nl
  · have E : Hid (storeF S = 2) := by unfold Hid storeF; rw [if_pos (Or.inr (Or.inl m1))]
    clear m0
    go_enter Tryz.func40, Tryz.ntmps40
    go_wp2_with fail
    go_wp2
    go_ret
    exact ⟨by rw [E.out]; rfl, HE.out.2.2⟩
  have m1' : decide ((200 : Int) < (S.nl : Int)) = false := decide_eq_false (by omega)
  by_cases m2 : 200 < S.nw
  · have E : Hid (storeF S = 2) := by unfold Hid storeF; rw [if_pos (Or.inr (Or.inr m2))]
    clear m0 m1
    go_enter Tryz.func40, Tryz.ntmps40
    go_wp2_with fail
    go_wp2
    go_ret
    exact ⟨by rw [E.out]; rfl, HE.out.2.2⟩
  have m2' : decide ((200 : Int) < (S.nw : Int)) = false := decide_eq_false (by omega)
  have HM : Hid (¬ (200 < S.nc ∨ 200 < S.nl ∨ 200 < S.nw)) := by unfold Hid; omega
  have hc : Hid (S.nc ≤ 200 ∧ S.nl ≤ 200 ∧ S.nw ≤ 200) := ⟨by omega, by omega, by omega⟩
  clear m0 m1 m2
  by_cases z0 : scan (cellF S.c) S.nc = 0
  case neg =>
    obtain ⟨f, hf⟩ : ∃ f, scan (cellF S.c) S.nc = f := ⟨_, rfl⟩
    have E : Hid (storeF S = f) := by unfold Hid storeF; rw [if_neg HM.out, if_pos z0]; exact hf
    have hfn : (f == 0) = false := beq_eq_false_iff_ne.2 (by rw [← hf]; exact z0)
    have F0 : Hid (scan (cellF S.c) S.nc = f) := hf
    clear hf z0
    go_enter Tryz.func40, Tryz.ntmps40
    go_wp2_with fail
    refine (cellsFault_is S _ B f F0.out _ HE.out.2.1.1 hc.out.1).mono ?_
    rintro e w1 ⟨rfl, q1⟩
    have HE : Hid (BoxEnv w B S (.slice a0 S.nc c0) (.slice a1 S.nl c1) (.slice a2 S.nw c2) w1) := HE.out.later q1
    have p0 := HE.out.1.1.1
    have p1 := HE.out.1.1.2.1
    have p2 := HE.out.1.1.2.2
    clear q1
    go_wp2_with fail
    go_wp2
    go_ret
    exact ⟨by rw [E.out]; rfl, HE.out.2.2⟩
  have F0 : Hid (scan (cellF S.c) S.nc = 0) := z0
  have G0 : Hid (¬ scan (cellF S.c) S.nc ≠ 0) := fun h => h z0
  clear z0
  by_cases z0 : scan (lockF S.l) S.nl = 0
  case neg =>
    obtain ⟨f, hf⟩ : ∃ f, scan (lockF S.l) S.nl = f := ⟨_, rfl⟩
    have E : Hid (storeF S = f) := by unfold Hid storeF; rw [if_neg HM.out, if_neg G0.out, if_pos z0]; exact hf
    have hfn : (f == 0) = false := beq_eq_false_iff_ne.2 (by rw [← hf]; exact z0)
    have F1 : Hid (scan (lockF S.l) S.nl = f) := hf
    clear hf z0
    go_enter Tryz.func40, Tryz.ntmps40
    go_wp2_with fail
    refine (cellsFault_is S _ B 0 F0.out _ HE.out.2.1.1 hc.out.1).mono ?_
    rintro e w1 ⟨rfl, q1⟩
    have HE : Hid (BoxEnv w B S (.slice a0 S.nc c0) (.slice a1 S.nl c1) (.slice a2 S.nw c2) w1) := HE.out.later q1
    have p0 := HE.out.1.1.1
    have p1 := HE.out.1.1.2.1
    have p2 := HE.out.1.1.2.2
    clear q1
    go_wp2_with fail
    refine (locksFault_is S _ B f F1.out _ HE.out.2.1.2.1 hc.out.2.1).mono ?_
    rintro e w1 ⟨rfl, q1⟩
    have HE : Hid (BoxEnv w B S (.slice a0 S.nc c0) (.slice a1 S.nl c1) (.slice a2 S.nw c2) w1) := HE.out.later q1
    have p0 := HE.out.1.1.1
    have p1 := HE.out.1.1.2.1
    have p2 := HE.out.1.1.2.2
    clear q1
    go_wp2_with fail
    go_wp2
    go_ret
    exact ⟨by rw [E.out]; rfl, HE.out.2.2⟩
  have F1 : Hid (scan (lockF S.l) S.nl = 0) := z0
  have G1 : Hid (¬ scan (lockF S.l) S.nl ≠ 0) := fun h => h z0
  clear z0
  by_cases z0 : scan (writeF S.k) S.nw = 0
  case neg =>
    obtain ⟨f, hf⟩ : ∃ f, scan (writeF S.k) S.nw = f := ⟨_, rfl⟩
    have E : Hid (storeF S = f) := by unfold Hid storeF; rw [if_neg HM.out, if_neg G0.out, if_neg G1.out, if_pos z0]; exact hf
    have hfn : (f == 0) = false := beq_eq_false_iff_ne.2 (by rw [← hf]; exact z0)
    have F2 : Hid (scan (writeF S.k) S.nw = f) := hf
    clear hf z0
    go_enter Tryz.func40, Tryz.ntmps40
    go_wp2_with fail
    refine (cellsFault_is S _ B 0 F0.out _ HE.out.2.1.1 hc.out.1).mono ?_
    rintro e w1 ⟨rfl, q1⟩
    have HE : Hid (BoxEnv w B S (.slice a0 S.nc c0) (.slice a1 S.nl c1) (.slice a2 S.nw c2) w1) := HE.out.later q1
    have p0 := HE.out.1.1.1
    have p1 := HE.out.1.1.2.1
    have p2 := HE.out.1.1.2.2
    clear q1
    go_wp2_with fail
    refine (locksFault_is S _ B 0 F1.out _ HE.out.2.1.2.1 hc.out.2.1).mono ?_
    rintro e w1 ⟨rfl, q1⟩
    have HE : Hid (BoxEnv w B S (.slice a0 S.nc c0) (.slice a1 S.nl c1) (.slice a2 S.nw c2) w1) := HE.out.later q1
    have p0 := HE.out.1.1.1
    have p1 := HE.out.1.1.2.1
    have p2 := HE.out.1.1.2.2
    clear q1
    go_wp2_with fail
    refine (writesFault_is S _ B f F2.out _ HE.out.2.1.2.2 hc.out.2.2).mono ?_
    rintro e w1 ⟨rfl, q1⟩
    have HE : Hid (BoxEnv w B S (.slice a0 S.nc c0) (.slice a1 S.nl c1) (.slice a2 S.nw c2) w1) := HE.out.later q1
    have p0 := HE.out.1.1.1
    have p1 := HE.out.1.1.2.1
    have p2 := HE.out.1.1.2.2
    clear q1
    go_wp2_with fail
    go_wp2
    go_ret
    exact ⟨by rw [E.out]; rfl, HE.out.2.2⟩
  have F2 : Hid (scan (writeF S.k) S.nw = 0) := z0
  have G2 : Hid (¬ scan (writeF S.k) S.nw ≠ 0) := fun h => h z0
  clear z0
  by_cases y0 : needs S
  case neg =>
    have E : Hid (storeF S = 4) := by unfold Hid storeF; rw [if_neg HM.out, if_neg G0.out, if_neg G1.out, if_neg G2.out, if_pos y0]
    have Y : Hid (false = true ↔ needs S) := ⟨fun h => absurd h (by decide), fun h => absurd h y0⟩
    clear y0
    go_enter Tryz.func40, Tryz.ntmps40
    go_wp2_with fail
    refine (cellsFault_is S _ B 0 F0.out _ HE.out.2.1.1 hc.out.1).mono ?_
    rintro e w1 ⟨rfl, q1⟩
    have HE : Hid (BoxEnv w B S (.slice a0 S.nc c0) (.slice a1 S.nl c1) (.slice a2 S.nw c2) w1) := HE.out.later q1
    have p0 := HE.out.1.1.1
    have p1 := HE.out.1.1.2.1
    have p2 := HE.out.1.1.2.2
    clear q1
    go_wp2_with fail
    refine (locksFault_is S _ B 0 F1.out _ HE.out.2.1.2.1 hc.out.2.1).mono ?_
    rintro e w1 ⟨rfl, q1⟩
    have HE : Hid (BoxEnv w B S (.slice a0 S.nc c0) (.slice a1 S.nl c1) (.slice a2 S.nw c2) w1) := HE.out.later q1
    have p0 := HE.out.1.1.1
    have p1 := HE.out.1.1.2.1
    have p2 := HE.out.1.1.2.2
    clear q1
    go_wp2_with fail
    refine (writesFault_is S _ B 0 F2.out _ HE.out.2.1.2.2 hc.out.2.2).mono ?_
    rintro e w1 ⟨rfl, q1⟩
    have HE : Hid (BoxEnv w B S (.slice a0 S.nc c0) (.slice a1 S.nl c1) (.slice a2 S.nw c2) w1) := HE.out.later q1
    have p0 := HE.out.1.1.1
    have p1 := HE.out.1.1.2.1
    have p2 := HE.out.1.1.2.2
    clear q1
    go_wp2_with fail
    refine (putsHaveCells_any S B _ _ _ false _ HE.out.2.1 hc.out.1 hc.out.2.1 hc.out.2.2 F0.out F1.out F2.out Y.out).mono ?_
    rintro e w1 ⟨rfl, q1⟩
    have HE : Hid (BoxEnv w B S (.slice a0 S.nc c0) (.slice a1 S.nl c1) (.slice a2 S.nw c2) w1) := HE.out.later q1
    have p0 := HE.out.1.1.1
    have p1 := HE.out.1.1.2.1
    have p2 := HE.out.1.1.2.2
    clear q1
    go_wp2_with fail
    go_wp2
    go_ret
    exact ⟨by rw [E.out]; rfl, HE.out.2.2⟩
  have Y : Hid (needs S) := y0
  have G3 : Hid (¬ ¬ needs S) := fun h => h y0
  clear y0
  by_cases y0 : once S
  case neg =>
    have E : Hid (storeF S = 6) := by unfold Hid storeF; rw [if_neg HM.out, if_neg G0.out, if_neg G1.out, if_neg G2.out, if_neg G3.out, if_pos y0]
    have Z : Hid (false = true ↔ once S) := ⟨fun h => absurd h (by decide), fun h => absurd h y0⟩
    clear y0
    go_enter Tryz.func40, Tryz.ntmps40
    go_wp2_with fail
    refine (cellsFault_is S _ B 0 F0.out _ HE.out.2.1.1 hc.out.1).mono ?_
    rintro e w1 ⟨rfl, q1⟩
    have HE : Hid (BoxEnv w B S (.slice a0 S.nc c0) (.slice a1 S.nl c1) (.slice a2 S.nw c2) w1) := HE.out.later q1
    have p0 := HE.out.1.1.1
    have p1 := HE.out.1.1.2.1
    have p2 := HE.out.1.1.2.2
    clear q1
    go_wp2_with fail
    refine (locksFault_is S _ B 0 F1.out _ HE.out.2.1.2.1 hc.out.2.1).mono ?_
    rintro e w1 ⟨rfl, q1⟩
    have HE : Hid (BoxEnv w B S (.slice a0 S.nc c0) (.slice a1 S.nl c1) (.slice a2 S.nw c2) w1) := HE.out.later q1
    have p0 := HE.out.1.1.1
    have p1 := HE.out.1.1.2.1
    have p2 := HE.out.1.1.2.2
    clear q1
    go_wp2_with fail
    refine (writesFault_is S _ B 0 F2.out _ HE.out.2.1.2.2 hc.out.2.2).mono ?_
    rintro e w1 ⟨rfl, q1⟩
    have HE : Hid (BoxEnv w B S (.slice a0 S.nc c0) (.slice a1 S.nl c1) (.slice a2 S.nw c2) w1) := HE.out.later q1
    have p0 := HE.out.1.1.1
    have p1 := HE.out.1.1.2.1
    have p2 := HE.out.1.1.2.2
    clear q1
    go_wp2_with fail
    refine (putsHaveCells_any S B _ _ _ true _ HE.out.2.1 hc.out.1 hc.out.2.1 hc.out.2.2 F0.out F1.out F2.out ⟨fun _ => Y.out, fun _ => rfl⟩).mono ?_
    rintro e w1 ⟨rfl, q1⟩
    have HE : Hid (BoxEnv w B S (.slice a0 S.nc c0) (.slice a1 S.nl c1) (.slice a2 S.nw c2) w1) := HE.out.later q1
    have p0 := HE.out.1.1.1
    have p1 := HE.out.1.1.2.1
    have p2 := HE.out.1.1.2.2
    clear q1
    go_wp2_with fail
    refine (startsDiffer_any S B _ _ _ false _ HE.out.2.1 hc.out.2.1 hc.out.2.2 F1.out F2.out Z.out).mono ?_
    rintro e w1 ⟨rfl, q1⟩
    have HE : Hid (BoxEnv w B S (.slice a0 S.nc c0) (.slice a1 S.nl c1) (.slice a2 S.nw c2) w1) := HE.out.later q1
    have p0 := HE.out.1.1.1
    have p1 := HE.out.1.1.2.1
    have p2 := HE.out.1.1.2.2
    clear q1
    go_wp2_with fail
    go_wp2
    go_ret
    exact ⟨by rw [E.out]; rfl, HE.out.2.2⟩
  have E : Hid (storeF S = 0) := by unfold Hid storeF; rw [if_neg HM.out, if_neg G0.out, if_neg G1.out, if_neg G2.out, if_neg G3.out, if_neg (fun h => h y0)]
  have Z : Hid (once S) := y0
  clear y0
  go_enter Tryz.func40, Tryz.ntmps40
  go_wp2_with fail
  refine (cellsFault_is S _ B 0 F0.out _ HE.out.2.1.1 hc.out.1).mono ?_
  rintro e w1 ⟨rfl, q1⟩
  have HE : Hid (BoxEnv w B S (.slice a0 S.nc c0) (.slice a1 S.nl c1) (.slice a2 S.nw c2) w1) := HE.out.later q1
  have p0 := HE.out.1.1.1
  have p1 := HE.out.1.1.2.1
  have p2 := HE.out.1.1.2.2
  clear q1
  go_wp2_with fail
  refine (locksFault_is S _ B 0 F1.out _ HE.out.2.1.2.1 hc.out.2.1).mono ?_
  rintro e w1 ⟨rfl, q1⟩
  have HE : Hid (BoxEnv w B S (.slice a0 S.nc c0) (.slice a1 S.nl c1) (.slice a2 S.nw c2) w1) := HE.out.later q1
  have p0 := HE.out.1.1.1
  have p1 := HE.out.1.1.2.1
  have p2 := HE.out.1.1.2.2
  clear q1
  go_wp2_with fail
  refine (writesFault_is S _ B 0 F2.out _ HE.out.2.1.2.2 hc.out.2.2).mono ?_
  rintro e w1 ⟨rfl, q1⟩
  have HE : Hid (BoxEnv w B S (.slice a0 S.nc c0) (.slice a1 S.nl c1) (.slice a2 S.nw c2) w1) := HE.out.later q1
  have p0 := HE.out.1.1.1
  have p1 := HE.out.1.1.2.1
  have p2 := HE.out.1.1.2.2
  clear q1
  go_wp2_with fail
  refine (putsHaveCells_any S B _ _ _ true _ HE.out.2.1 hc.out.1 hc.out.2.1 hc.out.2.2 F0.out F1.out F2.out ⟨fun _ => Y.out, fun _ => rfl⟩).mono ?_
  rintro e w1 ⟨rfl, q1⟩
  have HE : Hid (BoxEnv w B S (.slice a0 S.nc c0) (.slice a1 S.nl c1) (.slice a2 S.nw c2) w1) := HE.out.later q1
  have p0 := HE.out.1.1.1
  have p1 := HE.out.1.1.2.1
  have p2 := HE.out.1.1.2.2
  clear q1
  go_wp2_with fail
  refine (startsDiffer_any S B _ _ _ true _ HE.out.2.1 hc.out.2.1 hc.out.2.2 F1.out F2.out ⟨fun _ => Z.out, fun _ => rfl⟩).mono ?_
  rintro e w1 ⟨rfl, q1⟩
  have HE : Hid (BoxEnv w B S (.slice a0 S.nc c0) (.slice a1 S.nl c1) (.slice a2 S.nw c2) w1) := HE.out.later q1
  have p0 := HE.out.1.1.1
  have p1 := HE.out.1.1.2.1
  have p2 := HE.out.1.1.2.2
  clear q1
  go_wp2_with fail
  go_wp2
  go_ret
  exact ⟨by rw [E.out]; rfl, HE.out.2.2⟩
end Go.Proofs.YtpfmbfmlpoibeaaGreat
