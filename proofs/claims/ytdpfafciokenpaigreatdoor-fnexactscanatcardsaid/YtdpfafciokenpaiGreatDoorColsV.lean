/-
  Own text. The program's putsHaveCells and startsDiffer (stores whose cells, locks and writes have no fault of their own).
-/
import Derived.Test.YtdpfafciokenpaiGreatDoorColsU
namespace Go.Proofs.YtdpfafciokenpaiGreatDoor
open Go.RowKit Go.Maps

theorem lacks_is (kd x y : Int) (w : World) (Bc b n : Nat) (m : Int → Int → Option Int) (hc : w.cell? ⟨Bc, 0, none⟩ = some (.map (some b))) (h : PM w b n m) (hx : Wf x) (hy : Wf y) (r : Bool) (hr : r = true ↔ kd = 1 ∧ ¬ (m x y).isSome = true) :
    Calls Tryz.prog 129 #[.int .i64 kd, .int .i64 x, .int .i64 y, .pointer (some ⟨Bc, 0, none⟩)] w fun e w' => e = .returned (.bool r) ∧ Below w.heap.size w w' := by
  have hl := h.look hx hy
  obtain ⟨u, hu⟩ : ∃ u, (m x y).getD 0 = u := ⟨_, rfl⟩
  obtain ⟨s, hs⟩ : ∃ s, (m x y).isSome = s := ⟨_, rfl⟩
  rw [hs] at hr hl
  rw [hu] at hl
  clear hu hs h hx hy
  by_cases hk : kd = 1
  · subst hk
    have e : r = !s := by cases s <;> cases r <;> simp at hr <;> rfl
    subst e
    clear hr
    go_enter Tryz.func129, Tryz.ntmps129
    go_wp2
    go_ret
    exact ⟨rfl, Below.refl _ _⟩
  · have e : r = false := by cases r with
      | false => rfl
      | true => exact absurd (hr.1 rfl).1 hk
    subst e
    have d : (kd == 1) = false := beq_eq_false_iff_ne.2 hk
    clear hr hk
    go_enter Tryz.func129, Tryz.ntmps129
    go_wp2
    go_ret
    exact ⟨rfl, Below.refl _ _⟩
theorem all_next {p : Nat → Prop} {k : Nat} (h : ∀ j, j < k → p j) (q : p k) : ∀ j, j < k + 1 → p j := fun j hj => by
  rcases Nat.lt_or_ge j k with e | e
  · exact h j e
  · obtain rfl : j = k := by omega
    exact q
/-- What the loops of putsHaveCells stand on. -/
def PutsEnv (w : World) (S : Sto) (v0 v1 v2 : Value) (bc : Nat) (x : World) : Prop := Blk3 x w.heap.size v0 v1 v2 ∧ PM x (w.heap.size + 1) S.nc (cellM S S.nc) ∧ x.cell? ⟨bc, 0, none⟩ = some (.map (some (w.heap.size + 1))) ∧ Below w.heap.size w x
theorem PutsEnv.later {w x x' : World} {S : Sto} {v0 v1 v2 : Value} {bc : Nat} (h : PutsEnv w S v0 v1 v2 bc x) (hb : Below x.heap.size x x') : PutsEnv w S v0 v1 v2 bc x' :=
  ⟨h.1.later hb, h.2.1.later hb, (hb.cell (World.block_lt_of_cell? x _ h.2.2.1)).trans h.2.2.1, h.2.2.2.trans (hb.mono h.2.2.2.size)⟩
set_option maxRecDepth 100000 in
set_option maxHeartbeats 4000000 in
theorem putsHaveCells_any (S : Sto) (B : Nat) (v0 v1 v2 : Value) (r : Bool) (w : World) (h : St w B S v0 v1 v2) (hc : S.nc ≤ 200) (hl : S.nl ≤ 200) (hk : S.nw ≤ 200) (z0 : scan (cellF S.c) S.nc = 0) (z1 : scan (lockF S.l) S.nl = 0) (z2 : scan (writeF S.k) S.nw = 0) (hr : r = true ↔ needs S) :
    Calls Tryz.prog 110 #[.agg #[v0, v1, v2]] w fun e w' => e = .returned (.bool r) ∧ Below w.heap.size w w' := by
  obtain ⟨a0, c0, a1, c1, a2, c2, rfl, rfl, rfl⟩ := h.form
  have H : Hid (St w B S (.slice a0 S.nc c0) (.slice a1 S.nl c1) (.slice a2 S.nw c2)) := h
  have HR : Hid (r = true ↔ needs S) := hr
  have Z1 : Hid (∀ i, i < S.nl → lockF S.l i = 0) := scan_zero z1
  have Z2 : Hid (∀ i, i < S.nw → writeF S.k i = 0) := scan_zero z2
  have Z0 : Hid (scan (cellF S.c) S.nc = 0) := z0
  clear h hr z0 z1 z2
  go_enter Tryz.func110, Tryz.ntmps110
  go_wp2_with fail
  refine (cellsByPlace_any S _ B _ ((H.out.alloc _).1) hc Z0.out).mono ?_
  rintro e w1 ⟨rfl, HP, hb1⟩
  have hs1 : w.heap.size < w1.heap.size := Nat.lt_of_lt_of_le (by simp) hb1.size
  have hB : Below w.heap.size w w1 := (below_alloc _ _).trans (hb1.mono (by simp))
  have hB3 := (Blk3.new w (.slice a0 S.nc c0) (.slice a1 S.nl c1) (.slice a2 S.nw c2) 32).later hb1
  have y2 := hB3.1.2.2
  have hsz : (w.alloc (.cells #[.slice a0 S.nc c0, .slice a1 S.nl c1, .slice a2 S.nw c2] 32)).heap.size = w.heap.size + 1 := by simp
  rw [hsz] at HP hb1
  have HE : Hid (PutsEnv w S (.slice a0 S.nc c0) (.slice a1 S.nl c1) (.slice a2 S.nw c2) w1.heap.size (w1.alloc (.cells #[.map (some (w.heap.size + 1))] 116))) := ⟨hB3.alloc _, HP.alloc _, World.cell?_alloc_mark w1 _ _ _ 0, hB.alloc hB.size _⟩
  clear HP hb1 hB hB3 hsz
  go_wp2
  clear y2
  go_loopw [16] (fun i wr => ∃ k : Nat, k ≤ S.nw ∧ i = .int .i64 k ∧ Hid (∀ j, j < k → putW S j) ∧ Hid (PutsEnv w S (.slice a0 S.nc c0) (.slice a1 S.nl c1) (.slice a2 S.nw c2) w1.heap.size wr)) (fun i _ => S.nw - (intOf i).toNat)
  case atStart => exact ⟨0, Nat.zero_le _, rfl, fun j hj => absurd hj (Nat.not_lt_zero j), HE⟩
  case round =>
    clear HE
    obtain ⟨k, hk', rfl, HS, HE⟩ := hrel
    by_cases hlt : k < S.nw
    case neg =>
      have HW : Hid (∀ i, i < S.nw → putW S i) := fun i hi => HS.out i (by omega)
      have y1 := HE.out.1.1.2.1
      clear HS
      go_wp2
      clear y1 hk' hlt
      go_loopw [32] (fun i wr => ∃ k : Nat, k ≤ S.nl ∧ i = .int .i64 k ∧ Hid (∀ j, j < k → putL S j) ∧ Hid (PutsEnv w S (.slice a0 S.nc c0) (.slice a1 S.nl c1) (.slice a2 S.nw c2) w1.heap.size wr)) (fun i _ => S.nl - (intOf i).toNat)
      case atStart => exact ⟨0, Nat.zero_le _, rfl, fun j hj => absurd hj (Nat.not_lt_zero j), HE⟩
      case round =>
        clear HE
        obtain ⟨k, hk', rfl, HS, HE⟩ := hrel
        by_cases hlt : k < S.nl
        case neg =>
          have E : Hid (r = true) := HR.out.2 ⟨HW.out, fun i hi => HS.out i (by omega)⟩
          clear HS
          go_wp2
          go_ret
          exact ⟨by rw [E.out]; rfl, HE.out.2.2.2⟩
        obtain ⟨g, o, rfl, _, hg, x0, x1, x2, x3, x4⟩ := (H.out.2.1.later HE.out.2.2.2).at5 hlt
        obtain ⟨n0, N0⟩ : ∃ x, S.l (k * 5) = x := ⟨_, rfl⟩
        rw [N0] at x0
        obtain ⟨n1, N1⟩ : ∃ x, S.l (k * 5 + 1) = x := ⟨_, rfl⟩
        rw [N1] at x1
        obtain ⟨n2, N2⟩ : ∃ x, S.l (k * 5 + 2) = x := ⟨_, rfl⟩
        rw [N2] at x2
        obtain ⟨n3, N3⟩ : ∃ x, S.l (k * 5 + 3) = x := ⟨_, rfl⟩
        rw [N3] at x3
        obtain ⟨n4, N4⟩ : ∃ x, S.l (k * 5 + 4) = x := ⟨_, rfl⟩
        rw [N4] at x4
        have ZZ := lockF_zero (Z1.out k hlt)
        rw [N0, N1] at ZZ
        have hk2 := faultOf_zero ZZ.1
        have hw0 : Wf n0 := wf_small hk2.1 (by omega)
        have hw1 : Wf n1 := wf_small (by omega) (by omega)
        have hE2 := HE.out.later (below_alloc wr (.cells #[.int .i64 n0, .int .i64 n1, .int .i64 n2, .int .i64 n3, .int .i64 n4] 63))
        have PU : Hid (putL S k ↔ (n2 = 1 → hasCell S S.nc n0 n1)) := by
          unfold Hid putL
          rw [N2, N0, N1]
        clear N0 N1 N2 N3 N4 ZZ hk2
        by_cases hp : putL S k
        · have LC : Hid (Calls Tryz.prog 129 #[.int .i64 n2, .int .i64 n0, .int .i64 n1, .pointer (some ⟨w1.heap.size, 0, none⟩)] (wr.alloc (.cells #[.int .i64 n0, .int .i64 n1, .int .i64 n2, .int .i64 n3, .int .i64 n4] 63)) fun e w' => e = .returned (.bool false) ∧ Below (wr.alloc (.cells #[.int .i64 n0, .int .i64 n1, .int .i64 n2, .int .i64 n3, .int .i64 n4] 63)).heap.size (wr.alloc (.cells #[.int .i64 n0, .int .i64 n1, .int .i64 n2, .int .i64 n3, .int .i64 n4] 63)) w') :=
            lacks_is n2 n0 n1 _ w1.heap.size (w.heap.size + 1) S.nc (cellM S S.nc) hE2.2.2.1 hE2.2.1 hw0 hw1 false (by
              refine ⟨fun q => absurd q Bool.false_ne_true, fun ⟨q1, q2⟩ => absurd ((cellM_has S S.nc _ _).2 (PU.out.1 hp q1)) q2⟩)
          have E : Hid (∀ j, j < k + 1 → putL S j) := all_next HS.out hp
          have HE2 : Hid (PutsEnv w S (.slice a0 S.nc c0) (.slice (some ⟨g, o, none⟩) S.nl c1) (.slice a2 S.nw c2) w1.heap.size (wr.alloc (.cells #[.int .i64 n0, .int .i64 n1, .int .i64 n2, .int .i64 n3, .int .i64 n4] 63))) := hE2
          clear hE2 HS PU hp hw0 hw1
          go_wp2_with fail
          refine LC.out.mono ?_
          rintro e w3 ⟨rfl, q1⟩
          have HE3 : Hid (PutsEnv w S (.slice a0 S.nc c0) (.slice (some ⟨g, o, none⟩) S.nl c1) (.slice a2 S.nw c2) w1.heap.size w3) := HE2.out.later q1
          clear q1
          go_wp2
          go_roundw
          case rel => exact ⟨k + 1, by omega, by go_num, E, HE3⟩
          case measure => simp [intOf]; omega
        · have LC : Hid (Calls Tryz.prog 129 #[.int .i64 n2, .int .i64 n0, .int .i64 n1, .pointer (some ⟨w1.heap.size, 0, none⟩)] (wr.alloc (.cells #[.int .i64 n0, .int .i64 n1, .int .i64 n2, .int .i64 n3, .int .i64 n4] 63)) fun e w' => e = .returned (.bool true) ∧ Below (wr.alloc (.cells #[.int .i64 n0, .int .i64 n1, .int .i64 n2, .int .i64 n3, .int .i64 n4] 63)).heap.size (wr.alloc (.cells #[.int .i64 n0, .int .i64 n1, .int .i64 n2, .int .i64 n3, .int .i64 n4] 63)) w') :=
            lacks_is n2 n0 n1 _ w1.heap.size (w.heap.size + 1) S.nc (cellM S S.nc) hE2.2.2.1 hE2.2.1 hw0 hw1 true (by
              refine ⟨fun _ => ?_, fun _ => rfl⟩
              by_cases q1 : n2 = 1
              · exact ⟨q1, fun q2 => hp (PU.out.2 (fun _ => (cellM_has S S.nc _ _).1 q2))⟩
              · exact absurd (PU.out.2 (fun q => absurd q q1)) hp)
          have E : Hid (r = false) := by
            cases r with
            | false => rfl
            | true => exact absurd ((HR.out.1 rfl).2 k hlt) hp
          have HE2 : Hid (PutsEnv w S (.slice a0 S.nc c0) (.slice (some ⟨g, o, none⟩) S.nl c1) (.slice a2 S.nw c2) w1.heap.size (wr.alloc (.cells #[.int .i64 n0, .int .i64 n1, .int .i64 n2, .int .i64 n3, .int .i64 n4] 63))) := hE2
          clear hE2 HS PU hp hw0 hw1
          go_wp2_with fail
          refine LC.out.mono ?_
          rintro e w3 ⟨rfl, q1⟩
          have HE3 : Hid (PutsEnv w S (.slice a0 S.nc c0) (.slice (some ⟨g, o, none⟩) S.nl c1) (.slice a2 S.nw c2) w1.heap.size w3) := HE2.out.later q1
          clear q1
          go_wp2
          go_ret
          exact ⟨by rw [E.out]; rfl, HE3.out.2.2.2⟩
    obtain ⟨g, o, rfl, _, hg, x0, x1, x2, x3⟩ := (H.out.2.2.later HE.out.2.2.2).at4 hlt
    obtain ⟨n0, N0⟩ : ∃ x, S.k (k * 4) = x := ⟨_, rfl⟩
    rw [N0] at x0
    obtain ⟨n1, N1⟩ : ∃ x, S.k (k * 4 + 1) = x := ⟨_, rfl⟩
    rw [N1] at x1
    obtain ⟨n2, N2⟩ : ∃ x, S.k (k * 4 + 2) = x := ⟨_, rfl⟩
    rw [N2] at x2
    obtain ⟨n3, N3⟩ : ∃ x, S.k (k * 4 + 3) = x := ⟨_, rfl⟩
    rw [N3] at x3
    have ZZ := writeF_zero (Z2.out k hlt)
    rw [N0, N2] at ZZ
    have hk2 := faultOf_zero ZZ.1
    have hw0 : Wf n0 := wf_small hk2.1 (by omega)
    have hw1 : Wf n2 := wf_small (by omega) (by omega)
    have hE2 := HE.out.later (below_alloc wr (.cells #[.int .i64 n0, .int .i64 n1, .int .i64 n2, .int .i64 n3] 109))
    have PU : Hid (putW S k ↔ (n3 = 1 → hasCell S S.nc n0 n2)) := by
      unfold Hid putW
      rw [N3, N0, N2]
    clear N0 N1 N2 N3 ZZ hk2
    by_cases hp : putW S k
    · have LC : Hid (Calls Tryz.prog 129 #[.int .i64 n3, .int .i64 n0, .int .i64 n2, .pointer (some ⟨w1.heap.size, 0, none⟩)] (wr.alloc (.cells #[.int .i64 n0, .int .i64 n1, .int .i64 n2, .int .i64 n3] 109)) fun e w' => e = .returned (.bool false) ∧ Below (wr.alloc (.cells #[.int .i64 n0, .int .i64 n1, .int .i64 n2, .int .i64 n3] 109)).heap.size (wr.alloc (.cells #[.int .i64 n0, .int .i64 n1, .int .i64 n2, .int .i64 n3] 109)) w') :=
        lacks_is n3 n0 n2 _ w1.heap.size (w.heap.size + 1) S.nc (cellM S S.nc) hE2.2.2.1 hE2.2.1 hw0 hw1 false (by
          refine ⟨fun q => absurd q Bool.false_ne_true, fun ⟨q1, q2⟩ => absurd ((cellM_has S S.nc _ _).2 (PU.out.1 hp q1)) q2⟩)
      have E : Hid (∀ j, j < k + 1 → putW S j) := all_next HS.out hp
      have HE2 : Hid (PutsEnv w S (.slice a0 S.nc c0) (.slice a1 S.nl c1) (.slice (some ⟨g, o, none⟩) S.nw c2) w1.heap.size (wr.alloc (.cells #[.int .i64 n0, .int .i64 n1, .int .i64 n2, .int .i64 n3] 109))) := hE2
      clear hE2 HS PU hp hw0 hw1
      go_wp2_with fail
      refine LC.out.mono ?_
      rintro e w3 ⟨rfl, q1⟩
      have HE3 : Hid (PutsEnv w S (.slice a0 S.nc c0) (.slice a1 S.nl c1) (.slice (some ⟨g, o, none⟩) S.nw c2) w1.heap.size w3) := HE2.out.later q1
      clear q1
      go_wp2
      go_roundw
      case rel => exact ⟨k + 1, by omega, by go_num, E, HE3⟩
      case measure => simp [intOf]; omega
    · have LC : Hid (Calls Tryz.prog 129 #[.int .i64 n3, .int .i64 n0, .int .i64 n2, .pointer (some ⟨w1.heap.size, 0, none⟩)] (wr.alloc (.cells #[.int .i64 n0, .int .i64 n1, .int .i64 n2, .int .i64 n3] 109)) fun e w' => e = .returned (.bool true) ∧ Below (wr.alloc (.cells #[.int .i64 n0, .int .i64 n1, .int .i64 n2, .int .i64 n3] 109)).heap.size (wr.alloc (.cells #[.int .i64 n0, .int .i64 n1, .int .i64 n2, .int .i64 n3] 109)) w') :=
        lacks_is n3 n0 n2 _ w1.heap.size (w.heap.size + 1) S.nc (cellM S S.nc) hE2.2.2.1 hE2.2.1 hw0 hw1 true (by
          refine ⟨fun _ => ?_, fun _ => rfl⟩
          by_cases q1 : n3 = 1
          · exact ⟨q1, fun q2 => hp (PU.out.2 (fun _ => (cellM_has S S.nc _ _).1 q2))⟩
          · exact absurd (PU.out.2 (fun q => absurd q q1)) hp)
      have E : Hid (r = false) := by
        cases r with
        | false => rfl
        | true => exact absurd ((HR.out.1 rfl).1 k hlt) hp
      have HE2 : Hid (PutsEnv w S (.slice a0 S.nc c0) (.slice a1 S.nl c1) (.slice (some ⟨g, o, none⟩) S.nw c2) w1.heap.size (wr.alloc (.cells #[.int .i64 n0, .int .i64 n1, .int .i64 n2, .int .i64 n3] 109))) := hE2
      clear hE2 HS PU hp hw0 hw1
      go_wp2_with fail
      refine LC.out.mono ?_
      rintro e w3 ⟨rfl, q1⟩
      have HE3 : Hid (PutsEnv w S (.slice a0 S.nc c0) (.slice a1 S.nl c1) (.slice (some ⟨g, o, none⟩) S.nw c2) w1.heap.size w3) := HE2.out.later q1
      clear q1
      go_wp2
      go_ret
      exact ⟨by rw [E.out]; rfl, HE3.out.2.2.2⟩
end Go.Proofs.YtdpfafciokenpaiGreatDoor
