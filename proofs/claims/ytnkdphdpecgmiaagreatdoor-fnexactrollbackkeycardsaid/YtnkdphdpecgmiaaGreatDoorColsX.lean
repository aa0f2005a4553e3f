/-
  Own text. The program's startsDiffer (stores whose locks and writes have no fault of their own).
-/
import Derived.Test.YtnkdphdpecgmiaaGreatDoorColsV
namespace Go.Proofs.YtnkdphdpecgmiaaGreatDoor
open Go.RowKit Go.Maps

/-- What the loops of startsDiffer stand on. -/
def StartEnv (w : World) (S : Sto) (v0 v1 v2 : Value) (k : Nat) (x : World) : Prop := Blk3 x w.heap.size v0 v1 v2 ∧ PM x (w.heap.size + 1) k (writeM S k) ∧ Below w.heap.size w x
theorem StartEnv.later {w x x' : World} {S : Sto} {v0 v1 v2 : Value} {k : Nat} (h : StartEnv w S v0 v1 v2 k x) (hb : Below x.heap.size x x') : StartEnv w S v0 v1 v2 k x' :=
  ⟨h.1.later hb, h.2.1.later hb, h.2.2.trans (hb.mono h.2.2.size)⟩
set_option maxRecDepth 100000 in
set_option maxHeartbeats 4000000 in
theorem startsDiffer_any (S : Sto) (B : Nat) (v0 v1 v2 : Value) (r : Bool) (w : World) (h : St w B S v0 v1 v2) (hl : S.nl ≤ 200) (hk : S.nw ≤ 200) (z1 : scan (lockF S.l) S.nl = 0) (z2 : scan (writeF S.k) S.nw = 0) (hr : r = true ↔ once S) :
    Calls Tryz.prog 98 #[.agg #[v0, v1, v2]] w fun e w' => e = .returned (.bool r) ∧ Below w.heap.size w w' := by
  obtain ⟨a0, c0, a1, c1, a2, c2, rfl, rfl, rfl⟩ := h.form
  have H : Hid (St w B S (.slice a0 S.nc c0) (.slice a1 S.nl c1) (.slice a2 S.nw c2)) := h
  have HR : Hid (r = true ↔ once S) := hr
  have Z1 : Hid (∀ i, i < S.nl → lockF S.l i = 0) := scan_zero z1
  have Z2 : Hid (∀ i, i < S.nw → writeF S.k i = 0) := scan_zero z2
  clear h hr z1 z2
  have hmm := run_makeMap_i64
  have HE : Hid (StartEnv w S (.slice a0 S.nc c0) (.slice a1 S.nl c1) (.slice a2 S.nw c2) 0 ((w.alloc (.cells #[.slice a0 S.nc c0, .slice a1 S.nl c1, .slice a2 S.nw c2] 32)).alloc (.map #[] 0))) := by
    have hP := PM.made (w.alloc (.cells #[.slice a0 S.nc c0, .slice a1 S.nl c1, .slice a2 S.nw c2] 32))
    rw [show (w.alloc (.cells #[.slice a0 S.nc c0, .slice a1 S.nl c1, .slice a2 S.nw c2] 32)).heap.size = w.heap.size + 1 from by simp] at hP
    exact ⟨(Blk3.new w _ _ _ _).alloc _, hP, (below_alloc _ _).alloc (by simp) _⟩
  go_enter Tryz.func98, Tryz.ntmps98
  go_wp2
  go_loopw [20] (fun i wr => ∃ k : Nat, k ≤ S.nw ∧ i = .int .i64 k ∧ Hid (∀ j, j < k → onceW S j) ∧ Hid (StartEnv w S (.slice a0 S.nc c0) (.slice a1 S.nl c1) (.slice a2 S.nw c2) k wr)) (fun i _ => S.nw - (intOf i).toNat)
  case atStart => exact ⟨0, Nat.zero_le _, rfl, fun j hj => absurd hj (Nat.not_lt_zero j), HE⟩
  case round =>
    clear HE
    obtain ⟨k, hk', rfl, HS, HE⟩ := hrel
    by_cases hlt : k < S.nw
    case neg =>
      obtain rfl : k = S.nw := by omega
      have HW : Hid (∀ i, i < S.nw → onceW S i) := HS
      have y1 := HE.out.1.1.2.1
      clear HS
      go_wp2
      clear y1 hk' hlt
      go_loopw [44] (fun i wr => ∃ k : Nat, k ≤ S.nl ∧ i = .int .i64 k ∧ Hid (∀ j, j < k → onceL S j) ∧ Hid (StartEnv w S (.slice a0 S.nc c0) (.slice a1 S.nl c1) (.slice a2 S.nw c2) S.nw wr)) (fun i _ => S.nl - (intOf i).toNat)
      case atStart => exact ⟨0, Nat.zero_le _, rfl, fun j hj => absurd hj (Nat.not_lt_zero j), HE⟩
      case round =>
        clear HE
        obtain ⟨k, hk', rfl, HS, HE⟩ := hrel
        by_cases hlt : k < S.nl
        case neg =>
          have E : Hid (r = true) := HR.out.2 ⟨HW.out, fun i hi => HS.out i (by omega)⟩
          clear HS
          go_wp2
          go_ret
          exact ⟨by rw [E.out]; rfl, HE.out.2.2⟩
        obtain ⟨g, o, rfl, _, hg, x0, x1, x2, x3, x4⟩ := (H.out.2.1.later HE.out.2.2).at5 hlt
        obtain ⟨n0, N0⟩ : ∃ x, S.l (k * 5) = x := ⟨_, rfl⟩
        rw [N0] at x0
        obtain ⟨n1, N1⟩ : ∃ x, S.l (k * 5 + 1) = x := ⟨_, rfl⟩
        rw [N1] at x1
        obtain ⟨n2, N2⟩ : ∃ x, S.l (k * 5 + 2) = x := ⟨_, rfl⟩
        rw [N2] at x2
        obtain ⟨n3, N3⟩ : ∃ x, S.l (k * 5 + 3) = x := ⟨_, rfl⟩
        rw [N3] at x3
        obtain ⟨n4, N4⟩ : ∃ x, S.l (k * 5 + 4) = x := ⟨_, rfl⟩
        rw [N4] at x4
        have ZZ := lockF_zero (Z1.out k hlt)
        rw [N0, N1] at ZZ
        have hk2 := faultOf_zero ZZ.1
        have hw0 : Wf n0 := wf_small hk2.1 (by omega)
        have hw1 : Wf n1 := wf_small (by omega) (by omega)
        have hE2 : StartEnv w S (.slice a0 S.nc c0) (.slice (some ⟨g, o, none⟩) S.nl c1) (.slice a2 S.nw c2) S.nw (wr.alloc (.cells #[.int .i64 n0, .int .i64 n1, .int .i64 n2, .int .i64 n3, .int .i64 n4] 57)) := HE.out.later (below_alloc wr _)
        have PU : Hid (onceL S k ↔ ¬ hasWrite S S.nw n0 n1) := by
          unfold Hid onceL
          rw [N0, N1]
        clear N0 N1 N2 N3 N4 ZZ hk2
        have hlk := hE2.2.1.look hw0 hw1
        obtain ⟨u, hu⟩ : ∃ u, (writeM S S.nw n0 n1).getD 0 = u := ⟨_, rfl⟩
        rw [hu] at hlk
        clear hu
        by_cases hp : onceL S k
        · have hs : (writeM S S.nw n0 n1).isSome = false := by
            cases hq : (writeM S S.nw n0 n1).isSome with
            | false => rfl
            | true => exact absurd ((writeM_has S _ _ _).1 hq) (PU.out.1 hp)
          rw [hs] at hlk
          clear hs
          have E : Hid (∀ j, j < k + 1 → onceL S j) := all_next HS.out hp
          have HE2 : Hid (StartEnv w S (.slice a0 S.nc c0) (.slice (some ⟨g, o, none⟩) S.nl c1) (.slice a2 S.nw c2) S.nw (wr.alloc (.cells #[.int .i64 n0, .int .i64 n1, .int .i64 n2, .int .i64 n3, .int .i64 n4] 57))) := hE2
          clear hE2 HS PU hp hw0 hw1
          go_wp2
          go_roundw
          case rel => exact ⟨k + 1, by omega, by go_num, E, HE2⟩
          case measure => simp [intOf]; omega
        · have hs : (writeM S S.nw n0 n1).isSome = true := by
            refine (writeM_has S _ _ _).2 (Classical.byContradiction fun q => hp (PU.out.2 q))
          rw [hs] at hlk
          clear hs
          have E : Hid (r = false) := by
            cases r with
            | false => rfl
            | true => exact absurd ((HR.out.1 rfl).2 k hlt) hp
          have HE2 : Hid (StartEnv w S (.slice a0 S.nc c0) (.slice (some ⟨g, o, none⟩) S.nl c1) (.slice a2 S.nw c2) S.nw (wr.alloc (.cells #[.int .i64 n0, .int .i64 n1, .int .i64 n2, .int .i64 n3, .int .i64 n4] 57))) := hE2
          clear hE2 HS PU hp hw0 hw1
          go_wp2
          go_ret
          exact ⟨by rw [E.out]; rfl, HE2.out.2.2⟩
    obtain ⟨g, o, rfl, _, hg, x0, x1, x2, x3⟩ := (H.out.2.2.later HE.out.2.2).at4 hlt
    obtain ⟨n0, N0⟩ : ∃ x, S.k (k * 4) = x := ⟨_, rfl⟩
    rw [N0] at x0
    obtain ⟨n1, N1⟩ : ∃ x, S.k (k * 4 + 1) = x := ⟨_, rfl⟩
    rw [N1] at x1
    obtain ⟨n2, N2⟩ : ∃ x, S.k (k * 4 + 2) = x := ⟨_, rfl⟩
    rw [N2] at x2
    obtain ⟨n3, N3⟩ : ∃ x, S.k (k * 4 + 3) = x := ⟨_, rfl⟩
    rw [N3] at x3
    have ZZ := writeF_zero (Z2.out k hlt)
    rw [N0, N2, N3] at ZZ
    have hk2 := faultOf_zero ZZ.1
    have hw0 : Wf n0 := wf_small hk2.1 (by omega)
    have hw1 : Wf n2 := wf_small (by omega) (by omega)
    have hw2 : Wf n3 := wf_small (by omega) (by omega)
    have hE2 : StartEnv w S (.slice a0 S.nc c0) (.slice a1 S.nl c1) (.slice (some ⟨g, o, none⟩) S.nw c2) k ((wr.alloc (.cells #[.int .i64 n0, .int .i64 n1, .int .i64 n2, .int .i64 n3] 92)).alloc (.cells #[.int .i64 n0, .int .i64 n2] 120)) := (HE.out.later (below_alloc wr _)).later (below_alloc _ _)
    have PU : Hid (onceW S k ↔ ¬ hasWrite S k n0 n2) := by
      unfold Hid onceW
      rw [N0, N2]
    have NN : Hid (S.k (k * 4) = n0 ∧ S.k (k * 4 + 2) = n2 ∧ S.k (k * 4 + 3) = n3) := ⟨N0, N2, N3⟩
    clear N0 N1 N2 N3 ZZ hk2
    have hlk := hE2.2.1.look hw0 hw1
    obtain ⟨u, hu⟩ : ∃ u, (writeM S k n0 n2).getD 0 = u := ⟨_, rfl⟩
    rw [hu] at hlk
    clear hu
    by_cases hp : onceW S k
    · have hs : (writeM S k n0 n2).isSome = false := by
        cases hq : (writeM S k n0 n2).isSome with
        | false => rfl
        | true => exact absurd ((writeM_has S _ _ _).1 hq) (PU.out.1 hp)
      rw [hs] at hlk
      clear hs
      have E : Hid (∀ j, j < k + 1 → onceW S j) := all_next HS.out hp
      have hP := hE2.2.1
      have hB2 := hE2.2.2
      have HB3 : Hid (Blk3 ((wr.alloc (.cells #[.int .i64 n0, .int .i64 n1, .int .i64 n2, .int .i64 n3] 92)).alloc (.cells #[.int .i64 n0, .int .i64 n2] 120)) w.heap.size (.slice a0 S.nc c0) (.slice a1 S.nl c1) (.slice (some ⟨g, o, none⟩) S.nw c2)) := hE2.1
      have hsz : w.heap.size < ((wr.alloc (.cells #[.int .i64 n0, .int .i64 n1, .int .i64 n2, .int .i64 n3] 92)).alloc (.cells #[.int .i64 n0, .int .i64 n2] 120)).heap.size := hE2.1.lt
      clear hE2 HS PU hp
      go_wp2_with (first | (at_mapUpdate; refine wpList_put _ rfl _ _ _ rfl (w.heap.size + 1) k _ rfl hP (small_maxLen (Nat.le_trans hk' hk)) n0 n2 n3 rfl rfl hw0 hw1 hw2 ?_; intro w4 hP4 hg4) | go_in)
      go_roundw
      case rel => exact ⟨k + 1, by omega, by go_num, E, ⟨HB3.out.kept (hg4.block _ hsz (by simp)), by rw [← NN.out.1, ← NN.out.2.1, ← NN.out.2.2] at hP4; exact hP4, below_grown hB2 (Nat.le_of_lt hsz) (Nat.le_succ _) hg4⟩⟩
      case measure => simp [intOf]; omega
    · have hs : (writeM S k n0 n2).isSome = true := by
        refine (writeM_has S _ _ _).2 (Classical.byContradiction fun q => hp (PU.out.2 q))
      rw [hs] at hlk
      clear hs
      have E : Hid (r = false) := by
        cases r with
        | false => rfl
        | true => exact absurd ((HR.out.1 rfl).1 k hlt) hp
      have HE2 : Hid (StartEnv w S (.slice a0 S.nc c0) (.slice a1 S.nl c1) (.slice (some ⟨g, o, none⟩) S.nw c2) k ((wr.alloc (.cells #[.int .i64 n0, .int .i64 n1, .int .i64 n2, .int .i64 n3] 92)).alloc (.cells #[.int .i64 n0, .int .i64 n2] 120))) := hE2
      clear hE2 HS PU hp hw0 hw1 hw2
      go_wp2
      go_ret
      exact ⟨by rw [E.out]; rfl, HE2.out.2.2⟩
end Go.Proofs.YtnkdphdpecgmiaaGreatDoor
