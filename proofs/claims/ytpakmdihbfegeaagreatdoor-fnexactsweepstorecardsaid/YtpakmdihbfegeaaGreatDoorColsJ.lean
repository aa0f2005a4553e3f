/-
  Own text. What the model's function l2Once answers: whether no two writes have one key and one start, and no lock has those of a write.
-/
import Derived.Test.YtpakmdihbfegeaaGreatDoorColsI
namespace Go.Proofs.YtpakmdihbfegeaaGreatDoor
open Go.RowKit

set_option maxRecDepth 10000 in
set_option maxHeartbeats 4000000 in
theorem l2Once_any (S : Sto) (b : Nat) (v0 v1 v2 : Value) (r : Bool) (w : World) (h : Lies w b S v0 v1 v2) (hl : S.nl ≤ 200) (hk : S.nw ≤ 200) (hr : r = true ↔ once S) :
    Calls Tryz.prog 97 #[.pointer (some ⟨b, 0, none⟩)] w fun e w' => e = .returned (.bool r) ∧ Below w.heap.size w w' := by
  obtain ⟨a0, c0, a1, c1, a2, c2, rfl, rfl, rfl⟩ := h.2.form
  have H : Hid (Lies w b S (.slice a0 S.nc c0) (.slice a1 S.nl c1) (.slice a2 S.nw c2)) := h
  have HR : Hid (r = true ↔ once S) := hr
  clear h hr
  go_enter Tryz.func97, Tryz.ntmps97
  go_wp2
  go_loopw [3] (fun i wr => ∃ k : Nat, k ≤ S.nw ∧ i = .int .i64 k ∧ Hid (∀ j, j < k → onceW S j) ∧ Hid (Below w.heap.size w wr)) (fun i _ => S.nw - (intOf i).toNat)
  case atStart => exact ⟨0, Nat.zero_le _, rfl, fun j hj => absurd hj (Nat.not_lt_zero j), Below.refl _ _⟩
  case round =>
    obtain ⟨k, hk', rfl, HS, HB⟩ := hrel
    have HL : Hid (Lies wr b S (.slice a0 S.nc c0) (.slice a1 S.nl c1) (.slice a2 S.nw c2)) := H.out.later HB.out
    have e2 := HL.out.1.2.2
    by_cases hlt : k < S.nw
    case pos =>
      obtain ⟨g, o, rfl, _, hg, x0, x1, x2, x3⟩ := HL.out.2.2.2.at4 hlt
      obtain ⟨n0, N0⟩ : ∃ x, S.k (k * 4) = x := ⟨_, rfl⟩
      obtain ⟨n2, N2⟩ : ∃ x, S.k (k * 4 + 2) = x := ⟨_, rfl⟩
      rw [N0] at x0; rw [N2] at x2
      have NN : Hid (S.k (k * 4) = n0 ∧ S.k (k * 4 + 2) = n2) := ⟨N0, N2⟩
      clear N0 N2
      obtain ⟨c, HF⟩ : ∃ c, Hid (FirstAt (writeIs S.k n0 n2) S.nw c) := FirstAt.get _ _
      have LC : Hid (∀ n, Calls Tryz.prog 58 #[.pointer (some ⟨b, 0, none⟩), .int .i64 n0, .int .i64 n2] (wr.drewN n) fun e w' => e = .returned (.int .i64 c) ∧ w' = wr.drewN n) := fun n => l2Write_is S b _ _ _ n0 n2 c _ (HL.out.drewN n) hk HF.out
      have me : Hid (writeIs S.k n0 n2 k) := NN.out
      by_cases hcn : c = k
      · have E : Hid (∀ j, j < k + 1 → onceW S j) := fun j hj => by
          rcases Nat.lt_or_ge j k with h | h
          · exact HS.out j h
          · obtain rfl : j = k := by omega
            rintro ⟨i, hi, hp⟩
            rw [NN.out.1, NN.out.2] at hp
            rcases HF.out with ⟨e, _⟩ | ⟨i', _, e, _, q⟩
            · omega
            · exact q i (by omega) hp
        clear NN HF HS me
        subst hcn
        go_wp2_with fail
        go_quiet (first | (go_at_call 58; refine Calls.quiet_of_same (LC.out _)))
        go_wp2
        go_roundw
        case rel => exact ⟨k + 1, by omega, by go_num, E, below_dr HB.out _⟩
        case measure => simp [intOf]; omega
      · have E : Hid (r = false) := by
          cases r with
          | false => rfl
          | true =>
            have q := (HR.out.1 rfl).1 k hlt
            rcases HF.out with ⟨_, q'⟩ | ⟨i', hi', e, hp, q'⟩
            · exact absurd me.out (q' k hlt)
            · refine absurd ⟨i', ?_, by rw [NN.out.1, NN.out.2]; exact hp⟩ q
              rcases Nat.lt_or_ge k i' with h | h
              · exact absurd me.out (q' k h)
              · omega
        have d : (c != (k : Int)) = true := bne_iff_ne.2 hcn
        clear NN HF HS me hcn
        go_wp2_with fail
        go_quiet (first | (go_at_call 58; refine Calls.quiet_of_same (LC.out _)))
        go_wp2
        go_ret
        exact ⟨by rw [E.out]; rfl, below_dr HB.out _⟩
    case neg =>
      have HW : Hid (∀ i, i < S.nw → onceW S i) := fun i hi => HS.out i (by omega)
      clear HS HL
      go_wp2
      clear e2 hk' hlt
      go_loopw [4] (fun i wr => ∃ k : Nat, k ≤ S.nl ∧ i = .int .i64 k ∧ Hid (∀ j, j < k → onceL S j) ∧ Hid (Below w.heap.size w wr)) (fun i _ => S.nl - (intOf i).toNat)
      case atStart => exact ⟨0, Nat.zero_le _, rfl, fun j hj => absurd hj (Nat.not_lt_zero j), HB⟩
      case round =>
        clear HB
        obtain ⟨k, hk', rfl, HS, HB⟩ := hrel
        have HL : Hid (Lies wr b S (.slice a0 S.nc c0) (.slice a1 S.nl c1) (.slice a2 S.nw c2)) := H.out.later HB.out
        have e1 := HL.out.1.2.1
        by_cases hlt : k < S.nl
        case neg =>
          have E : Hid (r = true) := HR.out.2 ⟨HW.out, fun i hi => HS.out i (by omega)⟩
          clear HS HL
          go_wp2
          go_ret
          exact ⟨by rw [E.out]; rfl, HB.out⟩
        obtain ⟨g, o, rfl, _, hg, x0, x1, x2, x3, x4⟩ := HL.out.2.2.1.at5 hlt
        obtain ⟨n0, N0⟩ : ∃ x, S.l (k * 5) = x := ⟨_, rfl⟩
        obtain ⟨n1, N1⟩ : ∃ x, S.l (k * 5 + 1) = x := ⟨_, rfl⟩
        rw [N0] at x0; rw [N1] at x1
        have NN : Hid (S.l (k * 5) = n0 ∧ S.l (k * 5 + 1) = n1) := ⟨N0, N1⟩
        clear N0 N1
        obtain ⟨c, HF⟩ : ∃ c, Hid (FirstAt (writeIs S.k n0 n1) S.nw c) := FirstAt.get _ _
        have LC : Hid (∀ n, Calls Tryz.prog 58 #[.pointer (some ⟨b, 0, none⟩), .int .i64 n0, .int .i64 n1] (wr.drewN n) fun e w' => e = .returned (.int .i64 c) ∧ w' = wr.drewN n) := fun n => l2Write_is S b _ _ _ n0 n1 c _ (HL.out.drewN n) hk HF.out
        by_cases hcn : 0 ≤ c
        · have E : Hid (r = false) := by
            cases r with
            | false => rfl
            | true =>
              have q := (HR.out.1 rfl).2 k hlt
              rcases HF.out with ⟨e, _⟩ | ⟨i', hi', e, hp, q'⟩
              · omega
              · exact absurd ⟨i', hi', by rw [NN.out.1, NN.out.2]; exact hp⟩ q
          have d : decide (0 ≤ c) = true := decide_eq_true hcn
          clear NN HF HS hcn
          go_wp2_with fail
          go_quiet (first | (go_at_call 58; refine Calls.quiet_of_same (LC.out _)))
          go_wp2
          go_ret
          exact ⟨by rw [E.out]; rfl, below_dr HB.out _⟩
        · have E : Hid (∀ j, j < k + 1 → onceL S j) := fun j hj => by
            rcases Nat.lt_or_ge j k with h | h
            · exact HS.out j h
            · obtain rfl : j = k := by omega
              rintro ⟨i, hi, hp⟩
              rw [NN.out.1, NN.out.2] at hp
              rcases HF.out with ⟨_, q⟩ | ⟨i', _, e, _⟩
              · exact q i hi hp
              · omega
          have d : decide (0 ≤ c) = false := decide_eq_false hcn
          clear NN HF HS hcn
          go_wp2_with fail
          go_quiet (first | (go_at_call 58; refine Calls.quiet_of_same (LC.out _)))
          go_wp2
          go_roundw
          case rel => exact ⟨k + 1, by omega, by go_num, E, below_dr HB.out _⟩
          case measure => simp [intOf]; omega
end Go.Proofs.YtpakmdihbfegeaaGreatDoor
