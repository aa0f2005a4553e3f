/-
  Own text. What the model's functions l2Needs and l2Once answer: whether each put has its cell; whether no two have one key and one start.
-/
import Derived.Test.YtpakmdihbfegeaaGreatDoorColsH
namespace Go.Proofs.YtpakmdihbfegeaaGreatDoor
open Go.RowKit

theorem FirstAt.one {p : Nat → Prop} {n : Nat} {r r' : Int} (h : FirstAt p n r) (h' : FirstAt p n r') : r = r' := by
  rcases h with ⟨rfl, h⟩ | ⟨i, hi, rfl, hp, hq⟩ <;> rcases h' with ⟨rfl, h'⟩ | ⟨j, hj, rfl, hp', hq'⟩
  · rfl
  · exact absurd hp' (h j hj)
  · exact absurd hp (h' i hi)
  · rcases Nat.lt_trichotomy i j with e | e | e
    · exact absurd hp (hq' i e)
    · rw [e]
    · exact absurd hp' (hq j e)
theorem FirstAt.get (p : Nat → Prop) : ∀ n, ∃ r, FirstAt p n r
  | 0 => ⟨-1, Or.inl ⟨rfl, fun i hi => absurd hi (Nat.not_lt_zero i)⟩⟩
  | n + 1 => by
    obtain ⟨r, h⟩ := FirstAt.get p n
    rcases h with ⟨rfl, h⟩ | ⟨i, hi, rfl, hp, hq⟩
    · by_cases hn : p n
      · exact ⟨n, Or.inr ⟨n, by omega, rfl, hn, h⟩⟩
      · refine ⟨-1, Or.inl ⟨rfl, fun i hi => ?_⟩⟩
        rcases Nat.lt_or_ge i n with e | e
        · exact h i e
        · obtain rfl : i = n := by omega
          exact hn
    · exact ⟨i, Or.inr ⟨i, by omega, rfl, hp, hq⟩⟩
theorem Lies.drewN {w : World} {b : Nat} {S : Sto} {v0 v1 v2 : Value} (h : Lies w b S v0 v1 v2) (q : Nat) : Lies (w.drewN q) b S v0 v1 v2 := h
theorem l2Cell_is (S : Sto) (b : Nat) (v0 v1 v2 : Value) (a s r : Int) (w : World) (h : Lies w b S v0 v1 v2) (hn : S.nc ≤ 200) (hr : FirstAt (cellIs S.c a s) S.nc r) :
    Calls Tryz.prog 62 #[.pointer (some ⟨b, 0, none⟩), .int .i64 a, .int .i64 s] w fun e w' => e = .returned (.int .i64 r) ∧ w' = w :=
  (l2Cell_any S b v0 v1 v2 a s w h hn).mono fun e w' ⟨r', he, hr', hw⟩ => ⟨by rw [he, hr.one hr'], hw⟩
theorem l2Write_is (S : Sto) (b : Nat) (v0 v1 v2 : Value) (a s r : Int) (w : World) (h : Lies w b S v0 v1 v2) (hn : S.nw ≤ 200) (hr : FirstAt (writeIs S.k a s) S.nw r) :
    Calls Tryz.prog 58 #[.pointer (some ⟨b, 0, none⟩), .int .i64 a, .int .i64 s] w fun e w' => e = .returned (.int .i64 r) ∧ w' = w :=
  (l2Write_any S b v0 v1 v2 a s w h hn).mono fun e w' ⟨r', he, hr', hw⟩ => ⟨by rw [he, hr.one hr'], hw⟩

set_option maxRecDepth 10000 in
set_option maxHeartbeats 4000000 in
theorem l2Needs_any (S : Sto) (b : Nat) (v0 v1 v2 : Value) (r : Bool) (w : World) (h : Lies w b S v0 v1 v2) (hc : S.nc ≤ 200) (hl : S.nl ≤ 200) (hk : S.nw ≤ 200) (hr : r = true ↔ needs S) :
    Calls Tryz.prog 96 #[.pointer (some ⟨b, 0, none⟩)] w fun e w' => e = .returned (.bool r) ∧ Below w.heap.size w w' := by
  obtain ⟨a0, c0, a1, c1, a2, c2, rfl, rfl, rfl⟩ := h.2.form
  have H : Hid (Lies w b S (.slice a0 S.nc c0) (.slice a1 S.nl c1) (.slice a2 S.nw c2)) := h
  have HR : Hid (r = true ↔ needs S) := hr
  clear h hr
  go_enter Tryz.func96, Tryz.ntmps96
  go_wp2
  go_loopw [3] (fun i wr => ∃ k : Nat, k ≤ S.nw ∧ i = .int .i64 k ∧ Hid (∀ j, j < k → putW S j) ∧ Hid (Below w.heap.size w wr)) (fun i _ => S.nw - (intOf i).toNat)
  case atStart => exact ⟨0, Nat.zero_le _, rfl, fun j hj => absurd hj (Nat.not_lt_zero j), Below.refl _ _⟩
  case round =>
    obtain ⟨k, hk', rfl, HS, HB⟩ := hrel
    have HL : Hid (Lies wr b S (.slice a0 S.nc c0) (.slice a1 S.nl c1) (.slice a2 S.nw c2)) := H.out.later HB.out
    have e2 := HL.out.1.2.2
    by_cases hlt : k < S.nw
    case pos =>
      obtain ⟨g, o, rfl, _, hg, x0, x1, x2, x3⟩ := HL.out.2.2.2.at4 hlt
      obtain ⟨n0, N0⟩ : ∃ x, S.k (k * 4) = x := ⟨_, rfl⟩
      obtain ⟨n2, N2⟩ : ∃ x, S.k (k * 4 + 2) = x := ⟨_, rfl⟩
      obtain ⟨n3, N3⟩ : ∃ x, S.k (k * 4 + 3) = x := ⟨_, rfl⟩
      rw [N0] at x0; rw [N2] at x2; rw [N3] at x3
      have NN : Hid (S.k (k * 4) = n0 ∧ S.k (k * 4 + 2) = n2 ∧ S.k (k * 4 + 3) = n3) := ⟨N0, N2, N3⟩
      clear N0 N2 N3
      have NX : Hid (putW S k → ∀ j, j < k + 1 → putW S j) := fun q j hj => by
        rcases Nat.lt_or_ge j k with h | h
        · exact HS.out j h
        · obtain rfl : j = k := by omega
          exact q
      by_cases h3 : n3 = 1
      · obtain ⟨c, HF⟩ : ∃ c, Hid (FirstAt (cellIs S.c n0 n2) S.nc c) := FirstAt.get _ _
        have LC : Hid (∀ n, Calls Tryz.prog 62 #[.pointer (some ⟨b, 0, none⟩), .int .i64 n0, .int .i64 n2] (wr.drewN n) fun e w' => e = .returned (.int .i64 c) ∧ w' = wr.drewN n) := fun n => l2Cell_is S b _ _ _ n0 n2 c _ (HL.out.drewN n) hc HF.out
        by_cases hcn : c < 0
        · have E : Hid (r = false) := by
            cases r with
            | false => rfl
            | true =>
              obtain ⟨i, hi, hp⟩ := (HR.out.1 rfl).1 k hlt (NN.out.2.2.trans h3)
              rw [NN.out.1, NN.out.2.1] at hp
              rcases HF.out with ⟨_, q⟩ | ⟨i', _, e, _⟩
              · exact absurd hp (q i hi)
              · omega
          have d : decide (c < 0) = true := decide_eq_true hcn
          clear NN NX HF HS hcn
          subst h3
          go_wp2_with fail
          go_quiet (first | (go_at_call 62; refine Calls.quiet_of_same (LC.out _)))
          go_wp2
          go_ret
          exact ⟨by rw [E.out]; rfl, below_dr HB.out _⟩
        · have E : Hid (∀ j, j < k + 1 → putW S j) := NX.out (fun _ => by
            rcases HF.out with ⟨e, _⟩ | ⟨i', hi, _, hp, _⟩
            · omega
            · exact ⟨i', hi, by rw [NN.out.1, NN.out.2.1]; exact hp⟩)
          have d : decide (c < 0) = false := decide_eq_false hcn
          clear NN NX HF HS hcn
          subst h3
          go_wp2_with fail
          go_quiet (first | (go_at_call 62; refine Calls.quiet_of_same (LC.out _)))
          go_wp2
          go_roundw
          case rel => exact ⟨k + 1, by omega, by go_num, E, below_dr HB.out _⟩
          case measure => simp [intOf]; omega
      · have E : Hid (∀ j, j < k + 1 → putW S j) := NX.out (fun q => absurd (NN.out.2.2.symm.trans q) h3)
        have d : (n3 == 1) = false := beq_eq_false_iff_ne.2 h3
        clear NN NX HS h3
        go_wp2_with fail
        go_quiet (fail)
        go_wp2
        go_roundw
        case rel => exact ⟨k + 1, by omega, by go_num, E, below_dr HB.out _⟩
        case measure => simp [intOf]; omega
    case neg =>
      have HW : Hid (∀ i, i < S.nw → putW S i) := fun i hi => HS.out i (by omega)
      clear HS HL
      go_wp2
      clear e2 hk' hlt
      go_loopw [4] (fun i wr => ∃ k : Nat, k ≤ S.nl ∧ i = .int .i64 k ∧ Hid (∀ j, j < k → putL S j) ∧ Hid (Below w.heap.size w wr)) (fun i _ => S.nl - (intOf i).toNat)
      case atStart => exact ⟨0, Nat.zero_le _, rfl, fun j hj => absurd hj (Nat.not_lt_zero j), HB⟩
      case round =>
        clear HB
        obtain ⟨k, hk', rfl, HS, HB⟩ := hrel
        have HL : Hid (Lies wr b S (.slice a0 S.nc c0) (.slice a1 S.nl c1) (.slice a2 S.nw c2)) := H.out.later HB.out
        have e1 := HL.out.1.2.1
        by_cases hlt : k < S.nl
        case neg =>
          have E : Hid (r = true) := HR.out.2 ⟨HW.out, fun i hi => HS.out i (by omega)⟩
          clear HS HL
          go_wp2
          go_ret
          exact ⟨by rw [E.out]; rfl, HB.out⟩
        obtain ⟨g, o, rfl, _, hg, x0, x1, x2, x3, x4⟩ := HL.out.2.2.1.at5 hlt
        obtain ⟨n0, N0⟩ : ∃ x, S.l (k * 5) = x := ⟨_, rfl⟩
        obtain ⟨n1, N1⟩ : ∃ x, S.l (k * 5 + 1) = x := ⟨_, rfl⟩
        obtain ⟨n2, N2⟩ : ∃ x, S.l (k * 5 + 2) = x := ⟨_, rfl⟩
        rw [N0] at x0; rw [N1] at x1; rw [N2] at x2
        have NN : Hid (S.l (k * 5) = n0 ∧ S.l (k * 5 + 1) = n1 ∧ S.l (k * 5 + 2) = n2) := ⟨N0, N1, N2⟩
        clear N0 N1 N2
        have NX : Hid (putL S k → ∀ j, j < k + 1 → putL S j) := fun q j hj => by
          rcases Nat.lt_or_ge j k with h | h
          · exact HS.out j h
          · obtain rfl : j = k := by omega
            exact q
        by_cases h3 : n2 = 1
        · obtain ⟨c, HF⟩ : ∃ c, Hid (FirstAt (cellIs S.c n0 n1) S.nc c) := FirstAt.get _ _
          have LC : Hid (∀ n, Calls Tryz.prog 62 #[.pointer (some ⟨b, 0, none⟩), .int .i64 n0, .int .i64 n1] (wr.drewN n) fun e w' => e = .returned (.int .i64 c) ∧ w' = wr.drewN n) := fun n => l2Cell_is S b _ _ _ n0 n1 c _ (HL.out.drewN n) hc HF.out
          by_cases hcn : c < 0
          · have E : Hid (r = false) := by
              cases r with
              | false => rfl
              | true =>
                obtain ⟨i, hi, hp⟩ := (HR.out.1 rfl).2 k hlt (NN.out.2.2.trans h3)
                rw [NN.out.1, NN.out.2.1] at hp
                rcases HF.out with ⟨_, q⟩ | ⟨i', _, e, _⟩
                · exact absurd hp (q i hi)
                · omega
            have d : decide (c < 0) = true := decide_eq_true hcn
            clear NN NX HF HS hcn
            subst h3
            go_wp2_with fail
            go_quiet (first | (go_at_call 62; refine Calls.quiet_of_same (LC.out _)))
            go_wp2
            go_ret
            exact ⟨by rw [E.out]; rfl, below_dr HB.out _⟩
          · have E : Hid (∀ j, j < k + 1 → putL S j) := NX.out (fun _ => by
              rcases HF.out with ⟨e, _⟩ | ⟨i', hi, _, hp, _⟩
              · omega
              · exact ⟨i', hi, by rw [NN.out.1, NN.out.2.1]; exact hp⟩)
            have d : decide (c < 0) = false := decide_eq_false hcn
            clear NN NX HF HS hcn
            subst h3
            go_wp2_with fail
            go_quiet (first | (go_at_call 62; refine Calls.quiet_of_same (LC.out _)))
            go_wp2
            go_roundw
            case rel => exact ⟨k + 1, by omega, by go_num, E, below_dr HB.out _⟩
            case measure => simp [intOf]; omega
        · have E : Hid (∀ j, j < k + 1 → putL S j) := NX.out (fun q => absurd (NN.out.2.2.symm.trans q) h3)
          have d : (n2 == 1) = false := beq_eq_false_iff_ne.2 h3
          clear NN NX HS h3
          go_wp2_with fail
          go_quiet (fail)
          go_wp2
          go_roundw
          case rel => exact ⟨k + 1, by omega, by go_num, E, below_dr HB.out _⟩
          case measure => simp [intOf]; omega
end Go.Proofs.YtpakmdihbfegeaaGreatDoor
