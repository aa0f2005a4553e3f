/-
  Own text. What the model's functions l2Cell and l2Write answer: the place of the first one of a key and a start, or -1.
-/
import Derived.Test.YtpakmdihbfegeaaGreatDoorColsF
namespace Go.Proofs.YtpakmdihbfegeaaGreatDoor
open Go.RowKit

/-- The first place below n at which p holds, or -1. -/
def FirstAt (p : Nat → Prop) (n : Nat) (r : Int) : Prop := (r = -1 ∧ ∀ i, i < n → ¬ p i) ∨ ∃ i : Nat, i < n ∧ r = i ∧ p i ∧ ∀ j, j < i → ¬ p j

set_option maxRecDepth 10000 in
set_option maxHeartbeats 2000000 in
theorem l2Cell_any (S : Sto) (b : Nat) (v0 v1 v2 : Value) (a s : Int) (w : World) (h : Lies w b S v0 v1 v2) (hn : S.nc ≤ 200) :
    Calls Tryz.prog 62 #[.pointer (some ⟨b, 0, none⟩), .int .i64 a, .int .i64 s] w fun e w' => ∃ r : Int, e = .returned (.int .i64 r) ∧ FirstAt (cellIs S.c a s) S.nc r ∧ w' = w := by
  obtain ⟨a0, c0, a1, c1, a2, c2, rfl, rfl, rfl⟩ := h.2.form
  have H : Hid (Lies w b S (.slice a0 S.nc c0) (.slice a1 S.nl c1) (.slice a2 S.nw c2)) := h
  have p0 := h.1.1
  have hb := h.lt
  clear h
  go_enter Tryz.func62, Tryz.ntmps62
  go_wp2
  go_loop [7] (fun i => ∃ k : Nat, k ≤ S.nc ∧ i = .int .i64 k ∧ Hid (∀ j, j < k → ¬ cellIs S.c a s j)) (fun i => S.nc - (intOf i).toNat)
  case atStart => exact ⟨0, Nat.zero_le _, rfl, fun j hj => absurd hj (Nat.not_lt_zero j)⟩
  case round =>
    obtain ⟨k, hk, rfl, HS⟩ := hrel
    by_cases hlt : k < S.nc
    case neg =>
      obtain rfl : k = S.nc := by omega
      go_wp2
      go_ret
      exact ⟨_, rfl, Or.inl ⟨rfl, HS.out⟩, rfl⟩
    obtain ⟨g, o, rfl, _, hg, x0, x1, x2⟩ := H.out.2.1.at3 hlt
    obtain ⟨n0, N0⟩ : ∃ x, S.c (k * 3) = x := ⟨_, rfl⟩
    obtain ⟨n1, N1⟩ : ∃ x, S.c (k * 3 + 1) = x := ⟨_, rfl⟩
    rw [N0] at x0; rw [N1] at x1
    by_cases h0 : n0 = a
    · by_cases h1 : n1 = s
      · have E : Hid (cellIs S.c a s k) := ⟨N0.trans h0, N1.trans h1⟩
        clear N0 N1
        subst h0 h1
        go_wp2
        go_ret
        exact ⟨_, rfl, Or.inr ⟨k, hlt, rfl, E.out, HS.out⟩, rfl⟩
      · have E : Hid (∀ j, j < k + 1 → ¬ cellIs S.c a s j) := fun j hj => by
          rcases Nat.lt_or_ge j k with h | h
          · exact HS.out j h
          · obtain rfl : j = k := by omega
            exact fun q => h1 (N1.symm.trans q.2)
        have d1 : (n1 == s) = false := beq_eq_false_iff_ne.2 h1
        clear N0 N1 HS h1
        subst h0
        go_wp2
        go_round
        case rel => exact ⟨k + 1, by omega, by go_num, E⟩
        case measure => simp [intOf]; omega
    · have E : Hid (∀ j, j < k + 1 → ¬ cellIs S.c a s j) := fun j hj => by
        rcases Nat.lt_or_ge j k with h | h
        · exact HS.out j h
        · obtain rfl : j = k := by omega
          exact fun q => h0 (N0.symm.trans q.1)
      have d0 : (n0 == a) = false := beq_eq_false_iff_ne.2 h0
      clear N0 N1 HS h0
      go_wp2
      go_round
      case rel => exact ⟨k + 1, by omega, by go_num, E⟩
      case measure => simp [intOf]; omega
set_option maxRecDepth 10000 in
set_option maxHeartbeats 2000000 in
theorem l2Write_any (S : Sto) (b : Nat) (v0 v1 v2 : Value) (a s : Int) (w : World) (h : Lies w b S v0 v1 v2) (hn : S.nw ≤ 200) :
    Calls Tryz.prog 58 #[.pointer (some ⟨b, 0, none⟩), .int .i64 a, .int .i64 s] w fun e w' => ∃ r : Int, e = .returned (.int .i64 r) ∧ FirstAt (writeIs S.k a s) S.nw r ∧ w' = w := by
  obtain ⟨a0, c0, a1, c1, a2, c2, rfl, rfl, rfl⟩ := h.2.form
  have H : Hid (Lies w b S (.slice a0 S.nc c0) (.slice a1 S.nl c1) (.slice a2 S.nw c2)) := h
  have p0 := h.1.2.2
  have hb := h.lt
  clear h
  go_enter Tryz.func58, Tryz.ntmps58
  go_wp2
  go_loop [7] (fun i => ∃ k : Nat, k ≤ S.nw ∧ i = .int .i64 k ∧ Hid (∀ j, j < k → ¬ writeIs S.k a s j)) (fun i => S.nw - (intOf i).toNat)
  case atStart => exact ⟨0, Nat.zero_le _, rfl, fun j hj => absurd hj (Nat.not_lt_zero j)⟩
  case round =>
    obtain ⟨k, hk, rfl, HS⟩ := hrel
    by_cases hlt : k < S.nw
    case neg =>
      obtain rfl : k = S.nw := by omega
      go_wp2
      go_ret
      exact ⟨_, rfl, Or.inl ⟨rfl, HS.out⟩, rfl⟩
    obtain ⟨g, o, rfl, _, hg, x0, x1, x2, x3⟩ := H.out.2.2.2.at4 hlt
    obtain ⟨n0, N0⟩ : ∃ x, S.k (k * 4) = x := ⟨_, rfl⟩
    obtain ⟨n1, N1⟩ : ∃ x, S.k (k * 4 + 2) = x := ⟨_, rfl⟩
    rw [N0] at x0; rw [N1] at x2
    by_cases h0 : n0 = a
    · by_cases h1 : n1 = s
      · have E : Hid (writeIs S.k a s k) := ⟨N0.trans h0, N1.trans h1⟩
        clear N0 N1
        subst h0 h1
        go_wp2
        go_ret
        exact ⟨_, rfl, Or.inr ⟨k, hlt, rfl, E.out, HS.out⟩, rfl⟩
      · have E : Hid (∀ j, j < k + 1 → ¬ writeIs S.k a s j) := fun j hj => by
          rcases Nat.lt_or_ge j k with h | h
          · exact HS.out j h
          · obtain rfl : j = k := by omega
            exact fun q => h1 (N1.symm.trans q.2)
        have d1 : (n1 == s) = false := beq_eq_false_iff_ne.2 h1
        clear N0 N1 HS h1
        subst h0
        go_wp2
        go_round
        case rel => exact ⟨k + 1, by omega, by go_num, E⟩
        case measure => simp [intOf]; omega
    · have E : Hid (∀ j, j < k + 1 → ¬ writeIs S.k a s j) := fun j hj => by
        rcases Nat.lt_or_ge j k with h | h
        · exact HS.out j h
        · obtain rfl : j = k := by omega
          exact fun q => h0 (N0.symm.trans q.1)
      have d0 : (n0 == a) = false := beq_eq_false_iff_ne.2 h0
      clear N0 N1 HS h0
      go_wp2
      go_round
      case rel => exact ⟨k + 1, by omega, by go_num, E⟩
      case measure => simp [intOf]; omega
end Go.Proofs.YtpakmdihbfegeaaGreatDoor
