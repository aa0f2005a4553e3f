/-
  Own text. The last put or delete of a key up to a time, as the model finds it.
-/
import Derived.Test.YtpakmdihbfegeaaGreatDoorStorE
namespace Go.Proofs.YtpakmdihbfegeaaGreatDoor
open Go.RowKit

set_option maxRecDepth 100000 in
set_option maxHeartbeats 4000000 in
theorem l2Last_any (S : Sto) (b : Nat) (v0 v1 v2 : Value) (key ts : Int) (w : World) (h : Lies w b S v0 v1 v2) (hn : S.nw ≤ 200) :
    Calls Tryz.prog 98 #[.pointer (some ⟨b, 0, none⟩), .int .i64 key, .int .i64 ts] w fun e w' => ∃ r : Int, e = .returned (.int .i64 r) ∧ ((r = -1 ∧ ∀ i, ¬ lastW S.k S.nw key ts i) ∨ ∃ i : Nat, lastW S.k S.nw key ts i ∧ r = i) ∧ Below w.heap.size w w' := by
  obtain ⟨a0, c0, a1, c1, a2, c2, rfl, rfl, rfl⟩ := h.2.form
  have H : Hid (Lies w b S (.slice a0 S.nc c0) (.slice a1 S.nl c1) (.slice a2 S.nw c2)) := h
  clear h
  go_enter Tryz.func98, Tryz.ntmps98
  go_wp2
  go_loopw [7, 8] (fun o i wr => ∃ (q : Nat) (r : Int), q ≤ S.nw ∧ i = .int .i64 q ∧ o = .int .i64 r ∧ Hid ((r = -1 ∧ ∀ i, ¬ lastW S.k q key ts i) ∨ ∃ i : Nat, lastW S.k q key ts i ∧ r = i) ∧ Hid (Below w.heap.size w wr)) (fun _ i _ => S.nw - (intOf i).toNat)
  case atStart => exact ⟨0, -1, Nat.zero_le _, rfl, rfl, Or.inl ⟨rfl, fun i hi => absurd hi.1 (Nat.not_lt_zero i)⟩, Below.refl _ _⟩
  case round =>
    obtain ⟨q, r, hq, rfl, rfl, HS, HB⟩ := hrel
    have HL : Hid (Lies wr b S (.slice a0 S.nc c0) (.slice a1 S.nl c1) (.slice a2 S.nw c2)) := H.out.later HB.out
    have e2 := HL.out.1.2.2
    by_cases hlt : q < S.nw
    case neg =>
      obtain rfl : q = S.nw := by omega
      clear HL
      go_wp2
      go_ret
      exact ⟨r, rfl, HS.out, HB.out⟩
    obtain ⟨g, o, rfl, _, hg, x0, x1, x2, x3⟩ := HL.out.2.2.2.at4 hlt
    obtain ⟨n0, N0⟩ : ∃ x, S.k (q * 4) = x := ⟨_, rfl⟩
    rw [N0] at x0
    obtain ⟨n1, N1⟩ : ∃ x, S.k (q * 4 + 1) = x := ⟨_, rfl⟩
    rw [N1] at x1
    obtain ⟨n2, N2⟩ : ∃ x, S.k (q * 4 + 2) = x := ⟨_, rfl⟩
    rw [N2] at x2
    obtain ⟨n3, N3⟩ : ∃ x, S.k (q * 4 + 3) = x := ⟨_, rfl⟩
    rw [N3] at x3
    have hbl := HL.out.lt
    have HE : Hid (Below w.heap.size w (wr.alloc (.cells #[.int .i64 n0, .int .i64 n1, .int .i64 n2, .int .i64 n3] 97))) := HB.out.alloc HB.out.size _
    have LP : lastP S.k key ts q ↔ n0 = key ∧ n1 ≤ ts ∧ n3 ≤ 2 := by unfold lastP; rw [N0, N1, N3]
    by_cases hp : lastP S.k key ts q
    · obtain ⟨rfl, h1, h3⟩ := LP.1 hp
      have d1 : decide (n1 ≤ ts) = true := decide_eq_true h1
      have d3 : decide (n3 ≤ 2) = true := decide_eq_true h3
      have E : Hid (((q : Int) = -1 ∧ ∀ i, ¬ lastW S.k (q + 1) n0 ts i) ∨ ∃ i : Nat, lastW S.k (q + 1) n0 ts i ∧ (q : Int) = i) := Or.inr ⟨q, ⟨by omega, hp, fun j h1 h2 => by omega⟩, rfl⟩
      clear LP hp N0 N1 N2 N3 HS HL HB h1 h3
      go_wp2
      go_roundw
      case rel => exact ⟨q + 1, q, by omega, by go_num, rfl, E, HE⟩
      case measure => simp [intOf]; omega
    · have E : Hid ((r = -1 ∧ ∀ i, ¬ lastW S.k (q + 1) key ts i) ∨ ∃ i : Nat, lastW S.k (q + 1) key ts i ∧ r = i) := by
        rcases HS.out with ⟨e, h⟩ | ⟨i, h, e⟩
        · exact Or.inl ⟨e, fun i hi => h i ((lastW_skip hp i).1 hi)⟩
        · exact Or.inr ⟨i, (lastW_skip hp i).2 h, e⟩
      have hno : ¬ (n0 = key ∧ n1 ≤ ts ∧ n3 ≤ 2) := fun e => hp (LP.2 e)
      clear LP hp N0 N1 N2 N3 HS HL HB
      by_cases h0 : n0 = key
      case neg =>
        have d0 : (n0 == key) = false := beq_eq_false_iff_ne.2 h0
        clear hno h0
        go_wp2
        go_roundw
        case rel => exact ⟨q + 1, r, by omega, by go_num, rfl, E, HE⟩
        case measure => simp [intOf]; omega
      subst h0
      by_cases h1 : n1 ≤ ts
      case neg =>
        have d1 : decide (n1 ≤ ts) = false := decide_eq_false h1
        clear hno h1
        go_wp2
        go_roundw
        case rel => exact ⟨q + 1, r, by omega, by go_num, rfl, E, HE⟩
        case measure => simp [intOf]; omega
      have d1 : decide (n1 ≤ ts) = true := decide_eq_true h1
      have d3 : decide (n3 ≤ 2) = false := decide_eq_false (fun q => hno ⟨rfl, h1, q⟩)
      clear hno h1
      go_wp2
      go_roundw
      case rel => exact ⟨q + 1, r, by omega, by go_num, rfl, E, HE⟩
      case measure => simp [intOf]; omega
theorem l2Last_no (S : Sto) (b : Nat) (v0 v1 v2 : Value) (key ts : Int) (w : World) (h : Lies w b S v0 v1 v2) (hn : S.nw ≤ 200) (hq : ∀ i, ¬ lastW S.k S.nw key ts i) :
    Calls Tryz.prog 98 #[.pointer (some ⟨b, 0, none⟩), .int .i64 key, .int .i64 ts] w fun e w' => e = .returned (.int .i64 (-1)) ∧ Below w.heap.size w w' :=
  (l2Last_any S b v0 v1 v2 key ts w h hn).mono fun e w' ⟨r, he, hr, hw⟩ => ⟨by
    rcases hr with ⟨rfl, _⟩ | ⟨i, hi, _⟩
    · exact he
    · exact absurd hi (hq i), hw⟩
theorem l2Last_yes (S : Sto) (b : Nat) (v0 v1 v2 : Value) (key ts : Int) (i : Nat) (w : World) (h : Lies w b S v0 v1 v2) (hn : S.nw ≤ 200) (hq : lastW S.k S.nw key ts i) :
    Calls Tryz.prog 98 #[.pointer (some ⟨b, 0, none⟩), .int .i64 key, .int .i64 ts] w fun e w' => e = .returned (.int .i64 i) ∧ Below w.heap.size w w' :=
  (l2Last_any S b v0 v1 v2 key ts w h hn).mono fun e w' ⟨r, he, hr, hw⟩ => ⟨by
    rcases hr with ⟨_, h⟩ | ⟨j, hj, rfl⟩
    · exact absurd hq (h i)
    · rw [he, hj.one hq], hw⟩
end Go.Proofs.YtpakmdihbfegeaaGreatDoor
