/-
 Own text, merged of ColsK, DelB, AppR, AddC, StorA.
-/
import Derived.Test.YtiadbiiiikhfaaaGreatDoorPk2
namespace Go.Proofs.YtiadbiiiikhfaaaGreatDoor
section
open Go.RowKit
/-- The first place below n at which p holds, or -1. -/
def FirstAt (p : Nat → Prop) (n : Nat) (r : Int) : Prop := (r = -1 ∧ ∀ i, i < n → ¬ p i) ∨ ∃ i : Nat, i < n ∧ r = i ∧ p i ∧ ∀ j, j < i → ¬ p j
theorem FirstAt.at {p : Nat → Prop} {n : Nat} {i : Nat} (h : FirstAt p n i) : i < n ∧ p i ∧ ∀ j, j < i → ¬ p j := by
 rcases h with ⟨e, _⟩ | ⟨j, hj, e, hp, hq⟩
 ·omega
 ·obtain rfl : i = j := by omega
  exact ⟨hj, hp, hq⟩

set_option maxRecDepth 10000 in
set_option maxHeartbeats 2000000 in
theorem l2Cell_anyO (S : Sto) (b oo : Nat) (v0 v1 v2 : Value) (a s : Int) (w : World) (h : LiesO w b oo S v0 v1 v2) (hn : S.nc ≤ 200) :
  Calls Tryz.prog 88 #[.pointer (some ⟨b, oo, none⟩), .int .i64 a, .int .i64 s] w fun e w' => ∃ r : Int, e = .returned (.int .i64 r) ∧ FirstAt (cellIs S.c a s) S.nc r ∧ w' = w := by
 obtain ⟨a0, c0, a1, c1, a2, c2, rfl, rfl, rfl⟩ := h.2.form
 have H : Hid (LiesO w b oo S (.slice a0 S.nc c0) (.slice a1 S.nl c1) (.slice a2 S.nw c2)) := h
 have p0 := h.1.1
 have hb := h.lt
 clear h
 go_enter Tryz.func88, Tryz.ntmps88
 go_wp2
 go_loop [7] (fun i => ∃ k : Nat, k ≤ S.nc ∧ i = .int .i64 k ∧ Hid (∀ j, j < k → ¬ cellIs S.c a s j)) (fun i => S.nc - (intOf i).toNat)
 case atStart => exact ⟨0, Nat.zero_le _, rfl, fun j hj => absurd hj (Nat.not_lt_zero j)⟩
 case round =>
  obtain ⟨k, hk, rfl, HS⟩ := hrel
  by_cases hlt : k < S.nc
  case neg =>
   obtain rfl : k = S.nc := by omega
   go_wp2
   go_ret
   exact ⟨_, rfl, Or.inl ⟨rfl, HS.out⟩, rfl⟩
  obtain ⟨g, o, rfl, _, hg, x0, x1, x2⟩ := H.out.2.1.at3 hlt
  obtain ⟨n0, N0⟩ : ∃ x, S.c (k * 3) = x := ⟨_, rfl⟩
  obtain ⟨n1, N1⟩ : ∃ x, S.c (k * 3 + 1) = x := ⟨_, rfl⟩
  rw [N0] at x0; rw [N1] at x1
  by_cases h0 : n0 = a
  ·by_cases h1 : n1 = s
   ·have E : Hid (cellIs S.c a s k) := ⟨N0.trans h0, N1.trans h1⟩
    clear N0 N1
    subst h0 h1
    go_wp2
    go_ret
    exact ⟨_, rfl, Or.inr ⟨k, hlt, rfl, E.out, HS.out⟩, rfl⟩
   ·have E : Hid (∀ j, j < k + 1 → ¬ cellIs S.c a s j) := fun j hj => by
     rcases Nat.lt_or_ge j k with h | h
     ·exact HS.out j h
     ·obtain rfl : j = k := by omega
      exact fun q => h1 (N1.symm.trans q.2)
    have d1 : (n1 == s) = false := beq_eq_false_iff_ne.2 h1
    clear N0 N1 HS h1
    subst h0
    go_wp2
    go_round
    case rel => exact ⟨k + 1, by omega, by go_num, E⟩
    case measure => simp [intOf]; omega
  ·have E : Hid (∀ j, j < k + 1 → ¬ cellIs S.c a s j) := fun j hj => by
    rcases Nat.lt_or_ge j k with h | h
    ·exact HS.out j h
    ·obtain rfl : j = k := by omega
     exact fun q => h0 (N0.symm.trans q.1)
   have d0 : (n0 == a) = false := beq_eq_false_iff_ne.2 h0
   clear N0 N1 HS h0
   go_wp2
   go_round
   case rel => exact ⟨k + 1, by omega, by go_num, E⟩
   case measure => simp [intOf]; omega
set_option maxRecDepth 10000 in
set_option maxHeartbeats 2000000 in
theorem l2Write_anyO (S : Sto) (b oo : Nat) (v0 v1 v2 : Value) (a s : Int) (w : World) (h : LiesO w b oo S v0 v1 v2) (hn : S.nw ≤ 200) :
  Calls Tryz.prog 84 #[.pointer (some ⟨b, oo, none⟩), .int .i64 a, .int .i64 s] w fun e w' => ∃ r : Int, e = .returned (.int .i64 r) ∧ FirstAt (writeIs S.k a s) S.nw r ∧ w' = w := by
 obtain ⟨a0, c0, a1, c1, a2, c2, rfl, rfl, rfl⟩ := h.2.form
 have H : Hid (LiesO w b oo S (.slice a0 S.nc c0) (.slice a1 S.nl c1) (.slice a2 S.nw c2)) := h
 have p0 := h.1.2.2
 have hb := h.lt
 clear h
 go_enter Tryz.func84, Tryz.ntmps84
 go_wp2
 go_loop [7] (fun i => ∃ k : Nat, k ≤ S.nw ∧ i = .int .i64 k ∧ Hid (∀ j, j < k → ¬ writeIs S.k a s j)) (fun i => S.nw - (intOf i).toNat)
 case atStart => exact ⟨0, Nat.zero_le _, rfl, fun j hj => absurd hj (Nat.not_lt_zero j)⟩
 case round =>
  obtain ⟨k, hk, rfl, HS⟩ := hrel
  by_cases hlt : k < S.nw
  case neg =>
   obtain rfl : k = S.nw := by omega
   go_wp2
   go_ret
   exact ⟨_, rfl, Or.inl ⟨rfl, HS.out⟩, rfl⟩
  obtain ⟨g, o, rfl, _, hg, x0, x1, x2, x3⟩ := H.out.2.2.2.at4 hlt
  obtain ⟨n0, N0⟩ : ∃ x, S.k (k * 4) = x := ⟨_, rfl⟩
  obtain ⟨n1, N1⟩ : ∃ x, S.k (k * 4 + 2) = x := ⟨_, rfl⟩
  rw [N0] at x0; rw [N1] at x2
  by_cases h0 : n0 = a
  ·by_cases h1 : n1 = s
   ·have E : Hid (writeIs S.k a s k) := ⟨N0.trans h0, N1.trans h1⟩
    clear N0 N1
    subst h0 h1
    go_wp2
    go_ret
    exact ⟨_, rfl, Or.inr ⟨k, hlt, rfl, E.out, HS.out⟩, rfl⟩
   ·have E : Hid (∀ j, j < k + 1 → ¬ writeIs S.k a s j) := fun j hj => by
     rcases Nat.lt_or_ge j k with h | h
     ·exact HS.out j h
     ·obtain rfl : j = k := by omega
      exact fun q => h1 (N1.symm.trans q.2)
    have d1 : (n1 == s) = false := beq_eq_false_iff_ne.2 h1
    clear N0 N1 HS h1
    subst h0
    go_wp2
    go_round
    case rel => exact ⟨k + 1, by omega, by go_num, E⟩
    case measure => simp [intOf]; omega
  ·have E : Hid (∀ j, j < k + 1 → ¬ writeIs S.k a s j) := fun j hj => by
    rcases Nat.lt_or_ge j k with h | h
    ·exact HS.out j h
    ·obtain rfl : j = k := by omega
     exact fun q => h0 (N0.symm.trans q.1)
   have d0 : (n0 == a) = false := beq_eq_false_iff_ne.2 h0
   clear N0 N1 HS h0
   go_wp2
   go_round
   case rel => exact ⟨k + 1, by omega, by go_num, E⟩
   case measure => simp [intOf]; omega
end

section
open Go.RowKit
theorem FirstAt.one {p : Nat → Prop} {n : Nat} {r r' : Int} (h : FirstAt p n r) (h' : FirstAt p n r') : r = r' := by
 rcases h with ⟨rfl, h⟩ | ⟨i, hi, rfl, hp, hq⟩ <;> rcases h' with ⟨rfl, h'⟩ | ⟨j, hj, rfl, hp', hq'⟩
 ·rfl
 ·exact absurd hp' (h j hj)
 ·exact absurd hp (h' i hi)
 ·rcases Nat.lt_trichotomy i j with e | e | e
  ·exact absurd hp (hq' i e)
  ·rw [e]
  ·exact absurd hp' (hq j e)
theorem FirstAt.get (p : Nat → Prop) : ∀ n, ∃ r, FirstAt p n r
 | 0 => ⟨-1, Or.inl ⟨rfl, fun i hi => absurd hi (Nat.not_lt_zero i)⟩⟩
 | n + 1 => by
  obtain ⟨r, h⟩ := FirstAt.get p n
  rcases h with ⟨rfl, h⟩ | ⟨i, hi, rfl, hp, hq⟩
  ·by_cases hn : p n
   ·exact ⟨n, Or.inr ⟨n, by omega, rfl, hn, h⟩⟩
   ·refine ⟨-1, Or.inl ⟨rfl, fun i hi => ?_⟩⟩
    rcases Nat.lt_or_ge i n with e | e
    ·exact h i e
    ·obtain rfl : i = n := by omega
     exact hn
  ·exact ⟨i, Or.inr ⟨i, by omega, rfl, hp, hq⟩⟩
theorem LiesO.drewN {w : World} {b oo : Nat} {S : Sto} {v0 v1 v2 : Value} (h : LiesO w b oo S v0 v1 v2) (q : Nat) : LiesO (w.drewN q) b oo S v0 v1 v2 := h
theorem Lies.drewN {w : World} {b : Nat} {S : Sto} {v0 v1 v2 : Value} (h : Lies w b S v0 v1 v2) (q : Nat) : Lies (w.drewN q) b S v0 v1 v2 := h
theorem l2Cell_isO (S : Sto) (b oo : Nat) (v0 v1 v2 : Value) (a s r : Int) (w : World) (h : LiesO w b oo S v0 v1 v2) (hn : S.nc ≤ 200) (hr : FirstAt (cellIs S.c a s) S.nc r) :
  Calls Tryz.prog 88 #[.pointer (some ⟨b, oo, none⟩), .int .i64 a, .int .i64 s] w fun e w' => e = .returned (.int .i64 r) ∧ w' = w :=
 (l2Cell_anyO S b oo v0 v1 v2 a s w h hn).mono fun e w' ⟨r', he, hr', hw⟩ => ⟨by rw [he, hr.one hr'], hw⟩
theorem l2Write_isO (S : Sto) (b oo : Nat) (v0 v1 v2 : Value) (a s r : Int) (w : World) (h : LiesO w b oo S v0 v1 v2) (hn : S.nw ≤ 200) (hr : FirstAt (writeIs S.k a s) S.nw r) :
  Calls Tryz.prog 84 #[.pointer (some ⟨b, oo, none⟩), .int .i64 a, .int .i64 s] w fun e w' => e = .returned (.int .i64 r) ∧ w' = w :=
 (l2Write_anyO S b oo v0 v1 v2 a s w h hn).mono fun e w' ⟨r', he, hr', hw⟩ => ⟨by rw [he, hr.one hr'], hw⟩

set_option maxRecDepth 10000 in
set_option maxHeartbeats 4000000 in
theorem l2Needs_anyO (S : Sto) (b oo : Nat) (v0 v1 v2 : Value) (r : Bool) (w : World) (h : LiesO w b oo S v0 v1 v2) (hc : S.nc ≤ 200) (hl : S.nl ≤ 200) (hk : S.nw ≤ 200) (hr : r = true ↔ needs S) :
  Calls Tryz.prog 112 #[.pointer (some ⟨b, oo, none⟩)] w fun e w' => e = .returned (.bool r) ∧ Below w.heap.size w w' := by
 obtain ⟨a0, c0, a1, c1, a2, c2, rfl, rfl, rfl⟩ := h.2.form
 have H : Hid (LiesO w b oo S (.slice a0 S.nc c0) (.slice a1 S.nl c1) (.slice a2 S.nw c2)) := h
 have HR : Hid (r = true ↔ needs S) := hr
 clear h hr
 go_enter Tryz.func112, Tryz.ntmps112
 go_wp2
 go_loopw [3] (fun i wr => ∃ k : Nat, k ≤ S.nw ∧ i = .int .i64 k ∧ Hid (∀ j, j < k → putW S j) ∧ Hid (Below w.heap.size w wr)) (fun i _ => S.nw - (intOf i).toNat)
 case atStart => exact ⟨0, Nat.zero_le _, rfl, fun j hj => absurd hj (Nat.not_lt_zero j), Below.refl _ _⟩
 case round =>
  obtain ⟨k, hk', rfl, HS, HB⟩ := hrel
  have HL : Hid (LiesO wr b oo S (.slice a0 S.nc c0) (.slice a1 S.nl c1) (.slice a2 S.nw c2)) := H.out.later HB.out
  have e2 := HL.out.1.2.2
  by_cases hlt : k < S.nw
  case pos =>
   obtain ⟨g, o, rfl, _, hg, x0, x1, x2, x3⟩ := HL.out.2.2.2.at4 hlt
   obtain ⟨n0, N0⟩ : ∃ x, S.k (k * 4) = x := ⟨_, rfl⟩
   obtain ⟨n2, N2⟩ : ∃ x, S.k (k * 4 + 2) = x := ⟨_, rfl⟩
   obtain ⟨n3, N3⟩ : ∃ x, S.k (k * 4 + 3) = x := ⟨_, rfl⟩
   rw [N0] at x0; rw [N2] at x2; rw [N3] at x3
   have NN : Hid (S.k (k * 4) = n0 ∧ S.k (k * 4 + 2) = n2 ∧ S.k (k * 4 + 3) = n3) := ⟨N0, N2, N3⟩
   clear N0 N2 N3
   have NX : Hid (putW S k → ∀ j, j < k + 1 → putW S j) := fun q j hj => by
    rcases Nat.lt_or_ge j k with h | h
    ·exact HS.out j h
    ·obtain rfl : j = k := by omega
     exact q
   by_cases h3 : n3 = 1
   ·obtain ⟨c, HF⟩ : ∃ c, Hid (FirstAt (cellIs S.c n0 n2) S.nc c) := FirstAt.get _ _
    have LC : Hid (∀ n, Calls Tryz.prog 88 #[.pointer (some ⟨b, oo, none⟩), .int .i64 n0, .int .i64 n2] (wr.drewN n) fun e w' => e = .returned (.int .i64 c) ∧ w' = wr.drewN n) := fun n => l2Cell_isO S b oo _ _ _ n0 n2 c _ (HL.out.drewN n) hc HF.out
    by_cases hcn : c < 0
    ·have E : Hid (r = false) := by
      cases r with
      | false => rfl
      | true =>
       obtain ⟨i, hi, hp⟩ := (HR.out.1 rfl).1 k hlt (NN.out.2.2.trans h3)
       rw [NN.out.1, NN.out.2.1] at hp
       rcases HF.out with ⟨_, q⟩ | ⟨i', _, e, _⟩
       ·exact absurd hp (q i hi)
       ·omega
     have d : decide (c < 0) = true := decide_eq_true hcn
     clear NN NX HF HS hcn
     subst h3
     go_wp2_with fail
     go_quiet (first | (go_at_call 88; refine Calls.quiet_of_same (LC.out _)))
     go_wp2
     go_ret
     exact ⟨by rw [E.out]; rfl, below_dr HB.out _⟩
    ·have E : Hid (∀ j, j < k + 1 → putW S j) := NX.out (fun _ => by
      rcases HF.out with ⟨e, _⟩ | ⟨i', hi, _, hp, _⟩
      ·omega
      ·exact ⟨i', hi, by rw [NN.out.1, NN.out.2.1]; exact hp⟩)
     have d : decide (c < 0) = false := decide_eq_false hcn
     clear NN NX HF HS hcn
     subst h3
     go_wp2_with fail
     go_quiet (first | (go_at_call 88; refine Calls.quiet_of_same (LC.out _)))
     go_wp2
     go_roundw
     case rel => exact ⟨k + 1, by omega, by go_num, E, below_dr HB.out _⟩
     case measure => simp [intOf]; omega
   ·have E : Hid (∀ j, j < k + 1 → putW S j) := NX.out (fun q => absurd (NN.out.2.2.symm.trans q) h3)
    have d : (n3 == 1) = false := beq_eq_false_iff_ne.2 h3
    clear NN NX HS h3
    go_wp2_with fail
    go_quiet (fail)
    go_wp2
    go_roundw
    case rel => exact ⟨k + 1, by omega, by go_num, E, below_dr HB.out _⟩
    case measure => simp [intOf]; omega
  case neg =>
   have HW : Hid (∀ i, i < S.nw → putW S i) := fun i hi => HS.out i (by omega)
   clear HS HL
   go_wp2
   clear e2 hk' hlt
   go_loopw [4] (fun i wr => ∃ k : Nat, k ≤ S.nl ∧ i = .int .i64 k ∧ Hid (∀ j, j < k → putL S j) ∧ Hid (Below w.heap.size w wr)) (fun i _ => S.nl - (intOf i).toNat)
   case atStart => exact ⟨0, Nat.zero_le _, rfl, fun j hj => absurd hj (Nat.not_lt_zero j), HB⟩
   case round =>
    clear HB
    obtain ⟨k, hk', rfl, HS, HB⟩ := hrel
    have HL : Hid (LiesO wr b oo S (.slice a0 S.nc c0) (.slice a1 S.nl c1) (.slice a2 S.nw c2)) := H.out.later HB.out
    have e1 := HL.out.1.2.1
    by_cases hlt : k < S.nl
    case neg =>
     have E : Hid (r = true) := HR.out.2 ⟨HW.out, fun i hi => HS.out i (by omega)⟩
     clear HS HL
     go_wp2
     go_ret
     exact ⟨by rw [E.out]; rfl, HB.out⟩
    obtain ⟨g, o, rfl, _, hg, x0, x1, x2, x3, x4⟩ := HL.out.2.2.1.at5 hlt
    obtain ⟨n0, N0⟩ : ∃ x, S.l (k * 5) = x := ⟨_, rfl⟩
    obtain ⟨n1, N1⟩ : ∃ x, S.l (k * 5 + 1) = x := ⟨_, rfl⟩
    obtain ⟨n2, N2⟩ : ∃ x, S.l (k * 5 + 2) = x := ⟨_, rfl⟩
    rw [N0] at x0; rw [N1] at x1; rw [N2] at x2
    have NN : Hid (S.l (k * 5) = n0 ∧ S.l (k * 5 + 1) = n1 ∧ S.l (k * 5 + 2) = n2) := ⟨N0, N1, N2⟩
    clear N0 N1 N2
    have NX : Hid (putL S k → ∀ j, j < k + 1 → putL S j) := fun q j hj => by
     rcases Nat.lt_or_ge j k with h | h
     ·exact HS.out j h
     ·obtain rfl : j = k := by omega
      exact q
    by_cases h3 : n2 = 1
    ·obtain ⟨c, HF⟩ : ∃ c, Hid (FirstAt (cellIs S.c n0 n1) S.nc c) := FirstAt.get _ _
     have LC : Hid (∀ n, Calls Tryz.prog 88 #[.pointer (some ⟨b, oo, none⟩), .int .i64 n0, .int .i64 n1] (wr.drewN n) fun e w' => e = .returned (.int .i64 c) ∧ w' = wr.drewN n) := fun n => l2Cell_isO S b oo _ _ _ n0 n1 c _ (HL.out.drewN n) hc HF.out
     by_cases hcn : c < 0
     ·have E : Hid (r = false) := by
       cases r with
       | false => rfl
       | true =>
        obtain ⟨i, hi, hp⟩ := (HR.out.1 rfl).2 k hlt (NN.out.2.2.trans h3)
        rw [NN.out.1, NN.out.2.1] at hp
        rcases HF.out with ⟨_, q⟩ | ⟨i', _, e, _⟩
        ·exact absurd hp (q i hi)
        ·omega
      have d : decide (c < 0) = true := decide_eq_true hcn
      clear NN NX HF HS hcn
      subst h3
      go_wp2_with fail
      go_quiet (first | (go_at_call 88; refine Calls.quiet_of_same (LC.out _)))
      go_wp2
      go_ret
      exact ⟨by rw [E.out]; rfl, below_dr HB.out _⟩
     ·have E : Hid (∀ j, j < k + 1 → putL S j) := NX.out (fun _ => by
       rcases HF.out with ⟨e, _⟩ | ⟨i', hi, _, hp, _⟩
       ·omega
       ·exact ⟨i', hi, by rw [NN.out.1, NN.out.2.1]; exact hp⟩)
      have d : decide (c < 0) = false := decide_eq_false hcn
      clear NN NX HF HS hcn
      subst h3
      go_wp2_with fail
      go_quiet (first | (go_at_call 88; refine Calls.quiet_of_same (LC.out _)))
      go_wp2
      go_roundw
      case rel => exact ⟨k + 1, by omega, by go_num, E, below_dr HB.out _⟩
      case measure => simp [intOf]; omega
    ·have E : Hid (∀ j, j < k + 1 → putL S j) := NX.out (fun q => absurd (NN.out.2.2.symm.trans q) h3)
     have d : (n2 == 1) = false := beq_eq_false_iff_ne.2 h3
     clear NN NX HS h3
     go_wp2_with fail
     go_quiet (fail)
     go_wp2
     go_roundw
     case rel => exact ⟨k + 1, by omega, by go_num, E, below_dr HB.out _⟩
     case measure => simp [intOf]; omega
end

section
open Go.RowKit
set_option maxRecDepth 10000 in
set_option maxHeartbeats 4000000 in
theorem l2Once_anyO (S : Sto) (b oo : Nat) (v0 v1 v2 : Value) (r : Bool) (w : World) (h : LiesO w b oo S v0 v1 v2) (hl : S.nl ≤ 200) (hk : S.nw ≤ 200) (hr : r = true ↔ once S) :
  Calls Tryz.prog 113 #[.pointer (some ⟨b, oo, none⟩)] w fun e w' => e = .returned (.bool r) ∧ Below w.heap.size w w' := by
 obtain ⟨a0, c0, a1, c1, a2, c2, rfl, rfl, rfl⟩ := h.2.form
 have H : Hid (LiesO w b oo S (.slice a0 S.nc c0) (.slice a1 S.nl c1) (.slice a2 S.nw c2)) := h
 have HR : Hid (r = true ↔ once S) := hr
 clear h hr
 go_enter Tryz.func113, Tryz.ntmps113
 go_wp2
 go_loopw [3] (fun i wr => ∃ k : Nat, k ≤ S.nw ∧ i = .int .i64 k ∧ Hid (∀ j, j < k → onceW S j) ∧ Hid (Below w.heap.size w wr)) (fun i _ => S.nw - (intOf i).toNat)
 case atStart => exact ⟨0, Nat.zero_le _, rfl, fun j hj => absurd hj (Nat.not_lt_zero j), Below.refl _ _⟩
 case round =>
  obtain ⟨k, hk', rfl, HS, HB⟩ := hrel
  have HL : Hid (LiesO wr b oo S (.slice a0 S.nc c0) (.slice a1 S.nl c1) (.slice a2 S.nw c2)) := H.out.later HB.out
  have e2 := HL.out.1.2.2
  by_cases hlt : k < S.nw
  case pos =>
   obtain ⟨g, o, rfl, _, hg, x0, x1, x2, x3⟩ := HL.out.2.2.2.at4 hlt
   obtain ⟨n0, N0⟩ : ∃ x, S.k (k * 4) = x := ⟨_, rfl⟩
   obtain ⟨n2, N2⟩ : ∃ x, S.k (k * 4 + 2) = x := ⟨_, rfl⟩
   rw [N0] at x0; rw [N2] at x2
   have NN : Hid (S.k (k * 4) = n0 ∧ S.k (k * 4 + 2) = n2) := ⟨N0, N2⟩
   clear N0 N2
   obtain ⟨c, HF⟩ : ∃ c, Hid (FirstAt (writeIs S.k n0 n2) S.nw c) := FirstAt.get _ _
   have LC : Hid (∀ n, Calls Tryz.prog 84 #[.pointer (some ⟨b, oo, none⟩), .int .i64 n0, .int .i64 n2] (wr.drewN n) fun e w' => e = .returned (.int .i64 c) ∧ w' = wr.drewN n) := fun n => l2Write_isO S b oo _ _ _ n0 n2 c _ (HL.out.drewN n) hk HF.out
   have me : Hid (writeIs S.k n0 n2 k) := NN.out
   by_cases hcn : c = k
   ·have E : Hid (∀ j, j < k + 1 → onceW S j) := fun j hj => by
     rcases Nat.lt_or_ge j k with h | h
     ·exact HS.out j h
     ·obtain rfl : j = k := by omega
      rintro ⟨i, hi, hp⟩
      rw [NN.out.1, NN.out.2] at hp
      rcases HF.out with ⟨e, _⟩ | ⟨i', _, e, _, q⟩
      ·omega
      ·exact q i (by omega) hp
    clear NN HF HS me
    subst hcn
    go_wp2_with fail
    go_quiet (first | (go_at_call 84; refine Calls.quiet_of_same (LC.out _)))
    go_wp2
    go_roundw
    case rel => exact ⟨k + 1, by omega, by go_num, E, below_dr HB.out _⟩
    case measure => simp [intOf]; omega
   ·have E : Hid (r = false) := by
     cases r with
     | false => rfl
     | true =>
      have q := (HR.out.1 rfl).1 k hlt
      rcases HF.out with ⟨_, q'⟩ | ⟨i', hi', e, hp, q'⟩
      ·exact absurd me.out (q' k hlt)
      ·refine absurd ⟨i', ?_, by rw [NN.out.1, NN.out.2]; exact hp⟩ q
       rcases Nat.lt_or_ge k i' with h | h
       ·exact absurd me.out (q' k h)
       ·omega
    have d : (c != (k : Int)) = true := bne_iff_ne.2 hcn
    clear NN HF HS me hcn
    go_wp2_with fail
    go_quiet (first | (go_at_call 84; refine Calls.quiet_of_same (LC.out _)))
    go_wp2
    go_ret
    exact ⟨by rw [E.out]; rfl, below_dr HB.out _⟩
  case neg =>
   have HW : Hid (∀ i, i < S.nw → onceW S i) := fun i hi => HS.out i (by omega)
   clear HS HL
   go_wp2
   clear e2 hk' hlt
   go_loopw [4] (fun i wr => ∃ k : Nat, k ≤ S.nl ∧ i = .int .i64 k ∧ Hid (∀ j, j < k → onceL S j) ∧ Hid (Below w.heap.size w wr)) (fun i _ => S.nl - (intOf i).toNat)
   case atStart => exact ⟨0, Nat.zero_le _, rfl, fun j hj => absurd hj (Nat.not_lt_zero j), HB⟩
   case round =>
    clear HB
    obtain ⟨k, hk', rfl, HS, HB⟩ := hrel
    have HL : Hid (LiesO wr b oo S (.slice a0 S.nc c0) (.slice a1 S.nl c1) (.slice a2 S.nw c2)) := H.out.later HB.out
    have e1 := HL.out.1.2.1
    by_cases hlt : k < S.nl
    case neg =>
     have E : Hid (r = true) := HR.out.2 ⟨HW.out, fun i hi => HS.out i (by omega)⟩
     clear HS HL
     go_wp2
     go_ret
     exact ⟨by rw [E.out]; rfl, HB.out⟩
    obtain ⟨g, o, rfl, _, hg, x0, x1, x2, x3, x4⟩ := HL.out.2.2.1.at5 hlt
    obtain ⟨n0, N0⟩ : ∃ x, S.l (k * 5) = x := ⟨_, rfl⟩
    obtain ⟨n1, N1⟩ : ∃ x, S.l (k * 5 + 1) = x := ⟨_, rfl⟩
    rw [N0] at x0; rw [N1] at x1
    have NN : Hid (S.l (k * 5) = n0 ∧ S.l (k * 5 + 1) = n1) := ⟨N0, N1⟩
    clear N0 N1
    obtain ⟨c, HF⟩ : ∃ c, Hid (FirstAt (writeIs S.k n0 n1) S.nw c) := FirstAt.get _ _
    have LC : Hid (∀ n, Calls Tryz.prog 84 #[.pointer (some ⟨b, oo, none⟩), .int .i64 n0, .int .i64 n1] (wr.drewN n) fun e w' => e = .returned (.int .i64 c) ∧ w' = wr.drewN n) := fun n => l2Write_isO S b oo _ _ _ n0 n1 c _ (HL.out.drewN n) hk HF.out
    by_cases hcn : 0 ≤ c
    ·have E : Hid (r = false) := by
      cases r with
      | false => rfl
      | true =>
       have q := (HR.out.1 rfl).2 k hlt
       rcases HF.out with ⟨e, _⟩ | ⟨i', hi', e, hp, q'⟩
       ·omega
       ·exact absurd ⟨i', hi', by rw [NN.out.1, NN.out.2]; exact hp⟩ q
     have d : decide (0 ≤ c) = true := decide_eq_true hcn
     clear NN HF HS hcn
     go_wp2_with fail
     go_quiet (first | (go_at_call 84; refine Calls.quiet_of_same (LC.out _)))
     go_wp2
     go_ret
     exact ⟨by rw [E.out]; rfl, below_dr HB.out _⟩
    ·have E : Hid (∀ j, j < k + 1 → onceL S j) := fun j hj => by
      rcases Nat.lt_or_ge j k with h | h
      ·exact HS.out j h
      ·obtain rfl : j = k := by omega
       rintro ⟨i, hi, hp⟩
       rw [NN.out.1, NN.out.2] at hp
       rcases HF.out with ⟨_, q⟩ | ⟨i', _, e, _⟩
       ·exact q i hi hp
       ·omega
     have d : decide (0 ≤ c) = false := decide_eq_false hcn
     clear NN HF HS hcn
     go_wp2_with fail
     go_quiet (first | (go_at_call 84; refine Calls.quiet_of_same (LC.out _)))
     go_wp2
     go_roundw
     case rel => exact ⟨k + 1, by omega, by go_num, E, below_dr HB.out _⟩
     case measure => simp [intOf]; omega
end

section
open Go.RowKit
theorem l2Cells_isO (S : Sto) (b oo : Nat) (v0 v1 v2 : Value) (r : Int) (hr : scan (cellF S.c) S.nc = r) (w x : World) (h : LiesO w b oo S v0 v1 v2) (hb : Below w.heap.size w x) (hn : S.nc ≤ 200) :
  Calls Tryz.prog 109 #[.pointer (some ⟨b, oo, none⟩)] x fun e w' => e = .returned (.int .i64 r) ∧ Below w.heap.size w w' :=
 (l2Cells_anyO S b oo v0 v1 v2 x (h.later hb) hn).mono fun e w' ⟨he, hw⟩ => ⟨by rw [he, hr], hb.trans (hw.mono hb.size)⟩
theorem l2Locks_isO (S : Sto) (b oo : Nat) (v0 v1 v2 : Value) (r : Int) (hr : scan (lockF S.l) S.nl = r) (w x : World) (h : LiesO w b oo S v0 v1 v2) (hb : Below w.heap.size w x) (hn : S.nl ≤ 200) :
  Calls Tryz.prog 110 #[.pointer (some ⟨b, oo, none⟩)] x fun e w' => e = .returned (.int .i64 r) ∧ Below w.heap.size w w' :=
 (l2Locks_anyO S b oo v0 v1 v2 x (h.later hb) hn).mono fun e w' ⟨he, hw⟩ => ⟨by rw [he, hr], hb.trans (hw.mono hb.size)⟩
theorem l2Writes_isO (S : Sto) (b oo : Nat) (v0 v1 v2 : Value) (r : Int) (hr : scan (writeF S.k) S.nw = r) (w x : World) (h : LiesO w b oo S v0 v1 v2) (hb : Below w.heap.size w x) (hn : S.nw ≤ 200) :
  Calls Tryz.prog 111 #[.pointer (some ⟨b, oo, none⟩)] x fun e w' => e = .returned (.int .i64 r) ∧ Below w.heap.size w w' :=
 (l2Writes_anyO S b oo v0 v1 v2 x (h.later hb) hn).mono fun e w' ⟨he, hw⟩ => ⟨by rw [he, hr], hb.trans (hw.mono hb.size)⟩
set_option maxRecDepth 10000 in
set_option maxHeartbeats 4000000 in
theorem l2Fault_anyO (S : Sto) (b oo : Nat) (v0 v1 v2 : Value) (w : World) (h : LiesO w b oo S v0 v1 v2) :
  Calls Tryz.prog 83 #[.pointer (some ⟨b, oo, none⟩)] w fun e w' => e = .returned (.int .i64 (storeF S)) ∧ Below w.heap.size w w' := by
 obtain ⟨a0, c0, a1, c1, a2, c2, rfl, rfl, rfl⟩ := h.2.form
 have H : Hid (LiesO w b oo S (.slice a0 S.nc c0) (.slice a1 S.nl c1) (.slice a2 S.nw c2)) := h
 obtain ⟨⟨p0, p1, p2⟩, _⟩ := h
 by_cases m0 : 200 < S.nc
 ·have E : Hid (storeF S = 2) := by unfold Hid storeF; rw [if_pos (Or.inl m0)]
  go_enter Tryz.func83, Tryz.ntmps83
  go_wp2_with fail
  go_wp2
  go_ret
  exact ⟨by rw [E.out]; rfl, Below.refl _ _⟩
 have m0' : decide ((200 : Int) < (S.nc : Int)) = false := decide_eq_false (by omega)
 by_cases m1 : 200 < S.nl
 ·have E : Hid (storeF S = 2) := by unfold Hid storeF; rw [if_pos (Or.inr (Or.inl m1))]
  clear m0
  go_enter Tryz.func83, Tryz.ntmps83
  go_wp2_with fail
  go_wp2
  go_ret
  exact ⟨by rw [E.out]; rfl, Below.refl _ _⟩
 have m1' : decide ((200 : Int) < (S.nl : Int)) = false := decide_eq_false (by omega)
 by_cases m2 : 200 < S.nw
 ·have E : Hid (storeF S = 2) := by unfold Hid storeF; rw [if_pos (Or.inr (Or.inr m2))]
  clear m0 m1
  go_enter Tryz.func83, Tryz.ntmps83
  go_wp2_with fail
  go_wp2
  go_ret
  exact ⟨by rw [E.out]; rfl, Below.refl _ _⟩
 have m2' : decide ((200 : Int) < (S.nw : Int)) = false := decide_eq_false (by omega)
 have HM : Hid (¬ (200 < S.nc ∨ 200 < S.nl ∨ 200 < S.nw)) := by unfold Hid; omega
 have hc : Hid (S.nc ≤ 200 ∧ S.nl ≤ 200 ∧ S.nw ≤ 200) := ⟨by omega, by omega, by omega⟩
 clear m0 m1 m2
 have HB : Hid (Below w.heap.size w w) := Below.refl _ _
 by_cases z0 : scan (cellF S.c) S.nc = 0
 case neg =>
  obtain ⟨f, hf⟩ : ∃ f, scan (cellF S.c) S.nc = f := ⟨_, rfl⟩
  have E : Hid (storeF S = f) := by unfold Hid storeF; rw [if_neg HM.out, if_pos z0]; exact hf
  have hfn : (f == 0) = false := beq_eq_false_iff_ne.2 (by rw [← hf]; exact z0)
  have F0 : Hid (scan (cellF S.c) S.nc = f) := hf
  clear hf z0
  go_enter Tryz.func83, Tryz.ntmps83
  go_wp2_with fail
  refine (l2Cells_isO S b oo _ _ _ f F0.out _ _ H.out HB.out hc.out.1).mono ?_
  rintro e w1 ⟨rfl, q1⟩
  have HB : Hid (Below w.heap.size w w1) := q1
  clear q1
  go_wp2_with fail
  go_wp2
  go_ret
  exact ⟨by rw [E.out]; rfl, HB.out⟩
 have F0 : Hid (scan (cellF S.c) S.nc = 0) := z0
 have G0 : Hid (¬ scan (cellF S.c) S.nc ≠ 0) := fun h => h z0
 clear z0
 by_cases z0 : scan (lockF S.l) S.nl = 0
 case neg =>
  obtain ⟨f, hf⟩ : ∃ f, scan (lockF S.l) S.nl = f := ⟨_, rfl⟩
  have E : Hid (storeF S = f) := by unfold Hid storeF; rw [if_neg HM.out, if_neg G0.out, if_pos z0]; exact hf
  have hfn : (f == 0) = false := beq_eq_false_iff_ne.2 (by rw [← hf]; exact z0)
  have F1 : Hid (scan (lockF S.l) S.nl = f) := hf
  clear hf z0
  go_enter Tryz.func83, Tryz.ntmps83
  go_wp2_with fail
  refine (l2Cells_isO S b oo _ _ _ 0 F0.out _ _ H.out HB.out hc.out.1).mono ?_
  rintro e w1 ⟨rfl, q1⟩
  have HB : Hid (Below w.heap.size w w1) := q1
  clear q1
  go_wp2_with fail
  refine (l2Locks_isO S b oo _ _ _ f F1.out _ _ H.out HB.out hc.out.2.1).mono ?_
  rintro e w1 ⟨rfl, q1⟩
  have HB : Hid (Below w.heap.size w w1) := q1
  clear q1
  go_wp2_with fail
  go_wp2
  go_ret
  exact ⟨by rw [E.out]; rfl, HB.out⟩
 have F1 : Hid (scan (lockF S.l) S.nl = 0) := z0
 have G1 : Hid (¬ scan (lockF S.l) S.nl ≠ 0) := fun h => h z0
 clear z0
 by_cases z0 : scan (writeF S.k) S.nw = 0
 case neg =>
  obtain ⟨f, hf⟩ : ∃ f, scan (writeF S.k) S.nw = f := ⟨_, rfl⟩
  have E : Hid (storeF S = f) := by unfold Hid storeF; rw [if_neg HM.out, if_neg G0.out, if_neg G1.out, if_pos z0]; exact hf
  have hfn : (f == 0) = false := beq_eq_false_iff_ne.2 (by rw [← hf]; exact z0)
  have F2 : Hid (scan (writeF S.k) S.nw = f) := hf
  clear hf z0
  go_enter Tryz.func83, Tryz.ntmps83
  go_wp2_with fail
  refine (l2Cells_isO S b oo _ _ _ 0 F0.out _ _ H.out HB.out hc.out.1).mono ?_
  rintro e w1 ⟨rfl, q1⟩
  have HB : Hid (Below w.heap.size w w1) := q1
  clear q1
  go_wp2_with fail
  refine (l2Locks_isO S b oo _ _ _ 0 F1.out _ _ H.out HB.out hc.out.2.1).mono ?_
  rintro e w1 ⟨rfl, q1⟩
  have HB : Hid (Below w.heap.size w w1) := q1
  clear q1
  go_wp2_with fail
  refine (l2Writes_isO S b oo _ _ _ f F2.out _ _ H.out HB.out hc.out.2.2).mono ?_
  rintro e w1 ⟨rfl, q1⟩
  have HB : Hid (Below w.heap.size w w1) := q1
  clear q1
  go_wp2_with fail
  go_wp2
  go_ret
  exact ⟨by rw [E.out]; rfl, HB.out⟩
 have F2 : Hid (scan (writeF S.k) S.nw = 0) := z0
 have G2 : Hid (¬ scan (writeF S.k) S.nw ≠ 0) := fun h => h z0
 clear z0
 by_cases y0 : needs S
 case neg =>
  have E : Hid (storeF S = 4) := by unfold Hid storeF; rw [if_neg HM.out, if_neg G0.out, if_neg G1.out, if_neg G2.out, if_pos y0]
  have Y : Hid (false = true ↔ needs S) := ⟨fun h => absurd h (by decide), fun h => absurd h y0⟩
  clear y0
  go_enter Tryz.func83, Tryz.ntmps83
  go_wp2_with fail
  refine (l2Cells_isO S b oo _ _ _ 0 F0.out _ _ H.out HB.out hc.out.1).mono ?_
  rintro e w1 ⟨rfl, q1⟩
  have HB : Hid (Below w.heap.size w w1) := q1
  clear q1
  go_wp2_with fail
  refine (l2Locks_isO S b oo _ _ _ 0 F1.out _ _ H.out HB.out hc.out.2.1).mono ?_
  rintro e w1 ⟨rfl, q1⟩
  have HB : Hid (Below w.heap.size w w1) := q1
  clear q1
  go_wp2_with fail
  refine (l2Writes_isO S b oo _ _ _ 0 F2.out _ _ H.out HB.out hc.out.2.2).mono ?_
  rintro e w1 ⟨rfl, q1⟩
  have HB : Hid (Below w.heap.size w w1) := q1
  clear q1
  go_wp2_with fail
  refine (l2Needs_anyO S b oo _ _ _ false _ (H.out.later HB.out) hc.out.1 hc.out.2.1 hc.out.2.2 Y.out).mono ?_
  rintro e w1 ⟨rfl, q1⟩
  have HB : Hid (Below w.heap.size w w1) := HB.out.trans (q1.mono HB.out.size)
  clear q1
  go_wp2
  go_ret
  exact ⟨by rw [E.out]; rfl, HB.out⟩
 have Y : Hid (needs S) := y0
 have G3 : Hid (¬ ¬ needs S) := fun h => h y0
 clear y0
 by_cases y0 : once S
 case neg =>
  have E : Hid (storeF S = 6) := by unfold Hid storeF; rw [if_neg HM.out, if_neg G0.out, if_neg G1.out, if_neg G2.out, if_neg G3.out, if_pos y0]
  have Z : Hid (false = true ↔ once S) := ⟨fun h => absurd h (by decide), fun h => absurd h y0⟩
  clear y0
  go_enter Tryz.func83, Tryz.ntmps83
  go_wp2_with fail
  refine (l2Cells_isO S b oo _ _ _ 0 F0.out _ _ H.out HB.out hc.out.1).mono ?_
  rintro e w1 ⟨rfl, q1⟩
  have HB : Hid (Below w.heap.size w w1) := q1
  clear q1
  go_wp2_with fail
  refine (l2Locks_isO S b oo _ _ _ 0 F1.out _ _ H.out HB.out hc.out.2.1).mono ?_
  rintro e w1 ⟨rfl, q1⟩
  have HB : Hid (Below w.heap.size w w1) := q1
  clear q1
  go_wp2_with fail
  refine (l2Writes_isO S b oo _ _ _ 0 F2.out _ _ H.out HB.out hc.out.2.2).mono ?_
  rintro e w1 ⟨rfl, q1⟩
  have HB : Hid (Below w.heap.size w w1) := q1
  clear q1
  go_wp2_with fail
  refine (l2Needs_anyO S b oo _ _ _ true _ (H.out.later HB.out) hc.out.1 hc.out.2.1 hc.out.2.2 ⟨fun _ => Y.out, fun _ => rfl⟩).mono ?_
  rintro e w1 ⟨rfl, q1⟩
  have HB : Hid (Below w.heap.size w w1) := HB.out.trans (q1.mono HB.out.size)
  clear q1
  go_wp2_with fail
  refine (l2Once_anyO S b oo _ _ _ false _ (H.out.later HB.out) hc.out.2.1 hc.out.2.2 Z.out).mono ?_
  rintro e w1 ⟨rfl, q1⟩
  have HB : Hid (Below w.heap.size w w1) := HB.out.trans (q1.mono HB.out.size)
  clear q1
  go_wp2
  go_ret
  exact ⟨by rw [E.out]; rfl, HB.out⟩
 have E : Hid (storeF S = 0) := by unfold Hid storeF; rw [if_neg HM.out, if_neg G0.out, if_neg G1.out, if_neg G2.out, if_neg G3.out, if_neg (fun h => h y0)]
 have Z : Hid (once S) := y0
 clear y0
 go_enter Tryz.func83, Tryz.ntmps83
 go_wp2_with fail
 refine (l2Cells_isO S b oo _ _ _ 0 F0.out _ _ H.out HB.out hc.out.1).mono ?_
 rintro e w1 ⟨rfl, q1⟩
 have HB : Hid (Below w.heap.size w w1) := q1
 clear q1
 go_wp2_with fail
 refine (l2Locks_isO S b oo _ _ _ 0 F1.out _ _ H.out HB.out hc.out.2.1).mono ?_
 rintro e w1 ⟨rfl, q1⟩
 have HB : Hid (Below w.heap.size w w1) := q1
 clear q1
 go_wp2_with fail
 refine (l2Writes_isO S b oo _ _ _ 0 F2.out _ _ H.out HB.out hc.out.2.2).mono ?_
 rintro e w1 ⟨rfl, q1⟩
 have HB : Hid (Below w.heap.size w w1) := q1
 clear q1
 go_wp2_with fail
 refine (l2Needs_anyO S b oo _ _ _ true _ (H.out.later HB.out) hc.out.1 hc.out.2.1 hc.out.2.2 ⟨fun _ => Y.out, fun _ => rfl⟩).mono ?_
 rintro e w1 ⟨rfl, q1⟩
 have HB : Hid (Below w.heap.size w w1) := HB.out.trans (q1.mono HB.out.size)
 clear q1
 go_wp2_with fail
 refine (l2Once_anyO S b oo _ _ _ true _ (H.out.later HB.out) hc.out.2.1 hc.out.2.2 ⟨fun _ => Z.out, fun _ => rfl⟩).mono ?_
 rintro e w1 ⟨rfl, q1⟩
 have HB : Hid (Below w.heap.size w w1) := HB.out.trans (q1.mono HB.out.size)
 clear q1
 go_wp2
 go_ret
 exact ⟨by rw [E.out]; rfl, HB.out⟩

theorem l2Fault_any (S : Sto) (b : Nat) (v0 v1 v2 : Value) (w : World) (h : Lies w b S v0 v1 v2) :
  Calls Tryz.prog 83 #[.pointer (some ⟨b, 0, none⟩)] w fun e w' => e = .returned (.int .i64 (storeF S)) ∧ Below w.heap.size w w' := l2Fault_anyO S b 0 v0 v1 v2 w h.o
theorem l2Write_is (S : Sto) (b : Nat) (v0 v1 v2 : Value) (a s r : Int) (w : World) (h : Lies w b S v0 v1 v2) (hn : S.nw ≤ 200) (hr : FirstAt (writeIs S.k a s) S.nw r) :
  Calls Tryz.prog 84 #[.pointer (some ⟨b, 0, none⟩), .int .i64 a, .int .i64 s] w fun e w' => e = .returned (.int .i64 r) ∧ w' = w := l2Write_isO S b 0 v0 v1 v2 a s r w h.o hn hr
end
end Go.Proofs.YtiadbiiiikhfaaaGreatDoor

namespace Go.Proofs.YtiadbiiiikhfaaaGreatDoor
section
open Go.RowKit Go.Sort Go.Shelf Go.Lib
/-- The structs among the first k that are not struck. -/
def selD (F : Nat → Int) (m : Nat) (D : List Int → Bool) : Nat → List (List Int)
 | 0 => []
 | k + 1 => selD F m D k ++ (if D (struD F m k) = true then [] else [struD F m k])
theorem selD_gone {F : Nat → Int} {m : Nat} {D : List Int → Bool} {k : Nat} (h : D (struD F m k) = true) : selD F m D (k + 1) = selD F m D k := by rw [selD, if_pos h, List.append_nil]
theorem selD_kept {F : Nat → Int} {m : Nat} {D : List Int → Bool} {k : Nat} (h : D (struD F m k) = false) : selD F m D (k + 1) = selD F m D k ++ [struD F m k] := by rw [selD, if_neg (by rw [h]; exact Bool.false_ne_true)]
theorem selD_len (F : Nat → Int) (m : Nat) (D : List Int → Bool) : ∀ k, (∀ t ∈ selD F m D k, t.length = m)
 | 0 => fun t ht => by simp [selD] at ht
 | k + 1 => fun t ht => by
  cases h : D (struD F m k) with
  | true => rw [selD_gone h] at ht; exact selD_len F m D k t ht
  | false =>
   rw [selD_kept h] at ht
   rcases List.mem_append.1 ht with q | q
   ·exact selD_len F m D k t q
   ·simp at q; rw [q]; exact struD_len _ _ _
theorem selD_le (F : Nat → Int) (m : Nat) (D : List Int → Bool) : ∀ k, (selD F m D k).length ≤ k
 | 0 => Nat.le_refl _
 | k + 1 => by
  have ih := selD_le F m D k
  cases h : D (struD F m k) with
  | true => rw [selD_gone h]; omega
  | false => rw [selD_kept h, List.length_append, List.length_singleton]; omega
theorem selD_none {F : Nat → Int} {m : Nat} {D : List Int → Bool} : ∀ {k : Nat}, (∀ i, i < k → D (struD F m i) = false) → selD F m D k = (List.range k).map (struD F m)
 | 0, _ => rfl
 | k + 1, h => by
  rw [selD_kept (h k (by omega)), selD_none (fun i hi => h i (by omega)), List.range_succ, List.map_append]
  rfl
theorem selD_same {F : Nat → Int} {m : Nat} {D : List Int → Bool} {k : Nat} (h : ∀ i, i < k → D (struD F m i) = false) : (selD F m D k).length = k ∧ ∀ p, p < k * m → (selD F m D k).flatten.getD p 0 = F p := by
 have e := selD_none h
 have hl : (selD F m D k).length = k := by rw [e]; simp
 refine ⟨hl, fun p hp => ?_⟩
 obtain ⟨h1, h2⟩ := div_lt hp
 rw [flat_get (m := m) _ p (selD_len F m D k) (by rw [hl]; exact hp), e]
 have e1 : ((List.range k).map (struD F m)).getD (p / m) [] = struD F m (p / m) := by simp [h1]
 rw [e1, struD_get F m _ _ h2, Nat.mul_comm, Nat.div_add_mod]
theorem flat_len {m : Nat} : ∀ (L : List (List Int)), (∀ t ∈ L, t.length = m) → L.flatten.length = L.length * m
 | [], _ => by simp
 | x :: r, h => by
  rw [List.flatten_cons, List.length_append, h x List.mem_cons_self, flat_len r (fun t ht => h t (List.mem_cons_of_mem _ ht)), List.length_cons, Nat.succ_mul, Nat.add_comm]
/-- Block g is a row of N cells of type e. -/
def Blkk (x : World) (g : Nat) (e : TypeId) (N : Nat) : Prop := ∃ cur, x.heap[g]? = some (.cells cur e) ∧ cur.size = N
theorem Blkk.kept {x x' : World} {g : Nat} {e : TypeId} {N : Nat} (h : Blkk x g e N) (hb : x'.heap[g]? = x.heap[g]?) : Blkk x' g e N := by
 obtain ⟨cur, h1, h2⟩ := h
 exact ⟨cur, hb.trans h1, h2⟩
theorem Blkk.lt {x : World} {g : Nat} {e : TypeId} {N : Nat} (h : Blkk x g e N) : g < x.heap.size := by
 obtain ⟨cur, h1, _⟩ := h
 exact (Array.getElem?_eq_some_iff.1 h1).1
theorem Blkk.set {x : World} {g : Nat} {e : TypeId} {N : Nat} (h : Blkk x g e N) (o : Nat) (u : Value) : Blkk (x.setCell ⟨g, o, none⟩ u) g e N := by
 obtain ⟨cur, h1, h2⟩ := h
 refine ⟨cur.setIfInBounds o u, ?_, by simpa using h2⟩
 simp [World.setCell, Array.getElem?_modify, h1]
theorem Blkk.sets {g : Nat} {e : TypeId} {N : Nat} : ∀ (vs : List Value) (o : Nat) (x : World), Blkk x g e N → Blkk (x.setCells g o vs) g e N
 | [], _, _, h => h
 | v :: r, o, _, h => Blkk.sets r (o + 1) _ (h.set o v)
theorem Blkk.cell {x : World} {g : Nat} {e : TypeId} {N : Nat} (h : Blkk x g e N) {p : Nat} (hp : p < N) : (∃ u, x.cell? ⟨g, p, none⟩ = some u) ∧ x.frozen? ⟨g, p, none⟩ = false := by
 obtain ⟨cur, h1, h2⟩ := h
 refine ⟨⟨cur[p]'(by omega), ?_⟩, ?_⟩
 ·simp [World.cell?, h1]
 ·simp [World.frozen?, h1]
theorem own_of {x : World} {B g : Nat} {e : TypeId} {m n cap : Nat} {F : Nat → Int} (h : Blkk x g e (cap * m)) (hB : B ≤ g) (hn : n ≤ cap) (hc : cap ≤ maxLen) (hF : ∀ p, p < n * m → x.cell? ⟨g, p, none⟩ = some (.int .i64 (F p))) : Own x B e m n F (.slice (some ⟨g, 0, none⟩) n cap) := by
 obtain ⟨cur, h1, h2⟩ := h
 refine ⟨vals_length _ _, Or.inr ⟨g, cap, cur, rfl, hB, h1, hn, hc, h2, ?_⟩⟩
 apply List.ext_getElem?
 intro p
 rcases Nat.lt_or_ge p (n * m) with hp | hp
 ·rw [vals_at F _ p hp]
  have hle : n * m ≤ cap * m := Nat.mul_le_mul_right m hn
  have := hF p hp
  have hps : p < cur.size := by omega
  simp [World.cell?, h1, hps] at this
  rw [List.getElem?_take, if_pos hp]
  simp [hps, this]
 ·rw [List.getElem?_eq_none (by rw [List.length_take]; omega), List.getElem?_eq_none (by rw [vals_length]; exact hp)]
theorem Own.parts {x : World} {B : Nat} {e : TypeId} {m n : Nat} {F : Nat → Int} {v : Value} (h : Own x B e m n F v) : (v = .slice none 0 0 ∧ n = 0) ∨ ∃ g cap, v = .slice (some ⟨g, 0, none⟩) n cap ∧ B ≤ g ∧ n ≤ cap ∧ cap ≤ maxLen ∧ Blkk x g e (cap * m) ∧ ∀ p, p < n * m → x.cell? ⟨g, p, none⟩ = some (.int .i64 (F p)) := by
 have hr := h.row.1
 rcases h.2 with q | ⟨g, cap, cur, rfl, hg, hw, h1, h2, h3, _⟩
 ·exact Or.inl q
 ·refine Or.inr ⟨g, cap, rfl, hg, h1, h2, ⟨cur, hw, h3⟩, fun p hp => ?_⟩
  have hn : 0 < n := Nat.pos_of_ne_zero (fun e => by subst e; simp at hp)
  obtain ⟨ao, cp, hv, hr⟩ := hr
  obtain ⟨g', o', e, _, _, hc⟩ := hr hn
  simp at hv
  obtain ⟨rfl, rfl⟩ := hv
  simp at e
  obtain ⟨rfl, rfl⟩ := e
  have := hc p hp
  rwa [Nat.zero_add] at this
theorem grown_sets (g : Nat) : ∀ (vs : List Value) (o : Nat) (w : World), w.grownBy (w.setCells g o vs) (some g)
 | [], _, _ => ⟨rfl, rfl, rfl, Nat.le_refl _, fun _ _ _ => rfl⟩
 | v :: r, o, w => by
  have ih := grown_sets g r (o + 1) (w.setCell ⟨g, o, none⟩ v)
  refine ⟨ih.os, ih.tape, ih.output, Nat.le_trans (by simp) ih.size, fun i hi hne => (ih.block i (by simpa using hi) hne).trans (Below.heap_setCell w _ _ i (fun e => hne (by rw [e])))⟩
/-- 'clear(s[i:])' at a slice of structs. -/
theorem run_clear_row (t e : TypeId) (z : Value) (m : Nat) (ht : Tryz.prog.underlying t = some (.slice e)) (hv : ∀ w, (zeroValue e).run Tryz.prog w = .ok z w) (hz : z.cells.size = m) (h1 : ∀ v ∈ z.cells.toList, v.oneCell' = true) (w : World) (g a k c N : Nat) (hb : Blkk w g e N) (hN : a + k * m ≤ N) (hk : 0 < k) (hm : 0 < m) :
  ∃ w', (∀ ty, (Builtin.clear_ #[t] ty #[.slice (some ⟨g, a, none⟩) k c]).run Tryz.prog w = .ok (.tuple #[]) w') ∧ (Blkk w' g e N ∧ ∀ p, p < a → w'.cell? ⟨g, p, none⟩ = w.cell? ⟨g, p, none⟩) ∧ w.grownBy w' (some g) := by
 have hzl : (Builtin.zeroCells z.cells k).toList.length = k * m := by simp [Builtin.zeroCells, hz]
 refine ⟨w.setCells g a (Builtin.zeroCells z.cells k).toList, fun ty => ?_, ⟨hb.sets _ _ _, fun p hp => World.cell?_setCells_out g _ a w _ (fun _ _ => Or.inl hp)⟩, ?_⟩
 ·have hst := run_storeCells_cells (P := Tryz.prog) g a (Builtin.zeroCells z.cells k).toList 0 w (fun j hj => by rw [Nat.add_zero]; obtain ⟨u, hu⟩ := (hb.cell (p := a + j) (by omega)).1; rw [hu]; rfl) (fun j hj => by rw [Nat.add_zero]; exact (hb.cell (p := a + j) (by omega)).2) (fun v hv' => by
   simp only [Builtin.zeroCells, Array.toList_map, List.mem_map] at hv'
   obtain ⟨i, _, rfl⟩ := hv'
   have hi : i % z.cells.size < z.cells.size := Nat.mod_lt _ (by omega)
   rw [getElem!_pos z.cells _ hi]
   exact h1 _ (Array.getElem_mem_toList hi))
  simp only [Nat.add_zero] at hst
  obtain ⟨q, rfl⟩ : ∃ q, k = q + 1 := ⟨k - 1, by omega⟩
  simp [Builtin.clear_, run_underlying ht, hv, hst]
 ·exact grown_sets g _ a w
end

section
open Go.RowKit Go.Sort Go.Shelf Go.Lib
theorem Own.congr {x : World} {B : Nat} {e : TypeId} {m n : Nat} {F G : Nat → Int} {v : Value} (h : Own x B e m n F v) (hF : ∀ p, p < n * m → F p = G p) : Own x B e m n G v := by
 have hv : vals F (n * m) = vals G (n * m) := by
  unfold vals
  refine List.map_congr_left (fun p hp => ?_)
  rw [hF p (List.mem_range.1 hp)]
 unfold Own at *
 rw [← hv]
 exact h
/-- A row under way: the kept structs L stand first, from number j on it is as it was. -/
def Mid (x : World) (g : Nat) (e : TypeId) (m n cap : Nat) (F : Nat → Int) (L : List (List Int)) (j : Nat) : Prop :=
 Blkk x g e (cap * m) ∧ (∀ p, p < L.length * m → x.cell? ⟨g, p, none⟩ = some (.int .i64 (L.flatten.getD p 0))) ∧ ∀ p, j * m ≤ p → p < n * m → x.cell? ⟨g, p, none⟩ = some (.int .i64 (F p))
theorem Mid.kept {x x' : World} {g : Nat} {e : TypeId} {m n cap : Nat} {F : Nat → Int} {L : List (List Int)} {j : Nat} (h : Mid x g e m n cap F L j) (hb : x'.heap[g]? = x.heap[g]?) : Mid x' g e m n cap F L j :=
 ⟨h.1.kept hb, fun p hp => (World.cell?_of_block (w := x) (a := ⟨g, p, none⟩) hb).trans (h.2.1 p hp), fun p h1 h2 => (World.cell?_of_block (w := x) (a := ⟨g, p, none⟩) hb).trans (h.2.2 p h1 h2)⟩
theorem Mid.later {x x' : World} {g : Nat} {e : TypeId} {m n cap : Nat} {F : Nat → Int} {L : List (List Int)} {j : Nat} (h : Mid x g e m n cap F L j) (hb : Below x.heap.size x x') : Mid x' g e m n cap F L j := h.kept (hb.block g h.1.lt)
theorem Mid.skip {x : World} {g : Nat} {e : TypeId} {m n cap : Nat} {F : Nat → Int} {L : List (List Int)} {j : Nat} (h : Mid x g e m n cap F L j) : Mid x g e m n cap F L (j + 1) := ⟨h.1, h.2.1, fun p h1 h2 => h.2.2 p (by rw [Nat.succ_mul] at h1; omega) h2⟩
theorem Mid.put {x : World} {g : Nat} {e : TypeId} {m n cap : Nat} {F : Nat → Int} {L : List (List Int)} {j : Nat} (h : Mid x g e m n cap F L j) (hL : ∀ t ∈ L, t.length = m) (t : List Int) (ht : t.length = m) (hj : L.length ≤ j) (hjn : j < n) (hn : n ≤ cap) : Mid (x.setCells g (L.length * m) (t.map (Value.int .i64))) g e m n cap F (L ++ [t]) (j + 1) := by
 have hle : (L.length + 1) * m ≤ cap * m := Nat.mul_le_mul_right m (by omega)
 have hlj : (L.length + 1) * m ≤ (j + 1) * m := Nat.mul_le_mul_right m (by omega)
 have hsm : (L.length + 1) * m = L.length * m + m := Nat.succ_mul _ _
 have hfl := flat_len L hL
 refine ⟨h.1.sets _ _ _, fun p hp => ?_, fun p h1 h2 => ?_⟩
 ·rw [List.length_append, List.length_singleton, hsm] at hp
  rw [List.flatten_append]
  rcases Nat.lt_or_ge p (L.length * m) with q | q
  ·rw [World.cell?_setCells_out g _ _ _ _ (fun _ _ => Or.inl q), h.2.1 p q]
   simp [List.getElem?_append, hfl, q]
  ·obtain ⟨r, rfl⟩ : ∃ r, p = L.length * m + r := ⟨p - L.length * m, by omega⟩
   have hr : r < t.length := by omega
   rw [World.cell?_setCells_in g (t.map (Value.int .i64)) (L.length * m) x (fun q hq => by
    have hq' : q < m := by simpa [ht] using hq
    obtain ⟨u, hu⟩ := (h.1.cell (p := L.length * m + q) (by omega)).1
    rw [hu]; rfl) r (by simpa using hr)]
   simp [hfl, hr]
 ·rw [World.cell?_setCells_out g _ _ _ _ (fun _ _ => Or.inr (by simp [ht]; omega))]
  exact h.2.2 p (by rw [Nat.succ_mul] at h1; omega) h2
end
end Go.Proofs.YtiadbiiiikhfaaaGreatDoor

namespace Go.Proofs.YtiadbiiiikhfaaaGreatDoor
section
open Go.RowKit
/-- The first N numbers. -/
def nums (F : Nat → Int) (N : Nat) : List Int := (List.range N).map F
theorem nums_length (F : Nat → Int) (N : Nat) : (nums F N).length = N := by simp [nums]
theorem nums_vals (F : Nat → Int) (N : Nat) : (nums F N).map (Value.int .i64) = vals F N := by simp [nums, vals]
theorem run_app (t ty e : TypeId) (i : TypeInfo) (z : Value) (m bytes : Nat) (ht : Tryz.prog.underlying t = some (.slice e)) (hi : Tryz.prog.info? e = some i) (hz : i.zero = some z) (hsize : i.size = m) (hby : i.bytes = bytes) (hzs : z.cells.size = m) (hm : 0 < m) (hb5 : bytes ≤ 1000)
  (w : World) (base n0 : Nat) (L : List Int) (v : Value) (hown : OwnM w base e m v n0 L) (B n : Nat) (F : Nat → Int) (x : Value) (h : Row w B m n F x) (hn : n0 + n ≤ 1048576) (hbase : base ≤ w.heap.size) :
  ∃ ao cp w', (Builtin.append_ #[t, t] ty #[v, x]).run Tryz.prog w = .ok (.slice ao (n0 + n) cp) w' ∧ OwnM w' base e m (.slice ao (n0 + n) cp) (n0 + n) (L ++ nums F (n * m)) ∧ w.grownBy w' v.ownBlock := by
 have hbb : (n0 + n) * bytes ≤ 1048576 * 1000 := Nat.mul_le_mul hn hb5
 obtain ⟨ao, cp, rfl⟩ := h.form
 cases ao with
 | none =>
  have e0 : n = 0 := by
   rcases Nat.eq_zero_or_pos n with q | q
   ·exact q
   ·obtain ⟨g, o, hg, _⟩ := h.at q
    cases hg
  subst e0
  obtain ⟨av, cv, rfl⟩ := hown.form
  refine ⟨av, cv, w, ?_, ?_, ⟨rfl, rfl, rfl, Nat.le_refl _, fun _ _ _ => rfl⟩⟩
  ·rcases hown.2 with ⟨q, _⟩ | ⟨g, cap, cur, q, _, _, hnc, _⟩
   ·cases q
    simp [Builtin.append_, run_underlying ht, sizeOf, typeInfo, hi, Builtin.lenOf, Builtin.firstCells]
   ·cases q
    simp [Builtin.append_, run_underlying ht, sizeOf, typeInfo, hi, Builtin.lenOf, Builtin.firstCells, hnc, storeCells]
  ·simpa [nums] using hown
 | some a =>
  obtain ⟨v', w', h1, h2, h3, _⟩ := run_append_own (P := Tryz.prog) w base t ty e i z m bytes ht hi hz hsize hby hzs hm v n0 _ hown a n cp (vals F (n * m)) (vals_length _ _) (row_cells h) (vals_one _ _) (by unfold maxLen; omega) (by omega) hbase
  have h2' : OwnM w' base e m v' (n0 + n) (L ++ nums F (n * m)) := by
   unfold OwnM
   rw [List.map_append, nums_vals]
   exact h2
  obtain ⟨ao', cp', rfl⟩ := h2'.form
  exact ⟨ao', cp', w', h1, h2', h3⟩
/-- The law for the walk. -/
theorem wpList_app (e : TypeId) (i : TypeInfo) (z : Value) (m bytes : Nat) {ops : Array Oper} {rest : List Oper} {o : Oper} {a : Act} {Q : Exit → Act → World → Prop} (hgd : o.guard = none) (s x : Operand) (t : TypeId) (ho : o.op = .call { callee := .builtin .append, args := #[s, x], argTypes := #[t, t] })
  (ht : Tryz.prog.underlying t = some (.slice e)) (hi : Tryz.prog.info? e = some i) (hz : i.zero = some z) (hsize : i.size = m) (hby : i.bytes = bytes) (hzs : z.cells.size = m) (hm : 0 < m) (hb5 : bytes ≤ 1000)
  (w : World) (base n0 : Nat) (L : List Int) (v : Value) (hs : a.eval s = v) (hown : OwnM w base e m v n0 L) (B n : Nat) (F : Nat → Int) (u : Value) (hx : a.eval x = u) (h : Row w B m n F u) (hn : n0 + n ≤ 1048576) (hbase : base ≤ w.heap.size)
  (hK : ∀ ao cp w', OwnM w' base e m (.slice ao (n0 + n) cp) (n0 + n) (L ++ nums F (n * m)) → w.grownBy w' v.ownBlock → wpList Tryz.prog ops Q rest (a.put o.dst (.slice ao (n0 + n) cp)) w') : wpList Tryz.prog ops Q (o :: rest) a w := by
 refine wpList_plain hgd fun K hK' => ?_
 obtain ⟨ao, cp, w', hr, h2, h3⟩ := run_app t o.type e i z m bytes ht hi hz hsize hby hzs hm hb5 w base n0 L v hown B n F u h hn hbase
 unfold Oper.wp execOp
 simp only [ho, resolve, invoke, builtin, Sem.run_bind, Sem.run_pure, Result.andThen_ok, List.map_toArray, List.map_cons, List.map_nil, hs, hx, hr]
 exact hK' _ _ (hK ao cp w' h2 h3)
/-- .. and at one operation. -/
theorem wp_app (e : TypeId) (i : TypeInfo) (z : Value) (m bytes : Nat) {o : Oper} {a : Act} {K : Act → World → Prop} {Q : Exit → Act → World → Prop} (s x : Operand) (t : TypeId) (ho : o.op = .call { callee := .builtin .append, args := #[s, x], argTypes := #[t, t] })
  (ht : Tryz.prog.underlying t = some (.slice e)) (hi : Tryz.prog.info? e = some i) (hz : i.zero = some z) (hsize : i.size = m) (hby : i.bytes = bytes) (hzs : z.cells.size = m) (hm : 0 < m) (hb5 : bytes ≤ 1000)
  (w : World) (base n0 : Nat) (L : List Int) (v : Value) (hs : a.eval s = v) (hown : OwnM w base e m v n0 L) (B n : Nat) (F : Nat → Int) (u : Value) (hx : a.eval x = u) (h : Row w B m n F u) (hn : n0 + n ≤ 1048576) (hbase : base ≤ w.heap.size)
  (hK : ∀ ao cp w', OwnM w' base e m (.slice ao (n0 + n) cp) (n0 + n) (L ++ nums F (n * m)) → w.grownBy w' v.ownBlock → K (a.put o.dst (.slice ao (n0 + n) cp)) w') : o.wp Tryz.prog a w K Q := by
 obtain ⟨ao, cp, w', hr, h2, h3⟩ := run_app t o.type e i z m bytes ht hi hz hsize hby hzs hm hb5 w base n0 L v hown B n F u h hn hbase
 unfold Oper.wp execOp
 simp only [ho, resolve, invoke, builtin, Sem.run_bind, Sem.run_pure, Result.andThen_ok, List.map_toArray, List.map_cons, List.map_nil, hs, hx, hr]
 exact hK ao cp w' h2 h3
/-- .. and at one step of a region that draws. -/
theorem step_app (e : TypeId) (i : TypeInfo) (z : Value) (m bytes : Nat) {ops : Array Oper} {o : Oper} {a : Act} {K : Act → World → Prop} {Q : Exit → Act → World → Prop} {E : Prop} (hgd : o.guard = none) (s x : Operand) (t : TypeId) (ho : o.op = .call { callee := .builtin .append, args := #[s, x], argTypes := #[t, t] })
  (ht : Tryz.prog.underlying t = some (.slice e)) (hi : Tryz.prog.info? e = some i) (hz : i.zero = some z) (hsize : i.size = m) (hby : i.bytes = bytes) (hzs : z.cells.size = m) (hm : 0 < m) (hb5 : bytes ≤ 1000)
  (w : World) (base n0 : Nat) (L : List Int) (v : Value) (hs : a.eval s = v) (hown : OwnM w base e m v n0 L) (B n : Nat) (F : Nat → Int) (u : Value) (hx : a.eval x = u) (h : Row w B m n F u) (hn : n0 + n ≤ 1048576) (hbase : base ≤ w.heap.size)
  (hK : ∀ ao cp w', OwnM w' base e m (.slice ao (n0 + n) cp) (n0 + n) (L ++ nums F (n * m)) → w.grownBy w' v.ownBlock → K (a.put o.dst (.slice ao (n0 + n) cp)) w') :
  if Region.wanted o (yielded ops a.tmps) = true then Oper.wp Tryz.prog o a w K Q else E := by
 have hw : Region.wanted o (yielded ops a.tmps) = true := by simp [Region.wanted, hgd]
 rw [if_pos hw]
 exact wp_app e i z m bytes s x t ho ht hi hz hsize hby hzs hm hb5 w base n0 L v hs hown B n F u hx h hn hbase hK
theorem OwnM.lit0 (Y : World) (b : Nat) (e : TypeId) (m : Nat) (hb : Y.heap.size = b) : OwnM (Y.alloc (.cells #[] e)) b e m (.slice (some ⟨b, 0, none⟩) 0 0) 0 [] := by
 subst hb
 exact World.ownsRow_lit Y #[] 0 (Nat.le_refl _) (Nat.zero_le _) (by simp)
/-- The first k elements, and those from k on. -/
theorem Row.head {w : World} {B m n : Nat} {F : Nat → Int} {ao : Option Addr} {cp : Nat} (h : Row w B m n F (.slice ao n cp)) {k : Nat} (hk : k ≤ n) (c' : Nat) : Row w B m k F (.slice ao k c') := by
 obtain ⟨ao', cp', hv, h⟩ := h
 simp only [Value.slice.injEq] at hv
 obtain ⟨rfl, _, _⟩ := hv
 refine ⟨_, _, rfl, fun hn => ?_⟩
 obtain ⟨g, o, ha, hB, hg, hc⟩ := h (by omega)
 exact ⟨g, o, ha, hB, hg, fun p hp => hc p (Nat.lt_of_lt_of_le hp (Nat.mul_le_mul_right m hk))⟩
theorem Row.tail {w : World} {B m n g o : Nat} {F : Nat → Int} {cp : Nat} (h : Row w B m n F (.slice (some ⟨g, o, none⟩) n cp)) {k : Nat} (hk : k < n) (c' : Nat) : Row w B m (n - k) (fun p => F (k * m + p)) (.slice (some ⟨g, o + k * m, none⟩) (n - k) c') := by
 obtain ⟨ao', cp', hv, h⟩ := h
 obtain ⟨g', o', ha, hB, hg, hc⟩ := h (by omega)
 simp only [Value.slice.injEq] at hv
 obtain ⟨rfl, _, _⟩ := hv
 simp only [Option.some.injEq, Addr.mk.injEq] at ha
 obtain ⟨rfl, rfl, _⟩ := ha
 refine ⟨_, _, rfl, fun _ => ⟨g, o + k * m, rfl, hB, hg, fun p hp => ?_⟩⟩
 rw [Nat.add_assoc]
 refine hc _ ?_
 have e1 : (n - k) * m = n * m - k * m := Nat.sub_mul n k m
 have e2 : k * m ≤ n * m := Nat.mul_le_mul_right m (by omega)
 omega
theorem Row.tailS {w : World} {B m n g o : Nat} {F : Nat → Int} {cp : Nat} (h : Row w B m n F (.slice (some ⟨g, o, none⟩) n cp)) {k : Nat} (hk : k < n) (hc : n ≤ cp) : Row w B m (n - k) (fun p => F (k * m + p)) (.slice (if cp = k then some ⟨g, o, none⟩ else some ⟨g, o + k * m, none⟩) (n - k) (cp - k)) := by
 rw [if_neg (by omega)]
 exact h.tail hk _
theorem Row.over (w : World) (B m n k : Nat) (F : Nat → Int) (ao : Option Addr) (c : Nat) (hk : ¬ k < n) : Row w B m (n - k) F (.slice ao (n - k) c) := ⟨_, _, rfl, fun q => by omega⟩
theorem OwnM.keptB {w w' : World} {B : Nat} {e : TypeId} {m : Nat} {v : Value} {n : Nat} {L : List Int} (h : OwnM w B e m v n L) (hb : ∀ k, v.ownBlock = some k → w'.heap[k]? = w.heap[k]?) : OwnM w' B e m v n L := by
 obtain ⟨h1, h2⟩ := h
 refine ⟨h1, ?_⟩
 rcases h2 with q | ⟨g, cap, cur, rfl, q1, q2, q3⟩
 ·exact Or.inl q
 ·exact Or.inr ⟨g, cap, cur, rfl, q1, (hb g rfl).trans q2, q3⟩
theorem OwnM.set {w : World} {B : Nat} {e : TypeId} {m : Nat} {v : Value} {n : Nat} {L : List Int} (h : OwnM w B e m v n L) {c : Nat} (hc : ∀ k, v.ownBlock = some k → k ≠ c) (j : Nat) (u : Value) : OwnM (w.setCell ⟨c, j, none⟩ u) B e m v n L :=
 h.keptB (fun k hk => Below.heap_setCell w _ u k (hc k hk))
theorem run_appL (t ty e : TypeId) (i : TypeInfo) (z : Value) (m bytes : Nat) (ht : Tryz.prog.underlying t = some (.slice e)) (hi : Tryz.prog.info? e = some i) (hz : i.zero = some z) (hsize : i.size = m) (hby : i.bytes = bytes) (hzs : z.cells.size = m) (hm : 0 < m) (hb5 : bytes ≤ 1000)
  (w : World) (base n0 : Nat) (L : List Int) (v : Value) (hown : OwnM w base e m v n0 L) (B n : Nat) (F : Nat → Int) (x : Value) (h : Row w B m n F x) (hn : n0 + n ≤ 1048576) (hbase : base ≤ w.heap.size) :
  ∃ ao cp w', (Builtin.append_ #[t, t] ty #[v, x]).run Tryz.prog w = .ok (.slice ao (n0 + n) cp) w' ∧ OwnM w' base e m (.slice ao (n0 + n) cp) (n0 + n) (L ++ nums F (n * m)) ∧ w.grownBy w' v.ownBlock ∧ ((Value.slice ao (n0 + n) cp).ownBlock = v.ownBlock ∨ (Value.slice ao (n0 + n) cp).ownBlock = some w.heap.size) := by
 have hbb : (n0 + n) * bytes ≤ 1048576 * 1000 := Nat.mul_le_mul hn hb5
 obtain ⟨ao, cp, rfl⟩ := h.form
 cases ao with
 | none =>
  have e0 : n = 0 := by
   rcases Nat.eq_zero_or_pos n with q | q
   ·exact q
   ·obtain ⟨g, o, hg, _⟩ := h.at q
    cases hg
  subst e0
  obtain ⟨av, cv, rfl⟩ := hown.form
  refine ⟨av, cv, w, ?_, ?_, ⟨rfl, rfl, rfl, Nat.le_refl _, fun _ _ _ => rfl⟩, Or.inl rfl⟩
  ·rcases hown.2 with ⟨q, _⟩ | ⟨g, cap, cur, q, _, _, hnc, _⟩
   ·cases q
    simp [Builtin.append_, run_underlying ht, sizeOf, typeInfo, hi, Builtin.lenOf, Builtin.firstCells]
   ·cases q
    simp [Builtin.append_, run_underlying ht, sizeOf, typeInfo, hi, Builtin.lenOf, Builtin.firstCells, hnc, storeCells]
  ·simpa [nums] using hown
 | some a =>
  obtain ⟨v', w', h1, h2, h3, _, h5⟩ := run_append_own_at (P := Tryz.prog) w base t ty e i z m bytes ht hi hz hsize hby hzs hm v n0 _ hown a n cp (vals F (n * m)) (vals_length _ _) (row_cells h) (vals_one _ _) (by unfold maxLen; omega) (by omega) hbase
  have h2' : OwnM w' base e m v' (n0 + n) (L ++ nums F (n * m)) := by
   unfold OwnM
   rw [List.map_append, nums_vals]
   exact h2
  obtain ⟨ao', cp', rfl⟩ := h2'.form
  exact ⟨ao', cp', w', h1, h2', h3, h5⟩
theorem wp_appL (e : TypeId) (i : TypeInfo) (z : Value) (m bytes : Nat) {o : Oper} {a : Act} {K : Act → World → Prop} {Q : Exit → Act → World → Prop} (s x : Operand) (t : TypeId) (ho : o.op = .call { callee := .builtin .append, args := #[s, x], argTypes := #[t, t] })
  (ht : Tryz.prog.underlying t = some (.slice e)) (hi : Tryz.prog.info? e = some i) (hz : i.zero = some z) (hsize : i.size = m) (hby : i.bytes = bytes) (hzs : z.cells.size = m) (hm : 0 < m) (hb5 : bytes ≤ 1000)
  (w : World) (base n0 : Nat) (L : List Int) (v : Value) (hs : a.eval s = v) (hown : OwnM w base e m v n0 L) (B n : Nat) (F : Nat → Int) (u : Value) (hx : a.eval x = u) (h : Row w B m n F u) (hn : n0 + n ≤ 1048576) (hbase : base ≤ w.heap.size)
  (hK : ∀ ao cp w', OwnM w' base e m (.slice ao (n0 + n) cp) (n0 + n) (L ++ nums F (n * m)) → w.grownBy w' v.ownBlock → ((Value.slice ao (n0 + n) cp).ownBlock = v.ownBlock ∨ (Value.slice ao (n0 + n) cp).ownBlock = some w.heap.size) → K (a.put o.dst (.slice ao (n0 + n) cp)) w') : o.wp Tryz.prog a w K Q := by
 obtain ⟨ao, cp, w', hr, h2, h3, h5⟩ := run_appL t o.type e i z m bytes ht hi hz hsize hby hzs hm hb5 w base n0 L v hown B n F u h hn hbase
 unfold Oper.wp execOp
 simp only [ho, resolve, invoke, builtin, Sem.run_bind, Sem.run_pure, Result.andThen_ok, List.map_toArray, List.map_cons, List.map_nil, hs, hx, hr]
 exact hK ao cp w' h2 h3 h5
theorem step_appL (e : TypeId) (i : TypeInfo) (z : Value) (m bytes : Nat) {ops : Array Oper} {o : Oper} {a : Act} {K : Act → World → Prop} {Q : Exit → Act → World → Prop} {E : Prop} (hgd : o.guard = none) (s x : Operand) (t : TypeId) (ho : o.op = .call { callee := .builtin .append, args := #[s, x], argTypes := #[t, t] })
  (ht : Tryz.prog.underlying t = some (.slice e)) (hi : Tryz.prog.info? e = some i) (hz : i.zero = some z) (hsize : i.size = m) (hby : i.bytes = bytes) (hzs : z.cells.size = m) (hm : 0 < m) (hb5 : bytes ≤ 1000)
  (w : World) (base n0 : Nat) (L : List Int) (v : Value) (hs : a.eval s = v) (hown : OwnM w base e m v n0 L) (B n : Nat) (F : Nat → Int) (u : Value) (hx : a.eval x = u) (h : Row w B m n F u) (hn : n0 + n ≤ 1048576) (hbase : base ≤ w.heap.size)
  (hK : ∀ ao cp w', OwnM w' base e m (.slice ao (n0 + n) cp) (n0 + n) (L ++ nums F (n * m)) → w.grownBy w' v.ownBlock → ((Value.slice ao (n0 + n) cp).ownBlock = v.ownBlock ∨ (Value.slice ao (n0 + n) cp).ownBlock = some w.heap.size) → K (a.put o.dst (.slice ao (n0 + n) cp)) w') :
  if Region.wanted o (yielded ops a.tmps) = true then Oper.wp Tryz.prog o a w K Q else E := by
 have hw : Region.wanted o (yielded ops a.tmps) = true := by simp [Region.wanted, hgd]
 rw [if_pos hw]
 exact wp_appL e i z m bytes s x t ho ht hi hz hsize hby hzs hm hb5 w base n0 L v hs hown B n F u hx h hn hbase hK
end
end Go.Proofs.YtiadbiiiikhfaaaGreatDoor

namespace Go.Proofs.YtiadbiiiikhfaaaGreatDoor
section
open Go.RowKit
/-- Write j stands ahead of one of key a and commit b. -/
def aheadW (F : Nat → Int) (a b : Int) (j : Nat) : Prop := F (j * 4) < a ∨ F (j * 4) = a ∧ F (j * 4 + 1) < b
/-- The place of one more. -/
def placeAt (p : Nat → Prop) (n k : Nat) : Prop := k ≤ n ∧ (∀ j, j < k → p j) ∧ (k < n → ¬ p k)

/-- What the last region of l2AddWrite holds. -/
def AW (w : World) (B n : Nat) (F : Nat → Int) (ao : Option Addr) (cp : Nat) (x0 x1 x2 x3 : Int) (X : World) : Prop :=
 (X.cell? ⟨w.heap.size, 0, none⟩ = some (.int .i64 x0) ∧ X.cell? ⟨w.heap.size, 1, none⟩ = some (.int .i64 x1) ∧ X.cell? ⟨w.heap.size, 2, none⟩ = some (.int .i64 x2) ∧ X.cell? ⟨w.heap.size, 3, none⟩ = some (.int .i64 x3)) ∧ Row X B 4 n F (.slice ao n cp) ∧ Below w.heap.size w X
theorem AW.drew {w X : World} {B n : Nat} {F : Nat → Int} {ao : Option Addr} {cp : Nat} {x0 x1 x2 x3 : Int} (h : AW w B n F ao cp x0 x1 x2 x3 X) : AW w B n F ao cp x0 x1 x2 x3 X.drew := ⟨h.1, h.2.1, h.2.2.drew⟩
theorem AW.grown {w X X' : World} {B n : Nat} {F : Nat → Int} {ao : Option Addr} {cp : Nat} {x0 x1 x2 x3 : Int} {row : Option Nat} (h : AW w B n F ao cp x0 x1 x2 x3 X) (h0 : Row w B 4 n F (.slice ao n cp)) (hg : X.grownBy X' row) (hr : ∀ r, row = some r → w.heap.size < r) : AW w B n F ao cp x0 x1 x2 x3 X' := by
 obtain ⟨⟨c0, c1, c2, c3⟩, _, hb⟩ := h
 have far : ∀ k v, X.cell? ⟨w.heap.size, k, none⟩ = some v → X'.cell? ⟨w.heap.size, k, none⟩ = some v := fun k v hc => hg.cell hc (fun e => by have := hr _ e.symm; simp at this)
 have hb' : Below w.heap.size w X' := hb.grown hg hb.size (fun r e => Nat.le_of_lt (hr r e))
 exact ⟨⟨far _ _ c0, far _ _ c1, far _ _ c2, far _ _ c3⟩, h0.later hb', hb'⟩
theorem aw_first {w w2 : World} {B n q : Nat} {F : Nat → Int} {ao : Option Addr} {cp : Nat} {x0 x1 x2 x3 : Int} (h : Row w B 4 n F (.slice ao n cp))
  (hg : (((w.alloc (.cells #[.int .i64 x0, .int .i64 x1, .int .i64 x2, .int .i64 x3] 55)).drewN q).alloc (.cells #[] 55)).grownBy w2 (some (w.heap.size + 1))) : AW w B n F ao cp x0 x1 x2 x3 w2 := by
 have hb : Below w.heap.size w (((w.alloc (.cells #[.int .i64 x0, .int .i64 x1, .int .i64 x2, .int .i64 x3] 55)).drewN q).alloc (.cells #[] 55)) := (below_drewN ((Below.refl _ _).alloc (Nat.le_refl _) _) q).alloc (by simp) _
 have b1 : Below (w.heap.size + 1) (w.alloc (.cells #[.int .i64 x0, .int .i64 x1, .int .i64 x2, .int .i64 x3] 55)) (((w.alloc (.cells #[.int .i64 x0, .int .i64 x1, .int .i64 x2, .int .i64 x3] 55)).drewN q).alloc (.cells #[] 55)) := (below_drewN (Below.refl _ _) q).alloc (by simp) _
 have near : ∀ k v, (w.alloc (.cells #[.int .i64 x0, .int .i64 x1, .int .i64 x2, .int .i64 x3] 55)).cell? ⟨w.heap.size, k, none⟩ = some v → (((w.alloc (.cells #[.int .i64 x0, .int .i64 x1, .int .i64 x2, .int .i64 x3] 55)).drewN q).alloc (.cells #[] 55)).cell? ⟨w.heap.size, k, none⟩ = some v := fun k v hc => (b1.cell (p := ⟨w.heap.size, k, none⟩) (Nat.lt_succ_self _)).trans hc
 refine AW.grown (X := ((w.alloc (.cells #[.int .i64 x0, .int .i64 x1, .int .i64 x2, .int .i64 x3] 55)).drewN q).alloc (.cells #[] 55)) ⟨⟨near _ _ (World.cell?_alloc_mark w _ _ _ 0), near _ _ (World.cell?_alloc_mark w _ _ _ 1), near _ _ (World.cell?_alloc_mark w _ _ _ 2), near _ _ (World.cell?_alloc_mark w _ _ _ 3)⟩, h.later hb, hb⟩ h hg (fun r e => by cases e; omega)
theorem row_lit4 (w : World) (x0 x1 x2 x3 : Int) (t : TypeId) : Row (w.alloc (.cells #[.int .i64 x0, .int .i64 x1, .int .i64 x2, .int .i64 x3] t)) 0 4 1 (fun p => [x0, x1, x2, x3].getD p 0) (.slice (some ⟨w.heap.size, 0, none⟩) 1 1) := by
 refine ⟨_, _, rfl, fun _ => ⟨w.heap.size, 0, rfl, Nat.zero_le _, by simp, fun p hp => ?_⟩⟩
 rw [Nat.zero_add, World.cell?_alloc_mark]
 match p, hp with
 | 0, _ => rfl
 | 1, _ => rfl
 | 2, _ => rfl
 | 3, _ => rfl
theorem lt_cell {X : World} {b k : Nat} {v : Value} (h : X.cell? ⟨b, k, none⟩ = some v) : b < X.heap.size := World.block_lt_of_cell? X ⟨b, k, none⟩ h
/-- What l2AddWrite answers. -/
def AddedW (w : World) (n : Nat) (F : Nat → Int) (x0 x1 x2 x3 : Int) (e : Ending) (w' : World) : Prop := ∃ k ao' cp', placeAt (aheadW F x0 x1) n k ∧ e = .returned (.slice ao' (n + 1) cp') ∧
 OwnM w' w.heap.size 55 4 (.slice ao' (n + 1) cp') (n + 1) (nums F (k * 4) ++ [x0, x1, x2, x3] ++ nums (fun p => F (k * 4 + p)) ((n - k) * 4)) ∧ Below w.heap.size w w'
set_option maxRecDepth 100000 in
set_option maxHeartbeats 4000000 in
theorem l2AddWrite_any (n : Nat) (F : Nat → Int) (ao : Option Addr) (cp : Nat) (B : Nat) (x0 x1 x2 x3 : Int) (w : World) (h : Row w B 4 n F (.slice ao n cp)) (hn : n ≤ 1000) (hcap : n ≤ cp) :
  Calls Tryz.prog 102 #[.slice ao n cp, .agg #[.int .i64 x0, .int .i64 x1, .int .i64 x2, .int .i64 x3]] w (AddedW w n F x0 x1 x2 x3) := by
 have H : Hid (Row w B 4 n F (.slice ao n cp)) := h
 clear h
 obtain ⟨i0, hi, hz0, hz1, hz2⟩ := info_parts info_Write
 go_enter Tryz.func102, Tryz.ntmps102
 go_wp2
 go_loopw [5] (fun i wr => ∃ k q : Nat, i = .int .i64 k ∧ k ≤ n ∧ Hid (∀ j, j < k → aheadW F x0 x1 j) ∧ wr = (w.alloc (.cells #[.int .i64 x0, .int .i64 x1, .int .i64 x2, .int .i64 x3] 55)).drewN q) (fun i _ => n - (intOf i).toNat)
 case atStart => exact ⟨0, 0, rfl, Nat.zero_le _, fun j hj => absurd hj (Nat.not_lt_zero j), rfl⟩
 case round =>
  obtain ⟨k, q, rfl, hk, hP, rfl⟩ := hrel
  by_cases hlt : k < n
  ·obtain ⟨g, o, hao, _, hg, c0, c1, c2, c3⟩ := H.out.at4 hlt
   subst hao
   have d0 : (w.alloc (.cells #[.int .i64 x0, .int .i64 x1, .int .i64 x2, .int .i64 x3] 55)).cell? ⟨g, o + k * 4, none⟩ = some (.int .i64 (F (k * 4))) := (World.cell?_alloc_lt _ _ _ hg).trans c0
   have d1 : (w.alloc (.cells #[.int .i64 x0, .int .i64 x1, .int .i64 x2, .int .i64 x3] 55)).cell? ⟨g, o + k * 4 + 1, none⟩ = some (.int .i64 (F (k * 4 + 1))) := (World.cell?_alloc_lt _ _ _ hg).trans c1
   obtain ⟨y0, N0⟩ : ∃ y, F (k * 4) = y := ⟨_, rfl⟩
   obtain ⟨y1, N1⟩ : ∃ y, F (k * 4 + 1) = y := ⟨_, rfl⟩
   rw [N0] at d0
   rw [N1] at d1
   have HA : Hid (aheadW F x0 x1 k ↔ y0 < x0 ∨ y0 = x0 ∧ y1 < x1) := by unfold aheadW; rw [N0, N1]; exact Iff.rfl
   clear c0 c1 c2 c3 N0 N1
   by_cases h0 : y0 < x0
   ·have HP : Hid (∀ j, j < k + 1 → aheadW F x0 x1 j) := fun j hj => by
     rcases Nat.lt_or_ge j k with q | q
     ·exact hP.out j q
     ·obtain rfl : j = k := by omega
      exact HA.out.2 (Or.inl h0)
    clear HA hP
    have t0 : decide (y0 < x0) = true := decide_eq_true h0
    go_wp2
    go_quiet (fail)
    go_wp2
    go_roundw
    case rel => exact ⟨k + 1, _, by go_num, by omega, HP, rfl⟩
    case measure => simp [intOf]; omega
   ·have t0 : decide (y0 < x0) = false := decide_eq_false h0
    by_cases h1 : y0 = x0
    ·have t1 : (y0 == x0) = true := beq_iff_eq.2 h1
     by_cases h2 : y1 < x1
     ·have HP : Hid (∀ j, j < k + 1 → aheadW F x0 x1 j) := fun j hj => by
       rcases Nat.lt_or_ge j k with q | q
       ·exact hP.out j q
       ·obtain rfl : j = k := by omega
        exact HA.out.2 (Or.inr ⟨h1, h2⟩)
      have t2 : decide (y1 < x1) = true := decide_eq_true h2
      clear HA hP
      subst h1
      go_wp2
      go_quiet (fail)
      go_wp2
      go_roundw
      case rel => exact ⟨k + 1, _, by go_num, by omega, HP, rfl⟩
      case measure => simp [intOf]; omega
     ·have HL : Hid (placeAt (aheadW F x0 x1) n k) := ⟨hk, hP.out, fun _ q => by rcases HA.out.1 q with r | r; exact h0 r; exact h2 r.2⟩
      have t2 : decide (y1 < x1) = false := decide_eq_false h2
      clear HA hP
      subst h1
      go_wp2
      go_quiet (fail)
      have hkcp : k ≤ cp := by omega
      go_wp2_with (at_builtin; refine wpList_app 55 i0 (.agg #[.int .i64 0, .int .i64 0, .int .i64 0, .int .i64 0]) 4 32 rfl _ _ 26 rfl Tryz.underlying26 hi hz0 hz1 hz2 rfl (by omega) (by omega) _ (w.heap.size + 1) 0 [] _ rfl (OwnM.lit0 _ _ _ _ (by simp)) B k F _ rfl ((((H.out.head hk cp).alloc _).drewN _).alloc _) (by omega) (by simp) ?_; intro ao1 cp1 w2 O2 G2)
      rw [Nat.zero_add, List.nil_append] at O2
      have D2 := aw_first H.out G2
      have O2' : Hid (OwnM w2 (w.heap.size + 1) 55 4 (.slice ao1 k cp1) k (nums F (k * 4))) := O2
      clear O2 G2
      refine wp_region_held_drew (S := AW w B n F (some ⟨g, o, none⟩) cp y0 x1 x2 x3) (by kernel_rfl) D2.drew (fun hS => ?_)
      refine tkH 0 ?_ hS (fun wx hx => ?_) ?_; rotate_left
      ·obtain ⟨⟨hx0, hx1, hx2, hx3⟩, _⟩ := hx; go_simp; try with_reducible rfl
      refine tkH 1 ?_ hS (fun wx hx => ?_) ?_; rotate_left
      ·obtain ⟨⟨hx0, hx1, hx2, hx3⟩, _⟩ := hx; go_simp; try with_reducible rfl
      refine tkH 4 ?_ hS (fun wx hx => ?_) ?_; rotate_left
      ·obtain ⟨⟨hx0, hx1, hx2, hx3⟩, _⟩ := hx; go_simp; try with_reducible rfl
      refine tkH 5 ?_ hS (fun wx hx => ?_) ?_; rotate_left
      ·obtain ⟨⟨hx0, hx1, hx2, hx3⟩, _⟩ := hx; go_simp; try with_reducible rfl
      refine tkH 6 ?_ hS (fun wx hx => ?_) ?_; rotate_left
      ·obtain ⟨⟨hx0, hx1, hx2, hx3⟩, _⟩ := hx; go_simp; try with_reducible rfl
      refine rdH 2 (fun K hK => ?_)
      go_simp
      have S3 := hS.grown H.out (World.grownBy_alloc w2.drew (.cells #[.int .i64 y0, .int .i64 x1, .int .i64 x2, .int .i64 x3] 55) none) (fun r e => by cases e)
      have O3 : Hid (OwnM (w2.drew.alloc (.cells #[.int .i64 y0, .int .i64 x1, .int .i64 x2, .int .i64 x3] 55)) (w.heap.size + 1) 55 4 (.slice ao1 k cp1) k (nums F (k * 4))) := O2'.out.later (below_alloc w2 _).drew
      have R3 : Hid (Row (w2.drew.alloc (.cells #[.int .i64 y0, .int .i64 x1, .int .i64 x2, .int .i64 x3] 55)) 0 4 1 (fun p => [y0, x1, x2, x3].getD p 0) (.slice (some ⟨w2.heap.size, 0, none⟩) 1 1)) := row_lit4 w2.drew y0 x1 x2 x3 55
      refine hK.out _ _ S3 (fun hS => ?_)
      clear hK K S3
      refine rdH 3 (fun K hK => ?_)
      refine step_app 55 i0 (.agg #[.int .i64 0, .int .i64 0, .int .i64 0, .int .i64 0]) 4 32 (by rfl) _ _ 26 (by rfl) Tryz.underlying26 hi hz0 hz1 hz2 rfl (by omega) (by omega) _ (w.heap.size + 1) k (nums F (k * 4)) (.slice ao1 k cp1) (by rfl) O3.out 0 1 (fun p => [y0, x1, x2, x3].getD p 0) (.slice (some ⟨w2.heap.size, 0, none⟩) 1 1) (by rfl) R3.out (by omega) (by have := hS.2.2.size; have := hS.1.1; have := lt_cell hS.1.1; omega) ?_
      intro ao3 cp3 w4 O4 G4
      have S4 := hS.grown H.out G4 (fun r e => by have := (O3.out.block r e).1; omega)
      have O4' : Hid (OwnM w4 (w.heap.size + 1) 55 4 (.slice ao3 (k + 1) cp3) (k + 1) (nums F (k * 4) ++ [y0, x1, x2, x3])) := O4
      clear O4 G4 O3 R3 O2'
      refine hK.out _ _ S4 (fun hS => ?_)
      clear hK K S4
      refine rdH 7 (fun K hK => ?_)
      refine step_app 55 i0 (.agg #[.int .i64 0, .int .i64 0, .int .i64 0, .int .i64 0]) 4 32 (by rfl) _ _ 26 (by rfl) Tryz.underlying26 hi hz0 hz1 hz2 rfl (by omega) (by omega) _ (w.heap.size + 1) (k + 1) (nums F (k * 4) ++ [y0, x1, x2, x3]) (.slice ao3 (k + 1) cp3) (by rfl) O4'.out B (n - k) (fun p => F (k * 4 + p)) (.slice (if cp = k then some ⟨g, o, none⟩ else some ⟨g, o + k * 4, none⟩) (n - k) (cp - k)) (by rfl) (hS.2.1.tailS hlt hcap) (by omega) (by have := hS.2.2.size; have := lt_cell hS.1.1; omega) ?_
      intro ao5 cp5 w6 O6 G6
      have S6 := hS.grown H.out G6 (fun r e => by have := (O4'.out.block r e).1; omega)
      have O6' : Hid (OwnM w6 w.heap.size 55 4 (.slice ao5 (n + 1) cp5) (n + 1) (nums F (k * 4) ++ [y0, x1, x2, x3] ++ nums (fun p => F (k * 4 + p)) ((n - k) * 4))) := by
       have e1 : k + 1 + (n - k) = n + 1 := by omega
       rw [e1] at O6
       exact World.ownsRow.mono O6 (Nat.le_succ _)
      clear O6 G6 O4'
      refine hK.out _ _ S6 (fun hS => ?_)
      clear hK K S6
      refine tkH 8 ?_ hS (fun wx hx => ?_) ?_; rotate_left
      ·obtain ⟨⟨hx0, hx1, hx2, hx3⟩, _⟩ := hx; go_simp; try with_reducible rfl
      refine wpAnyH_done (by kernel_rfl) ?_ _
      go_simp
      go_wp2
      all_goals
       go_ret
       refine ⟨k, ao5, cp5, HL.out, ?_, O6'.out, hS.2.2⟩
       show Ending.returned (Value.slice ao5 (k + 1 + (n - k)) cp5) = _
       rw [show k + 1 + (n - k) = n + 1 by omega]
    ·have t1 : (y0 == x0) = false := beq_eq_false_iff_ne.2 h1
     have HL : Hid (placeAt (aheadW F x0 x1) n k) := ⟨hk, hP.out, fun _ q => by rcases HA.out.1 q with r | r; exact h0 r; exact h1 r.1⟩
     clear HA hP
     go_wp2
     go_quiet (fail)
     have hkcp : k ≤ cp := by omega
     go_wp2_with (at_builtin; refine wpList_app 55 i0 (.agg #[.int .i64 0, .int .i64 0, .int .i64 0, .int .i64 0]) 4 32 rfl _ _ 26 rfl Tryz.underlying26 hi hz0 hz1 hz2 rfl (by omega) (by omega) _ (w.heap.size + 1) 0 [] _ rfl (OwnM.lit0 _ _ _ _ (by simp)) B k F _ rfl ((((H.out.head hk cp).alloc _).drewN _).alloc _) (by omega) (by simp) ?_; intro ao1 cp1 w2 O2 G2)
     rw [Nat.zero_add, List.nil_append] at O2
     have D2 := aw_first H.out G2
     have O2' : Hid (OwnM w2 (w.heap.size + 1) 55 4 (.slice ao1 k cp1) k (nums F (k * 4))) := O2
     clear O2 G2
     refine wp_region_held_drew (S := AW w B n F (some ⟨g, o, none⟩) cp x0 x1 x2 x3) (by kernel_rfl) D2.drew (fun hS => ?_)
     refine tkH 0 ?_ hS (fun wx hx => ?_) ?_; rotate_left
     ·obtain ⟨⟨hx0, hx1, hx2, hx3⟩, _⟩ := hx; go_simp; try with_reducible rfl
     refine tkH 1 ?_ hS (fun wx hx => ?_) ?_; rotate_left
     ·obtain ⟨⟨hx0, hx1, hx2, hx3⟩, _⟩ := hx; go_simp; try with_reducible rfl
     refine tkH 4 ?_ hS (fun wx hx => ?_) ?_; rotate_left
     ·obtain ⟨⟨hx0, hx1, hx2, hx3⟩, _⟩ := hx; go_simp; try with_reducible rfl
     refine tkH 5 ?_ hS (fun wx hx => ?_) ?_; rotate_left
     ·obtain ⟨⟨hx0, hx1, hx2, hx3⟩, _⟩ := hx; go_simp; try with_reducible rfl
     refine tkH 6 ?_ hS (fun wx hx => ?_) ?_; rotate_left
     ·obtain ⟨⟨hx0, hx1, hx2, hx3⟩, _⟩ := hx; go_simp; try with_reducible rfl
     refine rdH 2 (fun K hK => ?_)
     go_simp
     have S3 := hS.grown H.out (World.grownBy_alloc w2.drew (.cells #[.int .i64 x0, .int .i64 x1, .int .i64 x2, .int .i64 x3] 55) none) (fun r e => by cases e)
     have O3 : Hid (OwnM (w2.drew.alloc (.cells #[.int .i64 x0, .int .i64 x1, .int .i64 x2, .int .i64 x3] 55)) (w.heap.size + 1) 55 4 (.slice ao1 k cp1) k (nums F (k * 4))) := O2'.out.later (below_alloc w2 _).drew
     have R3 : Hid (Row (w2.drew.alloc (.cells #[.int .i64 x0, .int .i64 x1, .int .i64 x2, .int .i64 x3] 55)) 0 4 1 (fun p => [x0, x1, x2, x3].getD p 0) (.slice (some ⟨w2.heap.size, 0, none⟩) 1 1)) := row_lit4 w2.drew x0 x1 x2 x3 55
     refine hK.out _ _ S3 (fun hS => ?_)
     clear hK K S3
     refine rdH 3 (fun K hK => ?_)
     refine step_app 55 i0 (.agg #[.int .i64 0, .int .i64 0, .int .i64 0, .int .i64 0]) 4 32 (by rfl) _ _ 26 (by rfl) Tryz.underlying26 hi hz0 hz1 hz2 rfl (by omega) (by omega) _ (w.heap.size + 1) k (nums F (k * 4)) (.slice ao1 k cp1) (by rfl) O3.out 0 1 (fun p => [x0, x1, x2, x3].getD p 0) (.slice (some ⟨w2.heap.size, 0, none⟩) 1 1) (by rfl) R3.out (by omega) (by have := hS.2.2.size; have := hS.1.1; have := lt_cell hS.1.1; omega) ?_
     intro ao3 cp3 w4 O4 G4
     have S4 := hS.grown H.out G4 (fun r e => by have := (O3.out.block r e).1; omega)
     have O4' : Hid (OwnM w4 (w.heap.size + 1) 55 4 (.slice ao3 (k + 1) cp3) (k + 1) (nums F (k * 4) ++ [x0, x1, x2, x3])) := O4
     clear O4 G4 O3 R3 O2'
     refine hK.out _ _ S4 (fun hS => ?_)
     clear hK K S4
     refine rdH 7 (fun K hK => ?_)
     refine step_app 55 i0 (.agg #[.int .i64 0, .int .i64 0, .int .i64 0, .int .i64 0]) 4 32 (by rfl) _ _ 26 (by rfl) Tryz.underlying26 hi hz0 hz1 hz2 rfl (by omega) (by omega) _ (w.heap.size + 1) (k + 1) (nums F (k * 4) ++ [x0, x1, x2, x3]) (.slice ao3 (k + 1) cp3) (by rfl) O4'.out B (n - k) (fun p => F (k * 4 + p)) (.slice (if cp = k then some ⟨g, o, none⟩ else some ⟨g, o + k * 4, none⟩) (n - k) (cp - k)) (by rfl) (hS.2.1.tailS hlt hcap) (by omega) (by have := hS.2.2.size; have := lt_cell hS.1.1; omega) ?_
     intro ao5 cp5 w6 O6 G6
     have S6 := hS.grown H.out G6 (fun r e => by have := (O4'.out.block r e).1; omega)
     have O6' : Hid (OwnM w6 w.heap.size 55 4 (.slice ao5 (n + 1) cp5) (n + 1) (nums F (k * 4) ++ [x0, x1, x2, x3] ++ nums (fun p => F (k * 4 + p)) ((n - k) * 4))) := by
      have e1 : k + 1 + (n - k) = n + 1 := by omega
      rw [e1] at O6
      exact World.ownsRow.mono O6 (Nat.le_succ _)
     clear O6 G6 O4'
     refine hK.out _ _ S6 (fun hS => ?_)
     clear hK K S6
     refine tkH 8 ?_ hS (fun wx hx => ?_) ?_; rotate_left
     ·obtain ⟨⟨hx0, hx1, hx2, hx3⟩, _⟩ := hx; go_simp; try with_reducible rfl
     refine wpAnyH_done (by kernel_rfl) ?_ _
     go_simp
     go_wp2
     all_goals
      go_ret
      refine ⟨k, ao5, cp5, HL.out, ?_, O6'.out, hS.2.2⟩
      show Ending.returned (Value.slice ao5 (k + 1 + (n - k)) cp5) = _
      rw [show k + 1 + (n - k) = n + 1 by omega]
  ·have HL : Hid (placeAt (aheadW F x0 x1) n k) := ⟨hk, hP.out, fun q => absurd q hlt⟩
   clear hP
   go_wp2
   go_quiet (fail)
   have hkcp : k ≤ cp := by omega
   go_wp2_with (at_builtin; refine wpList_app 55 i0 (.agg #[.int .i64 0, .int .i64 0, .int .i64 0, .int .i64 0]) 4 32 rfl _ _ 26 rfl Tryz.underlying26 hi hz0 hz1 hz2 rfl (by omega) (by omega) _ (w.heap.size + 1) 0 [] _ rfl (OwnM.lit0 _ _ _ _ (by simp)) B k F _ rfl ((((H.out.head hk cp).alloc _).drewN _).alloc _) (by omega) (by simp) ?_; intro ao1 cp1 w2 O2 G2)
   rw [Nat.zero_add, List.nil_append] at O2
   have D2 := aw_first H.out G2
   have O2' : Hid (OwnM w2 (w.heap.size + 1) 55 4 (.slice ao1 k cp1) k (nums F (k * 4))) := O2
   clear O2 G2
   refine wp_region_held_drew (S := AW w B n F ao cp x0 x1 x2 x3) (by kernel_rfl) D2.drew (fun hS => ?_)
   refine tkH 0 ?_ hS (fun wx hx => ?_) ?_; rotate_left
   ·obtain ⟨⟨hx0, hx1, hx2, hx3⟩, _⟩ := hx; go_simp; try with_reducible rfl
   refine tkH 1 ?_ hS (fun wx hx => ?_) ?_; rotate_left
   ·obtain ⟨⟨hx0, hx1, hx2, hx3⟩, _⟩ := hx; go_simp; try with_reducible rfl
   refine tkH 4 ?_ hS (fun wx hx => ?_) ?_; rotate_left
   ·obtain ⟨⟨hx0, hx1, hx2, hx3⟩, _⟩ := hx; go_simp; try with_reducible rfl
   refine tkH 5 ?_ hS (fun wx hx => ?_) ?_; rotate_left
   ·obtain ⟨⟨hx0, hx1, hx2, hx3⟩, _⟩ := hx; go_simp; try with_reducible rfl
   refine tkH 6 ?_ hS (fun wx hx => ?_) ?_; rotate_left
   ·obtain ⟨⟨hx0, hx1, hx2, hx3⟩, _⟩ := hx; go_simp; try with_reducible rfl
   refine rdH 2 (fun K hK => ?_)
   go_simp
   have S3 := hS.grown H.out (World.grownBy_alloc w2.drew (.cells #[.int .i64 x0, .int .i64 x1, .int .i64 x2, .int .i64 x3] 55) none) (fun r e => by cases e)
   have O3 : Hid (OwnM (w2.drew.alloc (.cells #[.int .i64 x0, .int .i64 x1, .int .i64 x2, .int .i64 x3] 55)) (w.heap.size + 1) 55 4 (.slice ao1 k cp1) k (nums F (k * 4))) := O2'.out.later (below_alloc w2 _).drew
   have R3 : Hid (Row (w2.drew.alloc (.cells #[.int .i64 x0, .int .i64 x1, .int .i64 x2, .int .i64 x3] 55)) 0 4 1 (fun p => [x0, x1, x2, x3].getD p 0) (.slice (some ⟨w2.heap.size, 0, none⟩) 1 1)) := row_lit4 w2.drew x0 x1 x2 x3 55
   refine hK.out _ _ S3 (fun hS => ?_)
   clear hK K S3
   refine rdH 3 (fun K hK => ?_)
   refine step_app 55 i0 (.agg #[.int .i64 0, .int .i64 0, .int .i64 0, .int .i64 0]) 4 32 (by rfl) _ _ 26 (by rfl) Tryz.underlying26 hi hz0 hz1 hz2 rfl (by omega) (by omega) _ (w.heap.size + 1) k (nums F (k * 4)) (.slice ao1 k cp1) (by rfl) O3.out 0 1 (fun p => [x0, x1, x2, x3].getD p 0) (.slice (some ⟨w2.heap.size, 0, none⟩) 1 1) (by rfl) R3.out (by omega) (by have := hS.2.2.size; have := hS.1.1; have := lt_cell hS.1.1; omega) ?_
   intro ao3 cp3 w4 O4 G4
   have S4 := hS.grown H.out G4 (fun r e => by have := (O3.out.block r e).1; omega)
   have O4' : Hid (OwnM w4 (w.heap.size + 1) 55 4 (.slice ao3 (k + 1) cp3) (k + 1) (nums F (k * 4) ++ [x0, x1, x2, x3])) := O4
   clear O4 G4 O3 R3 O2'
   refine hK.out _ _ S4 (fun hS => ?_)
   clear hK K S4
   refine rdH 7 (fun K hK => ?_)
   refine step_app 55 i0 (.agg #[.int .i64 0, .int .i64 0, .int .i64 0, .int .i64 0]) 4 32 (by rfl) _ _ 26 (by rfl) Tryz.underlying26 hi hz0 hz1 hz2 rfl (by omega) (by omega) _ (w.heap.size + 1) (k + 1) (nums F (k * 4) ++ [x0, x1, x2, x3]) (.slice ao3 (k + 1) cp3) (by rfl) O4'.out B (n - k) (fun p => F (k * 4 + p)) (.slice (if cp = k then ao else Option.map (fun x => x.add (k * 4)) ao) (n - k) (cp - k)) (by rfl) (Row.over _ _ _ _ _ _ _ _ hlt) (by omega) (by have := hS.2.2.size; have := lt_cell hS.1.1; omega) ?_
   intro ao5 cp5 w6 O6 G6
   have S6 := hS.grown H.out G6 (fun r e => by have := (O4'.out.block r e).1; omega)
   have O6' : Hid (OwnM w6 w.heap.size 55 4 (.slice ao5 (n + 1) cp5) (n + 1) (nums F (k * 4) ++ [x0, x1, x2, x3] ++ nums (fun p => F (k * 4 + p)) ((n - k) * 4))) := by
    have e1 : k + 1 + (n - k) = n + 1 := by omega
    rw [e1] at O6
    exact World.ownsRow.mono O6 (Nat.le_succ _)
   clear O6 G6 O4'
   refine hK.out _ _ S6 (fun hS => ?_)
   clear hK K S6
   refine tkH 8 ?_ hS (fun wx hx => ?_) ?_; rotate_left
   ·obtain ⟨⟨hx0, hx1, hx2, hx3⟩, _⟩ := hx; go_simp; try with_reducible rfl
   refine wpAnyH_done (by kernel_rfl) ?_ _
   go_simp
   go_wp2
   all_goals
    go_ret
    refine ⟨k, ao5, cp5, HL.out, ?_, O6'.out, hS.2.2⟩
    show Ending.returned (Value.slice ao5 (k + 1 + (n - k)) cp5) = _
    rw [show k + 1 + (n - k) = n + 1 by omega]
end

section
open Go.RowKit
/-- Write j stands ahead of one of key a and commit b. -/
def aheadL (F : Nat → Int) (a : Int) (j : Nat) : Prop := F (j * 5) < a

/-- What the last region of l2AddLock holds. -/
def AL (w : World) (B n : Nat) (F : Nat → Int) (ao : Option Addr) (cp : Nat) (x0 x1 x2 x3 x4 : Int) (X : World) : Prop :=
 (X.cell? ⟨w.heap.size, 0, none⟩ = some (.int .i64 x0) ∧ X.cell? ⟨w.heap.size, 1, none⟩ = some (.int .i64 x1) ∧ X.cell? ⟨w.heap.size, 2, none⟩ = some (.int .i64 x2) ∧ X.cell? ⟨w.heap.size, 3, none⟩ = some (.int .i64 x3) ∧ X.cell? ⟨w.heap.size, 4, none⟩ = some (.int .i64 x4)) ∧ Row X B 5 n F (.slice ao n cp) ∧ Below w.heap.size w X
theorem AL.drew {w X : World} {B n : Nat} {F : Nat → Int} {ao : Option Addr} {cp : Nat} {x0 x1 x2 x3 x4 : Int} (h : AL w B n F ao cp x0 x1 x2 x3 x4 X) : AL w B n F ao cp x0 x1 x2 x3 x4 X.drew := ⟨h.1, h.2.1, h.2.2.drew⟩
theorem AL.grown {w X X' : World} {B n : Nat} {F : Nat → Int} {ao : Option Addr} {cp : Nat} {x0 x1 x2 x3 x4 : Int} {row : Option Nat} (h : AL w B n F ao cp x0 x1 x2 x3 x4 X) (h0 : Row w B 5 n F (.slice ao n cp)) (hg : X.grownBy X' row) (hr : ∀ r, row = some r → w.heap.size < r) : AL w B n F ao cp x0 x1 x2 x3 x4 X' := by
 obtain ⟨⟨c0, c1, c2, c3, c4⟩, _, hb⟩ := h
 have far : ∀ k v, X.cell? ⟨w.heap.size, k, none⟩ = some v → X'.cell? ⟨w.heap.size, k, none⟩ = some v := fun k v hc => hg.cell hc (fun e => by have := hr _ e.symm; simp at this)
 have hb' : Below w.heap.size w X' := hb.grown hg hb.size (fun r e => Nat.le_of_lt (hr r e))
 exact ⟨⟨far _ _ c0, far _ _ c1, far _ _ c2, far _ _ c3, far _ _ c4⟩, h0.later hb', hb'⟩
theorem al_first {w w2 : World} {B n q : Nat} {F : Nat → Int} {ao : Option Addr} {cp : Nat} {x0 x1 x2 x3 x4 : Int} (h : Row w B 5 n F (.slice ao n cp))
  (hg : (((w.alloc (.cells #[.int .i64 x0, .int .i64 x1, .int .i64 x2, .int .i64 x3, .int .i64 x4] 40)).drewN q).alloc (.cells #[] 40)).grownBy w2 (some (w.heap.size + 1))) : AL w B n F ao cp x0 x1 x2 x3 x4 w2 := by
 have hb : Below w.heap.size w (((w.alloc (.cells #[.int .i64 x0, .int .i64 x1, .int .i64 x2, .int .i64 x3, .int .i64 x4] 40)).drewN q).alloc (.cells #[] 40)) := (below_drewN ((Below.refl _ _).alloc (Nat.le_refl _) _) q).alloc (by simp) _
 have b1 : Below (w.heap.size + 1) (w.alloc (.cells #[.int .i64 x0, .int .i64 x1, .int .i64 x2, .int .i64 x3, .int .i64 x4] 40)) (((w.alloc (.cells #[.int .i64 x0, .int .i64 x1, .int .i64 x2, .int .i64 x3, .int .i64 x4] 40)).drewN q).alloc (.cells #[] 40)) := (below_drewN (Below.refl _ _) q).alloc (by simp) _
 have near : ∀ k v, (w.alloc (.cells #[.int .i64 x0, .int .i64 x1, .int .i64 x2, .int .i64 x3, .int .i64 x4] 40)).cell? ⟨w.heap.size, k, none⟩ = some v → (((w.alloc (.cells #[.int .i64 x0, .int .i64 x1, .int .i64 x2, .int .i64 x3, .int .i64 x4] 40)).drewN q).alloc (.cells #[] 40)).cell? ⟨w.heap.size, k, none⟩ = some v := fun k v hc => (b1.cell (p := ⟨w.heap.size, k, none⟩) (Nat.lt_succ_self _)).trans hc
 refine AL.grown (X := ((w.alloc (.cells #[.int .i64 x0, .int .i64 x1, .int .i64 x2, .int .i64 x3, .int .i64 x4] 40)).drewN q).alloc (.cells #[] 40)) ⟨⟨near _ _ (World.cell?_alloc_mark w _ _ _ 0), near _ _ (World.cell?_alloc_mark w _ _ _ 1), near _ _ (World.cell?_alloc_mark w _ _ _ 2), near _ _ (World.cell?_alloc_mark w _ _ _ 3), near _ _ (World.cell?_alloc_mark w _ _ _ 4)⟩, h.later hb, hb⟩ h hg (fun r e => by cases e; omega)
theorem row_lit5 (w : World) (x0 x1 x2 x3 x4 : Int) (t : TypeId) : Row (w.alloc (.cells #[.int .i64 x0, .int .i64 x1, .int .i64 x2, .int .i64 x3, .int .i64 x4] t)) 0 5 1 (fun p => [x0, x1, x2, x3, x4].getD p 0) (.slice (some ⟨w.heap.size, 0, none⟩) 1 1) := by
 refine ⟨_, _, rfl, fun _ => ⟨w.heap.size, 0, rfl, Nat.zero_le _, by simp, fun p hp => ?_⟩⟩
 rw [Nat.zero_add, World.cell?_alloc_mark]
 match p, hp with
 | 0, _ => rfl
 | 1, _ => rfl
 | 2, _ => rfl
 | 3, _ => rfl
 | 4, _ => rfl
/-- What l2AddLock answers. -/
def AddedL (w : World) (n : Nat) (F : Nat → Int) (x0 x1 x2 x3 x4 : Int) (e : Ending) (w' : World) : Prop := ∃ k ao' cp', placeAt (aheadL F x0) n k ∧ e = .returned (.slice ao' (n + 1) cp') ∧
 OwnM w' w.heap.size 40 5 (.slice ao' (n + 1) cp') (n + 1) (nums F (k * 5) ++ [x0, x1, x2, x3, x4] ++ nums (fun p => F (k * 5 + p)) ((n - k) * 5)) ∧ Below w.heap.size w w'
set_option maxRecDepth 100000 in
set_option maxHeartbeats 4000000 in
theorem l2AddLock_any (n : Nat) (F : Nat → Int) (ao : Option Addr) (cp : Nat) (B : Nat) (x0 x1 x2 x3 x4 : Int) (w : World) (h : Row w B 5 n F (.slice ao n cp)) (hn : n ≤ 1000) (hcap : n ≤ cp) :
  Calls Tryz.prog 89 #[.slice ao n cp, .agg #[.int .i64 x0, .int .i64 x1, .int .i64 x2, .int .i64 x3, .int .i64 x4]] w (AddedL w n F x0 x1 x2 x3 x4) := by
 have H : Hid (Row w B 5 n F (.slice ao n cp)) := h
 clear h
 obtain ⟨i0, hi, hz0, hz1, hz2⟩ := info_parts info_Lock
 go_enter Tryz.func89, Tryz.ntmps89
 go_wp2
 go_loopw [5] (fun i wr => ∃ k q : Nat, i = .int .i64 k ∧ k ≤ n ∧ Hid (∀ j, j < k → aheadL F x0 j) ∧ wr = (w.alloc (.cells #[.int .i64 x0, .int .i64 x1, .int .i64 x2, .int .i64 x3, .int .i64 x4] 40)).drewN q) (fun i _ => n - (intOf i).toNat)
 case atStart => exact ⟨0, 0, rfl, Nat.zero_le _, fun j hj => absurd hj (Nat.not_lt_zero j), rfl⟩
 case round =>
  obtain ⟨k, q, rfl, hk, hP, rfl⟩ := hrel
  by_cases hlt : k < n
  ·obtain ⟨g, o, hao, _, hg, c0, c1, c2, c3, c4⟩ := H.out.at5 hlt
   subst hao
   have d0 : (w.alloc (.cells #[.int .i64 x0, .int .i64 x1, .int .i64 x2, .int .i64 x3, .int .i64 x4] 40)).cell? ⟨g, o + k * 5, none⟩ = some (.int .i64 (F (k * 5))) := (World.cell?_alloc_lt _ _ _ hg).trans c0
   have d1 : (w.alloc (.cells #[.int .i64 x0, .int .i64 x1, .int .i64 x2, .int .i64 x3, .int .i64 x4] 40)).cell? ⟨g, o + k * 5 + 1, none⟩ = some (.int .i64 (F (k * 5 + 1))) := (World.cell?_alloc_lt _ _ _ hg).trans c1
   obtain ⟨y0, N0⟩ : ∃ y, F (k * 5) = y := ⟨_, rfl⟩
   rw [N0] at d0
   have HA : Hid (aheadL F x0 k ↔ y0 < x0) := by unfold aheadL; rw [N0]; exact Iff.rfl
   clear c0 c1 c2 c3 c4 N0 d1
   by_cases h0 : y0 < x0
   ·have HP : Hid (∀ j, j < k + 1 → aheadL F x0 j) := fun j hj => by
     rcases Nat.lt_or_ge j k with q | q
     ·exact hP.out j q
     ·obtain rfl : j = k := by omega
      exact HA.out.2 h0
    clear HA hP
    have t0 : decide (y0 < x0) = true := decide_eq_true h0
    go_wp2
    go_quiet (fail)
    go_wp2
    go_roundw
    case rel => exact ⟨k + 1, _, by go_num, by omega, HP, rfl⟩
    case measure => simp [intOf]; omega
   ·have t0 : decide (y0 < x0) = false := decide_eq_false h0
    have HL : Hid (placeAt (aheadL F x0) n k) := ⟨hk, hP.out, fun _ q => h0 (HA.out.1 q)⟩
    clear HA hP
    go_wp2
    go_quiet (fail)
    have hkcp : k ≤ cp := by omega
    go_wp2_with (at_builtin; refine wpList_app 40 i0 (.agg #[.int .i64 0, .int .i64 0, .int .i64 0, .int .i64 0, .int .i64 0]) 5 40 rfl _ _ 25 rfl Tryz.underlying25 hi hz0 hz1 hz2 rfl (by omega) (by omega) _ (w.heap.size + 1) 0 [] _ rfl (OwnM.lit0 _ _ _ _ (by simp)) B k F _ rfl ((((H.out.head hk cp).alloc _).drewN _).alloc _) (by omega) (by simp) ?_; intro ao1 cp1 w2 O2 G2)
    rw [Nat.zero_add, List.nil_append] at O2
    have D2 := al_first H.out G2
    have O2' : Hid (OwnM w2 (w.heap.size + 1) 40 5 (.slice ao1 k cp1) k (nums F (k * 5))) := O2
    clear O2 G2
    refine wp_region_held_drew (S := AL w B n F (some ⟨g, o, none⟩) cp x0 x1 x2 x3 x4) (by kernel_rfl) D2.drew (fun hS => ?_)
    refine tkH 0 ?_ hS (fun wx hx => ?_) ?_; rotate_left
    ·obtain ⟨⟨hx0, hx1, hx2, hx3, hx4⟩, _⟩ := hx; go_simp; try with_reducible rfl
    refine tkH 1 ?_ hS (fun wx hx => ?_) ?_; rotate_left
    ·obtain ⟨⟨hx0, hx1, hx2, hx3, hx4⟩, _⟩ := hx; go_simp; try with_reducible rfl
    refine tkH 4 ?_ hS (fun wx hx => ?_) ?_; rotate_left
    ·obtain ⟨⟨hx0, hx1, hx2, hx3, hx4⟩, _⟩ := hx; go_simp; try with_reducible rfl
    refine tkH 5 ?_ hS (fun wx hx => ?_) ?_; rotate_left
    ·obtain ⟨⟨hx0, hx1, hx2, hx3, hx4⟩, _⟩ := hx; go_simp; try with_reducible rfl
    refine tkH 6 ?_ hS (fun wx hx => ?_) ?_; rotate_left
    ·obtain ⟨⟨hx0, hx1, hx2, hx3, hx4⟩, _⟩ := hx; go_simp; try with_reducible rfl
    refine rdH 2 (fun K hK => ?_)
    go_simp
    have S3 := hS.grown H.out (World.grownBy_alloc w2.drew (.cells #[.int .i64 x0, .int .i64 x1, .int .i64 x2, .int .i64 x3, .int .i64 x4] 40) none) (fun r e => by cases e)
    have O3 : Hid (OwnM (w2.drew.alloc (.cells #[.int .i64 x0, .int .i64 x1, .int .i64 x2, .int .i64 x3, .int .i64 x4] 40)) (w.heap.size + 1) 40 5 (.slice ao1 k cp1) k (nums F (k * 5))) := O2'.out.later (below_alloc w2 _).drew
    have R3 : Hid (Row (w2.drew.alloc (.cells #[.int .i64 x0, .int .i64 x1, .int .i64 x2, .int .i64 x3, .int .i64 x4] 40)) 0 5 1 (fun p => [x0, x1, x2, x3, x4].getD p 0) (.slice (some ⟨w2.heap.size, 0, none⟩) 1 1)) := row_lit5 w2.drew x0 x1 x2 x3 x4 40
    refine hK.out _ _ S3 (fun hS => ?_)
    clear hK K S3
    refine rdH 3 (fun K hK => ?_)
    refine step_app 40 i0 (.agg #[.int .i64 0, .int .i64 0, .int .i64 0, .int .i64 0, .int .i64 0]) 5 40 (by rfl) _ _ 25 (by rfl) Tryz.underlying25 hi hz0 hz1 hz2 rfl (by omega) (by omega) _ (w.heap.size + 1) k (nums F (k * 5)) (.slice ao1 k cp1) (by rfl) O3.out 0 1 (fun p => [x0, x1, x2, x3, x4].getD p 0) (.slice (some ⟨w2.heap.size, 0, none⟩) 1 1) (by rfl) R3.out (by omega) (by have := hS.2.2.size; have := hS.1.1; have := lt_cell hS.1.1; omega) ?_
    intro ao3 cp3 w4 O4 G4
    have S4 := hS.grown H.out G4 (fun r e => by have := (O3.out.block r e).1; omega)
    have O4' : Hid (OwnM w4 (w.heap.size + 1) 40 5 (.slice ao3 (k + 1) cp3) (k + 1) (nums F (k * 5) ++ [x0, x1, x2, x3, x4])) := O4
    clear O4 G4 O3 R3 O2'
    refine hK.out _ _ S4 (fun hS => ?_)
    clear hK K S4
    refine rdH 7 (fun K hK => ?_)
    refine step_app 40 i0 (.agg #[.int .i64 0, .int .i64 0, .int .i64 0, .int .i64 0, .int .i64 0]) 5 40 (by rfl) _ _ 25 (by rfl) Tryz.underlying25 hi hz0 hz1 hz2 rfl (by omega) (by omega) _ (w.heap.size + 1) (k + 1) (nums F (k * 5) ++ [x0, x1, x2, x3, x4]) (.slice ao3 (k + 1) cp3) (by rfl) O4'.out B (n - k) (fun p => F (k * 5 + p)) (.slice (if cp = k then some ⟨g, o, none⟩ else some ⟨g, o + k * 5, none⟩) (n - k) (cp - k)) (by rfl) (hS.2.1.tailS hlt hcap) (by omega) (by have := hS.2.2.size; have := lt_cell hS.1.1; omega) ?_
    intro ao5 cp5 w6 O6 G6
    have S6 := hS.grown H.out G6 (fun r e => by have := (O4'.out.block r e).1; omega)
    have O6' : Hid (OwnM w6 w.heap.size 40 5 (.slice ao5 (n + 1) cp5) (n + 1) (nums F (k * 5) ++ [x0, x1, x2, x3, x4] ++ nums (fun p => F (k * 5 + p)) ((n - k) * 5))) := by
     have e1 : k + 1 + (n - k) = n + 1 := by omega
     rw [e1] at O6
     exact World.ownsRow.mono O6 (Nat.le_succ _)
    clear O6 G6 O4'
    refine hK.out _ _ S6 (fun hS => ?_)
    clear hK K S6
    refine tkH 8 ?_ hS (fun wx hx => ?_) ?_; rotate_left
    ·obtain ⟨⟨hx0, hx1, hx2, hx3, hx4⟩, _⟩ := hx; go_simp; try with_reducible rfl
    refine wpAnyH_done (by kernel_rfl) ?_ _
    go_simp
    go_wp2
    all_goals
     go_ret
     refine ⟨k, ao5, cp5, HL.out, ?_, O6'.out, hS.2.2⟩
     show Ending.returned (Value.slice ao5 (k + 1 + (n - k)) cp5) = _
     rw [show k + 1 + (n - k) = n + 1 by omega]
  ·have HL : Hid (placeAt (aheadL F x0) n k) := ⟨hk, hP.out, fun q => absurd q hlt⟩
   clear hP
   go_wp2
   go_quiet (fail)
   have hkcp : k ≤ cp := by omega
   go_wp2_with (at_builtin; refine wpList_app 40 i0 (.agg #[.int .i64 0, .int .i64 0, .int .i64 0, .int .i64 0, .int .i64 0]) 5 40 rfl _ _ 25 rfl Tryz.underlying25 hi hz0 hz1 hz2 rfl (by omega) (by omega) _ (w.heap.size + 1) 0 [] _ rfl (OwnM.lit0 _ _ _ _ (by simp)) B k F _ rfl ((((H.out.head hk cp).alloc _).drewN _).alloc _) (by omega) (by simp) ?_; intro ao1 cp1 w2 O2 G2)
   rw [Nat.zero_add, List.nil_append] at O2
   have D2 := al_first H.out G2
   have O2' : Hid (OwnM w2 (w.heap.size + 1) 40 5 (.slice ao1 k cp1) k (nums F (k * 5))) := O2
   clear O2 G2
   refine wp_region_held_drew (S := AL w B n F ao cp x0 x1 x2 x3 x4) (by kernel_rfl) D2.drew (fun hS => ?_)
   refine tkH 0 ?_ hS (fun wx hx => ?_) ?_; rotate_left
   ·obtain ⟨⟨hx0, hx1, hx2, hx3, hx4⟩, _⟩ := hx; go_simp; try with_reducible rfl
   refine tkH 1 ?_ hS (fun wx hx => ?_) ?_; rotate_left
   ·obtain ⟨⟨hx0, hx1, hx2, hx3, hx4⟩, _⟩ := hx; go_simp; try with_reducible rfl
   refine tkH 4 ?_ hS (fun wx hx => ?_) ?_; rotate_left
   ·obtain ⟨⟨hx0, hx1, hx2, hx3, hx4⟩, _⟩ := hx; go_simp; try with_reducible rfl
   refine tkH 5 ?_ hS (fun wx hx => ?_) ?_; rotate_left
   ·obtain ⟨⟨hx0, hx1, hx2, hx3, hx4⟩, _⟩ := hx; go_simp; try with_reducible rfl
   refine tkH 6 ?_ hS (fun wx hx => ?_) ?_; rotate_left
   ·obtain ⟨⟨hx0, hx1, hx2, hx3, hx4⟩, _⟩ := hx; go_simp; try with_reducible rfl
   refine rdH 2 (fun K hK => ?_)
   go_simp
   have S3 := hS.grown H.out (World.grownBy_alloc w2.drew (.cells #[.int .i64 x0, .int .i64 x1, .int .i64 x2, .int .i64 x3, .int .i64 x4] 40) none) (fun r e => by cases e)
   have O3 : Hid (OwnM (w2.drew.alloc (.cells #[.int .i64 x0, .int .i64 x1, .int .i64 x2, .int .i64 x3, .int .i64 x4] 40)) (w.heap.size + 1) 40 5 (.slice ao1 k cp1) k (nums F (k * 5))) := O2'.out.later (below_alloc w2 _).drew
   have R3 : Hid (Row (w2.drew.alloc (.cells #[.int .i64 x0, .int .i64 x1, .int .i64 x2, .int .i64 x3, .int .i64 x4] 40)) 0 5 1 (fun p => [x0, x1, x2, x3, x4].getD p 0) (.slice (some ⟨w2.heap.size, 0, none⟩) 1 1)) := row_lit5 w2.drew x0 x1 x2 x3 x4 40
   refine hK.out _ _ S3 (fun hS => ?_)
   clear hK K S3
   refine rdH 3 (fun K hK => ?_)
   refine step_app 40 i0 (.agg #[.int .i64 0, .int .i64 0, .int .i64 0, .int .i64 0, .int .i64 0]) 5 40 (by rfl) _ _ 25 (by rfl) Tryz.underlying25 hi hz0 hz1 hz2 rfl (by omega) (by omega) _ (w.heap.size + 1) k (nums F (k * 5)) (.slice ao1 k cp1) (by rfl) O3.out 0 1 (fun p => [x0, x1, x2, x3, x4].getD p 0) (.slice (some ⟨w2.heap.size, 0, none⟩) 1 1) (by rfl) R3.out (by omega) (by have := hS.2.2.size; have := hS.1.1; have := lt_cell hS.1.1; omega) ?_
   intro ao3 cp3 w4 O4 G4
   have S4 := hS.grown H.out G4 (fun r e => by have := (O3.out.block r e).1; omega)
   have O4' : Hid (OwnM w4 (w.heap.size + 1) 40 5 (.slice ao3 (k + 1) cp3) (k + 1) (nums F (k * 5) ++ [x0, x1, x2, x3, x4])) := O4
   clear O4 G4 O3 R3 O2'
   refine hK.out _ _ S4 (fun hS => ?_)
   clear hK K S4
   refine rdH 7 (fun K hK => ?_)
   refine step_app 40 i0 (.agg #[.int .i64 0, .int .i64 0, .int .i64 0, .int .i64 0, .int .i64 0]) 5 40 (by rfl) _ _ 25 (by rfl) Tryz.underlying25 hi hz0 hz1 hz2 rfl (by omega) (by omega) _ (w.heap.size + 1) (k + 1) (nums F (k * 5) ++ [x0, x1, x2, x3, x4]) (.slice ao3 (k + 1) cp3) (by rfl) O4'.out B (n - k) (fun p => F (k * 5 + p)) (.slice (if cp = k then ao else Option.map (fun x => x.add (k * 5)) ao) (n - k) (cp - k)) (by rfl) (Row.over _ _ _ _ _ _ _ _ hlt) (by omega) (by have := hS.2.2.size; have := lt_cell hS.1.1; omega) ?_
   intro ao5 cp5 w6 O6 G6
   have S6 := hS.grown H.out G6 (fun r e => by have := (O4'.out.block r e).1; omega)
   have O6' : Hid (OwnM w6 w.heap.size 40 5 (.slice ao5 (n + 1) cp5) (n + 1) (nums F (k * 5) ++ [x0, x1, x2, x3, x4] ++ nums (fun p => F (k * 5 + p)) ((n - k) * 5))) := by
    have e1 : k + 1 + (n - k) = n + 1 := by omega
    rw [e1] at O6
    exact World.ownsRow.mono O6 (Nat.le_succ _)
   clear O6 G6 O4'
   refine hK.out _ _ S6 (fun hS => ?_)
   clear hK K S6
   refine tkH 8 ?_ hS (fun wx hx => ?_) ?_; rotate_left
   ·obtain ⟨⟨hx0, hx1, hx2, hx3, hx4⟩, _⟩ := hx; go_simp; try with_reducible rfl
   refine wpAnyH_done (by kernel_rfl) ?_ _
   go_simp
   go_wp2
   all_goals
    go_ret
    refine ⟨k, ao5, cp5, HL.out, ?_, O6'.out, hS.2.2⟩
    show Ending.returned (Value.slice ao5 (k + 1 + (n - k)) cp5) = _
    rw [show k + 1 + (n - k) = n + 1 by omega]
end

section
open Go.RowKit
/-- Write j stands ahead of one of key a and commit b. -/
def aheadC (F : Nat → Int) (a b : Int) (j : Nat) : Prop := F (j * 3) < a ∨ F (j * 3) = a ∧ F (j * 3 + 1) < b

/-- What the last region of l2AddCell holds. -/
def AC (w : World) (B n : Nat) (F : Nat → Int) (ao : Option Addr) (cp : Nat) (x0 x1 x2 : Int) (X : World) : Prop :=
 (X.cell? ⟨w.heap.size, 0, none⟩ = some (.int .i64 x0) ∧ X.cell? ⟨w.heap.size, 1, none⟩ = some (.int .i64 x1) ∧ X.cell? ⟨w.heap.size, 2, none⟩ = some (.int .i64 x2)) ∧ Row X B 3 n F (.slice ao n cp) ∧ Below w.heap.size w X
theorem AC.drew {w X : World} {B n : Nat} {F : Nat → Int} {ao : Option Addr} {cp : Nat} {x0 x1 x2 : Int} (h : AC w B n F ao cp x0 x1 x2 X) : AC w B n F ao cp x0 x1 x2 X.drew := ⟨h.1, h.2.1, h.2.2.drew⟩
theorem AC.grown {w X X' : World} {B n : Nat} {F : Nat → Int} {ao : Option Addr} {cp : Nat} {x0 x1 x2 : Int} {row : Option Nat} (h : AC w B n F ao cp x0 x1 x2 X) (h0 : Row w B 3 n F (.slice ao n cp)) (hg : X.grownBy X' row) (hr : ∀ r, row = some r → w.heap.size < r) : AC w B n F ao cp x0 x1 x2 X' := by
 obtain ⟨⟨c0, c1, c2⟩, _, hb⟩ := h
 have far : ∀ k v, X.cell? ⟨w.heap.size, k, none⟩ = some v → X'.cell? ⟨w.heap.size, k, none⟩ = some v := fun k v hc => hg.cell hc (fun e => by have := hr _ e.symm; simp at this)
 have hb' : Below w.heap.size w X' := hb.grown hg hb.size (fun r e => Nat.le_of_lt (hr r e))
 exact ⟨⟨far _ _ c0, far _ _ c1, far _ _ c2⟩, h0.later hb', hb'⟩
theorem ac_first {w w2 : World} {B n q : Nat} {F : Nat → Int} {ao : Option Addr} {cp : Nat} {x0 x1 x2 : Int} (h : Row w B 3 n F (.slice ao n cp))
  (hg : (((w.alloc (.cells #[.int .i64 x0, .int .i64 x1, .int .i64 x2] 93)).drewN q).alloc (.cells #[] 93)).grownBy w2 (some (w.heap.size + 1))) : AC w B n F ao cp x0 x1 x2 w2 := by
 have hb : Below w.heap.size w (((w.alloc (.cells #[.int .i64 x0, .int .i64 x1, .int .i64 x2] 93)).drewN q).alloc (.cells #[] 93)) := (below_drewN ((Below.refl _ _).alloc (Nat.le_refl _) _) q).alloc (by simp) _
 have b1 : Below (w.heap.size + 1) (w.alloc (.cells #[.int .i64 x0, .int .i64 x1, .int .i64 x2] 93)) (((w.alloc (.cells #[.int .i64 x0, .int .i64 x1, .int .i64 x2] 93)).drewN q).alloc (.cells #[] 93)) := (below_drewN (Below.refl _ _) q).alloc (by simp) _
 have near : ∀ k v, (w.alloc (.cells #[.int .i64 x0, .int .i64 x1, .int .i64 x2] 93)).cell? ⟨w.heap.size, k, none⟩ = some v → (((w.alloc (.cells #[.int .i64 x0, .int .i64 x1, .int .i64 x2] 93)).drewN q).alloc (.cells #[] 93)).cell? ⟨w.heap.size, k, none⟩ = some v := fun k v hc => (b1.cell (p := ⟨w.heap.size, k, none⟩) (Nat.lt_succ_self _)).trans hc
 refine AC.grown (X := ((w.alloc (.cells #[.int .i64 x0, .int .i64 x1, .int .i64 x2] 93)).drewN q).alloc (.cells #[] 93)) ⟨⟨near _ _ (World.cell?_alloc_mark w _ _ _ 0), near _ _ (World.cell?_alloc_mark w _ _ _ 1), near _ _ (World.cell?_alloc_mark w _ _ _ 2)⟩, h.later hb, hb⟩ h hg (fun r e => by cases e; omega)
theorem row_lit3 (w : World) (x0 x1 x2 : Int) (t : TypeId) : Row (w.alloc (.cells #[.int .i64 x0, .int .i64 x1, .int .i64 x2] t)) 0 3 1 (fun p => [x0, x1, x2].getD p 0) (.slice (some ⟨w.heap.size, 0, none⟩) 1 1) := by
 refine ⟨_, _, rfl, fun _ => ⟨w.heap.size, 0, rfl, Nat.zero_le _, by simp, fun p hp => ?_⟩⟩
 rw [Nat.zero_add, World.cell?_alloc_mark]
 match p, hp with
 | 0, _ => rfl
 | 1, _ => rfl
 | 2, _ => rfl
/-- What l2AddCell answers. -/
def AddedC (w : World) (n : Nat) (F : Nat → Int) (x0 x1 x2 : Int) (e : Ending) (w' : World) : Prop := ∃ k ao' cp', placeAt (aheadC F x0 x1) n k ∧ e = .returned (.slice ao' (n + 1) cp') ∧
 OwnM w' w.heap.size 93 3 (.slice ao' (n + 1) cp') (n + 1) (nums F (k * 3) ++ [x0, x1, x2] ++ nums (fun p => F (k * 3 + p)) ((n - k) * 3)) ∧ Below w.heap.size w w'
set_option maxRecDepth 100000 in
set_option maxHeartbeats 4000000 in
theorem l2AddCell_any (n : Nat) (F : Nat → Int) (ao : Option Addr) (cp : Nat) (B : Nat) (x0 x1 x2 : Int) (w : World) (h : Row w B 3 n F (.slice ao n cp)) (hn : n ≤ 1000) (hcap : n ≤ cp) :
  Calls Tryz.prog 90 #[.slice ao n cp, .agg #[.int .i64 x0, .int .i64 x1, .int .i64 x2]] w (AddedC w n F x0 x1 x2) := by
 have H : Hid (Row w B 3 n F (.slice ao n cp)) := h
 clear h
 obtain ⟨i0, hi, hz0, hz1, hz2⟩ := info_parts info_Cell
 go_enter Tryz.func90, Tryz.ntmps90
 go_wp2
 go_loopw [5] (fun i wr => ∃ k q : Nat, i = .int .i64 k ∧ k ≤ n ∧ Hid (∀ j, j < k → aheadC F x0 x1 j) ∧ wr = (w.alloc (.cells #[.int .i64 x0, .int .i64 x1, .int .i64 x2] 93)).drewN q) (fun i _ => n - (intOf i).toNat)
 case atStart => exact ⟨0, 0, rfl, Nat.zero_le _, fun j hj => absurd hj (Nat.not_lt_zero j), rfl⟩
 case round =>
  obtain ⟨k, q, rfl, hk, hP, rfl⟩ := hrel
  by_cases hlt : k < n
  ·obtain ⟨g, o, hao, _, hg, c0, c1, c2⟩ := H.out.at3 hlt
   subst hao
   have d0 : (w.alloc (.cells #[.int .i64 x0, .int .i64 x1, .int .i64 x2] 93)).cell? ⟨g, o + k * 3, none⟩ = some (.int .i64 (F (k * 3))) := (World.cell?_alloc_lt _ _ _ hg).trans c0
   have d1 : (w.alloc (.cells #[.int .i64 x0, .int .i64 x1, .int .i64 x2] 93)).cell? ⟨g, o + k * 3 + 1, none⟩ = some (.int .i64 (F (k * 3 + 1))) := (World.cell?_alloc_lt _ _ _ hg).trans c1
   obtain ⟨y0, N0⟩ : ∃ y, F (k * 3) = y := ⟨_, rfl⟩
   obtain ⟨y1, N1⟩ : ∃ y, F (k * 3 + 1) = y := ⟨_, rfl⟩
   rw [N0] at d0
   rw [N1] at d1
   have HA : Hid (aheadC F x0 x1 k ↔ y0 < x0 ∨ y0 = x0 ∧ y1 < x1) := by unfold aheadC; rw [N0, N1]; exact Iff.rfl
   clear c0 c1 c2 N0 N1
   by_cases h0 : y0 < x0
   ·have HP : Hid (∀ j, j < k + 1 → aheadC F x0 x1 j) := fun j hj => by
     rcases Nat.lt_or_ge j k with q | q
     ·exact hP.out j q
     ·obtain rfl : j = k := by omega
      exact HA.out.2 (Or.inl h0)
    clear HA hP
    have t0 : decide (y0 < x0) = true := decide_eq_true h0
    go_wp2
    go_quiet (fail)
    go_wp2
    go_roundw
    case rel => exact ⟨k + 1, _, by go_num, by omega, HP, rfl⟩
    case measure => simp [intOf]; omega
   ·have t0 : decide (y0 < x0) = false := decide_eq_false h0
    by_cases h1 : y0 = x0
    ·have t1 : (y0 == x0) = true := beq_iff_eq.2 h1
     by_cases h2 : y1 < x1
     ·have HP : Hid (∀ j, j < k + 1 → aheadC F x0 x1 j) := fun j hj => by
       rcases Nat.lt_or_ge j k with q | q
       ·exact hP.out j q
       ·obtain rfl : j = k := by omega
        exact HA.out.2 (Or.inr ⟨h1, h2⟩)
      have t2 : decide (y1 < x1) = true := decide_eq_true h2
      clear HA hP
      subst h1
      go_wp2
      go_quiet (fail)
      go_wp2
      go_roundw
      case rel => exact ⟨k + 1, _, by go_num, by omega, HP, rfl⟩
      case measure => simp [intOf]; omega
     ·have HL : Hid (placeAt (aheadC F x0 x1) n k) := ⟨hk, hP.out, fun _ q => by rcases HA.out.1 q with r | r; exact h0 r; exact h2 r.2⟩
      have t2 : decide (y1 < x1) = false := decide_eq_false h2
      clear HA hP
      subst h1
      go_wp2
      go_quiet (fail)
      have hkcp : k ≤ cp := by omega
      go_wp2_with (at_builtin; refine wpList_app 93 i0 (.agg #[.int .i64 0, .int .i64 0, .int .i64 0]) 3 24 rfl _ _ 24 rfl Tryz.underlying24 hi hz0 hz1 hz2 rfl (by omega) (by omega) _ (w.heap.size + 1) 0 [] _ rfl (OwnM.lit0 _ _ _ _ (by simp)) B k F _ rfl ((((H.out.head hk cp).alloc _).drewN _).alloc _) (by omega) (by simp) ?_; intro ao1 cp1 w2 O2 G2)
      rw [Nat.zero_add, List.nil_append] at O2
      have D2 := ac_first H.out G2
      have O2' : Hid (OwnM w2 (w.heap.size + 1) 93 3 (.slice ao1 k cp1) k (nums F (k * 3))) := O2
      clear O2 G2
      refine wp_region_held_drew (S := AC w B n F (some ⟨g, o, none⟩) cp y0 x1 x2) (by kernel_rfl) D2.drew (fun hS => ?_)
      refine tkH 0 ?_ hS (fun wx hx => ?_) ?_; rotate_left
      ·obtain ⟨⟨hx0, hx1, hx2⟩, _⟩ := hx; go_simp; try with_reducible rfl
      refine tkH 1 ?_ hS (fun wx hx => ?_) ?_; rotate_left
      ·obtain ⟨⟨hx0, hx1, hx2⟩, _⟩ := hx; go_simp; try with_reducible rfl
      refine tkH 4 ?_ hS (fun wx hx => ?_) ?_; rotate_left
      ·obtain ⟨⟨hx0, hx1, hx2⟩, _⟩ := hx; go_simp; try with_reducible rfl
      refine tkH 5 ?_ hS (fun wx hx => ?_) ?_; rotate_left
      ·obtain ⟨⟨hx0, hx1, hx2⟩, _⟩ := hx; go_simp; try with_reducible rfl
      refine tkH 6 ?_ hS (fun wx hx => ?_) ?_; rotate_left
      ·obtain ⟨⟨hx0, hx1, hx2⟩, _⟩ := hx; go_simp; try with_reducible rfl
      refine rdH 2 (fun K hK => ?_)
      go_simp
      have S3 := hS.grown H.out (World.grownBy_alloc w2.drew (.cells #[.int .i64 y0, .int .i64 x1, .int .i64 x2] 93) none) (fun r e => by cases e)
      have O3 : Hid (OwnM (w2.drew.alloc (.cells #[.int .i64 y0, .int .i64 x1, .int .i64 x2] 93)) (w.heap.size + 1) 93 3 (.slice ao1 k cp1) k (nums F (k * 3))) := O2'.out.later (below_alloc w2 _).drew
      have R3 : Hid (Row (w2.drew.alloc (.cells #[.int .i64 y0, .int .i64 x1, .int .i64 x2] 93)) 0 3 1 (fun p => [y0, x1, x2].getD p 0) (.slice (some ⟨w2.heap.size, 0, none⟩) 1 1)) := row_lit3 w2.drew y0 x1 x2 93
      refine hK.out _ _ S3 (fun hS => ?_)
      clear hK K S3
      refine rdH 3 (fun K hK => ?_)
      refine step_app 93 i0 (.agg #[.int .i64 0, .int .i64 0, .int .i64 0]) 3 24 (by rfl) _ _ 24 (by rfl) Tryz.underlying24 hi hz0 hz1 hz2 rfl (by omega) (by omega) _ (w.heap.size + 1) k (nums F (k * 3)) (.slice ao1 k cp1) (by rfl) O3.out 0 1 (fun p => [y0, x1, x2].getD p 0) (.slice (some ⟨w2.heap.size, 0, none⟩) 1 1) (by rfl) R3.out (by omega) (by have := hS.2.2.size; have := hS.1.1; have := lt_cell hS.1.1; omega) ?_
      intro ao3 cp3 w4 O4 G4
      have S4 := hS.grown H.out G4 (fun r e => by have := (O3.out.block r e).1; omega)
      have O4' : Hid (OwnM w4 (w.heap.size + 1) 93 3 (.slice ao3 (k + 1) cp3) (k + 1) (nums F (k * 3) ++ [y0, x1, x2])) := O4
      clear O4 G4 O3 R3 O2'
      refine hK.out _ _ S4 (fun hS => ?_)
      clear hK K S4
      refine rdH 7 (fun K hK => ?_)
      refine step_app 93 i0 (.agg #[.int .i64 0, .int .i64 0, .int .i64 0]) 3 24 (by rfl) _ _ 24 (by rfl) Tryz.underlying24 hi hz0 hz1 hz2 rfl (by omega) (by omega) _ (w.heap.size + 1) (k + 1) (nums F (k * 3) ++ [y0, x1, x2]) (.slice ao3 (k + 1) cp3) (by rfl) O4'.out B (n - k) (fun p => F (k * 3 + p)) (.slice (if cp = k then some ⟨g, o, none⟩ else some ⟨g, o + k * 3, none⟩) (n - k) (cp - k)) (by rfl) (hS.2.1.tailS hlt hcap) (by omega) (by have := hS.2.2.size; have := lt_cell hS.1.1; omega) ?_
      intro ao5 cp5 w6 O6 G6
      have S6 := hS.grown H.out G6 (fun r e => by have := (O4'.out.block r e).1; omega)
      have O6' : Hid (OwnM w6 w.heap.size 93 3 (.slice ao5 (n + 1) cp5) (n + 1) (nums F (k * 3) ++ [y0, x1, x2] ++ nums (fun p => F (k * 3 + p)) ((n - k) * 3))) := by
       have e1 : k + 1 + (n - k) = n + 1 := by omega
       rw [e1] at O6
       exact World.ownsRow.mono O6 (Nat.le_succ _)
      clear O6 G6 O4'
      refine hK.out _ _ S6 (fun hS => ?_)
      clear hK K S6
      refine tkH 8 ?_ hS (fun wx hx => ?_) ?_; rotate_left
      ·obtain ⟨⟨hx0, hx1, hx2⟩, _⟩ := hx; go_simp; try with_reducible rfl
      refine wpAnyH_done (by kernel_rfl) ?_ _
      go_simp
      go_wp2
      all_goals
       go_ret
       refine ⟨k, ao5, cp5, HL.out, ?_, O6'.out, hS.2.2⟩
       show Ending.returned (Value.slice ao5 (k + 1 + (n - k)) cp5) = _
       rw [show k + 1 + (n - k) = n + 1 by omega]
    ·have t1 : (y0 == x0) = false := beq_eq_false_iff_ne.2 h1
     have HL : Hid (placeAt (aheadC F x0 x1) n k) := ⟨hk, hP.out, fun _ q => by rcases HA.out.1 q with r | r; exact h0 r; exact h1 r.1⟩
     clear HA hP
     go_wp2
     go_quiet (fail)
     have hkcp : k ≤ cp := by omega
     go_wp2_with (at_builtin; refine wpList_app 93 i0 (.agg #[.int .i64 0, .int .i64 0, .int .i64 0]) 3 24 rfl _ _ 24 rfl Tryz.underlying24 hi hz0 hz1 hz2 rfl (by omega) (by omega) _ (w.heap.size + 1) 0 [] _ rfl (OwnM.lit0 _ _ _ _ (by simp)) B k F _ rfl ((((H.out.head hk cp).alloc _).drewN _).alloc _) (by omega) (by simp) ?_; intro ao1 cp1 w2 O2 G2)
     rw [Nat.zero_add, List.nil_append] at O2
     have D2 := ac_first H.out G2
     have O2' : Hid (OwnM w2 (w.heap.size + 1) 93 3 (.slice ao1 k cp1) k (nums F (k * 3))) := O2
     clear O2 G2
     refine wp_region_held_drew (S := AC w B n F (some ⟨g, o, none⟩) cp x0 x1 x2) (by kernel_rfl) D2.drew (fun hS => ?_)
     refine tkH 0 ?_ hS (fun wx hx => ?_) ?_; rotate_left
     ·obtain ⟨⟨hx0, hx1, hx2⟩, _⟩ := hx; go_simp; try with_reducible rfl
     refine tkH 1 ?_ hS (fun wx hx => ?_) ?_; rotate_left
     ·obtain ⟨⟨hx0, hx1, hx2⟩, _⟩ := hx; go_simp; try with_reducible rfl
     refine tkH 4 ?_ hS (fun wx hx => ?_) ?_; rotate_left
     ·obtain ⟨⟨hx0, hx1, hx2⟩, _⟩ := hx; go_simp; try with_reducible rfl
     refine tkH 5 ?_ hS (fun wx hx => ?_) ?_; rotate_left
     ·obtain ⟨⟨hx0, hx1, hx2⟩, _⟩ := hx; go_simp; try with_reducible rfl
     refine tkH 6 ?_ hS (fun wx hx => ?_) ?_; rotate_left
     ·obtain ⟨⟨hx0, hx1, hx2⟩, _⟩ := hx; go_simp; try with_reducible rfl
     refine rdH 2 (fun K hK => ?_)
     go_simp
     have S3 := hS.grown H.out (World.grownBy_alloc w2.drew (.cells #[.int .i64 x0, .int .i64 x1, .int .i64 x2] 93) none) (fun r e => by cases e)
     have O3 : Hid (OwnM (w2.drew.alloc (.cells #[.int .i64 x0, .int .i64 x1, .int .i64 x2] 93)) (w.heap.size + 1) 93 3 (.slice ao1 k cp1) k (nums F (k * 3))) := O2'.out.later (below_alloc w2 _).drew
     have R3 : Hid (Row (w2.drew.alloc (.cells #[.int .i64 x0, .int .i64 x1, .int .i64 x2] 93)) 0 3 1 (fun p => [x0, x1, x2].getD p 0) (.slice (some ⟨w2.heap.size, 0, none⟩) 1 1)) := row_lit3 w2.drew x0 x1 x2 93
     refine hK.out _ _ S3 (fun hS => ?_)
     clear hK K S3
     refine rdH 3 (fun K hK => ?_)
     refine step_app 93 i0 (.agg #[.int .i64 0, .int .i64 0, .int .i64 0]) 3 24 (by rfl) _ _ 24 (by rfl) Tryz.underlying24 hi hz0 hz1 hz2 rfl (by omega) (by omega) _ (w.heap.size + 1) k (nums F (k * 3)) (.slice ao1 k cp1) (by rfl) O3.out 0 1 (fun p => [x0, x1, x2].getD p 0) (.slice (some ⟨w2.heap.size, 0, none⟩) 1 1) (by rfl) R3.out (by omega) (by have := hS.2.2.size; have := hS.1.1; have := lt_cell hS.1.1; omega) ?_
     intro ao3 cp3 w4 O4 G4
     have S4 := hS.grown H.out G4 (fun r e => by have := (O3.out.block r e).1; omega)
     have O4' : Hid (OwnM w4 (w.heap.size + 1) 93 3 (.slice ao3 (k + 1) cp3) (k + 1) (nums F (k * 3) ++ [x0, x1, x2])) := O4
     clear O4 G4 O3 R3 O2'
     refine hK.out _ _ S4 (fun hS => ?_)
     clear hK K S4
     refine rdH 7 (fun K hK => ?_)
     refine step_app 93 i0 (.agg #[.int .i64 0, .int .i64 0, .int .i64 0]) 3 24 (by rfl) _ _ 24 (by rfl) Tryz.underlying24 hi hz0 hz1 hz2 rfl (by omega) (by omega) _ (w.heap.size + 1) (k + 1) (nums F (k * 3) ++ [x0, x1, x2]) (.slice ao3 (k + 1) cp3) (by rfl) O4'.out B (n - k) (fun p => F (k * 3 + p)) (.slice (if cp = k then some ⟨g, o, none⟩ else some ⟨g, o + k * 3, none⟩) (n - k) (cp - k)) (by rfl) (hS.2.1.tailS hlt hcap) (by omega) (by have := hS.2.2.size; have := lt_cell hS.1.1; omega) ?_
     intro ao5 cp5 w6 O6 G6
     have S6 := hS.grown H.out G6 (fun r e => by have := (O4'.out.block r e).1; omega)
     have O6' : Hid (OwnM w6 w.heap.size 93 3 (.slice ao5 (n + 1) cp5) (n + 1) (nums F (k * 3) ++ [x0, x1, x2] ++ nums (fun p => F (k * 3 + p)) ((n - k) * 3))) := by
      have e1 : k + 1 + (n - k) = n + 1 := by omega
      rw [e1] at O6
      exact World.ownsRow.mono O6 (Nat.le_succ _)
     clear O6 G6 O4'
     refine hK.out _ _ S6 (fun hS => ?_)
     clear hK K S6
     refine tkH 8 ?_ hS (fun wx hx => ?_) ?_; rotate_left
     ·obtain ⟨⟨hx0, hx1, hx2⟩, _⟩ := hx; go_simp; try with_reducible rfl
     refine wpAnyH_done (by kernel_rfl) ?_ _
     go_simp
     go_wp2
     all_goals
      go_ret
      refine ⟨k, ao5, cp5, HL.out, ?_, O6'.out, hS.2.2⟩
      show Ending.returned (Value.slice ao5 (k + 1 + (n - k)) cp5) = _
      rw [show k + 1 + (n - k) = n + 1 by omega]
  ·have HL : Hid (placeAt (aheadC F x0 x1) n k) := ⟨hk, hP.out, fun q => absurd q hlt⟩
   clear hP
   go_wp2
   go_quiet (fail)
   have hkcp : k ≤ cp := by omega
   go_wp2_with (at_builtin; refine wpList_app 93 i0 (.agg #[.int .i64 0, .int .i64 0, .int .i64 0]) 3 24 rfl _ _ 24 rfl Tryz.underlying24 hi hz0 hz1 hz2 rfl (by omega) (by omega) _ (w.heap.size + 1) 0 [] _ rfl (OwnM.lit0 _ _ _ _ (by simp)) B k F _ rfl ((((H.out.head hk cp).alloc _).drewN _).alloc _) (by omega) (by simp) ?_; intro ao1 cp1 w2 O2 G2)
   rw [Nat.zero_add, List.nil_append] at O2
   have D2 := ac_first H.out G2
   have O2' : Hid (OwnM w2 (w.heap.size + 1) 93 3 (.slice ao1 k cp1) k (nums F (k * 3))) := O2
   clear O2 G2
   refine wp_region_held_drew (S := AC w B n F ao cp x0 x1 x2) (by kernel_rfl) D2.drew (fun hS => ?_)
   refine tkH 0 ?_ hS (fun wx hx => ?_) ?_; rotate_left
   ·obtain ⟨⟨hx0, hx1, hx2⟩, _⟩ := hx; go_simp; try with_reducible rfl
   refine tkH 1 ?_ hS (fun wx hx => ?_) ?_; rotate_left
   ·obtain ⟨⟨hx0, hx1, hx2⟩, _⟩ := hx; go_simp; try with_reducible rfl
   refine tkH 4 ?_ hS (fun wx hx => ?_) ?_; rotate_left
   ·obtain ⟨⟨hx0, hx1, hx2⟩, _⟩ := hx; go_simp; try with_reducible rfl
   refine tkH 5 ?_ hS (fun wx hx => ?_) ?_; rotate_left
   ·obtain ⟨⟨hx0, hx1, hx2⟩, _⟩ := hx; go_simp; try with_reducible rfl
   refine tkH 6 ?_ hS (fun wx hx => ?_) ?_; rotate_left
   ·obtain ⟨⟨hx0, hx1, hx2⟩, _⟩ := hx; go_simp; try with_reducible rfl
   refine rdH 2 (fun K hK => ?_)
   go_simp
   have S3 := hS.grown H.out (World.grownBy_alloc w2.drew (.cells #[.int .i64 x0, .int .i64 x1, .int .i64 x2] 93) none) (fun r e => by cases e)
   have O3 : Hid (OwnM (w2.drew.alloc (.cells #[.int .i64 x0, .int .i64 x1, .int .i64 x2] 93)) (w.heap.size + 1) 93 3 (.slice ao1 k cp1) k (nums F (k * 3))) := O2'.out.later (below_alloc w2 _).drew
   have R3 : Hid (Row (w2.drew.alloc (.cells #[.int .i64 x0, .int .i64 x1, .int .i64 x2] 93)) 0 3 1 (fun p => [x0, x1, x2].getD p 0) (.slice (some ⟨w2.heap.size, 0, none⟩) 1 1)) := row_lit3 w2.drew x0 x1 x2 93
   refine hK.out _ _ S3 (fun hS => ?_)
   clear hK K S3
   refine rdH 3 (fun K hK => ?_)
   refine step_app 93 i0 (.agg #[.int .i64 0, .int .i64 0, .int .i64 0]) 3 24 (by rfl) _ _ 24 (by rfl) Tryz.underlying24 hi hz0 hz1 hz2 rfl (by omega) (by omega) _ (w.heap.size + 1) k (nums F (k * 3)) (.slice ao1 k cp1) (by rfl) O3.out 0 1 (fun p => [x0, x1, x2].getD p 0) (.slice (some ⟨w2.heap.size, 0, none⟩) 1 1) (by rfl) R3.out (by omega) (by have := hS.2.2.size; have := hS.1.1; have := lt_cell hS.1.1; omega) ?_
   intro ao3 cp3 w4 O4 G4
   have S4 := hS.grown H.out G4 (fun r e => by have := (O3.out.block r e).1; omega)
   have O4' : Hid (OwnM w4 (w.heap.size + 1) 93 3 (.slice ao3 (k + 1) cp3) (k + 1) (nums F (k * 3) ++ [x0, x1, x2])) := O4
   clear O4 G4 O3 R3 O2'
   refine hK.out _ _ S4 (fun hS => ?_)
   clear hK K S4
   refine rdH 7 (fun K hK => ?_)
   refine step_app 93 i0 (.agg #[.int .i64 0, .int .i64 0, .int .i64 0]) 3 24 (by rfl) _ _ 24 (by rfl) Tryz.underlying24 hi hz0 hz1 hz2 rfl (by omega) (by omega) _ (w.heap.size + 1) (k + 1) (nums F (k * 3) ++ [x0, x1, x2]) (.slice ao3 (k + 1) cp3) (by rfl) O4'.out B (n - k) (fun p => F (k * 3 + p)) (.slice (if cp = k then ao else Option.map (fun x => x.add (k * 3)) ao) (n - k) (cp - k)) (by rfl) (Row.over _ _ _ _ _ _ _ _ hlt) (by omega) (by have := hS.2.2.size; have := lt_cell hS.1.1; omega) ?_
   intro ao5 cp5 w6 O6 G6
   have S6 := hS.grown H.out G6 (fun r e => by have := (O4'.out.block r e).1; omega)
   have O6' : Hid (OwnM w6 w.heap.size 93 3 (.slice ao5 (n + 1) cp5) (n + 1) (nums F (k * 3) ++ [x0, x1, x2] ++ nums (fun p => F (k * 3 + p)) ((n - k) * 3))) := by
    have e1 : k + 1 + (n - k) = n + 1 := by omega
    rw [e1] at O6
    exact World.ownsRow.mono O6 (Nat.le_succ _)
   clear O6 G6 O4'
   refine hK.out _ _ S6 (fun hS => ?_)
   clear hK K S6
   refine tkH 8 ?_ hS (fun wx hx => ?_) ?_; rotate_left
   ·obtain ⟨⟨hx0, hx1, hx2⟩, _⟩ := hx; go_simp; try with_reducible rfl
   refine wpAnyH_done (by kernel_rfl) ?_ _
   go_simp
   go_wp2
   all_goals
    go_ret
    refine ⟨k, ao5, cp5, HL.out, ?_, O6'.out, hS.2.2⟩
    show Ending.returned (Value.slice ao5 (k + 1 + (n - k)) cp5) = _
    rw [show k + 1 + (n - k) = n + 1 by omega]
end
end Go.Proofs.YtiadbiiiikhfaaaGreatDoor

namespace Go.Proofs.YtiadbiiiikhfaaaGreatDoor
open Go.RowKit Go.Maps

/-- Block b holds columns: a map that has m, a row of locks, a row of writes; all of them lie from B on. -/
def Cols (x : World) (B b N : Nat) (m : Int → Int → Option Int) (nl : Nat) (l : Nat → Int) (nw : Nat) (k : Nat → Int) (g : Nat) (u1 u2 : Value) : Prop :=
 B ≤ b ∧ B ≤ g ∧ Blk3 x b (.map (some g)) u1 u2 ∧ PM x g N m ∧ Own x B 40 5 nl l u1 ∧ Own x B 55 4 nw k u2
theorem Cols.later {x x' : World} {B b N : Nat} {m : Int → Int → Option Int} {nl : Nat} {l : Nat → Int} {nw : Nat} {k : Nat → Int} {g : Nat} {u1 u2 : Value} (h : Cols x B b N m nl l nw k g u1 u2) (hb : Below x.heap.size x x') : Cols x' B b N m nl l nw k g u1 u2 :=
 ⟨h.1, h.2.1, h.2.2.1.later hb, h.2.2.2.1.later hb, h.2.2.2.2.1.later hb, h.2.2.2.2.2.later hb⟩
theorem Cols.mono {x : World} {B B' b N : Nat} {m : Int → Int → Option Int} {nl : Nat} {l : Nat → Int} {nw : Nat} {k : Nat → Int} {g : Nat} {u1 u2 : Value} (h : Cols x B b N m nl l nw k g u1 u2) (hB : B' ≤ B) : Cols x B' b N m nl l nw k g u1 u2 :=
 ⟨Nat.le_trans hB h.1, Nat.le_trans hB h.2.1, h.2.2.1, h.2.2.2.1, h.2.2.2.2.1.mono hB, h.2.2.2.2.2.mono hB⟩
/-- From place oo of block b on lie three cells, none frozen. -/
def Blk3O (x : World) (b oo : Nat) (a0 a1 a2 : Value) : Prop :=
 (x.cell? ⟨b, oo, none⟩ = some a0 ∧ x.cell? ⟨b, oo + 1, none⟩ = some a1 ∧ x.cell? ⟨b, oo + 2, none⟩ = some a2) ∧ x.frozen? ⟨b, oo, none⟩ = false ∧ x.frozen? ⟨b, oo + 1, none⟩ = false ∧ x.frozen? ⟨b, oo + 2, none⟩ = false
theorem Blk3O.kept {x x' : World} {b oo : Nat} {a0 a1 a2 : Value} (h : Blk3O x b oo a0 a1 a2) (hb : x'.heap[b]? = x.heap[b]?) : Blk3O x' b oo a0 a1 a2 := by
 obtain ⟨⟨h0, h1, h2⟩, f0, f1, f2⟩ := h
 exact ⟨⟨(World.cell?_of_block (w := x) (a := ⟨b, oo, none⟩) hb).trans h0, (World.cell?_of_block (w := x) (a := ⟨b, oo + 1, none⟩) hb).trans h1, (World.cell?_of_block (w := x) (a := ⟨b, oo + 2, none⟩) hb).trans h2⟩,
  (World.frozen?_of_block (w := x) (a := ⟨b, oo, none⟩) hb).trans f0, (World.frozen?_of_block (w := x) (a := ⟨b, oo + 1, none⟩) hb).trans f1, (World.frozen?_of_block (w := x) (a := ⟨b, oo + 2, none⟩) hb).trans f2⟩
theorem Blk3O.lt {x : World} {b oo : Nat} {a0 a1 a2 : Value} (h : Blk3O x b oo a0 a1 a2) : b < x.heap.size := World.block_lt_of_cell? x ⟨b, oo, none⟩ h.1.1
theorem Blk3O.later {x x' : World} {b oo : Nat} {a0 a1 a2 : Value} (h : Blk3O x b oo a0 a1 a2) (hb : Below x.heap.size x x') : Blk3O x' b oo a0 a1 a2 := h.kept (hb.block b h.lt)
theorem Blk3O.alloc {x : World} {b oo : Nat} {a0 a1 a2 : Value} (h : Blk3O x b oo a0 a1 a2) (o : Obj) : Blk3O (x.alloc o) b oo a0 a1 a2 := h.later (below_alloc _ _)
theorem Blk3.o {x : World} {b : Nat} {a0 a1 a2 : Value} (h : Blk3 x b a0 a1 a2) : Blk3O x b 0 a0 a1 a2 := h
/-- Columns that lie from place oo of block b on. -/
def ColsO (x : World) (B b oo N : Nat) (m : Int → Int → Option Int) (nl : Nat) (l : Nat → Int) (nw : Nat) (k : Nat → Int) (g : Nat) (u1 u2 : Value) : Prop :=
 B ≤ b ∧ B ≤ g ∧ Blk3O x b oo (.map (some g)) u1 u2 ∧ PM x g N m ∧ Own x B 40 5 nl l u1 ∧ Own x B 55 4 nw k u2
theorem ColsO.later {x x' : World} {B b oo N : Nat} {m : Int → Int → Option Int} {nl : Nat} {l : Nat → Int} {nw : Nat} {k : Nat → Int} {g : Nat} {u1 u2 : Value} (h : ColsO x B b oo N m nl l nw k g u1 u2) (hb : Below x.heap.size x x') : ColsO x' B b oo N m nl l nw k g u1 u2 :=
 ⟨h.1, h.2.1, h.2.2.1.later hb, h.2.2.2.1.later hb, h.2.2.2.2.1.later hb, h.2.2.2.2.2.later hb⟩
theorem Cols.o {x : World} {B b N : Nat} {m : Int → Int → Option Int} {nl : Nat} {l : Nat → Int} {nw : Nat} {k : Nat → Int} {g : Nat} {u1 u2 : Value} (h : Cols x B b N m nl l nw k g u1 u2) : ColsO x B b 0 N m nl l nw k g u1 u2 := h
def StoBox (w : World) (v0 v1 v2 : Value) (x : World) : Prop := Blk3 x w.heap.size v0 v1 v2 ∧ Below w.heap.size w x
theorem StoBox.later {w x x' : World} {v0 v1 v2 : Value} (h : StoBox w v0 v1 v2 x) (hb : Below x.heap.size x x') : StoBox w v0 v1 v2 x' := ⟨h.1.later hb, h.2.trans (hb.mono h.2.size)⟩
theorem cellsByPlace_ex (S : Sto) (v : Value) (B : Nat) (w : World) (h : Row w B 3 S.nc S.c v) (hn : S.nc ≤ 200) (hz : scan (cellF S.c) S.nc = 0) :
  Calls Tryz.prog 74 #[v] w fun e w' => ∃ g, e = .returned (.map (some g)) ∧ w.heap.size ≤ g ∧ PM w' g S.nc (cellM S S.nc) ∧ Below w.heap.size w w' :=
 (cellsByPlace_any S v B w h hn hz).mono fun _ _ ⟨he, hP, hb⟩ => ⟨_, he, Nat.le_refl _, hP, hb⟩
theorem own_in {w : World} {B : Nat} {e : TypeId} {m n : Nat} {F : Nat → Int} {v : Value} (h : Own w B e m n F v) : ∀ k, v.ownBlock = some k → B ≤ k ∧ k < w.heap.size := by
 intro k hk
 rcases h.2 with ⟨rfl, _⟩ | ⟨g, cap, cur, rfl, hg, hw, _⟩
 ·simp [Value.ownBlock] at hk
 ·simp [Value.ownBlock] at hk
  subst hk
  exact ⟨hg, (Array.getElem?_eq_some_iff.1 hw).1⟩
/-- The columns' block, the map, the two rows: all in blocks of their own. -/
def ApartC (b g : Nat) (u1 u2 : Value) : Prop := g ≠ b ∧ (∀ q, u1.ownBlock = some q → q ≠ b ∧ q ≠ g) ∧ (∀ q, u2.ownBlock = some q → q ≠ b ∧ q ≠ g) ∧ ∀ q, u1.ownBlock = some q → u2.ownBlock ≠ some q
set_option maxRecDepth 100000 in
set_option maxHeartbeats 2000000 in
theorem columnsOf_apart (S : Sto) (B : Nat) (v0 v1 v2 : Value) (w : World) (h : St w B S v0 v1 v2) (hc : S.nc ≤ 200) (hl : S.nl ≤ 200) (hk : S.nw ≤ 200) (z0 : scan (cellF S.c) S.nc = 0) :
  Calls Tryz.prog 37 #[.agg #[v0, v1, v2]] w fun e w' => ∃ b g u1 u2, e = .returned (.pointer (some ⟨b, 0, none⟩)) ∧ Cols w' w.heap.size b S.nc (cellM S S.nc) S.nl S.l S.nw S.k g u1 u2 ∧ ApartC b g u1 u2 ∧ Below w.heap.size w w' := by
 obtain ⟨a0, c0, a1, c1, a2, c2, rfl, rfl, rfl⟩ := h.form
 have H : Hid (St w B S (.slice a0 S.nc c0) (.slice a1 S.nl c1) (.slice a2 S.nw c2)) := h
 have Z0 : Hid (scan (cellF S.c) S.nc = 0) := z0
 clear h z0
 go_enter Tryz.func37, Tryz.ntmps37
 go_wp2_with fail
 have h0 : StoBox w (.slice a0 S.nc c0) (.slice a1 S.nl c1) (.slice a2 S.nw c2) (w.alloc (.cells #[.slice a0 S.nc c0, .slice a1 S.nl c1, .slice a2 S.nw c2] 28)).drew := ⟨Blk3.new w _ _ _ _, (below_alloc _ _).drew⟩
 refine wp_region_held_drew (S := StoBox w (.slice a0 S.nc c0) (.slice a1 S.nl c1) (.slice a2 S.nw c2)) (by kernel_rfl) h0 (fun hS => ?_)
 clear h0
 refine tkH 0 ?_ hS (fun wx hx => ?_) ?_; rotate_left
 ·obtain ⟨⟨⟨hx0, hx1, hx2⟩, _⟩, _⟩ := hx; go_simp; try with_reducible rfl
 refine tkH 1 ?_ hS (fun wx hx => ?_) ?_; rotate_left
 ·obtain ⟨⟨⟨hx0, hx1, hx2⟩, _⟩, _⟩ := hx; go_simp; try with_reducible rfl
 refine tkH 3 ?_ hS (fun wx hx => ?_) ?_; rotate_left
 ·obtain ⟨⟨⟨hx0, hx1, hx2⟩, _⟩, _⟩ := hx; go_simp; try with_reducible rfl
 refine tkH 4 ?_ hS (fun wx hx => ?_) ?_; rotate_left
 ·obtain ⟨⟨⟨hx0, hx1, hx2⟩, _⟩, _⟩ := hx; go_simp; try with_reducible rfl
 refine tkH 6 ?_ hS (fun wx hx => ?_) ?_; rotate_left
 ·obtain ⟨⟨⟨hx0, hx1, hx2⟩, _⟩, _⟩ := hx; go_simp; try with_reducible rfl
 refine tkH 7 ?_ hS (fun wx hx => ?_) ?_; rotate_left
 ·obtain ⟨⟨⟨hx0, hx1, hx2⟩, _⟩, _⟩ := hx; go_simp; try with_reducible rfl
 refine rdH 2 (fun K hK => ?_)
 go_simp
 go_wp2_with fail
 refine (cellsByPlace_ex S _ B _ (H.out.later hS.2).1 hc Z0.out).mono ?_
 rintro e w1 ⟨g, rfl, hg, HP, hb1⟩
 have P1 : Hid (w.heap.size ≤ g ∧ PM w1 g S.nc (cellM S S.nc)) := ⟨Nat.le_trans hS.2.size hg, HP⟩
 have z1 : Hid (g < w1.heap.size) := HP.lt
 have hS' := hS.later hb1
 clear hg HP hb1
 go_wp2_with fail
 refine hK.out _ _ hS' (fun hS => ?_)
 clear hK K hS'
 refine rdH 5 (fun K hK => ?_)
 go_simp
 go_wp2_with fail
 refine (cloneLocks_any S.nl S.l _ B _ (H.out.later hS.2).2.1 (by omega)).mono ?_
 rintro e w2 ⟨u1, rfl, ho, hb2⟩
 obtain ⟨b1, d1, rfl⟩ := ho.form
 have P2 : Hid ((w.heap.size ≤ g ∧ PM w2 g S.nc (cellM S S.nc)) ∧ Own w2 w.heap.size 40 5 S.nl S.l (.slice b1 S.nl d1)) := ⟨⟨P1.out.1, P1.out.2.later hb2⟩, ho.mono hS.2.size⟩
 have z12 : Hid (w1.heap.size ≤ w2.heap.size) := hb2.size
 have B2 : Hid (∀ q, (Value.slice b1 S.nl d1).ownBlock = some q → w1.heap.size ≤ q ∧ q < w2.heap.size) := fun q hq => own_in ho q hq
 have hS' := hS.later hb2
 clear ho hb2 P1
 go_wp2_with fail
 refine hK.out _ _ hS' (fun hS => ?_)
 clear hK K hS'
 refine rdH 8 (fun K hK => ?_)
 go_simp
 go_wp2_with fail
 refine (cloneWrites_any S.nw S.k _ B _ (H.out.later hS.2).2.2 (by omega)).mono ?_
 rintro e w3 ⟨u2, rfl, ho, hb3⟩
 obtain ⟨b2, d2, rfl⟩ := ho.form
 have P3 : Hid (((w.heap.size ≤ g ∧ PM w3 g S.nc (cellM S S.nc)) ∧ Own w3 w.heap.size 40 5 S.nl S.l (.slice b1 S.nl d1)) ∧ Own w3 w.heap.size 55 4 S.nw S.k (.slice b2 S.nw d2)) := ⟨⟨⟨P2.out.1.1, P2.out.1.2.later hb3⟩, P2.out.2.later hb3⟩, ho.mono hS.2.size⟩
 have B3 : Hid (∀ q, (Value.slice b2 S.nw d2).ownBlock = some q → w2.heap.size ≤ q ∧ q < w3.heap.size) := fun q hq => own_in ho q hq
 have z23 : Hid (w1.heap.size ≤ w2.heap.size ∧ w2.heap.size ≤ w3.heap.size) := ⟨z12.out, hb3.size⟩
 have hS' := hS.later hb3
 have hS3 : Hid (w.heap.size ≤ w3.heap.size) := hS'.2.size
 clear ho hb3 P2
 go_wp2_with fail
 refine hK.out _ _ hS' (fun hS => ?_)
 clear hK K hS'
 refine tkH 9 ?_ hS (fun wx hx => ?_) ?_; rotate_left
 ·obtain ⟨⟨⟨hx0, hx1, hx2⟩, _⟩, _⟩ := hx; go_simp; try with_reducible rfl
 refine rdH 10 (fun K hK => ?_)
 go_simp
 refine hK.out _ _ (hS.later (below_alloc w3 _)) (fun hS => ?_)
 clear hK K
 refine tkH 11 ?_ hS (fun wx hx => ?_) ?_; rotate_left
 ·obtain ⟨⟨⟨hx0, hx1, hx2⟩, _⟩, _⟩ := hx; go_simp; try with_reducible rfl
 refine wpAnyH_done (by kernel_rfl) ?_ _
 go_simp
 go_wp2
 go_ret
 exact ⟨_, g, _, _, rfl, ⟨hS3.out, P3.out.1.1.1, Blk3.new w3 _ _ _ _, P3.out.1.1.2.alloc _, P3.out.1.2.alloc _, P3.out.2.alloc _⟩, ⟨by have := z1.out; have := z23.out; omega, fun q hq => by have := B2.out q hq; have := z1.out; have := z23.out; omega, fun q hq => by have := B3.out q hq; have := z1.out; have := z23.out; omega, fun q hq e => by have := B2.out q hq; have := B3.out q e; omega⟩, hS.2⟩
theorem columnsOf_any (S : Sto) (B : Nat) (v0 v1 v2 : Value) (w : World) (h : St w B S v0 v1 v2) (hc : S.nc ≤ 200) (hl : S.nl ≤ 200) (hk : S.nw ≤ 200) (z0 : scan (cellF S.c) S.nc = 0) :
  Calls Tryz.prog 37 #[.agg #[v0, v1, v2]] w fun e w' => ∃ b g u1 u2, e = .returned (.pointer (some ⟨b, 0, none⟩)) ∧ Cols w' w.heap.size b S.nc (cellM S S.nc) S.nl S.l S.nw S.k g u1 u2 ∧ Below w.heap.size w w' :=
 (columnsOf_apart S B v0 v1 v2 w h hc hl hk z0).mono fun _ _ ⟨b, g, u1, u2, h1, h2, _, h3⟩ => ⟨b, g, u1, u2, h1, h2, h3⟩
end Go.Proofs.YtiadbiiiikhfaaaGreatDoor

