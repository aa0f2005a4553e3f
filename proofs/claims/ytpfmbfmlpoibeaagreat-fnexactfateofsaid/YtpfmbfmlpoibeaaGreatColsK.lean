/-
  Own text, merged of ColsH, ColsI, ColsJ, ColsK.
-/
import Derived.Test.YtpfmbfmlpoibeaaGreatColsF
import Derived.Test.YtpfmbfmlpoibeaaGreatColsG
namespace Go.Proofs.YtpfmbfmlpoibeaaGreat
section
open Go.RowKit
-- Own text. What the model's functions l2Cell and l2Write answer: the place of the first one of a key and a start, or -1.
/-- The first place below n at which p holds, or -1. -/
def FirstAt (p : Nat → Prop) (n : Nat) (r : Int) : Prop := (r = -1 ∧ ∀ i, i < n → ¬ p i) ∨ ∃ i : Nat, i < n ∧ r = i ∧ p i ∧ ∀ j, j < i → ¬ p j
theorem FirstAt.at {p : Nat → Prop} {n : Nat} {i : Nat} (h : FirstAt p n i) : i < n ∧ p i ∧ ∀ j, j < i → ¬ p j := by
  rcases h with ⟨e, _⟩ | ⟨j, hj, e, hp, hq⟩
  · omega
  · obtain rfl : i = j := by omega
    exact ⟨hj, hp, hq⟩

set_option maxRecDepth 10000 in
set_option maxHeartbeats 2000000 in
theorem l2Cell_anyO (S : Sto) (b oo : Nat) (v0 v1 v2 : Value) (a s : Int) (w : World) (h : LiesO w b oo S v0 v1 v2) (hn : S.nc ≤ 200) :
    Calls Tryz.prog 114 #[.pointer (some ⟨b, oo, none⟩), .int .i64 a, .int .i64 s] w fun e w' => ∃ r : Int, e = .returned (.int .i64 r) ∧ FirstAt (cellIs S.c a s) S.nc r ∧ w' = w := by
  obtain ⟨a0, c0, a1, c1, a2, c2, rfl, rfl, rfl⟩ := h.2.form
  have H : Hid (LiesO w b oo S (.slice a0 S.nc c0) (.slice a1 S.nl c1) (.slice a2 S.nw c2)) := h
  have p0 := h.1.1
  have hb := h.lt
  clear h
  go_enter Tryz.func114, Tryz.ntmps114
  go_wp2
  go_loop [7] (fun i => ∃ k : Nat, k ≤ S.nc ∧ i = .int .i64 k ∧ Hid (∀ j, j < k → ¬ cellIs S.c a s j)) (fun i => S.nc - (intOf i).toNat)
  case atStart => exact ⟨0, Nat.zero_le _, rfl, fun j hj => absurd hj (Nat.not_lt_zero j)⟩
  case round =>
    obtain ⟨k, hk, rfl, HS⟩ := hrel
    by_cases hlt : k < S.nc
    case neg =>
      obtain rfl : k = S.nc := by omega
      go_wp2
      go_ret
      exact ⟨_, rfl, Or.inl ⟨rfl, HS.out⟩, rfl⟩
    obtain ⟨g, o, rfl, _, hg, x0, x1, x2⟩ := H.out.2.1.at3 hlt
    obtain ⟨n0, N0⟩ : ∃ x, S.c (k * 3) = x := ⟨_, rfl⟩
    obtain ⟨n1, N1⟩ : ∃ x, S.c (k * 3 + 1) = x := ⟨_, rfl⟩
    rw [N0] at x0; rw [N1] at x1
    by_cases h0 : n0 = a
    · by_cases h1 : n1 = s
      · have E : Hid (cellIs S.c a s k) := ⟨N0.trans h0, N1.trans h1⟩
        clear N0 N1
        subst h0 h1
        go_wp2
        go_ret
        exact ⟨_, rfl, Or.inr ⟨k, hlt, rfl, E.out, HS.out⟩, rfl⟩
      · have E : Hid (∀ j, j < k + 1 → ¬ cellIs S.c a s j) := fun j hj => by
          rcases Nat.lt_or_ge j k with h | h
          · exact HS.out j h
          · obtain rfl : j = k := by omega
            exact fun q => h1 (N1.symm.trans q.2)
        have d1 : (n1 == s) = false := beq_eq_false_iff_ne.2 h1
        clear N0 N1 HS h1
        subst h0
        go_wp2
        go_round
        case rel => exact ⟨k + 1, by omega, by go_num, E⟩
        case measure => simp [intOf]; omega
    · have E : Hid (∀ j, j < k + 1 → ¬ cellIs S.c a s j) := fun j hj => by
        rcases Nat.lt_or_ge j k with h | h
        · exact HS.out j h
        · obtain rfl : j = k := by omega
          exact fun q => h0 (N0.symm.trans q.1)
      have d0 : (n0 == a) = false := beq_eq_false_iff_ne.2 h0
      clear N0 N1 HS h0
      go_wp2
      go_round
      case rel => exact ⟨k + 1, by omega, by go_num, E⟩
      case measure => simp [intOf]; omega
set_option maxRecDepth 10000 in
set_option maxHeartbeats 2000000 in
theorem l2Write_anyO (S : Sto) (b oo : Nat) (v0 v1 v2 : Value) (a s : Int) (w : World) (h : LiesO w b oo S v0 v1 v2) (hn : S.nw ≤ 200) :
    Calls Tryz.prog 70 #[.pointer (some ⟨b, oo, none⟩), .int .i64 a, .int .i64 s] w fun e w' => ∃ r : Int, e = .returned (.int .i64 r) ∧ FirstAt (writeIs S.k a s) S.nw r ∧ w' = w := by
  obtain ⟨a0, c0, a1, c1, a2, c2, rfl, rfl, rfl⟩ := h.2.form
  have H : Hid (LiesO w b oo S (.slice a0 S.nc c0) (.slice a1 S.nl c1) (.slice a2 S.nw c2)) := h
  have p0 := h.1.2.2
  have hb := h.lt
  clear h
  go_enter Tryz.func70, Tryz.ntmps70
  go_wp2
  go_loop [7] (fun i => ∃ k : Nat, k ≤ S.nw ∧ i = .int .i64 k ∧ Hid (∀ j, j < k → ¬ writeIs S.k a s j)) (fun i => S.nw - (intOf i).toNat)
  case atStart => exact ⟨0, Nat.zero_le _, rfl, fun j hj => absurd hj (Nat.not_lt_zero j)⟩
  case round =>
    obtain ⟨k, hk, rfl, HS⟩ := hrel
    by_cases hlt : k < S.nw
    case neg =>
      obtain rfl : k = S.nw := by omega
      go_wp2
      go_ret
      exact ⟨_, rfl, Or.inl ⟨rfl, HS.out⟩, rfl⟩
    obtain ⟨g, o, rfl, _, hg, x0, x1, x2, x3⟩ := H.out.2.2.2.at4 hlt
    obtain ⟨n0, N0⟩ : ∃ x, S.k (k * 4) = x := ⟨_, rfl⟩
    obtain ⟨n1, N1⟩ : ∃ x, S.k (k * 4 + 2) = x := ⟨_, rfl⟩
    rw [N0] at x0; rw [N1] at x2
    by_cases h0 : n0 = a
    · by_cases h1 : n1 = s
      · have E : Hid (writeIs S.k a s k) := ⟨N0.trans h0, N1.trans h1⟩
        clear N0 N1
        subst h0 h1
        go_wp2
        go_ret
        exact ⟨_, rfl, Or.inr ⟨k, hlt, rfl, E.out, HS.out⟩, rfl⟩
      · have E : Hid (∀ j, j < k + 1 → ¬ writeIs S.k a s j) := fun j hj => by
          rcases Nat.lt_or_ge j k with h | h
          · exact HS.out j h
          · obtain rfl : j = k := by omega
            exact fun q => h1 (N1.symm.trans q.2)
        have d1 : (n1 == s) = false := beq_eq_false_iff_ne.2 h1
        clear N0 N1 HS h1
        subst h0
        go_wp2
        go_round
        case rel => exact ⟨k + 1, by omega, by go_num, E⟩
        case measure => simp [intOf]; omega
    · have E : Hid (∀ j, j < k + 1 → ¬ writeIs S.k a s j) := fun j hj => by
        rcases Nat.lt_or_ge j k with h | h
        · exact HS.out j h
        · obtain rfl : j = k := by omega
          exact fun q => h0 (N0.symm.trans q.1)
      have d0 : (n0 == a) = false := beq_eq_false_iff_ne.2 h0
      clear N0 N1 HS h0
      go_wp2
      go_round
      case rel => exact ⟨k + 1, by omega, by go_num, E⟩
      case measure => simp [intOf]; omega
end

section
open Go.RowKit
-- Own text. What the model's functions l2Needs and l2Once answer: whether each put has its cell; whether no two have one key and one start.
theorem FirstAt.one {p : Nat → Prop} {n : Nat} {r r' : Int} (h : FirstAt p n r) (h' : FirstAt p n r') : r = r' := by
  rcases h with ⟨rfl, h⟩ | ⟨i, hi, rfl, hp, hq⟩ <;> rcases h' with ⟨rfl, h'⟩ | ⟨j, hj, rfl, hp', hq'⟩
  · rfl
  · exact absurd hp' (h j hj)
  · exact absurd hp (h' i hi)
  · rcases Nat.lt_trichotomy i j with e | e | e
    · exact absurd hp (hq' i e)
    · rw [e]
    · exact absurd hp' (hq j e)
theorem FirstAt.get (p : Nat → Prop) : ∀ n, ∃ r, FirstAt p n r
  | 0 => ⟨-1, Or.inl ⟨rfl, fun i hi => absurd hi (Nat.not_lt_zero i)⟩⟩
  | n + 1 => by
    obtain ⟨r, h⟩ := FirstAt.get p n
    rcases h with ⟨rfl, h⟩ | ⟨i, hi, rfl, hp, hq⟩
    · by_cases hn : p n
      · exact ⟨n, Or.inr ⟨n, by omega, rfl, hn, h⟩⟩
      · refine ⟨-1, Or.inl ⟨rfl, fun i hi => ?_⟩⟩
        rcases Nat.lt_or_ge i n with e | e
        · exact h i e
        · obtain rfl : i = n := by omega
          exact hn
    · exact ⟨i, Or.inr ⟨i, by omega, rfl, hp, hq⟩⟩
theorem LiesO.drewN {w : World} {b oo : Nat} {S : Sto} {v0 v1 v2 : Value} (h : LiesO w b oo S v0 v1 v2) (q : Nat) : LiesO (w.drewN q) b oo S v0 v1 v2 := h
theorem Lies.drewN {w : World} {b : Nat} {S : Sto} {v0 v1 v2 : Value} (h : Lies w b S v0 v1 v2) (q : Nat) : Lies (w.drewN q) b S v0 v1 v2 := h
theorem l2Cell_isO (S : Sto) (b oo : Nat) (v0 v1 v2 : Value) (a s r : Int) (w : World) (h : LiesO w b oo S v0 v1 v2) (hn : S.nc ≤ 200) (hr : FirstAt (cellIs S.c a s) S.nc r) :
    Calls Tryz.prog 114 #[.pointer (some ⟨b, oo, none⟩), .int .i64 a, .int .i64 s] w fun e w' => e = .returned (.int .i64 r) ∧ w' = w :=
  (l2Cell_anyO S b oo v0 v1 v2 a s w h hn).mono fun e w' ⟨r', he, hr', hw⟩ => ⟨by rw [he, hr.one hr'], hw⟩
theorem l2Write_isO (S : Sto) (b oo : Nat) (v0 v1 v2 : Value) (a s r : Int) (w : World) (h : LiesO w b oo S v0 v1 v2) (hn : S.nw ≤ 200) (hr : FirstAt (writeIs S.k a s) S.nw r) :
    Calls Tryz.prog 70 #[.pointer (some ⟨b, oo, none⟩), .int .i64 a, .int .i64 s] w fun e w' => e = .returned (.int .i64 r) ∧ w' = w :=
  (l2Write_anyO S b oo v0 v1 v2 a s w h hn).mono fun e w' ⟨r', he, hr', hw⟩ => ⟨by rw [he, hr.one hr'], hw⟩

set_option maxRecDepth 10000 in
set_option maxHeartbeats 4000000 in
theorem l2Needs_anyO (S : Sto) (b oo : Nat) (v0 v1 v2 : Value) (r : Bool) (w : World) (h : LiesO w b oo S v0 v1 v2) (hc : S.nc ≤ 200) (hl : S.nl ≤ 200) (hk : S.nw ≤ 200) (hr : r = true ↔ needs S) :
    Calls Tryz.prog 122 #[.pointer (some ⟨b, oo, none⟩)] w fun e w' => e = .returned (.bool r) ∧ Below w.heap.size w w' := by
  obtain ⟨a0, c0, a1, c1, a2, c2, rfl, rfl, rfl⟩ := h.2.form
  have H : Hid (LiesO w b oo S (.slice a0 S.nc c0) (.slice a1 S.nl c1) (.slice a2 S.nw c2)) := h
  have HR : Hid (r = true ↔ needs S) := hr
  clear h hr
  go_enter Tryz.func122, Tryz.ntmps122
  go_wp2
  go_loopw [3] (fun i wr => ∃ k : Nat, k ≤ S.nw ∧ i = .int .i64 k ∧ Hid (∀ j, j < k → putW S j) ∧ Hid (Below w.heap.size w wr)) (fun i _ => S.nw - (intOf i).toNat)
  case atStart => exact ⟨0, Nat.zero_le _, rfl, fun j hj => absurd hj (Nat.not_lt_zero j), Below.refl _ _⟩
  case round =>
    obtain ⟨k, hk', rfl, HS, HB⟩ := hrel
    have HL : Hid (LiesO wr b oo S (.slice a0 S.nc c0) (.slice a1 S.nl c1) (.slice a2 S.nw c2)) := H.out.later HB.out
    have e2 := HL.out.1.2.2
    by_cases hlt : k < S.nw
    case pos =>
      obtain ⟨g, o, rfl, _, hg, x0, x1, x2, x3⟩ := HL.out.2.2.2.at4 hlt
      obtain ⟨n0, N0⟩ : ∃ x, S.k (k * 4) = x := ⟨_, rfl⟩
      obtain ⟨n2, N2⟩ : ∃ x, S.k (k * 4 + 2) = x := ⟨_, rfl⟩
      obtain ⟨n3, N3⟩ : ∃ x, S.k (k * 4 + 3) = x := ⟨_, rfl⟩
      rw [N0] at x0; rw [N2] at x2; rw [N3] at x3
      have NN : Hid (S.k (k * 4) = n0 ∧ S.k (k * 4 + 2) = n2 ∧ S.k (k * 4 + 3) = n3) := ⟨N0, N2, N3⟩
      clear N0 N2 N3
      have NX : Hid (putW S k → ∀ j, j < k + 1 → putW S j) := fun q j hj => by
        rcases Nat.lt_or_ge j k with h | h
        · exact HS.out j h
        · obtain rfl : j = k := by omega
          exact q
      by_cases h3 : n3 = 1
      · obtain ⟨c, HF⟩ : ∃ c, Hid (FirstAt (cellIs S.c n0 n2) S.nc c) := FirstAt.get _ _
        have LC : Hid (∀ n, Calls Tryz.prog 114 #[.pointer (some ⟨b, oo, none⟩), .int .i64 n0, .int .i64 n2] (wr.drewN n) fun e w' => e = .returned (.int .i64 c) ∧ w' = wr.drewN n) := fun n => l2Cell_isO S b oo _ _ _ n0 n2 c _ (HL.out.drewN n) hc HF.out
        by_cases hcn : c < 0
        · have E : Hid (r = false) := by
            cases r with
            | false => rfl
            | true =>
              obtain ⟨i, hi, hp⟩ := (HR.out.1 rfl).1 k hlt (NN.out.2.2.trans h3)
              rw [NN.out.1, NN.out.2.1] at hp
              rcases HF.out with ⟨_, q⟩ | ⟨i', _, e, _⟩
              · exact absurd hp (q i hi)
              · omega
          have d : decide (c < 0) = true := decide_eq_true hcn
          clear NN NX HF HS hcn
          subst h3
          go_wp2_with fail
          go_quiet (first | (go_at_call 114; refine Calls.quiet_of_same (LC.out _)))
          go_wp2
          go_ret
          exact ⟨by rw [E.out]; rfl, below_dr HB.out _⟩
        · have E : Hid (∀ j, j < k + 1 → putW S j) := NX.out (fun _ => by
            rcases HF.out with ⟨e, _⟩ | ⟨i', hi, _, hp, _⟩
            · omega
            · exact ⟨i', hi, by rw [NN.out.1, NN.out.2.1]; exact hp⟩)
          have d : decide (c < 0) = false := decide_eq_false hcn
          clear NN NX HF HS hcn
          subst h3
          go_wp2_with fail
          go_quiet (first | (go_at_call 114; refine Calls.quiet_of_same (LC.out _)))
          go_wp2
          go_roundw
          case rel => exact ⟨k + 1, by omega, by go_num, E, below_dr HB.out _⟩
          case measure => simp [intOf]; omega
      · have E : Hid (∀ j, j < k + 1 → putW S j) := NX.out (fun q => absurd (NN.out.2.2.symm.trans q) h3)
        have d : (n3 == 1) = false := beq_eq_false_iff_ne.2 h3
        clear NN NX HS h3
        go_wp2_with fail
        go_quiet (fail)
        go_wp2
        go_roundw
        case rel => exact ⟨k + 1, by omega, by go_num, E, below_dr HB.out _⟩
        case measure => simp [intOf]; omega
    case neg =>
      have HW : Hid (∀ i, i < S.nw → putW S i) := fun i hi => HS.out i (by omega)
      clear HS HL
      go_wp2
      clear e2 hk' hlt
      go_loopw [4] (fun i wr => ∃ k : Nat, k ≤ S.nl ∧ i = .int .i64 k ∧ Hid (∀ j, j < k → putL S j) ∧ Hid (Below w.heap.size w wr)) (fun i _ => S.nl - (intOf i).toNat)
      case atStart => exact ⟨0, Nat.zero_le _, rfl, fun j hj => absurd hj (Nat.not_lt_zero j), HB⟩
      case round =>
        clear HB
        obtain ⟨k, hk', rfl, HS, HB⟩ := hrel
        have HL : Hid (LiesO wr b oo S (.slice a0 S.nc c0) (.slice a1 S.nl c1) (.slice a2 S.nw c2)) := H.out.later HB.out
        have e1 := HL.out.1.2.1
        by_cases hlt : k < S.nl
        case neg =>
          have E : Hid (r = true) := HR.out.2 ⟨HW.out, fun i hi => HS.out i (by omega)⟩
          clear HS HL
          go_wp2
          go_ret
          exact ⟨by rw [E.out]; rfl, HB.out⟩
        obtain ⟨g, o, rfl, _, hg, x0, x1, x2, x3, x4⟩ := HL.out.2.2.1.at5 hlt
        obtain ⟨n0, N0⟩ : ∃ x, S.l (k * 5) = x := ⟨_, rfl⟩
        obtain ⟨n1, N1⟩ : ∃ x, S.l (k * 5 + 1) = x := ⟨_, rfl⟩
        obtain ⟨n2, N2⟩ : ∃ x, S.l (k * 5 + 2) = x := ⟨_, rfl⟩
        rw [N0] at x0; rw [N1] at x1; rw [N2] at x2
        have NN : Hid (S.l (k * 5) = n0 ∧ S.l (k * 5 + 1) = n1 ∧ S.l (k * 5 + 2) = n2) := ⟨N0, N1, N2⟩
        clear N0 N1 N2
        have NX : Hid (putL S k → ∀ j, j < k + 1 → putL S j) := fun q j hj => by
          rcases Nat.lt_or_ge j k with h | h
          · exact HS.out j h
          · obtain rfl : j = k := by omega
            exact q
        by_cases h3 : n2 = 1
        · obtain ⟨c, HF⟩ : ∃ c, Hid (FirstAt (cellIs S.c n0 n1) S.nc c) := FirstAt.get _ _
          have LC : Hid (∀ n, Calls Tryz.prog 114 #[.pointer (some ⟨b, oo, none⟩), .int .i64 n0, .int .i64 n1] (wr.drewN n) fun e w' => e = .returned (.int .i64 c) ∧ w' = wr.drewN n) := fun n => l2Cell_isO S b oo _ _ _ n0 n1 c _ (HL.out.drewN n) hc HF.out
          by_cases hcn : c < 0
          · have E : Hid (r = false) := by
              cases r with
              | false => rfl
              | true =>
                obtain ⟨i, hi, hp⟩ := (HR.out.1 rfl).2 k hlt (NN.out.2.2.trans h3)
                rw [NN.out.1, NN.out.2.1] at hp
                rcases HF.out with ⟨_, q⟩ | ⟨i', _, e, _⟩
                · exact absurd hp (q i hi)
                · omega
            have d : decide (c < 0) = true := decide_eq_true hcn
            clear NN NX HF HS hcn
            subst h3
            go_wp2_with fail
            go_quiet (first | (go_at_call 114; refine Calls.quiet_of_same (LC.out _)))
            go_wp2
            go_ret
            exact ⟨by rw [E.out]; rfl, below_dr HB.out _⟩
          · have E : Hid (∀ j, j < k + 1 → putL S j) := NX.out (fun _ => by
              rcases HF.out with ⟨e, _⟩ | ⟨i', hi, _, hp, _⟩
              · omega
              · exact ⟨i', hi, by rw [NN.out.1, NN.out.2.1]; exact hp⟩)
            have d : decide (c < 0) = false := decide_eq_false hcn
            clear NN NX HF HS hcn
            subst h3
            go_wp2_with fail
            go_quiet (first | (go_at_call 114; refine Calls.quiet_of_same (LC.out _)))
            go_wp2
            go_roundw
            case rel => exact ⟨k + 1, by omega, by go_num, E, below_dr HB.out _⟩
            case measure => simp [intOf]; omega
        · have E : Hid (∀ j, j < k + 1 → putL S j) := NX.out (fun q => absurd (NN.out.2.2.symm.trans q) h3)
          have d : (n2 == 1) = false := beq_eq_false_iff_ne.2 h3
          clear NN NX HS h3
          go_wp2_with fail
          go_quiet (fail)
          go_wp2
          go_roundw
          case rel => exact ⟨k + 1, by omega, by go_num, E, below_dr HB.out _⟩
          case measure => simp [intOf]; omega
end

section
open Go.RowKit
-- Own text. What the model's function l2Once answers: whether no two writes have one key and one start, and no lock has those of a write.
set_option maxRecDepth 10000 in
set_option maxHeartbeats 4000000 in
theorem l2Once_anyO (S : Sto) (b oo : Nat) (v0 v1 v2 : Value) (r : Bool) (w : World) (h : LiesO w b oo S v0 v1 v2) (hl : S.nl ≤ 200) (hk : S.nw ≤ 200) (hr : r = true ↔ once S) :
    Calls Tryz.prog 123 #[.pointer (some ⟨b, oo, none⟩)] w fun e w' => e = .returned (.bool r) ∧ Below w.heap.size w w' := by
  obtain ⟨a0, c0, a1, c1, a2, c2, rfl, rfl, rfl⟩ := h.2.form
  have H : Hid (LiesO w b oo S (.slice a0 S.nc c0) (.slice a1 S.nl c1) (.slice a2 S.nw c2)) := h
  have HR : Hid (r = true ↔ once S) := hr
  clear h hr
  go_enter Tryz.func123, Tryz.ntmps123
  go_wp2
  go_loopw [3] (fun i wr => ∃ k : Nat, k ≤ S.nw ∧ i = .int .i64 k ∧ Hid (∀ j, j < k → onceW S j) ∧ Hid (Below w.heap.size w wr)) (fun i _ => S.nw - (intOf i).toNat)
  case atStart => exact ⟨0, Nat.zero_le _, rfl, fun j hj => absurd hj (Nat.not_lt_zero j), Below.refl _ _⟩
  case round =>
    obtain ⟨k, hk', rfl, HS, HB⟩ := hrel
    have HL : Hid (LiesO wr b oo S (.slice a0 S.nc c0) (.slice a1 S.nl c1) (.slice a2 S.nw c2)) := H.out.later HB.out
    have e2 := HL.out.1.2.2
    by_cases hlt : k < S.nw
    case pos =>
      obtain ⟨g, o, rfl, _, hg, x0, x1, x2, x3⟩ := HL.out.2.2.2.at4 hlt
      obtain ⟨n0, N0⟩ : ∃ x, S.k (k * 4) = x := ⟨_, rfl⟩
      obtain ⟨n2, N2⟩ : ∃ x, S.k (k * 4 + 2) = x := ⟨_, rfl⟩
      rw [N0] at x0; rw [N2] at x2
      have NN : Hid (S.k (k * 4) = n0 ∧ S.k (k * 4 + 2) = n2) := ⟨N0, N2⟩
      clear N0 N2
      obtain ⟨c, HF⟩ : ∃ c, Hid (FirstAt (writeIs S.k n0 n2) S.nw c) := FirstAt.get _ _
      have LC : Hid (∀ n, Calls Tryz.prog 70 #[.pointer (some ⟨b, oo, none⟩), .int .i64 n0, .int .i64 n2] (wr.drewN n) fun e w' => e = .returned (.int .i64 c) ∧ w' = wr.drewN n) := fun n => l2Write_isO S b oo _ _ _ n0 n2 c _ (HL.out.drewN n) hk HF.out
      have me : Hid (writeIs S.k n0 n2 k) := NN.out
      by_cases hcn : c = k
      · have E : Hid (∀ j, j < k + 1 → onceW S j) := fun j hj => by
          rcases Nat.lt_or_ge j k with h | h
          · exact HS.out j h
          · obtain rfl : j = k := by omega
            rintro ⟨i, hi, hp⟩
            rw [NN.out.1, NN.out.2] at hp
            rcases HF.out with ⟨e, _⟩ | ⟨i', _, e, _, q⟩
            · omega
            · exact q i (by omega) hp
        clear NN HF HS me
        subst hcn
        go_wp2_with fail
        go_quiet (first | (go_at_call 70; refine Calls.quiet_of_same (LC.out _)))
        go_wp2
        go_roundw
        case rel => exact ⟨k + 1, by omega, by go_num, E, below_dr HB.out _⟩
        case measure => simp [intOf]; omega
      · have E : Hid (r = false) := by
          cases r with
          | false => rfl
          | true =>
            have q := (HR.out.1 rfl).1 k hlt
            rcases HF.out with ⟨_, q'⟩ | ⟨i', hi', e, hp, q'⟩
            · exact absurd me.out (q' k hlt)
            · refine absurd ⟨i', ?_, by rw [NN.out.1, NN.out.2]; exact hp⟩ q
              rcases Nat.lt_or_ge k i' with h | h
              · exact absurd me.out (q' k h)
              · omega
        have d : (c != (k : Int)) = true := bne_iff_ne.2 hcn
        clear NN HF HS me hcn
        go_wp2_with fail
        go_quiet (first | (go_at_call 70; refine Calls.quiet_of_same (LC.out _)))
        go_wp2
        go_ret
        exact ⟨by rw [E.out]; rfl, below_dr HB.out _⟩
    case neg =>
      have HW : Hid (∀ i, i < S.nw → onceW S i) := fun i hi => HS.out i (by omega)
      clear HS HL
      go_wp2
      clear e2 hk' hlt
      go_loopw [4] (fun i wr => ∃ k : Nat, k ≤ S.nl ∧ i = .int .i64 k ∧ Hid (∀ j, j < k → onceL S j) ∧ Hid (Below w.heap.size w wr)) (fun i _ => S.nl - (intOf i).toNat)
      case atStart => exact ⟨0, Nat.zero_le _, rfl, fun j hj => absurd hj (Nat.not_lt_zero j), HB⟩
      case round =>
        clear HB
        obtain ⟨k, hk', rfl, HS, HB⟩ := hrel
        have HL : Hid (LiesO wr b oo S (.slice a0 S.nc c0) (.slice a1 S.nl c1) (.slice a2 S.nw c2)) := H.out.later HB.out
        have e1 := HL.out.1.2.1
        by_cases hlt : k < S.nl
        case neg =>
          have E : Hid (r = true) := HR.out.2 ⟨HW.out, fun i hi => HS.out i (by omega)⟩
          clear HS HL
          go_wp2
          go_ret
          exact ⟨by rw [E.out]; rfl, HB.out⟩
        obtain ⟨g, o, rfl, _, hg, x0, x1, x2, x3, x4⟩ := HL.out.2.2.1.at5 hlt
        obtain ⟨n0, N0⟩ : ∃ x, S.l (k * 5) = x := ⟨_, rfl⟩
        obtain ⟨n1, N1⟩ : ∃ x, S.l (k * 5 + 1) = x := ⟨_, rfl⟩
        rw [N0] at x0; rw [N1] at x1
        have NN : Hid (S.l (k * 5) = n0 ∧ S.l (k * 5 + 1) = n1) := ⟨N0, N1⟩
        clear N0 N1
        obtain ⟨c, HF⟩ : ∃ c, Hid (FirstAt (writeIs S.k n0 n1) S.nw c) := FirstAt.get _ _
        have LC : Hid (∀ n, Calls Tryz.prog 70 #[.pointer (some ⟨b, oo, none⟩), .int .i64 n0, .int .i64 n1] (wr.drewN n) fun e w' => e = .returned (.int .i64 c) ∧ w' = wr.drewN n) := fun n => l2Write_isO S b oo _ _ _ n0 n1 c _ (HL.out.drewN n) hk HF.out
        by_cases hcn : 0 ≤ c
        · have E : Hid (r = false) := by
            cases r with
            | false => rfl
            | true =>
              have q := (HR.out.1 rfl).2 k hlt
              rcases HF.out with ⟨e, _⟩ | ⟨i', hi', e, hp, q'⟩
              · omega
              · exact absurd ⟨i', hi', by rw [NN.out.1, NN.out.2]; exact hp⟩ q
          have d : decide (0 ≤ c) = true := decide_eq_true hcn
          clear NN HF HS hcn
          go_wp2_with fail
          go_quiet (first | (go_at_call 70; refine Calls.quiet_of_same (LC.out _)))
          go_wp2
          go_ret
          exact ⟨by rw [E.out]; rfl, below_dr HB.out _⟩
        · have E : Hid (∀ j, j < k + 1 → onceL S j) := fun j hj => by
            rcases Nat.lt_or_ge j k with h | h
            · exact HS.out j h
            · obtain rfl : j = k := by omega
              rintro ⟨i, hi, hp⟩
              rw [NN.out.1, NN.out.2] at hp
              rcases HF.out with ⟨_, q⟩ | ⟨i', _, e, _⟩
              · exact q i hi hp
              · omega
          have d : decide (0 ≤ c) = false := decide_eq_false hcn
          clear NN HF HS hcn
          go_wp2_with fail
          go_quiet (first | (go_at_call 70; refine Calls.quiet_of_same (LC.out _)))
          go_wp2
          go_roundw
          case rel => exact ⟨k + 1, by omega, by go_num, E, below_dr HB.out _⟩
          case measure => simp [intOf]; omega
end

section
open Go.RowKit
-- Own text. The model's StoreFault answers the plain function storeF of the store's numbers, whatever the store.
theorem l2Cells_isO (S : Sto) (b oo : Nat) (v0 v1 v2 : Value) (r : Int) (hr : scan (cellF S.c) S.nc = r) (w x : World) (h : LiesO w b oo S v0 v1 v2) (hb : Below w.heap.size w x) (hn : S.nc ≤ 200) :
    Calls Tryz.prog 119 #[.pointer (some ⟨b, oo, none⟩)] x fun e w' => e = .returned (.int .i64 r) ∧ Below w.heap.size w w' :=
  (l2Cells_anyO S b oo v0 v1 v2 x (h.later hb) hn).mono fun e w' ⟨he, hw⟩ => ⟨by rw [he, hr], hb.trans (hw.mono hb.size)⟩
theorem l2Locks_isO (S : Sto) (b oo : Nat) (v0 v1 v2 : Value) (r : Int) (hr : scan (lockF S.l) S.nl = r) (w x : World) (h : LiesO w b oo S v0 v1 v2) (hb : Below w.heap.size w x) (hn : S.nl ≤ 200) :
    Calls Tryz.prog 120 #[.pointer (some ⟨b, oo, none⟩)] x fun e w' => e = .returned (.int .i64 r) ∧ Below w.heap.size w w' :=
  (l2Locks_anyO S b oo v0 v1 v2 x (h.later hb) hn).mono fun e w' ⟨he, hw⟩ => ⟨by rw [he, hr], hb.trans (hw.mono hb.size)⟩
theorem l2Writes_isO (S : Sto) (b oo : Nat) (v0 v1 v2 : Value) (r : Int) (hr : scan (writeF S.k) S.nw = r) (w x : World) (h : LiesO w b oo S v0 v1 v2) (hb : Below w.heap.size w x) (hn : S.nw ≤ 200) :
    Calls Tryz.prog 121 #[.pointer (some ⟨b, oo, none⟩)] x fun e w' => e = .returned (.int .i64 r) ∧ Below w.heap.size w w' :=
  (l2Writes_anyO S b oo v0 v1 v2 x (h.later hb) hn).mono fun e w' ⟨he, hw⟩ => ⟨by rw [he, hr], hb.trans (hw.mono hb.size)⟩
set_option maxRecDepth 10000 in
set_option maxHeartbeats 4000000 in
theorem l2Fault_anyO (S : Sto) (b oo : Nat) (v0 v1 v2 : Value) (w : World) (h : LiesO w b oo S v0 v1 v2) :
    Calls Tryz.prog 77 #[.pointer (some ⟨b, oo, none⟩)] w fun e w' => e = .returned (.int .i64 (storeF S)) ∧ Below w.heap.size w w' := by
  obtain ⟨a0, c0, a1, c1, a2, c2, rfl, rfl, rfl⟩ := h.2.form
  have H : Hid (LiesO w b oo S (.slice a0 S.nc c0) (.slice a1 S.nl c1) (.slice a2 S.nw c2)) := h
  obtain ⟨⟨p0, p1, p2⟩, _⟩ := h
  by_cases m0 : 200 < S.nc
  · have E : Hid (storeF S = 2) := by unfold Hid storeF; rw [if_pos (Or.inl m0)]
    go_enter Tryz.func77, Tryz.ntmps77
    go_wp2_with fail
    go_wp2
    go_ret
    exact ⟨by rw [E.out]; rfl, Below.refl _ _⟩
  have m0' : decide ((200 : Int) < (S.nc : Int)) = false := decide_eq_false (by omega)
  by_cases m1 : 200 < S.nl
  · have E : Hid (storeF S = 2) := by unfold Hid storeF; rw [if_pos (Or.inr (Or.inl m1))]
    clear m0
    go_enter Tryz.func77, Tryz.ntmps77
    go_wp2_with fail
    go_wp2
    go_ret
    exact ⟨by rw [E.out]; rfl, Below.refl _ _⟩
  have m1' : decide ((200 : Int) < (S.nl : Int)) = false := decide_eq_false (by omega)
  by_cases m2 : 200 < S.nw
  · have E : Hid (storeF S = 2) := by unfold Hid storeF; rw [if_pos (Or.inr (Or.inr m2))]
    clear m0 m1
    go_enter Tryz.func77, Tryz.ntmps77
    go_wp2_with fail
    go_wp2
    go_ret
    exact ⟨by rw [E.out]; rfl, Below.refl _ _⟩
  have m2' : decide ((200 : Int) < (S.nw : Int)) = false := decide_eq_false (by omega)
  have HM : Hid (¬ (200 < S.nc ∨ 200 < S.nl ∨ 200 < S.nw)) := by unfold Hid; omega
  have hc : Hid (S.nc ≤ 200 ∧ S.nl ≤ 200 ∧ S.nw ≤ 200) := ⟨by omega, by omega, by omega⟩
  clear m0 m1 m2
  have HB : Hid (Below w.heap.size w w) := Below.refl _ _
  by_cases z0 : scan (cellF S.c) S.nc = 0
  case neg =>
    obtain ⟨f, hf⟩ : ∃ f, scan (cellF S.c) S.nc = f := ⟨_, rfl⟩
    have E : Hid (storeF S = f) := by unfold Hid storeF; rw [if_neg HM.out, if_pos z0]; exact hf
    have hfn : (f == 0) = false := beq_eq_false_iff_ne.2 (by rw [← hf]; exact z0)
    have F0 : Hid (scan (cellF S.c) S.nc = f) := hf
    clear hf z0
    go_enter Tryz.func77, Tryz.ntmps77
    go_wp2_with fail
    refine (l2Cells_isO S b oo _ _ _ f F0.out _ _ H.out HB.out hc.out.1).mono ?_
    rintro e w1 ⟨rfl, q1⟩
    have HB : Hid (Below w.heap.size w w1) := q1
    clear q1
    go_wp2_with fail
    go_wp2
    go_ret
    exact ⟨by rw [E.out]; rfl, HB.out⟩
  have F0 : Hid (scan (cellF S.c) S.nc = 0) := z0
  have G0 : Hid (¬ scan (cellF S.c) S.nc ≠ 0) := fun h => h z0
  clear z0
  by_cases z0 : scan (lockF S.l) S.nl = 0
  case neg =>
    obtain ⟨f, hf⟩ : ∃ f, scan (lockF S.l) S.nl = f := ⟨_, rfl⟩
    have E : Hid (storeF S = f) := by unfold Hid storeF; rw [if_neg HM.out, if_neg G0.out, if_pos z0]; exact hf
    have hfn : (f == 0) = false := beq_eq_false_iff_ne.2 (by rw [← hf]; exact z0)
    have F1 : Hid (scan (lockF S.l) S.nl = f) := hf
    clear hf z0
    go_enter Tryz.func77, Tryz.ntmps77
    go_wp2_with fail
    refine (l2Cells_isO S b oo _ _ _ 0 F0.out _ _ H.out HB.out hc.out.1).mono ?_
    rintro e w1 ⟨rfl, q1⟩
    have HB : Hid (Below w.heap.size w w1) := q1
    clear q1
    go_wp2_with fail
    refine (l2Locks_isO S b oo _ _ _ f F1.out _ _ H.out HB.out hc.out.2.1).mono ?_
    rintro e w1 ⟨rfl, q1⟩
    have HB : Hid (Below w.heap.size w w1) := q1
    clear q1
    go_wp2_with fail
    go_wp2
    go_ret
    exact ⟨by rw [E.out]; rfl, HB.out⟩
  have F1 : Hid (scan (lockF S.l) S.nl = 0) := z0
  have G1 : Hid (¬ scan (lockF S.l) S.nl ≠ 0) := fun h => h z0
  clear z0
  by_cases z0 : scan (writeF S.k) S.nw = 0
  case neg =>
    obtain ⟨f, hf⟩ : ∃ f, scan (writeF S.k) S.nw = f := ⟨_, rfl⟩
    have E : Hid (storeF S = f) := by unfold Hid storeF; rw [if_neg HM.out, if_neg G0.out, if_neg G1.out, if_pos z0]; exact hf
    have hfn : (f == 0) = false := beq_eq_false_iff_ne.2 (by rw [← hf]; exact z0)
    have F2 : Hid (scan (writeF S.k) S.nw = f) := hf
    clear hf z0
    go_enter Tryz.func77, Tryz.ntmps77
    go_wp2_with fail
    refine (l2Cells_isO S b oo _ _ _ 0 F0.out _ _ H.out HB.out hc.out.1).mono ?_
    rintro e w1 ⟨rfl, q1⟩
    have HB : Hid (Below w.heap.size w w1) := q1
    clear q1
    go_wp2_with fail
    refine (l2Locks_isO S b oo _ _ _ 0 F1.out _ _ H.out HB.out hc.out.2.1).mono ?_
    rintro e w1 ⟨rfl, q1⟩
    have HB : Hid (Below w.heap.size w w1) := q1
    clear q1
    go_wp2_with fail
    refine (l2Writes_isO S b oo _ _ _ f F2.out _ _ H.out HB.out hc.out.2.2).mono ?_
    rintro e w1 ⟨rfl, q1⟩
    have HB : Hid (Below w.heap.size w w1) := q1
    clear q1
    go_wp2_with fail
    go_wp2
    go_ret
    exact ⟨by rw [E.out]; rfl, HB.out⟩
  have F2 : Hid (scan (writeF S.k) S.nw = 0) := z0
  have G2 : Hid (¬ scan (writeF S.k) S.nw ≠ 0) := fun h => h z0
  clear z0
  by_cases y0 : needs S
  case neg =>
    have E : Hid (storeF S = 4) := by unfold Hid storeF; rw [if_neg HM.out, if_neg G0.out, if_neg G1.out, if_neg G2.out, if_pos y0]
    have Y : Hid (false = true ↔ needs S) := ⟨fun h => absurd h (by decide), fun h => absurd h y0⟩
    clear y0
    go_enter Tryz.func77, Tryz.ntmps77
    go_wp2_with fail
    refine (l2Cells_isO S b oo _ _ _ 0 F0.out _ _ H.out HB.out hc.out.1).mono ?_
    rintro e w1 ⟨rfl, q1⟩
    have HB : Hid (Below w.heap.size w w1) := q1
    clear q1
    go_wp2_with fail
    refine (l2Locks_isO S b oo _ _ _ 0 F1.out _ _ H.out HB.out hc.out.2.1).mono ?_
    rintro e w1 ⟨rfl, q1⟩
    have HB : Hid (Below w.heap.size w w1) := q1
    clear q1
    go_wp2_with fail
    refine (l2Writes_isO S b oo _ _ _ 0 F2.out _ _ H.out HB.out hc.out.2.2).mono ?_
    rintro e w1 ⟨rfl, q1⟩
    have HB : Hid (Below w.heap.size w w1) := q1
    clear q1
    go_wp2_with fail
    refine (l2Needs_anyO S b oo _ _ _ false _ (H.out.later HB.out) hc.out.1 hc.out.2.1 hc.out.2.2 Y.out).mono ?_
    rintro e w1 ⟨rfl, q1⟩
    have HB : Hid (Below w.heap.size w w1) := HB.out.trans (q1.mono HB.out.size)
    clear q1
    go_wp2
    go_ret
    exact ⟨by rw [E.out]; rfl, HB.out⟩
  have Y : Hid (needs S) := y0
  have G3 : Hid (¬ ¬ needs S) := fun h => h y0
  clear y0
  by_cases y0 : once S
  case neg =>
    have E : Hid (storeF S = 6) := by unfold Hid storeF; rw [if_neg HM.out, if_neg G0.out, if_neg G1.out, if_neg G2.out, if_neg G3.out, if_pos y0]
    have Z : Hid (false = true ↔ once S) := ⟨fun h => absurd h (by decide), fun h => absurd h y0⟩
    clear y0
    go_enter Tryz.func77, Tryz.ntmps77
    go_wp2_with fail
    refine (l2Cells_isO S b oo _ _ _ 0 F0.out _ _ H.out HB.out hc.out.1).mono ?_
    rintro e w1 ⟨rfl, q1⟩
    have HB : Hid (Below w.heap.size w w1) := q1
    clear q1
    go_wp2_with fail
    refine (l2Locks_isO S b oo _ _ _ 0 F1.out _ _ H.out HB.out hc.out.2.1).mono ?_
    rintro e w1 ⟨rfl, q1⟩
    have HB : Hid (Below w.heap.size w w1) := q1
    clear q1
    go_wp2_with fail
    refine (l2Writes_isO S b oo _ _ _ 0 F2.out _ _ H.out HB.out hc.out.2.2).mono ?_
    rintro e w1 ⟨rfl, q1⟩
    have HB : Hid (Below w.heap.size w w1) := q1
    clear q1
    go_wp2_with fail
    refine (l2Needs_anyO S b oo _ _ _ true _ (H.out.later HB.out) hc.out.1 hc.out.2.1 hc.out.2.2 ⟨fun _ => Y.out, fun _ => rfl⟩).mono ?_
    rintro e w1 ⟨rfl, q1⟩
    have HB : Hid (Below w.heap.size w w1) := HB.out.trans (q1.mono HB.out.size)
    clear q1
    go_wp2_with fail
    refine (l2Once_anyO S b oo _ _ _ false _ (H.out.later HB.out) hc.out.2.1 hc.out.2.2 Z.out).mono ?_
    rintro e w1 ⟨rfl, q1⟩
    have HB : Hid (Below w.heap.size w w1) := HB.out.trans (q1.mono HB.out.size)
    clear q1
    go_wp2
    go_ret
    exact ⟨by rw [E.out]; rfl, HB.out⟩
  have E : Hid (storeF S = 0) := by unfold Hid storeF; rw [if_neg HM.out, if_neg G0.out, if_neg G1.out, if_neg G2.out, if_neg G3.out, if_neg (fun h => h y0)]
  have Z : Hid (once S) := y0
  clear y0
  go_enter Tryz.func77, Tryz.ntmps77
  go_wp2_with fail
  refine (l2Cells_isO S b oo _ _ _ 0 F0.out _ _ H.out HB.out hc.out.1).mono ?_
  rintro e w1 ⟨rfl, q1⟩
  have HB : Hid (Below w.heap.size w w1) := q1
  clear q1
  go_wp2_with fail
  refine (l2Locks_isO S b oo _ _ _ 0 F1.out _ _ H.out HB.out hc.out.2.1).mono ?_
  rintro e w1 ⟨rfl, q1⟩
  have HB : Hid (Below w.heap.size w w1) := q1
  clear q1
  go_wp2_with fail
  refine (l2Writes_isO S b oo _ _ _ 0 F2.out _ _ H.out HB.out hc.out.2.2).mono ?_
  rintro e w1 ⟨rfl, q1⟩
  have HB : Hid (Below w.heap.size w w1) := q1
  clear q1
  go_wp2_with fail
  refine (l2Needs_anyO S b oo _ _ _ true _ (H.out.later HB.out) hc.out.1 hc.out.2.1 hc.out.2.2 ⟨fun _ => Y.out, fun _ => rfl⟩).mono ?_
  rintro e w1 ⟨rfl, q1⟩
  have HB : Hid (Below w.heap.size w w1) := HB.out.trans (q1.mono HB.out.size)
  clear q1
  go_wp2_with fail
  refine (l2Once_anyO S b oo _ _ _ true _ (H.out.later HB.out) hc.out.2.1 hc.out.2.2 ⟨fun _ => Z.out, fun _ => rfl⟩).mono ?_
  rintro e w1 ⟨rfl, q1⟩
  have HB : Hid (Below w.heap.size w w1) := HB.out.trans (q1.mono HB.out.size)
  clear q1
  go_wp2
  go_ret
  exact ⟨by rw [E.out]; rfl, HB.out⟩

theorem l2Fault_any (S : Sto) (b : Nat) (v0 v1 v2 : Value) (w : World) (h : Lies w b S v0 v1 v2) :
    Calls Tryz.prog 77 #[.pointer (some ⟨b, 0, none⟩)] w fun e w' => e = .returned (.int .i64 (storeF S)) ∧ Below w.heap.size w w' := l2Fault_anyO S b 0 v0 v1 v2 w h.o
theorem l2Cell_any (S : Sto) (b : Nat) (v0 v1 v2 : Value) (a s : Int) (w : World) (h : Lies w b S v0 v1 v2) (hn : S.nc ≤ 200) :
    Calls Tryz.prog 114 #[.pointer (some ⟨b, 0, none⟩), .int .i64 a, .int .i64 s] w fun e w' => ∃ r : Int, e = .returned (.int .i64 r) ∧ FirstAt (cellIs S.c a s) S.nc r ∧ w' = w := l2Cell_anyO S b 0 v0 v1 v2 a s w h.o hn
theorem l2Cell_is (S : Sto) (b : Nat) (v0 v1 v2 : Value) (a s r : Int) (w : World) (h : Lies w b S v0 v1 v2) (hn : S.nc ≤ 200) (hr : FirstAt (cellIs S.c a s) S.nc r) :
    Calls Tryz.prog 114 #[.pointer (some ⟨b, 0, none⟩), .int .i64 a, .int .i64 s] w fun e w' => e = .returned (.int .i64 r) ∧ w' = w := l2Cell_isO S b 0 v0 v1 v2 a s r w h.o hn hr
theorem l2Write_any (S : Sto) (b : Nat) (v0 v1 v2 : Value) (a s : Int) (w : World) (h : Lies w b S v0 v1 v2) (hn : S.nw ≤ 200) :
    Calls Tryz.prog 70 #[.pointer (some ⟨b, 0, none⟩), .int .i64 a, .int .i64 s] w fun e w' => ∃ r : Int, e = .returned (.int .i64 r) ∧ FirstAt (writeIs S.k a s) S.nw r ∧ w' = w := l2Write_anyO S b 0 v0 v1 v2 a s w h.o hn
theorem l2Write_is (S : Sto) (b : Nat) (v0 v1 v2 : Value) (a s r : Int) (w : World) (h : Lies w b S v0 v1 v2) (hn : S.nw ≤ 200) (hr : FirstAt (writeIs S.k a s) S.nw r) :
    Calls Tryz.prog 70 #[.pointer (some ⟨b, 0, none⟩), .int .i64 a, .int .i64 s] w fun e w' => e = .returned (.int .i64 r) ∧ w' = w := l2Write_isO S b 0 v0 v1 v2 a s r w h.o hn hr
end
end Go.Proofs.YtpfmbfmlpoibeaaGreat
