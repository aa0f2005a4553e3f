/-
  Own text. What the law's helpers over impl.IntsResult do, over lists in memory that the call made.
-/
import Derived.Test.YtdfknnhdnojfdagKeysK
namespace Go.Proofs.Ytdfknnhdnojfdag
open Go.RowKit

set_option maxHeartbeats 400000 in
theorem eqIntsR_any (c : Int) (va vb : Value) (Ba Bb : Nat) (xs : List Int) (w : World) (ha : Ints w Ba va xs) (hb : Ints w Bb vb xs) (hl : xs.length ≤ 1000) :
    Calls Try.prog 18 #[.agg #[.int .i64 c, va], .agg #[.int .i64 c, vb]] w fun e w' => e = .returned (.bool true) ∧ Below w.heap.size w w' := by
  obtain ⟨ao, ca, rfl⟩ := ha.form
  obtain ⟨bo, cb, rfl⟩ := hb.form
  have H : Hid (∀ w2, Ints w2 Ba (.slice ao xs.length ca) xs → Ints w2 Bb (.slice bo xs.length cb) xs → Calls Try.prog 40 #[.slice ao xs.length ca, .slice bo xs.length cb] w2 fun e w' => e = .returned (.bool true) ∧ ∃ n, w' = w2.drewN n) := fun w2 h1 h2 => eqInts_any _ _ _ _ _ w2 h1 h2 hl
  have HA : Hid (Ints w Ba (.slice ao xs.length ca) xs) := ha
  have HB : Hid (Ints w Bb (.slice bo xs.length cb) xs) := hb
  clear ha hb
  go_enter Try.func18, Try.ntmps18
  go_wp2_with fail
  refine (H.out _ ((HA.out.alloc _).alloc _) ((HB.out.alloc _).alloc _)).mono ?_
  rintro e w' ⟨rfl, n, rfl⟩
  go_wp2
  go_ret
  exact ⟨rfl, below_drewN (((Below.refl _ _).alloc (Nat.le_refl _) _).alloc (by simp) _) n⟩

set_option maxHeartbeats 400000 in
theorem markIntsR_any (c : Int) (v : Value) (B : Nat) (xs : List Int) (k0 : Int) (w : World) (h : Ints w B v xs) (hl : xs.length ≤ 1000) (hk0 : 0 ≤ k0) (hk1 : k0 ≤ 1000000) :
    Calls Try.prog 19 #[.agg #[.int .i64 c, v], .int .i64 k0] w fun e w' => e = .returned (.int .i64 (k0 + xs.length)) ∧ Ints w' B v (up k0 xs.length) ∧ w.grownBy w' v.ownBlock := by
  obtain ⟨ao, ca, rfl⟩ := h.form
  have HA : Hid (∀ w2, Ints w2 B (.slice ao xs.length ca) xs → Calls Try.prog 41 #[.slice ao xs.length ca, .int .i64 k0] w2 fun e w' => e = .returned (.int .i64 (k0 + xs.length)) ∧ Ints w' B (.slice ao xs.length ca) (up k0 xs.length) ∧ w2.grownBy w' (Value.slice ao xs.length ca).ownBlock) := fun w2 h2 => markInts_any _ _ _ _ w2 h2 hl hk0 hk1
  have HI : Hid (Ints w B (.slice ao xs.length ca) xs) := h
  clear h
  go_enter Try.func19, Try.ntmps19
  go_wp2_with fail
  refine (HA.out _ (HI.out.alloc _)).mono ?_
  rintro e w1 ⟨rfl, hI, hG⟩
  have HR : Hid (Ints w1 B (.slice ao xs.length ca) (up k0 xs.length) ∧ w.grownBy w1 (Value.slice ao xs.length ca).ownBlock) := ⟨hI, grown_trans (grown_refl_alloc _ _) hG⟩
  clear hI hG
  go_wp2
  go_ret
  exact ⟨rfl, HR.out⟩

set_option maxHeartbeats 400000 in
theorem heldIntsR_any (c : Int) (v : Value) (B n : Nat) (k0 : Int) (w : World) (h : Ints w B v (up k0 n)) (hl : n ≤ 1000) (hk0 : 0 ≤ k0) (hk1 : k0 ≤ 1000000) :
    Calls Try.prog 20 #[.agg #[.int .i64 c, v], .int .i64 k0] w fun e w' => e = .returned (.int .i64 (k0 + n)) ∧ Below w.heap.size w w' := by
  obtain ⟨ao, ca, rfl⟩ := h.form
  have HA : Hid (∀ w2, Ints w2 B (.slice ao (up k0 n).length ca) (up k0 n) → Calls Try.prog 42 #[.slice ao (up k0 n).length ca, .int .i64 k0] w2 fun e w' => e = .returned (.int .i64 (k0 + n)) ∧ w' = w2) := fun w2 h2 => heldInts_any _ _ _ _ w2 h2 hl hk0 hk1
  have HI : Hid (Ints w B (.slice ao (up k0 n).length ca) (up k0 n)) := h
  clear h
  go_enter Try.func20, Try.ntmps20
  go_wp2_with fail
  refine (HA.out _ (HI.out.alloc _)).mono ?_
  rintro e w1 ⟨rfl, rfl⟩
  go_wp2
  go_ret
  exact ⟨rfl, (Below.refl _ _).alloc (Nat.le_refl _) _⟩

theorem kl_200 (lo : Int) (n : Nat) (h : n ≤ 200) : (kl lo n).length ≤ 200 := Nat.le_trans (kl_le lo n) h
/-- Both answer the same code and the same list, in new memory. -/
theorem keysIn_both (a b : Int) : ∃ (c : Int) (L : List Int), L.length ≤ 200
    ∧ Hid (∀ w, Calls Try.prog 16 #[.int .i64 a, .int .i64 b] w fun e w' => ∃ v, e = .returned (.agg #[.int .i64 c, v]) ∧ Ints w' w.heap.size v L ∧ Below w.heap.size w w')
    ∧ Hid (∀ w, Calls Try.prog 17 #[.int .i64 a, .int .i64 b] w fun e w' => ∃ v, e = .returned (.agg #[.int .i64 c, v]) ∧ Ints w' w.heap.size v L ∧ Below w.heap.size w w') := by
  by_cases h : (a < 0 ∨ 200 < a) ∨ (b < 0 ∨ 200 < b)
  · exact ⟨3, [], Nat.zero_le _,
      fun w => (specKeysIn_range a b w h).mono fun e w' ⟨he, hw⟩ => ⟨_, he, hw ▸ Ints.nil _ _, hw ▸ (Below.refl _ _).alloc (Nat.le_refl _) _⟩,
      fun w => (implKeysIn_range a b w h).mono fun e w' ⟨he, hw⟩ => ⟨_, he, hw ▸ Ints.nil _ _, hw ▸ (Below.refl _ _).alloc (Nat.le_refl _) _⟩⟩
  · exact ⟨0, kl a (b - a).toNat, kl_200 _ _ (by omega), fun w => specKeysIn_ok a b w (by omega) (by omega) (by omega) (by omega), fun w => implKeysIn_ok a b w (by omega) (by omega) (by omega) (by omega)⟩
end Go.Proofs.Ytdfknnhdnojfdag
