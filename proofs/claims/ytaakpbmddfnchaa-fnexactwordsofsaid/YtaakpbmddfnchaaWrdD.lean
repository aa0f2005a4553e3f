/-
  Own text. What the law's helpers over impl.WordsResult do, over rows of strings that the call made.
-/
import Derived.Test.YtaakpbmddfnchaaWrdC
namespace Go.Proofs.Ytaakpbmddfnchaa
open Go.RowKit

set_option maxHeartbeats 400000 in
theorem eqWordsR_any (c : Int) (va vb : Value) (Ba Bb : Nat) (xs : List ByteArray) (w : World) (ha : Stgs w Ba va xs) (hb : Stgs w Bb vb xs) (hl : xs.length ≤ 2000000) :
    Calls Try.prog 6 #[.agg #[.int .i64 c, va], .agg #[.int .i64 c, vb]] w fun e w' => e = .returned (.bool true) ∧ Below w.heap.size w w' := by
  obtain ⟨ao, ca, rfl⟩ := ha.form
  obtain ⟨bo, cb, rfl⟩ := hb.form
  have H : Hid (∀ w2, Stgs w2 Ba (.slice ao xs.length ca) xs → Stgs w2 Bb (.slice bo xs.length cb) xs → Calls Try.prog 13 #[.slice ao xs.length ca, .slice bo xs.length cb] w2 fun e w' => e = .returned (.bool true) ∧ ∃ n, w' = w2.drewN n) := fun w2 h1 h2 => eqStgs_any _ _ _ _ _ w2 h1 h2 hl
  have HA : Hid (Stgs w Ba (.slice ao xs.length ca) xs) := ha
  have HB : Hid (Stgs w Bb (.slice bo xs.length cb) xs) := hb
  clear ha hb
  go_enter Try.func6, Try.ntmps6
  go_wp2_with fail
  refine (H.out _ ((HA.out.alloc _).alloc _) ((HB.out.alloc _).alloc _)).mono ?_
  rintro e w' ⟨rfl, n, rfl⟩
  go_wp2
  go_ret
  exact ⟨rfl, below_drewN (((Below.refl _ _).alloc (Nat.le_refl _) _).alloc (by simp) _) n⟩
set_option maxHeartbeats 400000 in
theorem markWordsR_any (c : Int) (v : Value) (B : Nat) (xs : List ByteArray) (w : World) (h : Stgs w B v xs) (hl : xs.length ≤ 2000000) :
    Calls Try.prog 7 #[.agg #[.int .i64 c, v], .int .i64 1] w fun e w' => e = .returned (.int .i64 (1 + xs.length : Nat)) ∧ Stgs w' B v (marksT 1 xs.length) ∧ w.grownBy w' v.ownBlock := by
  obtain ⟨ao, ca, rfl⟩ := h.form
  have HA : Hid (∀ w2, Stgs w2 B (.slice ao xs.length ca) xs → Calls Try.prog 14 #[.slice ao xs.length ca, .int .i64 1] w2 fun e w' => e = .returned (.int .i64 (1 + xs.length : Nat)) ∧ Stgs w' B (.slice ao xs.length ca) (marksT 1 xs.length) ∧ w2.grownBy w' (Value.slice ao xs.length ca).ownBlock) := fun w2 h2 => markStgs_any _ _ _ 1 w2 h2 hl (by omega) (by omega)
  have HI : Hid (Stgs w B (.slice ao xs.length ca) xs) := h
  clear h
  go_enter Try.func7, Try.ntmps7
  go_wp2_with fail
  refine (HA.out _ (HI.out.alloc _)).mono ?_
  rintro e w1 ⟨rfl, hI, hG⟩
  have HR : Hid (Stgs w1 B (.slice ao xs.length ca) (marksT 1 xs.length) ∧ w.grownBy w1 (Value.slice ao xs.length ca).ownBlock) := ⟨hI, grown_trans (grown_refl_alloc _ _) hG⟩
  clear hI hG
  go_wp2
  go_ret
  exact ⟨rfl, HR.out⟩
set_option maxHeartbeats 400000 in
theorem heldWordsR_any (c : Int) (v : Value) (B n : Nat) (w : World) (h : Stgs w B v (marksT 1 n)) (hl : n ≤ 2000000) :
    Calls Try.prog 8 #[.agg #[.int .i64 c, v], .int .i64 1] w fun e w' => e = .returned (.int .i64 (1 + n : Nat)) ∧ Below w.heap.size w w' := by
  obtain ⟨ao, ca, rfl⟩ := h.form
  have HA : Hid (∀ w2, Stgs w2 B (.slice ao (marksT 1 n).length ca) (marksT 1 n) → Calls Try.prog 15 #[.slice ao (marksT 1 n).length ca, .int .i64 1] w2 fun e w' => e = .returned (.int .i64 (1 + n : Nat)) ∧ Below w2.heap.size w2 w') := fun w2 h2 => heldStgs_any _ _ _ 1 w2 h2 hl (by omega) (by omega)
  have HI : Hid (Stgs w B (.slice ao (marksT 1 n).length ca) (marksT 1 n)) := h
  clear h
  go_enter Try.func8, Try.ntmps8
  go_wp2_with fail
  refine (HA.out _ (HI.out.alloc _)).mono ?_
  rintro e w1 ⟨rfl, b1⟩
  have B1 : Hid (Below w.heap.size w w1) := ((Below.refl _ _).alloc (Nat.le_refl _) _).trans (b1.mono (by simp))
  clear b1
  go_wp2
  go_ret
  exact ⟨rfl, B1.out⟩
end Go.Proofs.Ytaakpbmddfnchaa
