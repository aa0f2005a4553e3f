/-
  Own text. IsFresh: the program's and the model's answer the same truth, and the law's walk.
-/
import Derived.Test.YtabenplbibhbiaaRngF
namespace Go.Proofs.Ytabenplbibhbiaa
open Go.RowKit

/-- What IsFresh answers. -/
def FreshAns (n : Nat) (F : Nat → Int) (p q key : Int) (r : Bool) : Prop := ∃ c z, RouteAns n F key c z ∧ ((c ≠ 0 ∧ r = false) ∨ (c = 0 ∧ z ≠ p ∧ r = false) ∨ (c = 0 ∧ z = p ∧ ∃ j : Nat, j < n ∧ p = j ∧ r = (F (j * 3 + 2) == q)))
theorem FreshAns.get (n : Nat) (F : Nat → Int) (p q key : Int) : ∃ r, FreshAns n F p q key r := by
  obtain ⟨c, z, ha⟩ := RouteAns.get n F key
  by_cases hc : c = 0
  · by_cases hz : z = p
    · rcases ha with ⟨h0, h1, _⟩ | ⟨_, _, h1, _⟩ | ⟨h0, h1, h2, j, hj, hv⟩
      · exact absurd (h1.symm.trans hc) h0
      · omega
      · exact ⟨_, c, z, Or.inr (Or.inr ⟨h0, h1, h2, j, hj, hv⟩), Or.inr (Or.inr ⟨hc, hz, j, hj.1, by omega, rfl⟩)⟩
    · exact ⟨false, c, z, ha, Or.inr (Or.inl ⟨hc, hz, rfl⟩)⟩
  · exact ⟨false, c, z, ha, Or.inl ⟨hc, rfl⟩⟩
set_option maxRecDepth 100000 in
set_option maxHeartbeats 1000000 in
theorem implFresh_is (y : Value) (B n : Nat) (F : Nat → Int) (p q key : Int) (r : Bool) (w : World) (h : Row w B 3 n F y) (hn : n ≤ 1048576) (ha : FreshAns n F p q key r) :
    Calls Try.prog 15 #[y, .int .i64 p, .int .i64 q, .int .i64 key] w fun e w' => e = .returned (.bool r) ∧ Below w.heap.size w w' := by
  obtain ⟨ao, cp, rfl⟩ := h.form
  have H : Hid (Row w B 3 n F (.slice ao n cp)) := h
  clear h
  obtain ⟨c, z, ha, hr⟩ := ha
  have HA : Hid (RouteAns n F key c z) := ha
  clear ha
  rcases hr with ⟨hc, rfl⟩ | ⟨hc, hz, rfl⟩ | ⟨rfl, rfl, j, hj, rfl, hr⟩
  · have d : (c == 0) = false := beq_eq_false_iff_ne.2 hc
    go_enter Try.func15, Try.ntmps15
    go_wp2_with fail
    refine (implRoute_is _ B n F key c z _ H.out hn HA.out).mono ?_
    rintro e w1 ⟨rfl, q1⟩
    have Q : Hid (Below w.heap.size w w1) := q1
    clear q1
    go_wp2
    go_ret
    exact ⟨rfl, Q.out.alloc Q.out.size _⟩
  · subst hc
    have d : (z == p) = false := beq_eq_false_iff_ne.2 hz
    go_enter Try.func15, Try.ntmps15
    go_wp2_with fail
    refine (implRoute_is _ B n F key 0 z _ H.out hn HA.out).mono ?_
    rintro e w1 ⟨rfl, q1⟩
    have Q : Hid (Below w.heap.size w w1) := q1
    clear q1
    go_wp2
    go_ret
    exact ⟨rfl, Q.out.alloc Q.out.size _⟩
  · obtain ⟨f, hf⟩ : ∃ f, F (j * 3 + 2) = f := ⟨_, rfl⟩
    have HF : Hid (F (j * 3 + 2) = f) := hf
    rw [hf] at hr
    subst hr
    clear hf
    go_enter Try.func15, Try.ntmps15
    go_wp2_with fail
    refine (implRoute_is _ B n F key 0 j _ H.out hn HA.out).mono ?_
    rintro e w1 ⟨rfl, q1⟩
    have Q : Hid (Below w.heap.size w w1) := q1
    obtain ⟨g, o, rfl, _, hg, x0, x1, x2⟩ := ((H.out.later q1).alloc (.cells #[.int .i64 0, .int .i64 (j : Int)] 31)).at3 hj
    rw [HF.out] at x2
    clear q1
    go_wp2
    go_ret
    exact ⟨rfl, Q.out.alloc Q.out.size _⟩
end Go.Proofs.Ytabenplbibhbiaa
