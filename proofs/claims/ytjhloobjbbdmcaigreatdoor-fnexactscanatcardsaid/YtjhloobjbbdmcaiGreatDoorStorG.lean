/-
  Own text. Whether a key is blocked at a time: the program's blocked and BlockedAt, the model's l3Blocked and BlockedAt.
-/
import Derived.Test.YtjhloobjbbdmcaiGreatDoorStorD
namespace Go.Proofs.YtjhloobjbbdmcaiGreatDoor
open Go.RowKit

def firstL (l : Nat → Int) (nl : Nat) (key : Int) (i : Nat) : Prop := i < nl ∧ lockIs l key i ∧ ∀ j, j < i → ¬ lockIs l key j
theorem firstL.one {l : Nat → Int} {n : Nat} {a : Int} {i j : Nat} (h : firstL l n a i) (h' : firstL l n a j) : i = j := by
  rcases Nat.lt_trichotomy i j with e | e | e
  · exact absurd h.2.1 (h'.2.2 i e)
  · exact e
  · exact absurd h'.2.1 (h.2.2 j e)
/-- Key has a lock with a start that is not above ts. -/
def blocks (l : Nat → Int) (nl : Nat) (key ts : Int) : Prop := ∃ i, firstL l nl key i ∧ l (i * 5 + 1) ≤ ts
theorem first_or (l : Nat → Int) (nl : Nat) (key : Int) : (∀ i, i < nl → ¬ lockIs l key i) ∨ ∃ i, firstL l nl key i := by
  obtain ⟨r, h⟩ := FirstAt.get (lockIs l key) nl
  rcases h with ⟨_, h⟩ | ⟨i, h1, _, h2, h3⟩
  · exact Or.inl h
  · exact Or.inr ⟨i, h1, h2, h3⟩
set_option maxRecDepth 100000 in
set_option maxHeartbeats 2000000 in
theorem blocked_is (B b N : Nat) (m : Int → Int → Option Int) (nl : Nat) (l : Nat → Int) (nw : Nat) (k : Nat → Int) (g : Nat) (u1 u2 : Value) (key ts : Int) (w : World) (h : Cols w B b N m nl l nw k g u1 u2) (hn : nl ≤ 200) (r : Bool) (hr : r = true ↔ blocks l nl key ts) :
    Calls Tryz.prog 130 #[.pointer (some ⟨b, 0, none⟩), .int .i64 key, .int .i64 ts] w fun e w' => e = .returned (.bool r) ∧ Below w.heap.size w w' := by
  have H : Hid (Cols w B b N m nl l nw k g u1 u2) := h
  clear h
  rcases first_or l nl key with hno | ⟨i, hi⟩
  · have e : r = false := by
      cases r with
      | false => rfl
      | true => obtain ⟨i, h1, _⟩ := hr.1 rfl; exact absurd h1.2.1 (hno i h1.1)
    subst e
    have HN : Hid (∀ i, i < nl → ¬ lockIs l key i) := hno
    clear hno hr
    go_enter Tryz.func130, Tryz.ntmps130
    go_wp2_with fail
    refine (lockOf_any B b N m nl l nw k g u1 u2 key _ H.out hn).mono ?_
    rintro e w1 ⟨v, rfl, hT, q1⟩
    obtain rfl : v = .tuple #[.agg #[.int .i64 0, .int .i64 0, .int .i64 0, .int .i64 0, .int .i64 0], .bool false] := by
      rcases hT with ⟨i, hi, hp, _⟩ | ⟨_, e⟩
      · exact absurd hp (HN.out i hi)
      · exact e
    have Q : Hid (Below w.heap.size w (w1.alloc (.cells #[.int .i64 0, .int .i64 0, .int .i64 0, .int .i64 0, .int .i64 0] 63))) := q1.alloc q1.size _
    clear hT q1
    go_wp2
    go_ret
    exact ⟨rfl, Q.out⟩
  · obtain ⟨n0, N0⟩ : ∃ x, l (i * 5) = x := ⟨_, rfl⟩
    obtain ⟨n1, N1⟩ : ∃ x, l (i * 5 + 1) = x := ⟨_, rfl⟩
    obtain ⟨n2, N2⟩ : ∃ x, l (i * 5 + 2) = x := ⟨_, rfl⟩
    obtain ⟨n3, N3⟩ : ∃ x, l (i * 5 + 3) = x := ⟨_, rfl⟩
    obtain ⟨n4, N4⟩ : ∃ x, l (i * 5 + 4) = x := ⟨_, rfl⟩
    have e : r = decide (n1 ≤ ts) := by
      by_cases h1 : n1 ≤ ts
      · rw [decide_eq_true h1]; exact hr.2 ⟨i, hi, by rw [N1]; exact h1⟩
      · rw [decide_eq_false h1]
        cases r with
        | false => rfl
        | true => obtain ⟨j, hj, h2⟩ := hr.1 rfl; obtain rfl := hj.one hi; rw [N1] at h2; exact absurd h2 h1
    have HI : Hid (firstL l nl key i) := hi
    have NN : Hid (l (i * 5) = n0 ∧ l (i * 5 + 1) = n1 ∧ l (i * 5 + 2) = n2 ∧ l (i * 5 + 3) = n3 ∧ l (i * 5 + 4) = n4) := ⟨N0, N1, N2, N3, N4⟩
    clear N0 N1 N2 N3 N4 hi hr
    subst e
    go_enter Tryz.func130, Tryz.ntmps130
    go_wp2_with fail
    refine (lockOf_any B b N m nl l nw k g u1 u2 key _ H.out hn).mono ?_
    rintro e w1 ⟨v, rfl, hT, q1⟩
    obtain rfl : v = .tuple #[.agg #[.int .i64 n0, .int .i64 n1, .int .i64 n2, .int .i64 n3, .int .i64 n4], .bool true] := by
      rcases hT with ⟨j, hj, hp, hq, e⟩ | ⟨h, _⟩
      · obtain rfl := firstL.one ⟨hj, hp, hq⟩ HI.out
        rw [e, NN.out.1, NN.out.2.1, NN.out.2.2.1, NN.out.2.2.2.1, NN.out.2.2.2.2]
      · exact absurd HI.out.2.1 (h i HI.out.1)
    have Q : Hid (Below w.heap.size w (w1.alloc (.cells #[.int .i64 n0, .int .i64 n1, .int .i64 n2, .int .i64 n3, .int .i64 n4] 63))) := q1.alloc q1.size _
    clear hT q1
    go_wp2
    go_ret
    exact ⟨rfl, Q.out⟩
set_option maxRecDepth 100000 in
set_option maxHeartbeats 2000000 in
theorem l3Blocked_is (S : Sto) (b : Nat) (v0 v1 v2 : Value) (key ts : Int) (w : World) (h : Lies w b S v0 v1 v2) (hn : S.nl ≤ 200) (r : Bool) (hr : r = true ↔ blocks S.l S.nl key ts) :
    Calls Tryz.prog 58 #[.pointer (some ⟨b, 0, none⟩), .int .i64 key, .int .i64 ts] w fun e w' => e = .returned (.bool r) ∧ w' = w := by
  obtain ⟨a0, c0, a1, c1, a2, c2, rfl, rfl, rfl⟩ := h.2.form
  have H : Hid (Lies w b S (.slice a0 S.nc c0) (.slice a1 S.nl c1) (.slice a2 S.nw c2)) := h
  have p1 := h.1.2.1
  have hb := h.lt
  clear h
  rcases first_or S.l S.nl key with hno | ⟨i, hi⟩
  · have e : r = false := by
      cases r with
      | false => rfl
      | true => obtain ⟨i, h1, _⟩ := hr.1 rfl; exact absurd h1.2.1 (hno i h1.1)
    subst e
    have HN : Hid (FirstAt (lockIs S.l key) S.nl (-1)) := Or.inl ⟨rfl, hno⟩
    clear hno hr
    go_enter Tryz.func58, Tryz.ntmps58
    go_wp2_with fail
    refine (l2Lock_is S b _ _ _ key (-1) _ H.out hn HN.out).mono ?_
    rintro e w1 ⟨rfl, rfl⟩
    go_wp2
    go_ret
    exact ⟨rfl, rfl⟩
  · obtain ⟨g, o, rfl, _, hg, x0, x1, x2, x3, x4⟩ := H.out.2.2.1.at5 hi.1
    obtain ⟨n1, N1⟩ : ∃ x, S.l (i * 5 + 1) = x := ⟨_, rfl⟩
    rw [N1] at x1
    have e : r = decide (n1 ≤ ts) := by
      by_cases h1 : n1 ≤ ts
      · rw [decide_eq_true h1]; exact hr.2 ⟨i, hi, by rw [N1]; exact h1⟩
      · rw [decide_eq_false h1]
        cases r with
        | false => rfl
        | true => obtain ⟨j, hj, h2⟩ := hr.1 rfl; obtain rfl := hj.one hi; rw [N1] at h2; exact absurd h2 h1
    have HN : Hid (FirstAt (lockIs S.l key) S.nl i) := Or.inr ⟨i, hi.1, rfl, hi.2.1, hi.2.2⟩
    have hin : (i : Int) < (S.nl : Int) := by have := hi.1; omega
    clear N1 hi hr
    subst e
    go_enter Tryz.func58, Tryz.ntmps58
    go_wp2_with fail
    refine (l2Lock_is S b _ _ _ key i _ H.out hn HN.out).mono ?_
    rintro e w1 ⟨rfl, rfl⟩
    go_wp2
    go_ret
    exact ⟨rfl, rfl⟩
def blockedF (S : Sto) (key ts : Int) : Prop := askF S key = 0 ∧ blocks S.l S.nl key ts
end Go.Proofs.YtjhloobjbbdmcaiGreatDoor
