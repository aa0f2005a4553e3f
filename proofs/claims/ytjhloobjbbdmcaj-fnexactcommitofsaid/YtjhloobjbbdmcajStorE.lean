/-
  Own text. The first write of a key and a start, and the last put or delete of a key up to a time: the program's writeOf and lastWrite, the model's l2Last; and what is told of one write: writeAlone, l2One.
-/
import Derived.Test.YtjhloobjbbdmcajStorA
import Derived.Test.YtjhloobjbbdmcajStorB
import Derived.Test.YtjhloobjbbdmcajStorQ
namespace Go.Proofs.Ytjhloobjbbdmcaj
open Go.RowKit

def firstW (k : Nat → Int) (n : Nat) (key start : Int) (i : Nat) : Prop := i < n ∧ writeIs k key start i ∧ ∀ j, j < i → ¬ writeIs k key start j
def lastP (k : Nat → Int) (key ts : Int) (i : Nat) : Prop := k (i * 4) = key ∧ k (i * 4 + 1) ≤ ts ∧ k (i * 4 + 3) ≤ 2
def lastW (k : Nat → Int) (n : Nat) (key ts : Int) (i : Nat) : Prop := i < n ∧ lastP k key ts i ∧ ∀ j, i < j → j < n → ¬ lastP k key ts j
theorem firstW.one {k : Nat → Int} {n : Nat} {a b : Int} {i j : Nat} (h : firstW k n a b i) (h' : firstW k n a b j) : i = j := by
  rcases Nat.lt_trichotomy i j with e | e | e
  · exact absurd h.2.1 (h'.2.2 i e)
  · exact e
  · exact absurd h'.2.1 (h.2.2 j e)
theorem lastW.one {k : Nat → Int} {n : Nat} {a b : Int} {i j : Nat} (h : lastW k n a b i) (h' : lastW k n a b j) : i = j := by
  rcases Nat.lt_trichotomy i j with e | e | e
  · exact absurd h'.2.1 (h.2.2 j e h'.1)
  · exact e
  · exact absurd h.2.1 (h'.2.2 i e h.1)
/-- What is told of one write: its numbers and true, or zeros and false. -/
def Told (q : Nat → Prop) (k : Nat → Int) (v : Value) : Prop :=
  (∃ i, q i ∧ v = .tuple #[.agg #[.int .i64 (k (i * 4)), .int .i64 (k (i * 4 + 1)), .int .i64 (k (i * 4 + 2)), .int .i64 (k (i * 4 + 3))], .bool true]) ∨ ((∀ i, ¬ q i) ∧ v = .tuple #[.agg #[.int .i64 0, .int .i64 0, .int .i64 0, .int .i64 0], .bool false])
set_option maxRecDepth 100000 in
set_option maxHeartbeats 4000000 in
theorem writeOf_any (B b N : Nat) (m : Int → Int → Option Int) (nl : Nat) (l : Nat → Int) (nw : Nat) (k : Nat → Int) (g : Nat) (u1 u2 : Value) (key start : Int) (w : World) (h : Cols w B b N m nl l nw k g u1 u2) (hn : nw ≤ 200) :
    Calls Try.prog 58 #[.pointer (some ⟨b, 0, none⟩), .int .i64 key, .int .i64 start] w fun e w' => ∃ v, e = .returned v ∧ Told (firstW k nw key start) k v ∧ Below w.heap.size w w' := by
  obtain ⟨a1, c1, rfl⟩ := h.2.2.2.2.2.form
  have H : Hid (Row w B 4 nw k (.slice a1 nw c1)) := h.2.2.2.2.2.row.1
  have p1 := h.2.2.1.1.2.2
  have hb := h.2.2.1.lt
  clear h
  go_enter Try.func58, Try.ntmps58
  go_wp2
  clear p1
  go_loopw [15] (fun i wr => ∃ q : Nat, q ≤ nw ∧ i = .int .i64 q ∧ Hid (∀ j, j < q → ¬ writeIs k key start j) ∧ Hid (Below w.heap.size w wr ∧ Blk4 wr w.heap.size (.int .i64 0) (.int .i64 0) (.int .i64 0) (.int .i64 0))) (fun i _ => nw - (intOf i).toNat)
  case atStart => exact ⟨0, Nat.zero_le _, rfl, fun j hj => absurd hj (Nat.not_lt_zero j), below_alloc _ _, Blk4.new w _ _ _ _ _⟩
  case round =>
    obtain ⟨q, hq, rfl, HS, HB⟩ := hrel
    by_cases hlt : q < nw
    case neg =>
      obtain rfl : q = nw := by omega
      obtain ⟨⟨t0, t1, t2, t3⟩, f0, f1, f2, f3⟩ := HB.out.2
      go_wp2
      refine bodyPost_ret (v := .tuple #[.agg #[.int .i64 0, .int .i64 0, .int .i64 0, .int .i64 0], .bool false]) (by simp [results, Try.results58, go_sem, t0, t1, t2, t3]) rfl ⟨_, rfl, Or.inr ⟨fun i hi => HS.out i hi.1 hi.2.1, rfl⟩, ?_⟩
      exact (((HB.out.1.setCell (Nat.le_refl _) _).setCell (Nat.le_refl _) _).setCell (Nat.le_refl _) _).setCell (Nat.le_refl _) _
    obtain ⟨g', o, rfl, _, hg, x0, x1, x2, x3⟩ := (H.out.later HB.out.1).at4 hlt
    obtain ⟨n0, N0⟩ : ∃ x, k (q * 4) = x := ⟨_, rfl⟩
    rw [N0] at x0
    obtain ⟨n1, N1⟩ : ∃ x, k (q * 4 + 1) = x := ⟨_, rfl⟩
    rw [N1] at x1
    obtain ⟨n2, N2⟩ : ∃ x, k (q * 4 + 2) = x := ⟨_, rfl⟩
    rw [N2] at x2
    obtain ⟨n3, N3⟩ : ∃ x, k (q * 4 + 3) = x := ⟨_, rfl⟩
    rw [N3] at x3
    have hZ := HB.out.2.later (below_alloc wr (.cells #[.int .i64 n0, .int .i64 n1, .int .i64 n2, .int .i64 n3] 64))
    have hB2 := HB.out.1.alloc HB.out.1.size (.cells #[.int .i64 n0, .int .i64 n1, .int .i64 n2, .int .i64 n3] 64)
    have NN : Hid (k (q * 4) = n0 ∧ k (q * 4 + 1) = n1 ∧ k (q * 4 + 2) = n2 ∧ k (q * 4 + 3) = n3) := ⟨N0, N1, N2, N3⟩
    by_cases h0 : n0 = key
    case neg =>
      have E : Hid (∀ j, j < q + 1 → ¬ writeIs k key start j) := all_next HS.out (fun e => h0 (N0.symm.trans e.1))
      have HE : Hid (Below w.heap.size w (wr.alloc (.cells #[.int .i64 n0, .int .i64 n1, .int .i64 n2, .int .i64 n3] 64)) ∧ Blk4 (wr.alloc (.cells #[.int .i64 n0, .int .i64 n1, .int .i64 n2, .int .i64 n3] 64)) w.heap.size (.int .i64 0) (.int .i64 0) (.int .i64 0) (.int .i64 0)) := ⟨hB2, hZ⟩
      have d0 : (n0 == key) = false := beq_eq_false_iff_ne.2 h0
      clear N0 N1 N2 N3 NN HS h0 hZ hB2 HB
      go_wp2
      go_roundw
      case rel => exact ⟨q + 1, by omega, by go_num, E, HE⟩
      case measure => simp [intOf]; omega
    by_cases h2 : n2 = start
    case neg =>
      have E : Hid (∀ j, j < q + 1 → ¬ writeIs k key start j) := all_next HS.out (fun e => h2 (N2.symm.trans e.2))
      have HE : Hid (Below w.heap.size w (wr.alloc (.cells #[.int .i64 n0, .int .i64 n1, .int .i64 n2, .int .i64 n3] 64)) ∧ Blk4 (wr.alloc (.cells #[.int .i64 n0, .int .i64 n1, .int .i64 n2, .int .i64 n3] 64)) w.heap.size (.int .i64 0) (.int .i64 0) (.int .i64 0) (.int .i64 0)) := ⟨hB2, hZ⟩
      have d2 : (n2 == start) = false := beq_eq_false_iff_ne.2 h2
      clear N0 N1 N2 N3 NN HS h2 hZ hB2 HB
      subst h0
      go_wp2
      go_roundw
      case rel => exact ⟨q + 1, by omega, by go_num, E, HE⟩
      case measure => simp [intOf]; omega
    have E : Hid (writeIs k key start q) := ⟨N0.trans h0, N2.trans h2⟩
    have hne : ¬ wr.heap.size = w.heap.size := fun e => by have := HB.out.2.lt; omega
    obtain ⟨⟨t0, t1, t2, t3⟩, f0, f1, f2, f3⟩ := hZ
    clear N0 N1 N2 N3 HB
    subst h0 h2
    go_wp2
    refine bodyPost_ret (v := .tuple #[.agg #[.int .i64 n0, .int .i64 n1, .int .i64 n2, .int .i64 n3], .bool true]) (by simp [results, Try.results58, go_sem, t0, t1, t2, t3]) rfl ⟨_, rfl, Or.inl ⟨q, ⟨hlt, E.out, HS.out⟩, by rw [NN.out.1, NN.out.2.1, NN.out.2.2.1, NN.out.2.2.2]⟩, ?_⟩
    exact (((hB2.setCell (Nat.le_refl _) _).setCell (Nat.le_refl _) _).setCell (Nat.le_refl _) _).setCell (Nat.le_refl _) _
theorem kind_is {x : Int} (h : 1 ≤ x) : x ≤ 2 ↔ x = 1 ∨ x = 2 := by omega
end Go.Proofs.Ytjhloobjbbdmcaj
