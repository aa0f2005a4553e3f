/-
  Own text. What LockAt answers, the program's and the model's: a code, and a new row of one lock or of none.
-/
import Derived.Test.YtjhloobjbbdmcajGreatDoorStorA
import Derived.Test.YtjhloobjbbdmcajGreatDoorStorB
import Derived.Test.YtjhloobjbbdmcajGreatDoorStorQ
namespace Go.Proofs.YtjhloobjbbdmcajGreatDoor
open Go.RowKit

def lockIs (l : Nat → Int) (a : Int) (i : Nat) : Prop := l (i * 5) = a
set_option maxRecDepth 10000 in
set_option maxHeartbeats 2000000 in
theorem l2Lock_any (S : Sto) (b : Nat) (v0 v1 v2 : Value) (a : Int) (w : World) (h : Lies w b S v0 v1 v2) (hn : S.nl ≤ 200) :
    Calls Tryz.prog 70 #[.pointer (some ⟨b, 0, none⟩), .int .i64 a] w fun e w' => ∃ r : Int, e = .returned (.int .i64 r) ∧ FirstAt (lockIs S.l a) S.nl r ∧ w' = w := by
  obtain ⟨a0, c0, a1, c1, a2, c2, rfl, rfl, rfl⟩ := h.2.form
  have H : Hid (Lies w b S (.slice a0 S.nc c0) (.slice a1 S.nl c1) (.slice a2 S.nw c2)) := h
  have p0 := h.1.2.1
  have hb := h.lt
  clear h
  go_enter Tryz.func70, Tryz.ntmps70
  go_wp2
  go_loop [5] (fun i => ∃ k : Nat, k ≤ S.nl ∧ i = .int .i64 k ∧ Hid (∀ j, j < k → ¬ lockIs S.l a j)) (fun i => S.nl - (intOf i).toNat)
  case atStart => exact ⟨0, Nat.zero_le _, rfl, fun j hj => absurd hj (Nat.not_lt_zero j)⟩
  case round =>
    obtain ⟨k, hk, rfl, HS⟩ := hrel
    by_cases hlt : k < S.nl
    case neg =>
      obtain rfl : k = S.nl := by omega
      go_wp2
      go_ret
      exact ⟨_, rfl, Or.inl ⟨rfl, HS.out⟩, rfl⟩
    obtain ⟨g, o, rfl, _, hg, x0, x1, x2, x3, x4⟩ := H.out.2.2.1.at5 hlt
    obtain ⟨n0, N0⟩ : ∃ x, S.l (k * 5) = x := ⟨_, rfl⟩
    rw [N0] at x0
    by_cases h0 : n0 = a
    · have E : Hid (lockIs S.l a k) := N0.trans h0
      clear N0
      subst h0
      go_wp2
      go_ret
      exact ⟨_, rfl, Or.inr ⟨k, hlt, rfl, E.out, HS.out⟩, rfl⟩
    · have E : Hid (∀ j, j < k + 1 → ¬ lockIs S.l a j) := all_next HS.out (fun q => h0 (N0.symm.trans q))
      have d0 : (n0 == a) = false := beq_eq_false_iff_ne.2 h0
      clear N0 HS h0
      go_wp2
      go_round
      case rel => exact ⟨k + 1, by omega, by go_num, E⟩
      case measure => simp [intOf]; omega
theorem l2Lock_is (S : Sto) (b : Nat) (v0 v1 v2 : Value) (a r : Int) (w : World) (h : Lies w b S v0 v1 v2) (hn : S.nl ≤ 200) (hr : FirstAt (lockIs S.l a) S.nl r) :
    Calls Tryz.prog 70 #[.pointer (some ⟨b, 0, none⟩), .int .i64 a] w fun e w' => e = .returned (.int .i64 r) ∧ w' = w :=
  (l2Lock_any S b v0 v1 v2 a w h hn).mono fun e w' ⟨r', he, hr', hw⟩ => ⟨by rw [he, hr.one hr'], hw⟩
/-- A block of five cells, all zero, none frozen. -/
def Zero5 (x : World) (b : Nat) : Prop := (x.cell? ⟨b, 0, none⟩ = some (.int .i64 0) ∧ x.cell? ⟨b, 1, none⟩ = some (.int .i64 0) ∧ x.cell? ⟨b, 2, none⟩ = some (.int .i64 0) ∧ x.cell? ⟨b, 3, none⟩ = some (.int .i64 0) ∧ x.cell? ⟨b, 4, none⟩ = some (.int .i64 0)) ∧ x.frozen? ⟨b, 0, none⟩ = false ∧ x.frozen? ⟨b, 1, none⟩ = false ∧ x.frozen? ⟨b, 2, none⟩ = false ∧ x.frozen? ⟨b, 3, none⟩ = false ∧ x.frozen? ⟨b, 4, none⟩ = false
theorem Zero5.later {x x' : World} {b : Nat} (h : Zero5 x b) (hb : Below x.heap.size x x') : Zero5 x' b := by
  have hl : b < x.heap.size := World.block_lt_of_cell? x _ h.1.1
  obtain ⟨⟨h0, h1, h2, h3, h4⟩, f0, f1, f2, f3, f4⟩ := h
  exact ⟨⟨(hb.cell (p := ⟨b, 0, none⟩) hl).trans h0, (hb.cell (p := ⟨b, 1, none⟩) hl).trans h1, (hb.cell (p := ⟨b, 2, none⟩) hl).trans h2, (hb.cell (p := ⟨b, 3, none⟩) hl).trans h3, (hb.cell (p := ⟨b, 4, none⟩) hl).trans h4⟩,
    (hb.frozen (p := ⟨b, 0, none⟩) hl).trans f0, (hb.frozen (p := ⟨b, 1, none⟩) hl).trans f1, (hb.frozen (p := ⟨b, 2, none⟩) hl).trans f2, (hb.frozen (p := ⟨b, 3, none⟩) hl).trans f3, (hb.frozen (p := ⟨b, 4, none⟩) hl).trans f4⟩
theorem Zero5.new (w : World) (t : TypeId) : Zero5 (w.alloc (.cells #[.int .i64 0, .int .i64 0, .int .i64 0, .int .i64 0, .int .i64 0] t)) w.heap.size := by
  refine ⟨⟨World.cell?_alloc_mark w _ _ _ 0, World.cell?_alloc_mark w _ _ _ 1, World.cell?_alloc_mark w _ _ _ 2, World.cell?_alloc_mark w _ _ _ 3, World.cell?_alloc_mark w _ _ _ 4⟩, ?_, ?_, ?_, ?_, ?_⟩ <;> simp
/-- What lockOf tells: the first lock of a key, or none. -/
def LockTold (nl : Nat) (l : Nat → Int) (key : Int) (v : Value) : Prop :=
  (∃ i, i < nl ∧ lockIs l key i ∧ (∀ j, j < i → ¬ lockIs l key j) ∧ v = .tuple #[.agg #[.int .i64 (l (i * 5)), .int .i64 (l (i * 5 + 1)), .int .i64 (l (i * 5 + 2)), .int .i64 (l (i * 5 + 3)), .int .i64 (l (i * 5 + 4))], .bool true]) ∨
  ((∀ i, i < nl → ¬ lockIs l key i) ∧ v = .tuple #[.agg #[.int .i64 0, .int .i64 0, .int .i64 0, .int .i64 0, .int .i64 0], .bool false])
end Go.Proofs.YtjhloobjbbdmcajGreatDoor
