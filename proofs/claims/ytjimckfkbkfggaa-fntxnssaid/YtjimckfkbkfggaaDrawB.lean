/-
  Own text. What is drawn out of a source: spec.l1Source, spec.l1Pick, spec.l1Key, spec.l1Bent: no condition but that the code has at most 2^20 bytes and that the source drew less than a million times.
-/
import Derived.Test.YtjimckfkbkfggaaDrawA
import Derived.Test.YtjimckfkbkfggaaIntsA
namespace Go.Proofs.Ytjimckfkbkfggaa
open Go.RowKit

theorem lt_of_cell {w : World} {b off : Nat} {v : Value} (h : w.cell? ⟨b, off, none⟩ = some v) : b < w.heap.size := World.block_lt_of_cell? w ⟨b, off, none⟩ h
theorem Src.lt {w : World} {b : Nat} {o : Option Addr} {len cap : Nat} {a : Int} (h : Src w b o len cap a) : b < w.heap.size := lt_of_cell h.code
theorem Src.later {w w' : World} {b : Nat} {o : Option Addr} {len cap : Nat} {a : Int} (h : Src w b o len cap a) (hb : Below w.heap.size w w') : Src w' b o len cap a where
  code := (hb.cell (p := ⟨b, 0, none⟩) h.lt).trans h.code
  count := (hb.cell (p := ⟨b, 1, none⟩) h.lt).trans h.count
  live := (hb.frozen (p := ⟨b, 1, none⟩) h.lt).trans h.live
  pos := h.pos
  bytes := fun j hj => by
    obtain ⟨g, off, n, e1, e2, e3, e4⟩ := h.bytes j hj
    exact ⟨g, off, n, e1, e2, (hb.cell (p := ⟨g, off + j, none⟩) (lt_of_cell e3)).trans e3, e4⟩
theorem Src.alloc {w : World} {b : Nat} {o : Option Addr} {len cap : Nat} {a : Int} (h : Src w b o len cap a) (x : Obj) : Src (w.alloc x) b o len cap a := h.later ((Below.refl _ _).alloc (Nat.le_refl _) _)
theorem But.refl (b : Nat) (w : World) : But b w w := ⟨rfl, rfl, rfl, Nat.le_refl _, fun _ _ _ => rfl⟩
theorem But.trans {b : Nat} {a c d : World} (h : But b a c) (k : But b c d) : But b a d := grown_trans h k
theorem But.alloc {b : Nat} {a c : World} (h : But b a c) (x : Obj) : But b a (c.alloc x) := grown_trans h (grown_refl_alloc x _)
theorem But.below {b : Nat} {a c d : World} (h : But b a c) (k : Below c.heap.size c d) : But b a d := grown_trans h ⟨k.os, k.tape, k.output, k.size, fun i hi _ => k.block i hi⟩
theorem But.cell {b : Nat} {w w' : World} (h : But b w w') {g off : Nat} {v : Value} (hc : w.cell? ⟨g, off, none⟩ = some v) (hg : g ≠ b) : w'.cell? ⟨g, off, none⟩ = some v := World.grownBy.cell h (a := ⟨g, off, none⟩) hc (by simp; exact hg)
theorem But.frozen {b : Nat} {w w' : World} (h : But b w w') {g off : Nat} (hl : g < w.heap.size) (hg : g ≠ b) : w'.frozen? ⟨g, off, none⟩ = w.frozen? ⟨g, off, none⟩ := World.frozen?_of_block (w := w) (h.block g hl (by simp; exact hg))
theorem But.ints {b B : Nat} {w w' : World} {v : Value} {xs : List Int} (h : But b w w') (hI : Ints w B v xs) (hb : b < B) : Ints w' B v xs := hI.grown h (fun k hk e => by have := (hI.lt k hk).1; simp at e; omega)
/-- What the source drew leaves all that was there ahead of it as it was. -/
theorem Below.but {B b : Nat} {a w w' : World} (h : Below B a w) (k : But b w w') (hB : B ≤ w.heap.size) (hb : B ≤ b) : Below B a w' := h.grown k hB (fun j e => by simp at e; omega)

/-- The bytes that come in. -/
def Code (w : World) (o : Option Addr) (len : Nat) : Prop := ∀ j, j < len → ∃ (g off : Nat) (n : Int), o = some ⟨g, off, none⟩ ∧ w.cell? ⟨g, off + j, none⟩ = some (.int .u8 n) ∧ 0 ≤ n ∧ n < 256
theorem Code.later {w w' : World} {o : Option Addr} {len : Nat} (h : Code w o len) (hb : Below w.heap.size w w') : Code w' o len := fun j hj => by
  obtain ⟨g, off, n, e1, e3, e4⟩ := h j hj
  exact ⟨g, off, n, e1, (hb.cell (p := ⟨g, off + j, none⟩) (lt_of_cell e3)).trans e3, e4⟩
set_option maxHeartbeats 400000 in
theorem l1Source_any (w : World) (o : Option Addr) (len cap : Nat) (h : Code w o len) :
    Calls Try.prog 36 #[.slice o len cap] w fun e w' => e = .returned (.pointer (some ⟨w.heap.size, 0, none⟩)) ∧ Src w' w.heap.size o len cap 0 ∧ Below w.heap.size w w' ∧ w'.heap.size = w.heap.size + 1 := by
  have HS : Hid (Src (w.alloc (.cells #[.slice o len cap, .int .i64 0] 83)) w.heap.size o len cap 0) := {
    code := World.cell?_alloc_mark w _ _ _ 0
    count := World.cell?_alloc_mark w _ _ _ 1
    live := by simp
    pos := Int.le_refl _
    bytes := fun j hj => by
      obtain ⟨g, off, n, e1, e3, e4⟩ := h j hj
      have hl := lt_of_cell e3
      exact ⟨g, off, n, e1, by omega, (World.cell?_alloc_lt _ _ _ hl).trans e3, e4⟩ }
  clear h
  go_enter Try.func36, Try.ntmps36
  go_wp2
  go_ret
  exact ⟨rfl, HS.out, (Below.refl _ _).alloc (Nat.le_refl _) _, by simp⟩

set_option maxHeartbeats 400000 in
theorem l1Pick_any (w : World) (b : Nat) (o : Option Addr) (len cap : Nat) (a : Int) (v : Value) (B : Nat) (xs : List Int) (h : Src w b o len cap a) (ha : a ≤ 1000000) (hl : len ≤ 1048576)
    (hI : Ints w B v xs) (hB : b < B) (hx : 0 < xs.length) (hx2 : xs.length ≤ 1000) :
    Calls Try.prog 41 #[.pointer (some ⟨b, 0, none⟩), v] w fun e w' => ∃ r : Int, e = .returned (.int .i64 r) ∧ r ∈ xs ∧ Src w' b o len cap (a + 1) ∧ But b w w' := by
  obtain ⟨ao, cp, rfl⟩ := hI.form
  have HN : Hid (Calls Try.prog 39 #[.pointer (some ⟨b, 0, none⟩), .int .i64 xs.length] w fun e w' => ∃ r : Int, e = .returned (.int .i64 r) ∧ 0 ≤ r ∧ (1 ≤ (xs.length : Int) → r < xs.length) ∧ Src w' b o len cap (a + 1) ∧ But b w w') := l1Next_any w b o len cap a xs.length h ha hl
  have HI : Hid (Ints w B (.slice ao xs.length cp) xs) := hI
  clear h hI
  go_enter Try.func41, Try.ntmps41
  go_wp2_with fail
  refine HN.out.mono ?_
  rintro e w1 ⟨r, rfl, r0, r1, hS, hT⟩
  have r1' : r < xs.length := r1 (by omega)
  clear r1
  have I1 : Ints w1 B (.slice ao xs.length cp) xs := hT.ints HI.out hB
  obtain ⟨k, rfl⟩ := Int.eq_ofNat_of_zero_le r0
  have hk : k < xs.length := by omega
  obtain ⟨g, rfl, _, hc, _⟩ := I1.at hk
  have HR : Hid (xs[k] ∈ xs ∧ Src w1 b o len cap (a + 1) ∧ But b w w1) := ⟨List.getElem_mem hk, hS, hT⟩
  clear hS hT I1
  go_wp2
  go_ret
  exact ⟨_, rfl, HR.out⟩
end Go.Proofs.Ytjimckfkbkfggaa
