/-
  Own text. What the laws' helpers over rows of structs do: mark numbers a row, field by field; held finds those numbers again.
-/
import Derived.Test.YtdbcmckoiacemabColsA
namespace Go.Proofs.Ytdbcmckoiacemab
open Go.RowKit

theorem Row.at2 {w : World} {B n : Nat} {F : Nat → Int} {ao : Option Addr} {cp : Nat} (h : Row w B 2 n F (.slice ao n cp)) {k : Nat} (hk : k < n) :
    ∃ g o, ao = some ⟨g, o, none⟩ ∧ B ≤ g ∧ g < w.heap.size ∧ w.cell? ⟨g, o + k * 2, none⟩ = some (.int .i64 (F (k * 2))) ∧ w.cell? ⟨g, o + k * 2 + 1, none⟩ = some (.int .i64 (F (k * 2 + 1))) := by
  obtain ⟨g, o, ha, hB, hg, hc⟩ := h.at hk
  exact ⟨g, o, ha, hB, hg, hc 0 (by omega), hc 1 (by omega)⟩
theorem Fill.step {w : World} {g o N K : Nat} {F : Nat → Int} (h : Fill w g o N K F) (hK : K < N) {a : Nat} (ha : a = o + K) {x : Int} (hx : x = F K) : Fill (w.setCell ⟨g, a, none⟩ (.int .i64 x)) g o N (K + 1) F := by
  subst ha hx
  exact h.put hK
theorem grownBy_set {w x : World} {g : Nat} (h : w.grownBy x (some g)) (a : Nat) (u : Value) : w.grownBy (x.setCell ⟨g, a, none⟩ u) (some g) :=
  ⟨h.os, h.tape, h.output, by simpa [World.setCell] using h.size, fun k hk hne => (Below.heap_setCell x _ u k (fun e => hne (by rw [e]))).trans (h.block k hk hne)⟩
/-- A row half numbered: of n elements the first j. -/
def Marked (w x : World) (B m n j : Nat) (k0 : Int) (ao : Option Addr) (cp : Nat) : Prop :=
  (0 < n → ∃ g o, ao = some ⟨g, o, none⟩ ∧ B ≤ g ∧ Fill x g o (n * m) (j * m) (fun p => k0 + (p : Nat))) ∧ w.grownBy x (Value.slice ao n cp).ownBlock
theorem Marked.start {w : World} {B m n : Nat} {F : Nat → Int} {ao : Option Addr} {cp : Nat} (h : Row w B m n F (.slice ao n cp)) (hf : Free w (n * m) (.slice ao n cp)) (k0 : Int) : Marked w w B m n 0 k0 ao cp := by
  refine ⟨fun hn => ?_, rfl, rfl, rfl, Nat.le_refl _, fun _ _ _ => rfl⟩
  have h0 := h
  obtain ⟨ao', cp', hv, h⟩ := h
  simp only [Value.slice.injEq] at hv
  obtain ⟨rfl, _, rfl⟩ := hv
  obtain ⟨g, o, rfl, hB, _⟩ := h hn
  exact ⟨g, o, rfl, hB, by rw [Nat.zero_mul]; exact Fill.ofRow h0 hf hn⟩
theorem Marked.done {w x : World} {B m n : Nat} {k0 : Int} {ao : Option Addr} {cp : Nat} (h : Marked w x B m n n k0 ao cp) : Row x B m n (fun p => k0 + (p : Nat)) (.slice ao n cp) ∧ Free x (n * m) (.slice ao n cp) := by
  rcases Nat.eq_zero_or_pos n with e | e
  · subst e
    exact ⟨⟨_, _, rfl, fun q => absurd q (Nat.lt_irrefl 0)⟩, by rw [Nat.zero_mul]; exact Free.of0 _ _⟩
  · obtain ⟨g, o, rfl, hB, hF⟩ := h.1 e
    exact hF.row hB cp
/-- x' is x but for blocks from B on below E, and new ones. -/
structure Within (B E : Nat) (x x' : World) : Prop where
  os : x'.os = x.os
  tape : x'.tape = x.tape
  output : x'.output = x.output
  size : x.heap.size ≤ x'.heap.size
  block : ∀ k, k < x.heap.size → k < B ∨ E ≤ k → x'.heap[k]? = x.heap[k]?
theorem Within.refl (B E : Nat) (x : World) : Within B E x x := ⟨rfl, rfl, rfl, Nat.le_refl _, fun _ _ _ => rfl⟩
theorem Within.trans {B E : Nat} {a b c : World} (h : Within B E a b) (k : Within B E b c) : Within B E a c :=
  ⟨k.os.trans h.os, k.tape.trans h.tape, k.output.trans h.output, Nat.le_trans h.size k.size, fun i hi hr => (k.block i (Nat.lt_of_lt_of_le hi h.size) hr).trans (h.block i hi hr)⟩
theorem Within.grow {B E : Nat} {x x' : World} (h : Below x.heap.size x x') : Within B E x x' := ⟨h.os, h.tape, h.output, h.size, fun k hk _ => h.block k hk⟩
theorem Within.of {B E : Nat} {x x' : World} {row : Option Nat} (h : x.grownBy x' row) (hr : ∀ b, row = some b → B ≤ b ∧ b < E) : Within B E x x' :=
  ⟨h.os, h.tape, h.output, h.size, fun k hk ho => h.block k hk (fun e => by have := hr k e.symm; omega)⟩
theorem Within.below {B E : Nat} {w x x' : World} (h : Within B E x x') (hw : Below w.heap.size w x) (hB : w.heap.size ≤ B) : Below w.heap.size w x' :=
  ⟨h.os.trans hw.os, h.tape.trans hw.tape, h.output.trans hw.output, Nat.le_trans hw.size h.size, fun k hk => (h.block k (Nat.lt_of_lt_of_le hk hw.size) (Or.inl (by omega))).trans (hw.block k hk)⟩
theorem Within.mono {B E B' E' : Nat} {x x' : World} (h : Within B E x x') (hB : B' ≤ B) (hE : E ≤ E') : Within B' E' x x' := ⟨h.os, h.tape, h.output, h.size, fun k hk ho => h.block k hk (by omega)⟩
theorem Row.within {x x' : World} {C m n B E : Nat} {F : Nat → Int} {v : Value} (h : Row x C m n F v) (hw : Within B E x x') (ho : 0 < n → ∀ k, v.ownBlock = some k → k < B ∨ E ≤ k) : Row x' C m n F v := by
  rcases Nat.eq_zero_or_pos n with e | e
  · subst e
    obtain ⟨ao, cp, rfl, _⟩ := h
    exact ⟨ao, cp, rfl, fun q => absurd q (Nat.lt_irrefl 0)⟩
  · exact h.kept hw.size (fun k hk hlt => hw.block k hlt (ho e k hk))
theorem Free.within {x x' : World} {C m n B E : Nat} {F : Nat → Int} {v : Value} (h : Free x (n * m) v) (hr : Row x C m n F v) (hw : Within B E x x') (ho : 0 < n → ∀ k, v.ownBlock = some k → k < B ∨ E ≤ k) : Free x' (n * m) v := by
  rcases Nat.eq_zero_or_pos n with e | e
  · subst e; rw [Nat.zero_mul]; exact Free.of0 _ _
  · intro g o n' c hv p hp
    rw [World.frozen?_of_block (w := x) (a := ⟨g, o + p, none⟩) (hw.block g (hr.lt e g (by rw [hv]; rfl)).2 (ho e g (by rw [hv]; rfl)))]
    exact h g o n' c hv p hp
theorem Blk3.within {x x' : World} {b B E : Nat} {a0 a1 a2 : Value} (h : Blk3 x b a0 a1 a2) (hw : Within B E x x') (ho : b < B ∨ E ≤ b) : Blk3 x' b a0 a1 a2 := h.kept (hw.block b h.lt ho)
/-- The block that is turned by numbering: none, if there is nothing. -/
def turn (n : Nat) (v : Value) : Option Nat := if n = 0 then none else v.ownBlock
theorem turn_in {x : World} {B m n : Nat} {F : Nat → Int} {v : Value} (h : Row x B m n F v) {E : Nat} (hE : x.heap.size ≤ E) : ∀ b, turn n v = some b → B ≤ b ∧ b < E := by
  intro b hb
  unfold turn at hb
  split at hb
  · cases hb
  · have := h.lt (by omega) b hb; omega
theorem turn_off {n : Nat} {v : Value} {P : Nat → Prop} (h : 0 < n → ∀ k, v.ownBlock = some k → P k) : ∀ b, turn n v = some b → P b := by
  intro b hb
  unfold turn at hb
  split at hb
  · cases hb
  · exact h (by omega) b hb
theorem Row.turned {x x' : World} {C m n : Nat} {F : Nat → Int} {v : Value} {row : Option Nat} (h : Row x C m n F v) (hg : x.grownBy x' row) (ho : 0 < n → ∀ k, v.ownBlock = some k → some k ≠ row) : Row x' C m n F v := by
  rcases Nat.eq_zero_or_pos n with e | e
  · subst e
    obtain ⟨ao, cp, rfl, _⟩ := h
    exact ⟨ao, cp, rfl, fun q => absurd q (Nat.lt_irrefl 0)⟩
  · exact h.kept hg.size (fun k hk hlt => hg.block k hlt (ho e k hk))
theorem Free.turned {x x' : World} {C m n : Nat} {F : Nat → Int} {v : Value} {row : Option Nat} (h : Free x (n * m) v) (hr : Row x C m n F v) (hg : x.grownBy x' row) (ho : 0 < n → ∀ k, v.ownBlock = some k → some k ≠ row) : Free x' (n * m) v := by
  rcases Nat.eq_zero_or_pos n with e | e
  · subst e; rw [Nat.zero_mul]; exact Free.of0 _ _
  · intro g o n' c hv p hp
    rw [World.frozen?_of_block (w := x) (a := ⟨g, o + p, none⟩) (hg.block g (hr.lt e g (by rw [hv]; rfl)).2 (ho e g (by rw [hv]; rfl)))]
    exact h g o n' c hv p hp
end Go.Proofs.Ytdbcmckoiacemab
