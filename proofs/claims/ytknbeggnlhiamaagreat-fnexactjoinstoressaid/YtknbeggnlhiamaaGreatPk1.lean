/-
  Own text, merged of RegT, ColsA, ColsO, ColsB, ColsC, ColsE, ColsT, SameW, LawE, MarkA, MarkB, StorQ, MarkS, LawT.
-/
import Derived.Test.YtknbeggnlhiamaaGreatRows
import Derived.Deep.RegionHeld
import Derived.WalkKit
import Derived.RowKitTokens
import Derived.WalkLawsBesides
import Derived.ProofKit
import Derived.OpenShut
import Derived.Handy
import Derived.BigQuiet
import Derived.Deep.QuietTactic
import Derived.Deep.Slices
import Derived.Lib.SmallJoins
import Derived.Laws.OwnMore
import Derived.Laws.StructEq
import Derived.Deep.DeepCutAuto
import Derived.OwnWalk
import Derived.Laws.AppendOwn
import Derived.Deep.Onto
import Derived.Deep.AppendLies
import Derived.Laws.AppendOwnNone
import Derived.Lib.AppendZeros
import Derived.Deep.Cut
import Derived.Maps.OwnSet
import Derived.DeepKeys4
import Derived.Shelf.SlGeneric
import Derived.Shelf.SlSortCmp.NoneTotal
import Derived.Ground.SlsfProg
import Derived.Maps.RangeWalk
import Derived.Great.Frames
import Derived.ShutString
namespace Go.Proofs.YtknbeggnlhiamaaGreat
open Go.RowKit
theorem tkH {P : Program} {ops : Array Oper} {Q : Exit → Act → World → Prop} {md : Region.Mode} {S : World → Prop} (i : Nat) {oi : Oper} (v : Value) {fuel : Nat} {listed : Array Bool} {a : Act} {w : World} (hS : S w) (hy : ∀ w, S w → (execOp a.eval oi).run P w = .ok (.value v) w) (h : wpAnyH P md ops Q S fuel (listed.setIfInBounds i true) (a.put oi.dst v) w) (hi : ops[i]? = some oi := by exact rfl) (hs : Region.noSelect ops = true := by as_aux_lemma => kernel_rfl) (hf : Region.free md ops listed i = true := by as_aux_lemma => kernel_rfl) (hr : (Region.ready md ops listed).contains i = true := by as_aux_lemma => kernel_rfl) (hQ : ∀ c a w, Q (.panic c) (a.put oi.dst v) w → Q (.panic c) a w := by exact fun _ _ _ h => h) (hw : Region.wanted oi (yielded ops a.tmps) = true := by kernel_rfl) : wpAnyH P md ops Q S (fuel + 1) listed a w :=
  wpAnyH_take hi hs hf hr hQ (Or.inl ⟨hw, hy⟩) hS h
theorem noH {P : Program} {ops : Array Oper} {Q : Exit → Act → World → Prop} {md : Region.Mode} {S : World → Prop} (i : Nat) {oi : Oper} {fuel : Nat} {listed : Array Bool} {a : Act} {w : World} (hS : S w) (h : wpAnyH P md ops Q S fuel (listed.setIfInBounds i true) (a.put oi.dst undef) w) (hi : ops[i]? = some oi := by exact rfl) (hs : Region.noSelect ops = true := by as_aux_lemma => kernel_rfl) (hf : Region.free md ops listed i = true := by as_aux_lemma => kernel_rfl) (hr : (Region.ready md ops listed).contains i = true := by as_aux_lemma => kernel_rfl) (hQ : ∀ c a w, Q (.panic c) (a.put oi.dst undef) w → Q (.panic c) a w := by exact fun _ _ _ h => h) (hw : Region.wanted oi (yielded ops a.tmps) = false := by kernel_rfl) : wpAnyH P md ops Q S (fuel + 1) listed a w :=
  wpAnyH_take hi hs hf hr hQ (Or.inr ⟨hw, rfl⟩) hS h
theorem rdH {P : Program} {ops : Array Oper} {Q : Exit → Act → World → Prop} {md : Region.Mode} {S : World → Prop} (i : Nat) {o : Oper} {fuel : Nat} {listed : Array Bool} {a : Act} {w : World} (h : ∀ K' : Act → World → Prop, Shut (∀ a w, S w → (S w → wpAnyH P md ops Q S fuel (listed.setIfInBounds i true) a w) → K' a w) → if Region.wanted o (yielded ops a.tmps) = true then Oper.wp P o a w K' Q else K' (a.put o.dst undef) w) (ho : ops[i]? = some o := by exact rfl) (hr : Region.ready md ops listed = [i] := by as_aux_lemma => kernel_rfl) : wpAnyH P md ops Q S (fuel + 1) listed a w :=
  wpAnyH_ready hr (List.cons_ne_nil _ _) (AllReadyH.cons ho h AllReadyH.nil)
end Go.Proofs.YtknbeggnlhiamaaGreat

namespace Go.Proofs.YtknbeggnlhiamaaGreat
open Go.RowKit

/-- n elements of m whole numbers each, from block B on; number p of all of them is F p. -/
def Row (w : World) (B m n : Nat) (F : Nat → Int) (v : Value) : Prop :=
  ∃ ao cp, v = .slice ao n cp ∧ (0 < n → ∃ g o, ao = some ⟨g, o, none⟩ ∧ B ≤ g ∧ g < w.heap.size ∧ ∀ p, p < n * m → w.cell? ⟨g, o + p, none⟩ = some (.int .i64 (F p)))
/-- None of the first N places of the slice is frozen. -/
def Free (w : World) (N : Nat) (v : Value) : Prop := ∀ g o n c, v = .slice (some ⟨g, o, none⟩) n c → ∀ p, p < N → w.frozen? ⟨g, o + p, none⟩ = false

theorem Row.form {w : World} {B m n : Nat} {F : Nat → Int} {v : Value} (h : Row w B m n F v) : ∃ ao cp, v = .slice ao n cp := by
  obtain ⟨ao, cp, rfl, _⟩ := h; exact ⟨ao, cp, rfl⟩
theorem Row.at {w : World} {B m n : Nat} {F : Nat → Int} {ao : Option Addr} {cp : Nat} (h : Row w B m n F (.slice ao n cp)) {k : Nat} (hk : k < n) :
    ∃ g o, ao = some ⟨g, o, none⟩ ∧ B ≤ g ∧ g < w.heap.size ∧ ∀ j, j < m → w.cell? ⟨g, o + k * m + j, none⟩ = some (.int .i64 (F (k * m + j))) := by
  obtain ⟨ao', cp', hv, h⟩ := h
  simp only [Value.slice.injEq] at hv
  obtain ⟨rfl, _, rfl⟩ := hv
  obtain ⟨g, o, ha, hB, hg, hc⟩ := h (by omega)
  refine ⟨g, o, ha, hB, hg, fun j hj => ?_⟩
  rw [Nat.add_assoc]
  refine hc _ ?_
  calc k * m + j < k * m + m := by omega
    _ = (k + 1) * m := by rw [Nat.succ_mul]
    _ ≤ n * m := Nat.mul_le_mul_right m hk
theorem Row.kept {w w' : World} {B m n : Nat} {F : Nat → Int} {v : Value} (h : Row w B m n F v) (hs : w.heap.size ≤ w'.heap.size) (hb : ∀ k, v.ownBlock = some k → k < w.heap.size → w'.heap[k]? = w.heap[k]?) : Row w' B m n F v := by
  obtain ⟨ao, cp, rfl, h⟩ := h
  refine ⟨ao, cp, rfl, fun hn => ?_⟩
  obtain ⟨g, o, rfl, hB, hg, hc⟩ := h hn
  exact ⟨g, o, rfl, hB, Nat.lt_of_lt_of_le hg hs, fun p hp => (World.cell?_of_block (w := w) (hb g rfl hg)).trans (hc p hp)⟩
theorem Row.lt {w : World} {B m n : Nat} {F : Nat → Int} {v : Value} (h : Row w B m n F v) (hn : 0 < n) : ∀ k, v.ownBlock = some k → B ≤ k ∧ k < w.heap.size := by
  intro k hk
  obtain ⟨ao, cp, rfl, h⟩ := h
  obtain ⟨g, o, rfl, hB, hg, hc⟩ := h hn
  simp [Value.ownBlock] at hk
  subst hk
  exact ⟨hB, hg⟩
theorem Row.later {w w' : World} {B m n : Nat} {F : Nat → Int} {v : Value} (h : Row w B m n F v) (hb : Below w.heap.size w w') : Row w' B m n F v :=
  h.kept hb.size (fun k _ hk => hb.block k hk)
theorem Row.alloc {w : World} {B m n : Nat} {F : Nat → Int} {v : Value} (h : Row w B m n F v) (o : Obj) : Row (w.alloc o) B m n F v := h.later ((Below.refl _ _).alloc (Nat.le_refl _) o)
theorem Row.drewN {w : World} {B m n : Nat} {F : Nat → Int} {v : Value} (h : Row w B m n F v) (k : Nat) : Row (w.drewN k) B m n F v := h
theorem Row.mono {w : World} {B B' m n : Nat} {F : Nat → Int} {v : Value} (h : Row w B m n F v) (hB : B' ≤ B) : Row w B' m n F v := by
  obtain ⟨ao, cp, rfl, h⟩ := h
  refine ⟨ao, cp, rfl, fun hn => ?_⟩
  obtain ⟨g, o, rfl, hb, hg, hc⟩ := h hn
  exact ⟨g, o, rfl, by omega, hg, hc⟩
theorem Row.setCell {w : World} {B m n : Nat} {F : Nat → Int} {v : Value} (h : Row w B m n F v) {a : Addr} (ha : v.ownBlock ≠ some a.block) (u : Value) : Row (w.setCell a u) B m n F v :=
  h.kept (by simp [World.setCell]) (fun k hk _ => Below.heap_setCell w a u k (fun e => ha (by rw [hk, e])))
theorem Row.congr {w : World} {B m n : Nat} {F G : Nat → Int} {v : Value} (h : Row w B m n F v) (e : ∀ p, p < n * m → F p = G p) : Row w B m n G v := by
  obtain ⟨ao, cp, rfl, h⟩ := h
  refine ⟨ao, cp, rfl, fun hn => ?_⟩
  obtain ⟨g, o, rfl, hb, hg, hc⟩ := h hn
  exact ⟨g, o, rfl, hb, hg, fun p hp => by rw [← e p hp]; exact hc p hp⟩
theorem Row.at3 {w : World} {B n : Nat} {F : Nat → Int} {ao : Option Addr} {cp : Nat} (h : Row w B 3 n F (.slice ao n cp)) {k : Nat} (hk : k < n) :
    ∃ g o, ao = some ⟨g, o, none⟩ ∧ B ≤ g ∧ g < w.heap.size ∧ w.cell? ⟨g, o + k * 3, none⟩ = some (.int .i64 (F (k * 3))) ∧ w.cell? ⟨g, o + k * 3 + 1, none⟩ = some (.int .i64 (F (k * 3 + 1))) ∧ w.cell? ⟨g, o + k * 3 + 2, none⟩ = some (.int .i64 (F (k * 3 + 2))) := by
  obtain ⟨g, o, ha, hB, hg, hc⟩ := h.at hk
  exact ⟨g, o, ha, hB, hg, hc 0 (by omega), hc 1 (by omega), hc 2 (by omega)⟩
theorem Row.at4 {w : World} {B n : Nat} {F : Nat → Int} {ao : Option Addr} {cp : Nat} (h : Row w B 4 n F (.slice ao n cp)) {k : Nat} (hk : k < n) :
    ∃ g o, ao = some ⟨g, o, none⟩ ∧ B ≤ g ∧ g < w.heap.size ∧ w.cell? ⟨g, o + k * 4, none⟩ = some (.int .i64 (F (k * 4))) ∧ w.cell? ⟨g, o + k * 4 + 1, none⟩ = some (.int .i64 (F (k * 4 + 1))) ∧ w.cell? ⟨g, o + k * 4 + 2, none⟩ = some (.int .i64 (F (k * 4 + 2))) ∧ w.cell? ⟨g, o + k * 4 + 3, none⟩ = some (.int .i64 (F (k * 4 + 3))) := by
  obtain ⟨g, o, ha, hB, hg, hc⟩ := h.at hk
  exact ⟨g, o, ha, hB, hg, hc 0 (by omega), hc 1 (by omega), hc 2 (by omega), hc 3 (by omega)⟩
theorem Row.at5 {w : World} {B n : Nat} {F : Nat → Int} {ao : Option Addr} {cp : Nat} (h : Row w B 5 n F (.slice ao n cp)) {k : Nat} (hk : k < n) :
    ∃ g o, ao = some ⟨g, o, none⟩ ∧ B ≤ g ∧ g < w.heap.size ∧ w.cell? ⟨g, o + k * 5, none⟩ = some (.int .i64 (F (k * 5))) ∧ w.cell? ⟨g, o + k * 5 + 1, none⟩ = some (.int .i64 (F (k * 5 + 1))) ∧ w.cell? ⟨g, o + k * 5 + 2, none⟩ = some (.int .i64 (F (k * 5 + 2))) ∧ w.cell? ⟨g, o + k * 5 + 3, none⟩ = some (.int .i64 (F (k * 5 + 3))) ∧ w.cell? ⟨g, o + k * 5 + 4, none⟩ = some (.int .i64 (F (k * 5 + 4))) := by
  obtain ⟨g, o, ha, hB, hg, hc⟩ := h.at hk
  exact ⟨g, o, ha, hB, hg, hc 0 (by omega), hc 1 (by omega), hc 2 (by omega), hc 3 (by omega), hc 4 (by omega)⟩
theorem Free.later {w w' : World} {N : Nat} {v : Value} (h : Free w N v) (hl : ∀ k, v.ownBlock = some k → k < w.heap.size) (hb : Below w.heap.size w w') : Free w' N v := by
  intro g o n c hv p hp
  rw [hb.frozen (hl g (by rw [hv]; rfl))]
  exact h g o n c hv p hp

/-- Block g has N places from o on, none frozen; the first K of them hold F 0, F 1 .. -/
def Fill (w : World) (g o N K : Nat) (F : Nat → Int) : Prop :=
  g < w.heap.size ∧ (∀ p, p < N → (∃ u, w.cell? ⟨g, o + p, none⟩ = some u) ∧ w.frozen? ⟨g, o + p, none⟩ = false) ∧ ∀ p, p < K → w.cell? ⟨g, o + p, none⟩ = some (.int .i64 (F p))
theorem Fill.put {w : World} {g o N K : Nat} {F : Nat → Int} (h : Fill w g o N K F) (hK : K < N) : Fill (w.setCell ⟨g, o + K, none⟩ (.int .i64 (F K))) g o N (K + 1) F := by
  obtain ⟨h1, h2, h3⟩ := h
  obtain ⟨⟨u, hu⟩, hf⟩ := h2 K hK
  refine ⟨by simpa [World.setCell] using h1, fun p hp => ⟨?_, by rw [World.frozen?_setCell]; exact (h2 p hp).2⟩, fun p hp => ?_⟩
  · by_cases e : p = K
    · subst e; exact ⟨_, World.cell?_setCell_same _ _ _ hu⟩
    · obtain ⟨u', hu'⟩ := (h2 p hp).1
      exact ⟨u', (World.cell?_setCell_other _ _ _ _ (by intro q; simp at q; try omega)).trans hu'⟩
  · by_cases e : p = K
    · subst e; exact World.cell?_setCell_same _ _ _ hu
    · exact (World.cell?_setCell_other _ _ _ _ (by intro q; simp at q; try omega)).trans (h3 p (by omega))
theorem Fill.put0 {w : World} {g N K : Nat} {F : Nat → Int} (h : Fill w g 0 N K F) (hK : K < N) : Fill (w.setCell ⟨g, K, none⟩ (.int .i64 (F K))) g 0 N (K + 1) F := by
  have := h.put hK
  rwa [Nat.zero_add] at this
theorem Fill.later {w w' : World} {g o N K : Nat} {F : Nat → Int} (h : Fill w g o N K F) (hb : Below w.heap.size w w') : Fill w' g o N K F := by
  obtain ⟨h1, h2, h3⟩ := h
  refine ⟨Nat.lt_of_lt_of_le h1 hb.size, fun p hp => ⟨?_, (hb.frozen (p := ⟨g, o + p, none⟩) h1).trans (h2 p hp).2⟩, fun p hp => (hb.cell (p := ⟨g, o + p, none⟩) h1).trans (h3 p hp)⟩
  obtain ⟨u, hu⟩ := (h2 p hp).1
  exact ⟨u, (hb.cell (p := ⟨g, o + p, none⟩) h1).trans hu⟩
theorem Fill.at {w : World} {g o N K : Nat} {F : Nat → Int} (h : Fill w g o N K F) {p : Nat} (hp : p < N) : ∃ u, w.cell? ⟨g, o + p, none⟩ = some u ∧ w.frozen? ⟨g, o + p, none⟩ = false := by
  obtain ⟨⟨u, hu⟩, hf⟩ := h.2.1 p hp
  exact ⟨u, hu, hf⟩
theorem Fill.row {w : World} {g o m n B : Nat} {F : Nat → Int} (h : Fill w g o (n * m) (n * m) F) (hB : B ≤ g) (cp : Nat) : Row w B m n F (.slice (some ⟨g, o, none⟩) n cp) ∧ Free w (n * m) (.slice (some ⟨g, o, none⟩) n cp) := by
  refine ⟨⟨_, _, rfl, fun _ => ⟨g, o, rfl, hB, h.1, h.2.2⟩⟩, ?_⟩
  intro g' o' n' c' hv p hp
  simp only [Value.slice.injEq, Option.some.injEq, Addr.mk.injEq] at hv
  obtain ⟨⟨rfl, rfl, _⟩, _, _⟩ := hv
  exact (h.2.1 p hp).2
theorem Fill.ofRow {w : World} {B m n g o cp : Nat} {F G : Nat → Int} (h : Row w B m n F (.slice (some ⟨g, o, none⟩) n cp)) (hf : Free w (n * m) (.slice (some ⟨g, o, none⟩) n cp)) (hn : 0 < n) : Fill w g o (n * m) 0 G := by
  obtain ⟨ao, cp', hv, h⟩ := h
  obtain ⟨g', o', rfl, _, hg, hc⟩ := h hn
  simp only [Value.slice.injEq, Option.some.injEq, Addr.mk.injEq] at hv
  obtain ⟨⟨rfl, rfl, _⟩, _, rfl⟩ := hv
  exact ⟨hg, fun p hp => ⟨⟨_, hc p hp⟩, hf _ _ _ _ rfl p hp⟩, fun p hp => absurd hp (Nat.not_lt_zero p)⟩
theorem Fill.made (w : World) (z : Array Value) (N : Nat) (e : TypeId) (F : Nat → Int) : Fill (w.alloc (.cells (madeCells z N) e)) w.heap.size 0 N 0 F := by
  refine ⟨by simp, fun p hp => ⟨⟨(madeCells z N)[p]'(by rw [size_madeCells]; exact hp), ?_⟩, by simp⟩, fun p hp => absurd hp (Nat.not_lt_zero p)⟩
  rw [Nat.zero_add, World.cell?_alloc_mark]
  simp

/-- Block b holds three cells, none frozen. -/
def Blk3 (x : World) (b : Nat) (a0 a1 a2 : Value) : Prop :=
  (x.cell? ⟨b, 0, none⟩ = some a0 ∧ x.cell? ⟨b, 1, none⟩ = some a1 ∧ x.cell? ⟨b, 2, none⟩ = some a2) ∧ x.frozen? ⟨b, 0, none⟩ = false ∧ x.frozen? ⟨b, 1, none⟩ = false ∧ x.frozen? ⟨b, 2, none⟩ = false
theorem Blk3.kept {x x' : World} {b : Nat} {a0 a1 a2 : Value} (h : Blk3 x b a0 a1 a2) (hb : x'.heap[b]? = x.heap[b]?) : Blk3 x' b a0 a1 a2 := by
  obtain ⟨⟨h0, h1, h2⟩, f0, f1, f2⟩ := h
  exact ⟨⟨(World.cell?_of_block (w := x) (a := ⟨b, 0, none⟩) hb).trans h0, (World.cell?_of_block (w := x) (a := ⟨b, 1, none⟩) hb).trans h1, (World.cell?_of_block (w := x) (a := ⟨b, 2, none⟩) hb).trans h2⟩,
    (World.frozen?_of_block (w := x) (a := ⟨b, 0, none⟩) hb).trans f0, (World.frozen?_of_block (w := x) (a := ⟨b, 1, none⟩) hb).trans f1, (World.frozen?_of_block (w := x) (a := ⟨b, 2, none⟩) hb).trans f2⟩
theorem Blk3.lt {x : World} {b : Nat} {a0 a1 a2 : Value} (h : Blk3 x b a0 a1 a2) : b < x.heap.size := World.block_lt_of_cell? x _ h.1.1
theorem Blk3.later {x x' : World} {b : Nat} {a0 a1 a2 : Value} (h : Blk3 x b a0 a1 a2) (hb : Below x.heap.size x x') : Blk3 x' b a0 a1 a2 := h.kept (hb.block b h.lt)
theorem Blk3.alloc {x : World} {b : Nat} {a0 a1 a2 : Value} (h : Blk3 x b a0 a1 a2) (o : Obj) : Blk3 (x.alloc o) b a0 a1 a2 := h.later ((Below.refl _ _).alloc (Nat.le_refl _) o)
theorem Blk3.new (w : World) (a0 a1 a2 : Value) (t : TypeId) : Blk3 (w.alloc (.cells #[a0, a1, a2] t)) w.heap.size a0 a1 a2 := by
  refine ⟨⟨World.cell?_alloc_mark w _ _ _ 0, World.cell?_alloc_mark w _ _ _ 1, World.cell?_alloc_mark w _ _ _ 2⟩, ?_, ?_, ?_⟩ <;> simp
theorem Blk3.setFar {x : World} {b : Nat} {a0 a1 a2 : Value} (h : Blk3 x b a0 a1 a2) {p : Addr} (hp : b ≠ p.block) (u : Value) : Blk3 (x.setCell p u) b a0 a1 a2 := h.kept (Below.heap_setCell x p u b hp)
theorem Blk3.set0 {x : World} {b : Nat} {a0 a1 a2 : Value} (h : Blk3 x b a0 a1 a2) (u : Value) : Blk3 (x.setCell ⟨b, 0, none⟩ u) b u a1 a2 := by
  obtain ⟨⟨h0, h1, h2⟩, f0, f1, f2⟩ := h
  exact ⟨⟨World.cell?_setCell_same _ _ _ h0, (World.cell?_setCell_other _ _ _ _ (by simp)).trans h1, (World.cell?_setCell_other _ _ _ _ (by simp)).trans h2⟩, by simpa using f0, by simpa using f1, by simpa using f2⟩
theorem Blk3.set1 {x : World} {b : Nat} {a0 a1 a2 : Value} (h : Blk3 x b a0 a1 a2) (u : Value) : Blk3 (x.setCell ⟨b, 1, none⟩ u) b a0 u a2 := by
  obtain ⟨⟨h0, h1, h2⟩, f0, f1, f2⟩ := h
  exact ⟨⟨(World.cell?_setCell_other _ _ _ _ (by simp)).trans h0, World.cell?_setCell_same _ _ _ h1, (World.cell?_setCell_other _ _ _ _ (by simp)).trans h2⟩, by simpa using f0, by simpa using f1, by simpa using f2⟩
theorem Blk3.set2 {x : World} {b : Nat} {a0 a1 a2 : Value} (h : Blk3 x b a0 a1 a2) (u : Value) : Blk3 (x.setCell ⟨b, 2, none⟩ u) b a0 a1 u := by
  obtain ⟨⟨h0, h1, h2⟩, f0, f1, f2⟩ := h
  exact ⟨⟨(World.cell?_setCell_other _ _ _ _ (by simp)).trans h0, (World.cell?_setCell_other _ _ _ _ (by simp)).trans h1, World.cell?_setCell_same _ _ _ h2⟩, by simpa using f0, by simpa using f1, by simpa using f2⟩
theorem Row.far {w : World} {B m n : Nat} {F : Nat → Int} {v : Value} (h : Row w B m n F v) {a : Addr} (ha : a.block < B ∨ w.heap.size ≤ a.block) (u : Value) : Row (w.setCell a u) B m n F v := by
  obtain ⟨ao, cp, rfl, h⟩ := h
  refine ⟨ao, cp, rfl, fun hn => ?_⟩
  obtain ⟨g, o, rfl, hB, hg, hc⟩ := h hn
  refine ⟨g, o, rfl, hB, by simpa [World.setCell] using hg, fun p hp => ?_⟩
  rw [← hc p hp]
  exact World.cell?_of_block (Below.heap_setCell w a u g (by omega))
theorem Free.far {w : World} {N : Nat} {v : Value} (h : Free w N v) (a : Addr) (u : Value) : Free (w.setCell a u) N v := by
  intro g o n c hv p hp
  rw [World.frozen?_setCell]
  exact h g o n c hv p hp
theorem Free.of0 (w : World) (v : Value) : Free w 0 v := fun _ _ _ _ _ _ hp => absurd hp (Nat.not_lt_zero _)
theorem Free.ofRow {w w' : World} {B m n : Nat} {F : Nat → Int} {v : Value} (h : Free w (n * m) v) (hr : Row w B m n F v) (hb : Below w.heap.size w w') : Free w' (n * m) v := by
  rcases Nat.eq_zero_or_pos n with e | e
  · subst e; rw [Nat.zero_mul]; exact Free.of0 _ _
  · exact h.later (fun k hk => (hr.lt e k hk).2) hb

/-- A store as numbers: how many cells, locks and writes, and all their numbers. -/
structure Sto where
  nc : Nat
  c : Nat → Int
  nl : Nat
  l : Nat → Int
  nw : Nat
  k : Nat → Int
def St (w : World) (B : Nat) (S : Sto) (v0 v1 v2 : Value) : Prop := Row w B 3 S.nc S.c v0 ∧ Row w B 5 S.nl S.l v1 ∧ Row w B 4 S.nw S.k v2
theorem St.later {w w' : World} {B : Nat} {S : Sto} {v0 v1 v2 : Value} (h : St w B S v0 v1 v2) (hb : Below w.heap.size w w') : St w' B S v0 v1 v2 := ⟨h.1.later hb, h.2.1.later hb, h.2.2.later hb⟩
theorem St.alloc {w : World} {B : Nat} {S : Sto} {v0 v1 v2 : Value} (h : St w B S v0 v1 v2) (o : Obj) : St (w.alloc o) B S v0 v1 v2 := ⟨h.1.alloc o, h.2.1.alloc o, h.2.2.alloc o⟩
theorem St.mono {w : World} {B B' : Nat} {S : Sto} {v0 v1 v2 : Value} (h : St w B S v0 v1 v2) (hB : B' ≤ B) : St w B' S v0 v1 v2 := ⟨h.1.mono hB, h.2.1.mono hB, h.2.2.mono hB⟩
theorem St.form {w : World} {B : Nat} {S : Sto} {v0 v1 v2 : Value} (h : St w B S v0 v1 v2) : ∃ a0 c0 a1 c1 a2 c2, v0 = .slice a0 S.nc c0 ∧ v1 = .slice a1 S.nl c1 ∧ v2 = .slice a2 S.nw c2 := by
  obtain ⟨a0, c0, h0⟩ := h.1.form
  obtain ⟨a1, c1, h1⟩ := h.2.1.form
  obtain ⟨a2, c2, h2⟩ := h.2.2.form
  exact ⟨a0, c0, a1, c1, a2, c2, h0, h1, h2⟩
theorem below_alloc (w : World) (o : Obj) : Below w.heap.size w (w.alloc o) := (Below.refl _ _).alloc (Nat.le_refl _) o
theorem St.far {w : World} {B : Nat} {S : Sto} {v0 v1 v2 : Value} (h : St w B S v0 v1 v2) {a : Addr} (ha : a.block < B) (u : Value) : St (w.setCell a u) B S v0 v1 v2 := ⟨h.1.far (Or.inl ha) u, h.2.1.far (Or.inl ha) u, h.2.2.far (Or.inl ha) u⟩
def FreeS (w : World) (S : Sto) (v0 v1 v2 : Value) : Prop := Free w (S.nc * 3) v0 ∧ Free w (S.nl * 5) v1 ∧ Free w (S.nw * 4) v2
theorem FreeS.far {w : World} {S : Sto} {v0 v1 v2 : Value} (h : FreeS w S v0 v1 v2) (a : Addr) (u : Value) : FreeS (w.setCell a u) S v0 v1 v2 := ⟨h.1.far a u, h.2.1.far a u, h.2.2.far a u⟩
theorem FreeS.later {w w' : World} {B : Nat} {S : Sto} {v0 v1 v2 : Value} (h : FreeS w S v0 v1 v2) (hs : St w B S v0 v1 v2) (hb : Below w.heap.size w w') : FreeS w' S v0 v1 v2 := ⟨h.1.ofRow hs.1 hb, h.2.1.ofRow hs.2.1 hb, h.2.2.ofRow hs.2.2 hb⟩
end Go.Proofs.YtknbeggnlhiamaaGreat

namespace Go.Proofs.YtknbeggnlhiamaaGreat
open Go.RowKit Go.Deep

theorem open_row {H : Type} {enc : TypeId × Value → H} {P : Program} {w : World} {base : Nat} {spare : Nat → Bool} {held : Bool} {t e : TypeId} {fs : Array Field} {fuel m : Nat} {v : Value} {x : DataW H × List MemPlace}
    (ht : P.underlying t = some (.slice e)) (he : P.underlying e = some (.struct fs)) (hce : P.cellsOf e = m) (hm0 : 0 < m) (hfm : fs.size = m)
    (hfs : ∀ (j : Nat) (f : Field), fs[j]? = some f → f.offset = j ∧ P.cellsOf f.type = 1 ∧ P.underlying f.type = some (.int .i64))
    (h : DataW.trod enc P w base spare held fuel t [v] = some x) :
    ∃ n F, Row w base m n F v ∧ n ≤ maxLen ∧ ∀ p, (Lit.int .i64 (F p)).wf = true := by
  rcases open_slice ht h with ⟨h0, _⟩ | ⟨a, len, cap, q, n, D, Pl, hv, hb, hl, hm, hmm, rfl, hx⟩
  · simp only [List.cons.injEq, and_true] at h0
    subst h0
    exact ⟨0, fun _ => 0, ⟨_, _, rfl, fun h => absurd h (Nat.lt_irrefl 0)⟩, Nat.zero_le _, fun _ => (by decide : (Lit.int .i64 0).wf = true)⟩
  simp only [List.cons.injEq, and_true] at hv
  subst hv
  have hlq : len ≤ q := by rw [hmm]; split <;> omega
  have each : ∀ p, p < len * m → ∃ z : Int, w.cell? (a.add p) = some (.int .i64 z) ∧ (Lit.int .i64 z).wf = true := by
    intro p hp
    have hi : p / m < len := (Nat.div_lt_iff_lt_mul hm0).2 hp
    have hj : p % m < m := Nat.mod_lt _ hm0
    obtain ⟨cs', h1, h2⟩ := hx (p / m) (by omega)
    rw [hce] at h1
    obtain ⟨_, hlen, hcell⟩ := World.cells?_some h1
    obtain ⟨xs, k, hk, hxy, _, hxl, hf⟩ := DataW.trod_struct he h2
    obtain ⟨f, hff⟩ : ∃ f, fs[p % m]? = some f := ⟨fs[p % m]'(by omega), by simp⟩
    obtain ⟨h3, h4, h5⟩ := hfs _ f hff
    have h6 := hf _ f hff
    rw [h3, h4, List.getElem?_eq_getElem (by omega)] at h6
    obtain ⟨z, hz, _, hwf⟩ := DataW.trod_int h5 h6
    refine ⟨z, ?_, hwf⟩
    have e0 := hcell (p % m) hj
    rw [List.drop_eq_getElem_cons (by omega)] at hz
    simp only [List.take_succ_cons, List.take_zero, List.cons.injEq, and_true] at hz
    rw [List.getElem?_eq_getElem (by omega), hz, add_add, Nat.mul_comm, Nat.div_add_mod] at e0
    exact e0
  obtain ⟨F, hF⟩ := choose_lt each
  refine ⟨len, fun p => if p < len * m then F p else 0, ⟨_, _, rfl, fun hn => ?_⟩, Nat.le_trans hl hm, fun p => ?_⟩
  · have e : 0 < m := hm0
    obtain ⟨b, o, s⟩ := a
    have h0 := (hF 0 (Nat.mul_pos hn e)).1
    obtain rfl : s = none := by simpa [Addr.add] using World.cell?_spot h0
    refine ⟨b, o, rfl, hb, World.block_lt_of_cell? w _ h0, fun p hp => ?_⟩
    show w.cell? ⟨b, o + p, none⟩ = some (.int .i64 (if p < len * m then F p else 0))
    rw [if_pos hp]
    have e1 := (hF p hp).1
    rw [WideShapes.add_plain] at e1
    exact e1
  · show (Lit.int .i64 (if p < len * m then F p else 0)).wf = true
    split
    · exact (hF p (by assumption)).2
    · decide
end Go.Proofs.YtknbeggnlhiamaaGreat

namespace Go.Proofs.YtknbeggnlhiamaaGreat
open Go.RowKit

theorem make_row {P : Program} {t e : TypeId} {z : Value} {size bytes : Nat} (ht : P.underlying t = some (.slice e)) (hinfo : (P.info? e).map (fun i => (i.zero, i.size, i.bytes)) = some (some z, size, bytes)) (n : Nat) (hn : bytes * n ≤ 281474976710656) (hm : n ≤ 9223372036854775807) (w : World) :
    (Instr.makeSlice t (.int .i64 (n : Int)) (.int .i64 (n : Int))).run P w = .ok (.slice (some ⟨w.heap.size, 0, none⟩) n n) (w.alloc (.cells (madeCells z.cells (n * size)) e)) := by
  obtain ⟨i, hi, hz, hs, hb⟩ := info_parts hinfo
  have hb' : (i.bytes : Int) * (n : Int) ≤ 281474976710656 := by
    have h : ((i.bytes * n : Nat) : Int) ≤ 281474976710656 := by rw [hb]; omega
    rwa [Int.natCast_mul] at h
  have hr := run_make (P := P) w t e i z ht hi hz .i64 .i64 n n (by omega) (Int.le_refl _) hb' (by omega)
  simp only [Int.toNat_natCast, hs] at hr
  exact hr

theorem info_Cell : (Tryz.prog.info? 62).map (fun i => (i.zero, i.size, i.bytes)) = some (some (.agg #[.int .i64 0, .int .i64 0, .int .i64 0]), 3, 24) := by kernel_rfl
set_option maxHeartbeats 400000 in
theorem toCell_any (x0 x1 x2 : Int) (w : World) :
    Calls Tryz.prog 39 #[.agg #[.int .i64 x0, .int .i64 x1, .int .i64 x2]] w fun e w' => e = .returned (.agg #[.int .i64 x0, .int .i64 x1, .int .i64 x2]) ∧ Below w.heap.size w w' := by
  go_enter Tryz.func39, Tryz.ntmps39
  go_wp2
  exact bodyPost_ret (v := .agg #[.int .i64 x0, .int .i64 x1, .int .i64 x2]) (by simp [results, Tryz.results39, go_sem]) rfl ⟨rfl, (((Below.refl _ _).alloc (Nat.le_refl _) _).alloc (by simp) _).alloc (by simp; omega) _⟩
set_option maxHeartbeats 400000 in
theorem toCellS_any (v : Value) (B n : Nat) (F : Nat → Int) (w : World) (h : Row w B 3 n F v) (hn : n ≤ 1048576) :
    Calls Tryz.prog 18 #[v] w fun e w' => ∃ u, e = .returned u ∧ Row w' w.heap.size 3 n F u ∧ Free w' (n * 3) u ∧ Below w.heap.size w w' := by
  obtain ⟨ao, cp, rfl⟩ := h.form
  have H : Hid (Row w B 3 n F (.slice ao n cp)) := h
  clear h
  have hmk := make_row Tryz.underlying28 info_Cell n (by omega) (by omega)
  go_enter Tryz.func18, Tryz.ntmps18
  go_wp2
  go_loopw [4] (fun i wr => ∃ k : Nat, k ≤ n ∧ i = .int .i64 k ∧ Hid (Below w.heap.size w wr ∧ Fill wr w.heap.size 0 (n * 3) (k * 3) F)) (fun i _ => n - (intOf i).toNat)
  case atStart => exact ⟨0, Nat.zero_le _, rfl, below_alloc _ _, by rw [Nat.zero_mul]; exact Fill.made _ _ _ _ _⟩
  case round =>
    obtain ⟨k, hk, rfl, hR⟩ := hrel
    by_cases hlt : k < n
    · obtain ⟨g, o, rfl, _, hg, c0, c1, c2⟩ := H.out.at3 hlt
      have b0 := hR.out.1.cell (p := ⟨g, o + k * 3, none⟩) hg
      rw [c0] at b0
      have b1 := hR.out.1.cell (p := ⟨g, o + k * 3 + 1, none⟩) hg
      rw [c1] at b1
      have b2 := hR.out.1.cell (p := ⟨g, o + k * 3 + 2, none⟩) hg
      rw [c2] at b2
      clear c0 c1 c2
      go_wp2_with fail
      refine (toCell_any _ _ _ _).mono ?_
      rintro e w1 ⟨rfl, q1⟩
      have f1 := hR.out.2.later q1
      obtain ⟨v0, d0, e0⟩ := f1.at (p := k * 3) (by omega)
      obtain ⟨v1, d1, e1⟩ := f1.at (p := k * 3 + 1) (by omega)
      obtain ⟨v2, d2, e2⟩ := f1.at (p := k * 3 + 2) (by omega)
      have HF : Hid (Below w.heap.size w w1 ∧ Fill w1 w.heap.size 0 (n * 3) (k * 3) F) := ⟨hR.out.1.trans (q1.mono hR.out.1.size), f1⟩
      clear q1 f1 b0 b1 b2
      simp only [Nat.zero_add] at d0 e0 d1 e1 d2 e2
      go_wp2
      go_roundw
      case rel =>
        refine ⟨k + 1, by omega, by go_num, (((HF.out.1.setCell (Nat.le_refl _) _).setCell (Nat.le_refl _) _).setCell (Nat.le_refl _) _), ?_⟩
        have hq := (((HF.out.2.put0 (by omega)).put0 (by omega)).put0 (by omega))
        rwa [show k * 3 + 1 + 1 + 1 = (k + 1) * 3 by omega] at hq
      case measure => simp [intOf]; omega
    · obtain rfl : k = n := by omega
      go_wp2
      go_ret
      exact ⟨_, rfl, (hR.out.2.row (Nat.le_refl _) _).1, (hR.out.2.row (B := 0) (Nat.zero_le _) _).2, hR.out.1⟩
set_option maxHeartbeats 400000 in
theorem szCellS_ok (a : Option Addr) (n c : Nat) (left : Int) (w : World) (h : (n : Int) ≤ left) (h2 : left ≤ 1048576) :
    Calls Tryz.prog 13 #[.slice a n c, .int .i64 left] w fun e w' => e = .returned (.int .i64 (left - n)) ∧ w' = w := by
  have d : decide (left - n < 0) = false := decide_eq_false (by omega)
  go_enter Tryz.func13, Tryz.ntmps13
  go_wp2
  go_ret
  exact ⟨rfl, rfl⟩
set_option maxHeartbeats 400000 in
theorem szCellS_no (a : Option Addr) (n c : Nat) (left : Int) (w : World) (h : left < n) (h0 : 0 ≤ left) (h2 : left ≤ 1048576) (hn : n ≤ 9223372036854775807) :
    Calls Tryz.prog 13 #[.slice a n c, .int .i64 left] w fun e w' => e = .returned (.int .i64 (-1)) ∧ w' = w := by
  have d : decide (left - n < 0) = true := decide_eq_true (by omega)
  go_enter Tryz.func13, Tryz.ntmps13
  go_wp2
  go_ret
  exact ⟨rfl, rfl⟩

theorem info_Lock : (Tryz.prog.info? 65).map (fun i => (i.zero, i.size, i.bytes)) = some (some (.agg #[.int .i64 0, .int .i64 0, .int .i64 0, .int .i64 0, .int .i64 0]), 5, 40) := by kernel_rfl
set_option maxHeartbeats 400000 in
theorem toLock_any (x0 x1 x2 x3 x4 : Int) (w : World) :
    Calls Tryz.prog 40 #[.agg #[.int .i64 x0, .int .i64 x1, .int .i64 x2, .int .i64 x3, .int .i64 x4]] w fun e w' => e = .returned (.agg #[.int .i64 x0, .int .i64 x1, .int .i64 x2, .int .i64 x3, .int .i64 x4]) ∧ Below w.heap.size w w' := by
  go_enter Tryz.func40, Tryz.ntmps40
  go_wp2
  exact bodyPost_ret (v := .agg #[.int .i64 x0, .int .i64 x1, .int .i64 x2, .int .i64 x3, .int .i64 x4]) (by simp [results, Tryz.results40, go_sem]) rfl ⟨rfl, (((Below.refl _ _).alloc (Nat.le_refl _) _).alloc (by simp) _).alloc (by simp; omega) _⟩
set_option maxHeartbeats 400000 in
theorem toLockS_any (v : Value) (B n : Nat) (F : Nat → Int) (w : World) (h : Row w B 5 n F v) (hn : n ≤ 1048576) :
    Calls Tryz.prog 19 #[v] w fun e w' => ∃ u, e = .returned u ∧ Row w' w.heap.size 5 n F u ∧ Free w' (n * 5) u ∧ Below w.heap.size w w' := by
  obtain ⟨ao, cp, rfl⟩ := h.form
  have H : Hid (Row w B 5 n F (.slice ao n cp)) := h
  clear h
  have hmk := make_row Tryz.underlying29 info_Lock n (by omega) (by omega)
  go_enter Tryz.func19, Tryz.ntmps19
  go_wp2
  go_loopw [4] (fun i wr => ∃ k : Nat, k ≤ n ∧ i = .int .i64 k ∧ Hid (Below w.heap.size w wr ∧ Fill wr w.heap.size 0 (n * 5) (k * 5) F)) (fun i _ => n - (intOf i).toNat)
  case atStart => exact ⟨0, Nat.zero_le _, rfl, below_alloc _ _, by rw [Nat.zero_mul]; exact Fill.made _ _ _ _ _⟩
  case round =>
    obtain ⟨k, hk, rfl, hR⟩ := hrel
    by_cases hlt : k < n
    · obtain ⟨g, o, rfl, _, hg, c0, c1, c2, c3, c4⟩ := H.out.at5 hlt
      have b0 := hR.out.1.cell (p := ⟨g, o + k * 5, none⟩) hg
      rw [c0] at b0
      have b1 := hR.out.1.cell (p := ⟨g, o + k * 5 + 1, none⟩) hg
      rw [c1] at b1
      have b2 := hR.out.1.cell (p := ⟨g, o + k * 5 + 2, none⟩) hg
      rw [c2] at b2
      have b3 := hR.out.1.cell (p := ⟨g, o + k * 5 + 3, none⟩) hg
      rw [c3] at b3
      have b4 := hR.out.1.cell (p := ⟨g, o + k * 5 + 4, none⟩) hg
      rw [c4] at b4
      clear c0 c1 c2 c3 c4
      go_wp2_with fail
      refine (toLock_any _ _ _ _ _ _).mono ?_
      rintro e w1 ⟨rfl, q1⟩
      have f1 := hR.out.2.later q1
      obtain ⟨v0, d0, e0⟩ := f1.at (p := k * 5) (by omega)
      obtain ⟨v1, d1, e1⟩ := f1.at (p := k * 5 + 1) (by omega)
      obtain ⟨v2, d2, e2⟩ := f1.at (p := k * 5 + 2) (by omega)
      obtain ⟨v3, d3, e3⟩ := f1.at (p := k * 5 + 3) (by omega)
      obtain ⟨v4, d4, e4⟩ := f1.at (p := k * 5 + 4) (by omega)
      have HF : Hid (Below w.heap.size w w1 ∧ Fill w1 w.heap.size 0 (n * 5) (k * 5) F) := ⟨hR.out.1.trans (q1.mono hR.out.1.size), f1⟩
      clear q1 f1 b0 b1 b2 b3 b4
      simp only [Nat.zero_add] at d0 e0 d1 e1 d2 e2 d3 e3 d4 e4
      go_wp2
      go_roundw
      case rel =>
        refine ⟨k + 1, by omega, by go_num, (((((HF.out.1.setCell (Nat.le_refl _) _).setCell (Nat.le_refl _) _).setCell (Nat.le_refl _) _).setCell (Nat.le_refl _) _).setCell (Nat.le_refl _) _), ?_⟩
        have hq := (((((HF.out.2.put0 (by omega)).put0 (by omega)).put0 (by omega)).put0 (by omega)).put0 (by omega))
        rwa [show k * 5 + 1 + 1 + 1 + 1 + 1 = (k + 1) * 5 by omega] at hq
      case measure => simp [intOf]; omega
    · obtain rfl : k = n := by omega
      go_wp2
      go_ret
      exact ⟨_, rfl, (hR.out.2.row (Nat.le_refl _) _).1, (hR.out.2.row (B := 0) (Nat.zero_le _) _).2, hR.out.1⟩
set_option maxHeartbeats 400000 in
theorem szLockS_ok (a : Option Addr) (n c : Nat) (left : Int) (w : World) (h : (n : Int) ≤ left) (h2 : left ≤ 1048576) :
    Calls Tryz.prog 14 #[.slice a n c, .int .i64 left] w fun e w' => e = .returned (.int .i64 (left - n)) ∧ w' = w := by
  have d : decide (left - n < 0) = false := decide_eq_false (by omega)
  go_enter Tryz.func14, Tryz.ntmps14
  go_wp2
  go_ret
  exact ⟨rfl, rfl⟩
set_option maxHeartbeats 400000 in
theorem szLockS_no (a : Option Addr) (n c : Nat) (left : Int) (w : World) (h : left < n) (h0 : 0 ≤ left) (h2 : left ≤ 1048576) (hn : n ≤ 9223372036854775807) :
    Calls Tryz.prog 14 #[.slice a n c, .int .i64 left] w fun e w' => e = .returned (.int .i64 (-1)) ∧ w' = w := by
  have d : decide (left - n < 0) = true := decide_eq_true (by omega)
  go_enter Tryz.func14, Tryz.ntmps14
  go_wp2
  go_ret
  exact ⟨rfl, rfl⟩

theorem info_Write : (Tryz.prog.info? 68).map (fun i => (i.zero, i.size, i.bytes)) = some (some (.agg #[.int .i64 0, .int .i64 0, .int .i64 0, .int .i64 0]), 4, 32) := by kernel_rfl
set_option maxHeartbeats 400000 in
theorem toWrite_any (x0 x1 x2 x3 : Int) (w : World) :
    Calls Tryz.prog 41 #[.agg #[.int .i64 x0, .int .i64 x1, .int .i64 x2, .int .i64 x3]] w fun e w' => e = .returned (.agg #[.int .i64 x0, .int .i64 x1, .int .i64 x2, .int .i64 x3]) ∧ Below w.heap.size w w' := by
  go_enter Tryz.func41, Tryz.ntmps41
  go_wp2
  exact bodyPost_ret (v := .agg #[.int .i64 x0, .int .i64 x1, .int .i64 x2, .int .i64 x3]) (by simp [results, Tryz.results41, go_sem]) rfl ⟨rfl, (((Below.refl _ _).alloc (Nat.le_refl _) _).alloc (by simp) _).alloc (by simp; omega) _⟩
set_option maxHeartbeats 400000 in
theorem toWriteS_any (v : Value) (B n : Nat) (F : Nat → Int) (w : World) (h : Row w B 4 n F v) (hn : n ≤ 1048576) :
    Calls Tryz.prog 20 #[v] w fun e w' => ∃ u, e = .returned u ∧ Row w' w.heap.size 4 n F u ∧ Free w' (n * 4) u ∧ Below w.heap.size w w' := by
  obtain ⟨ao, cp, rfl⟩ := h.form
  have H : Hid (Row w B 4 n F (.slice ao n cp)) := h
  clear h
  have hmk := make_row Tryz.underlying30 info_Write n (by omega) (by omega)
  go_enter Tryz.func20, Tryz.ntmps20
  go_wp2
  go_loopw [4] (fun i wr => ∃ k : Nat, k ≤ n ∧ i = .int .i64 k ∧ Hid (Below w.heap.size w wr ∧ Fill wr w.heap.size 0 (n * 4) (k * 4) F)) (fun i _ => n - (intOf i).toNat)
  case atStart => exact ⟨0, Nat.zero_le _, rfl, below_alloc _ _, by rw [Nat.zero_mul]; exact Fill.made _ _ _ _ _⟩
  case round =>
    obtain ⟨k, hk, rfl, hR⟩ := hrel
    by_cases hlt : k < n
    · obtain ⟨g, o, rfl, _, hg, c0, c1, c2, c3⟩ := H.out.at4 hlt
      have b0 := hR.out.1.cell (p := ⟨g, o + k * 4, none⟩) hg
      rw [c0] at b0
      have b1 := hR.out.1.cell (p := ⟨g, o + k * 4 + 1, none⟩) hg
      rw [c1] at b1
      have b2 := hR.out.1.cell (p := ⟨g, o + k * 4 + 2, none⟩) hg
      rw [c2] at b2
      have b3 := hR.out.1.cell (p := ⟨g, o + k * 4 + 3, none⟩) hg
      rw [c3] at b3
      clear c0 c1 c2 c3
      go_wp2_with fail
      refine (toWrite_any _ _ _ _ _).mono ?_
      rintro e w1 ⟨rfl, q1⟩
      have f1 := hR.out.2.later q1
      obtain ⟨v0, d0, e0⟩ := f1.at (p := k * 4) (by omega)
      obtain ⟨v1, d1, e1⟩ := f1.at (p := k * 4 + 1) (by omega)
      obtain ⟨v2, d2, e2⟩ := f1.at (p := k * 4 + 2) (by omega)
      obtain ⟨v3, d3, e3⟩ := f1.at (p := k * 4 + 3) (by omega)
      have HF : Hid (Below w.heap.size w w1 ∧ Fill w1 w.heap.size 0 (n * 4) (k * 4) F) := ⟨hR.out.1.trans (q1.mono hR.out.1.size), f1⟩
      clear q1 f1 b0 b1 b2 b3
      simp only [Nat.zero_add] at d0 e0 d1 e1 d2 e2 d3 e3
      go_wp2
      go_roundw
      case rel =>
        refine ⟨k + 1, by omega, by go_num, ((((HF.out.1.setCell (Nat.le_refl _) _).setCell (Nat.le_refl _) _).setCell (Nat.le_refl _) _).setCell (Nat.le_refl _) _), ?_⟩
        have hq := ((((HF.out.2.put0 (by omega)).put0 (by omega)).put0 (by omega)).put0 (by omega))
        rwa [show k * 4 + 1 + 1 + 1 + 1 = (k + 1) * 4 by omega] at hq
      case measure => simp [intOf]; omega
    · obtain rfl : k = n := by omega
      go_wp2
      go_ret
      exact ⟨_, rfl, (hR.out.2.row (Nat.le_refl _) _).1, (hR.out.2.row (B := 0) (Nat.zero_le _) _).2, hR.out.1⟩
set_option maxHeartbeats 400000 in
theorem szWriteS_ok (a : Option Addr) (n c : Nat) (left : Int) (w : World) (h : (n : Int) ≤ left) (h2 : left ≤ 1048576) :
    Calls Tryz.prog 15 #[.slice a n c, .int .i64 left] w fun e w' => e = .returned (.int .i64 (left - n)) ∧ w' = w := by
  have d : decide (left - n < 0) = false := decide_eq_false (by omega)
  go_enter Tryz.func15, Tryz.ntmps15
  go_wp2
  go_ret
  exact ⟨rfl, rfl⟩
set_option maxHeartbeats 400000 in
theorem szWriteS_no (a : Option Addr) (n c : Nat) (left : Int) (w : World) (h : left < n) (h0 : 0 ≤ left) (h2 : left ≤ 1048576) (hn : n ≤ 9223372036854775807) :
    Calls Tryz.prog 15 #[.slice a n c, .int .i64 left] w fun e w' => e = .returned (.int .i64 (-1)) ∧ w' = w := by
  have d : decide (left - n < 0) = true := decide_eq_true (by omega)
  go_enter Tryz.func15, Tryz.ntmps15
  go_wp2
  go_ret
  exact ⟨rfl, rfl⟩

end Go.Proofs.YtknbeggnlhiamaaGreat

namespace Go.Proofs.YtknbeggnlhiamaaGreat
open Go.RowKit

set_option maxHeartbeats 400000 in
theorem eqCell_same (x0 x1 x2 : Int) (w : World) :
    Calls Tryz.prog 56 #[.agg #[.int .i64 x0, .int .i64 x1, .int .i64 x2], .agg #[.int .i64 x0, .int .i64 x1, .int .i64 x2]] w fun e w' => e = .returned (.bool true) ∧ Below w.heap.size w w' := by
  go_enter Tryz.func56, Tryz.ntmps56
  go_wp2
  go_ret
  exact ⟨rfl, ((Below.refl _ _).alloc (Nat.le_refl _) _).alloc (by simp) _⟩
def TwoCell (w : World) (g o g' o' k : Nat) (F : Nat → Int) (x : World) : Prop := (x.cell? ⟨g, o + k * 3, none⟩ = some (.int .i64 (F (k * 3))) ∧ x.cell? ⟨g, o + k * 3 + 1, none⟩ = some (.int .i64 (F (k * 3 + 1))) ∧ x.cell? ⟨g, o + k * 3 + 2, none⟩ = some (.int .i64 (F (k * 3 + 2))) ∧ x.cell? ⟨g', o' + k * 3, none⟩ = some (.int .i64 (F (k * 3))) ∧ x.cell? ⟨g', o' + k * 3 + 1, none⟩ = some (.int .i64 (F (k * 3 + 1))) ∧ x.cell? ⟨g', o' + k * 3 + 2, none⟩ = some (.int .i64 (F (k * 3 + 2)))) ∧ Below w.heap.size w x
theorem TwoCell.later {w x x' : World} {g o g' o' k : Nat} {F : Nat → Int} (h : TwoCell w g o g' o' k F x) (hg : g < w.heap.size) (hg' : g' < w.heap.size) (hb : Below x.heap.size x x') : TwoCell w g o g' o' k F x' := by
  obtain ⟨⟨hx0, hx1, hx2, hx3, hx4, hx5⟩, hy⟩ := h
  exact ⟨⟨(hb.cell (Nat.lt_of_lt_of_le hg hy.size)).trans hx0, (hb.cell (Nat.lt_of_lt_of_le hg hy.size)).trans hx1, (hb.cell (Nat.lt_of_lt_of_le hg hy.size)).trans hx2, (hb.cell (Nat.lt_of_lt_of_le hg' hy.size)).trans hx3, (hb.cell (Nat.lt_of_lt_of_le hg' hy.size)).trans hx4, (hb.cell (Nat.lt_of_lt_of_le hg' hy.size)).trans hx5⟩, hy.trans (hb.mono hy.size)⟩
set_option maxRecDepth 100000 in
set_option maxHeartbeats 1000000 in
theorem eqCellS_same (va vb : Value) (Ba Bb n : Nat) (F : Nat → Int) (w : World) (ha : Row w Ba 3 n F va) (hb : Row w Bb 3 n F vb) (hn : n ≤ 1048576) :
    Calls Tryz.prog 23 #[va, vb] w fun e w' => e = .returned (.bool true) ∧ Below w.heap.size w w' := by
  obtain ⟨ao, ca, rfl⟩ := ha.form
  obtain ⟨bo, cb, rfl⟩ := hb.form
  have HA : Hid (Row w Ba 3 n F (.slice ao n ca)) := ha
  have HB : Hid (Row w Bb 3 n F (.slice bo n cb)) := hb
  clear ha hb
  go_enter Tryz.func23, Tryz.ntmps23
  go_wp2
  go_loopw [5] (fun i wr => ∃ k : Nat, k ≤ n ∧ i = .int .i64 k ∧ Below w.heap.size w wr) (fun i _ => n - (intOf i).toNat)
  case atStart => exact ⟨0, Nat.zero_le _, rfl, Below.refl _ _⟩
  case round =>
    obtain ⟨k, hk, rfl, hbw⟩ := hrel
    by_cases hlt : k < n
    · obtain ⟨g, o, rfl, _, hg, c0, c1, c2⟩ := HA.out.at3 hlt
      obtain ⟨g', o', rfl, _, hg', d0, d1, d2⟩ := HB.out.at3 hlt
      have h0 : TwoCell w g o g' o' k F wr.drew := ⟨⟨(hbw.cell (p := ⟨g, o + k * 3, none⟩) hg).trans c0, (hbw.cell (p := ⟨g, o + k * 3 + 1, none⟩) hg).trans c1, (hbw.cell (p := ⟨g, o + k * 3 + 2, none⟩) hg).trans c2, (hbw.cell (p := ⟨g', o' + k * 3, none⟩) hg').trans d0, (hbw.cell (p := ⟨g', o' + k * 3 + 1, none⟩) hg').trans d1, (hbw.cell (p := ⟨g', o' + k * 3 + 2, none⟩) hg').trans d2⟩, hbw.drew⟩
      clear c0 d0 c1 d1 c2 d2 hbw
      go_wp2_with fail
      refine wp_region_held_drew (S := TwoCell w g o g' o' k F) (by kernel_rfl) h0 (fun hS => ?_)
      clear h0
      refine tkH 0 ?_ hS (fun wx hx => ?_) ?_; rotate_left
      · obtain ⟨⟨hx0, hx1, hx2, hx3, hx4, hx5⟩, _⟩ := hx; go_simp; try with_reducible rfl
      refine tkH 1 ?_ hS (fun wx hx => ?_) ?_; rotate_left
      · obtain ⟨⟨hx0, hx1, hx2, hx3, hx4, hx5⟩, _⟩ := hx; go_simp; try with_reducible rfl
      refine tkH 2 ?_ hS (fun wx hx => ?_) ?_; rotate_left
      · obtain ⟨⟨hx0, hx1, hx2, hx3, hx4, hx5⟩, _⟩ := hx; go_simp; try with_reducible rfl
      refine tkH 3 ?_ hS (fun wx hx => ?_) ?_; rotate_left
      · obtain ⟨⟨hx0, hx1, hx2, hx3, hx4, hx5⟩, _⟩ := hx; go_simp; try with_reducible rfl
      refine tkH 4 ?_ hS (fun wx hx => ?_) ?_; rotate_left
      · obtain ⟨⟨hx0, hx1, hx2, hx3, hx4, hx5⟩, _⟩ := hx; go_simp; try with_reducible rfl
      refine tkH 5 ?_ hS (fun wx hx => ?_) ?_; rotate_left
      · obtain ⟨⟨hx0, hx1, hx2, hx3, hx4, hx5⟩, _⟩ := hx; go_simp; try with_reducible rfl
      refine tkH 6 ?_ hS (fun wx hx => ?_) ?_; rotate_left
      · obtain ⟨⟨hx0, hx1, hx2, hx3, hx4, hx5⟩, _⟩ := hx; go_simp; try with_reducible rfl
      refine tkH 7 ?_ hS (fun wx hx => ?_) ?_; rotate_left
      · obtain ⟨⟨hx0, hx1, hx2, hx3, hx4, hx5⟩, _⟩ := hx; go_simp; try with_reducible rfl
      refine rdH 8 (fun K hK => ?_)
      go_simp
      go_wp2_with fail
      refine (eqCell_same _ _ _ _).mono ?_
      rintro e w' ⟨rfl, hb⟩
      go_wp2_with fail
      refine hK.out _ _ (hS.later hg hg' hb) (fun hS => ?_)
      clear hK K
      refine tkH 9 ?_ hS (fun wx hx => ?_) ?_; rotate_left
      · obtain ⟨⟨hx0, hx1, hx2, hx3, hx4, hx5⟩, _⟩ := hx; go_simp; try with_reducible rfl
      refine wpAnyH_done (by kernel_rfl) ?_ _
      go_simp
      go_wp2
      go_roundw
      case rel => exact ⟨k + 1, by omega, by go_num, hS.2⟩
      case measure => simp [intOf]; omega
    · go_wp2
      go_ret
      exact ⟨rfl, hbw⟩
set_option maxHeartbeats 400000 in
theorem eqLock_same (x0 x1 x2 x3 x4 : Int) (w : World) :
    Calls Tryz.prog 57 #[.agg #[.int .i64 x0, .int .i64 x1, .int .i64 x2, .int .i64 x3, .int .i64 x4], .agg #[.int .i64 x0, .int .i64 x1, .int .i64 x2, .int .i64 x3, .int .i64 x4]] w fun e w' => e = .returned (.bool true) ∧ Below w.heap.size w w' := by
  go_enter Tryz.func57, Tryz.ntmps57
  go_wp2
  go_ret
  exact ⟨rfl, ((Below.refl _ _).alloc (Nat.le_refl _) _).alloc (by simp) _⟩
def TwoLock (w : World) (g o g' o' k : Nat) (F : Nat → Int) (x : World) : Prop := (x.cell? ⟨g, o + k * 5, none⟩ = some (.int .i64 (F (k * 5))) ∧ x.cell? ⟨g, o + k * 5 + 1, none⟩ = some (.int .i64 (F (k * 5 + 1))) ∧ x.cell? ⟨g, o + k * 5 + 2, none⟩ = some (.int .i64 (F (k * 5 + 2))) ∧ x.cell? ⟨g, o + k * 5 + 3, none⟩ = some (.int .i64 (F (k * 5 + 3))) ∧ x.cell? ⟨g, o + k * 5 + 4, none⟩ = some (.int .i64 (F (k * 5 + 4))) ∧ x.cell? ⟨g', o' + k * 5, none⟩ = some (.int .i64 (F (k * 5))) ∧ x.cell? ⟨g', o' + k * 5 + 1, none⟩ = some (.int .i64 (F (k * 5 + 1))) ∧ x.cell? ⟨g', o' + k * 5 + 2, none⟩ = some (.int .i64 (F (k * 5 + 2))) ∧ x.cell? ⟨g', o' + k * 5 + 3, none⟩ = some (.int .i64 (F (k * 5 + 3))) ∧ x.cell? ⟨g', o' + k * 5 + 4, none⟩ = some (.int .i64 (F (k * 5 + 4)))) ∧ Below w.heap.size w x
theorem TwoLock.later {w x x' : World} {g o g' o' k : Nat} {F : Nat → Int} (h : TwoLock w g o g' o' k F x) (hg : g < w.heap.size) (hg' : g' < w.heap.size) (hb : Below x.heap.size x x') : TwoLock w g o g' o' k F x' := by
  obtain ⟨⟨hx0, hx1, hx2, hx3, hx4, hx5, hx6, hx7, hx8, hx9⟩, hy⟩ := h
  exact ⟨⟨(hb.cell (Nat.lt_of_lt_of_le hg hy.size)).trans hx0, (hb.cell (Nat.lt_of_lt_of_le hg hy.size)).trans hx1, (hb.cell (Nat.lt_of_lt_of_le hg hy.size)).trans hx2, (hb.cell (Nat.lt_of_lt_of_le hg hy.size)).trans hx3, (hb.cell (Nat.lt_of_lt_of_le hg hy.size)).trans hx4, (hb.cell (Nat.lt_of_lt_of_le hg' hy.size)).trans hx5, (hb.cell (Nat.lt_of_lt_of_le hg' hy.size)).trans hx6, (hb.cell (Nat.lt_of_lt_of_le hg' hy.size)).trans hx7, (hb.cell (Nat.lt_of_lt_of_le hg' hy.size)).trans hx8, (hb.cell (Nat.lt_of_lt_of_le hg' hy.size)).trans hx9⟩, hy.trans (hb.mono hy.size)⟩
set_option maxRecDepth 100000 in
set_option maxHeartbeats 1000000 in
theorem eqLockS_same (va vb : Value) (Ba Bb n : Nat) (F : Nat → Int) (w : World) (ha : Row w Ba 5 n F va) (hb : Row w Bb 5 n F vb) (hn : n ≤ 1048576) :
    Calls Tryz.prog 24 #[va, vb] w fun e w' => e = .returned (.bool true) ∧ Below w.heap.size w w' := by
  obtain ⟨ao, ca, rfl⟩ := ha.form
  obtain ⟨bo, cb, rfl⟩ := hb.form
  have HA : Hid (Row w Ba 5 n F (.slice ao n ca)) := ha
  have HB : Hid (Row w Bb 5 n F (.slice bo n cb)) := hb
  clear ha hb
  go_enter Tryz.func24, Tryz.ntmps24
  go_wp2
  go_loopw [5] (fun i wr => ∃ k : Nat, k ≤ n ∧ i = .int .i64 k ∧ Below w.heap.size w wr) (fun i _ => n - (intOf i).toNat)
  case atStart => exact ⟨0, Nat.zero_le _, rfl, Below.refl _ _⟩
  case round =>
    obtain ⟨k, hk, rfl, hbw⟩ := hrel
    by_cases hlt : k < n
    · obtain ⟨g, o, rfl, _, hg, c0, c1, c2, c3, c4⟩ := HA.out.at5 hlt
      obtain ⟨g', o', rfl, _, hg', d0, d1, d2, d3, d4⟩ := HB.out.at5 hlt
      have h0 : TwoLock w g o g' o' k F wr.drew := ⟨⟨(hbw.cell (p := ⟨g, o + k * 5, none⟩) hg).trans c0, (hbw.cell (p := ⟨g, o + k * 5 + 1, none⟩) hg).trans c1, (hbw.cell (p := ⟨g, o + k * 5 + 2, none⟩) hg).trans c2, (hbw.cell (p := ⟨g, o + k * 5 + 3, none⟩) hg).trans c3, (hbw.cell (p := ⟨g, o + k * 5 + 4, none⟩) hg).trans c4, (hbw.cell (p := ⟨g', o' + k * 5, none⟩) hg').trans d0, (hbw.cell (p := ⟨g', o' + k * 5 + 1, none⟩) hg').trans d1, (hbw.cell (p := ⟨g', o' + k * 5 + 2, none⟩) hg').trans d2, (hbw.cell (p := ⟨g', o' + k * 5 + 3, none⟩) hg').trans d3, (hbw.cell (p := ⟨g', o' + k * 5 + 4, none⟩) hg').trans d4⟩, hbw.drew⟩
      clear c0 d0 c1 d1 c2 d2 c3 d3 c4 d4 hbw
      go_wp2_with fail
      refine wp_region_held_drew (S := TwoLock w g o g' o' k F) (by kernel_rfl) h0 (fun hS => ?_)
      clear h0
      refine tkH 0 ?_ hS (fun wx hx => ?_) ?_; rotate_left
      · obtain ⟨⟨hx0, hx1, hx2, hx3, hx4, hx5, hx6, hx7, hx8, hx9⟩, _⟩ := hx; go_simp; try with_reducible rfl
      refine tkH 1 ?_ hS (fun wx hx => ?_) ?_; rotate_left
      · obtain ⟨⟨hx0, hx1, hx2, hx3, hx4, hx5, hx6, hx7, hx8, hx9⟩, _⟩ := hx; go_simp; try with_reducible rfl
      refine tkH 2 ?_ hS (fun wx hx => ?_) ?_; rotate_left
      · obtain ⟨⟨hx0, hx1, hx2, hx3, hx4, hx5, hx6, hx7, hx8, hx9⟩, _⟩ := hx; go_simp; try with_reducible rfl
      refine tkH 3 ?_ hS (fun wx hx => ?_) ?_; rotate_left
      · obtain ⟨⟨hx0, hx1, hx2, hx3, hx4, hx5, hx6, hx7, hx8, hx9⟩, _⟩ := hx; go_simp; try with_reducible rfl
      refine tkH 4 ?_ hS (fun wx hx => ?_) ?_; rotate_left
      · obtain ⟨⟨hx0, hx1, hx2, hx3, hx4, hx5, hx6, hx7, hx8, hx9⟩, _⟩ := hx; go_simp; try with_reducible rfl
      refine tkH 5 ?_ hS (fun wx hx => ?_) ?_; rotate_left
      · obtain ⟨⟨hx0, hx1, hx2, hx3, hx4, hx5, hx6, hx7, hx8, hx9⟩, _⟩ := hx; go_simp; try with_reducible rfl
      refine tkH 6 ?_ hS (fun wx hx => ?_) ?_; rotate_left
      · obtain ⟨⟨hx0, hx1, hx2, hx3, hx4, hx5, hx6, hx7, hx8, hx9⟩, _⟩ := hx; go_simp; try with_reducible rfl
      refine tkH 7 ?_ hS (fun wx hx => ?_) ?_; rotate_left
      · obtain ⟨⟨hx0, hx1, hx2, hx3, hx4, hx5, hx6, hx7, hx8, hx9⟩, _⟩ := hx; go_simp; try with_reducible rfl
      refine rdH 8 (fun K hK => ?_)
      go_simp
      go_wp2_with fail
      refine (eqLock_same _ _ _ _ _ _).mono ?_
      rintro e w' ⟨rfl, hb⟩
      go_wp2_with fail
      refine hK.out _ _ (hS.later hg hg' hb) (fun hS => ?_)
      clear hK K
      refine tkH 9 ?_ hS (fun wx hx => ?_) ?_; rotate_left
      · obtain ⟨⟨hx0, hx1, hx2, hx3, hx4, hx5, hx6, hx7, hx8, hx9⟩, _⟩ := hx; go_simp; try with_reducible rfl
      refine wpAnyH_done (by kernel_rfl) ?_ _
      go_simp
      go_wp2
      go_roundw
      case rel => exact ⟨k + 1, by omega, by go_num, hS.2⟩
      case measure => simp [intOf]; omega
    · go_wp2
      go_ret
      exact ⟨rfl, hbw⟩
set_option maxHeartbeats 400000 in
theorem eqWrite_same (x0 x1 x2 x3 : Int) (w : World) :
    Calls Tryz.prog 58 #[.agg #[.int .i64 x0, .int .i64 x1, .int .i64 x2, .int .i64 x3], .agg #[.int .i64 x0, .int .i64 x1, .int .i64 x2, .int .i64 x3]] w fun e w' => e = .returned (.bool true) ∧ Below w.heap.size w w' := by
  go_enter Tryz.func58, Tryz.ntmps58
  go_wp2
  go_ret
  exact ⟨rfl, ((Below.refl _ _).alloc (Nat.le_refl _) _).alloc (by simp) _⟩
def TwoWrite (w : World) (g o g' o' k : Nat) (F : Nat → Int) (x : World) : Prop := (x.cell? ⟨g, o + k * 4, none⟩ = some (.int .i64 (F (k * 4))) ∧ x.cell? ⟨g, o + k * 4 + 1, none⟩ = some (.int .i64 (F (k * 4 + 1))) ∧ x.cell? ⟨g, o + k * 4 + 2, none⟩ = some (.int .i64 (F (k * 4 + 2))) ∧ x.cell? ⟨g, o + k * 4 + 3, none⟩ = some (.int .i64 (F (k * 4 + 3))) ∧ x.cell? ⟨g', o' + k * 4, none⟩ = some (.int .i64 (F (k * 4))) ∧ x.cell? ⟨g', o' + k * 4 + 1, none⟩ = some (.int .i64 (F (k * 4 + 1))) ∧ x.cell? ⟨g', o' + k * 4 + 2, none⟩ = some (.int .i64 (F (k * 4 + 2))) ∧ x.cell? ⟨g', o' + k * 4 + 3, none⟩ = some (.int .i64 (F (k * 4 + 3)))) ∧ Below w.heap.size w x
theorem TwoWrite.later {w x x' : World} {g o g' o' k : Nat} {F : Nat → Int} (h : TwoWrite w g o g' o' k F x) (hg : g < w.heap.size) (hg' : g' < w.heap.size) (hb : Below x.heap.size x x') : TwoWrite w g o g' o' k F x' := by
  obtain ⟨⟨hx0, hx1, hx2, hx3, hx4, hx5, hx6, hx7⟩, hy⟩ := h
  exact ⟨⟨(hb.cell (Nat.lt_of_lt_of_le hg hy.size)).trans hx0, (hb.cell (Nat.lt_of_lt_of_le hg hy.size)).trans hx1, (hb.cell (Nat.lt_of_lt_of_le hg hy.size)).trans hx2, (hb.cell (Nat.lt_of_lt_of_le hg hy.size)).trans hx3, (hb.cell (Nat.lt_of_lt_of_le hg' hy.size)).trans hx4, (hb.cell (Nat.lt_of_lt_of_le hg' hy.size)).trans hx5, (hb.cell (Nat.lt_of_lt_of_le hg' hy.size)).trans hx6, (hb.cell (Nat.lt_of_lt_of_le hg' hy.size)).trans hx7⟩, hy.trans (hb.mono hy.size)⟩
set_option maxRecDepth 100000 in
set_option maxHeartbeats 1000000 in
theorem eqWriteS_same (va vb : Value) (Ba Bb n : Nat) (F : Nat → Int) (w : World) (ha : Row w Ba 4 n F va) (hb : Row w Bb 4 n F vb) (hn : n ≤ 1048576) :
    Calls Tryz.prog 25 #[va, vb] w fun e w' => e = .returned (.bool true) ∧ Below w.heap.size w w' := by
  obtain ⟨ao, ca, rfl⟩ := ha.form
  obtain ⟨bo, cb, rfl⟩ := hb.form
  have HA : Hid (Row w Ba 4 n F (.slice ao n ca)) := ha
  have HB : Hid (Row w Bb 4 n F (.slice bo n cb)) := hb
  clear ha hb
  go_enter Tryz.func25, Tryz.ntmps25
  go_wp2
  go_loopw [5] (fun i wr => ∃ k : Nat, k ≤ n ∧ i = .int .i64 k ∧ Below w.heap.size w wr) (fun i _ => n - (intOf i).toNat)
  case atStart => exact ⟨0, Nat.zero_le _, rfl, Below.refl _ _⟩
  case round =>
    obtain ⟨k, hk, rfl, hbw⟩ := hrel
    by_cases hlt : k < n
    · obtain ⟨g, o, rfl, _, hg, c0, c1, c2, c3⟩ := HA.out.at4 hlt
      obtain ⟨g', o', rfl, _, hg', d0, d1, d2, d3⟩ := HB.out.at4 hlt
      have h0 : TwoWrite w g o g' o' k F wr.drew := ⟨⟨(hbw.cell (p := ⟨g, o + k * 4, none⟩) hg).trans c0, (hbw.cell (p := ⟨g, o + k * 4 + 1, none⟩) hg).trans c1, (hbw.cell (p := ⟨g, o + k * 4 + 2, none⟩) hg).trans c2, (hbw.cell (p := ⟨g, o + k * 4 + 3, none⟩) hg).trans c3, (hbw.cell (p := ⟨g', o' + k * 4, none⟩) hg').trans d0, (hbw.cell (p := ⟨g', o' + k * 4 + 1, none⟩) hg').trans d1, (hbw.cell (p := ⟨g', o' + k * 4 + 2, none⟩) hg').trans d2, (hbw.cell (p := ⟨g', o' + k * 4 + 3, none⟩) hg').trans d3⟩, hbw.drew⟩
      clear c0 d0 c1 d1 c2 d2 c3 d3 hbw
      go_wp2_with fail
      refine wp_region_held_drew (S := TwoWrite w g o g' o' k F) (by kernel_rfl) h0 (fun hS => ?_)
      clear h0
      refine tkH 0 ?_ hS (fun wx hx => ?_) ?_; rotate_left
      · obtain ⟨⟨hx0, hx1, hx2, hx3, hx4, hx5, hx6, hx7⟩, _⟩ := hx; go_simp; try with_reducible rfl
      refine tkH 1 ?_ hS (fun wx hx => ?_) ?_; rotate_left
      · obtain ⟨⟨hx0, hx1, hx2, hx3, hx4, hx5, hx6, hx7⟩, _⟩ := hx; go_simp; try with_reducible rfl
      refine tkH 2 ?_ hS (fun wx hx => ?_) ?_; rotate_left
      · obtain ⟨⟨hx0, hx1, hx2, hx3, hx4, hx5, hx6, hx7⟩, _⟩ := hx; go_simp; try with_reducible rfl
      refine tkH 3 ?_ hS (fun wx hx => ?_) ?_; rotate_left
      · obtain ⟨⟨hx0, hx1, hx2, hx3, hx4, hx5, hx6, hx7⟩, _⟩ := hx; go_simp; try with_reducible rfl
      refine tkH 4 ?_ hS (fun wx hx => ?_) ?_; rotate_left
      · obtain ⟨⟨hx0, hx1, hx2, hx3, hx4, hx5, hx6, hx7⟩, _⟩ := hx; go_simp; try with_reducible rfl
      refine tkH 5 ?_ hS (fun wx hx => ?_) ?_; rotate_left
      · obtain ⟨⟨hx0, hx1, hx2, hx3, hx4, hx5, hx6, hx7⟩, _⟩ := hx; go_simp; try with_reducible rfl
      refine tkH 6 ?_ hS (fun wx hx => ?_) ?_; rotate_left
      · obtain ⟨⟨hx0, hx1, hx2, hx3, hx4, hx5, hx6, hx7⟩, _⟩ := hx; go_simp; try with_reducible rfl
      refine tkH 7 ?_ hS (fun wx hx => ?_) ?_; rotate_left
      · obtain ⟨⟨hx0, hx1, hx2, hx3, hx4, hx5, hx6, hx7⟩, _⟩ := hx; go_simp; try with_reducible rfl
      refine rdH 8 (fun K hK => ?_)
      go_simp
      go_wp2_with fail
      refine (eqWrite_same _ _ _ _ _).mono ?_
      rintro e w' ⟨rfl, hb⟩
      go_wp2_with fail
      refine hK.out _ _ (hS.later hg hg' hb) (fun hS => ?_)
      clear hK K
      refine tkH 9 ?_ hS (fun wx hx => ?_) ?_; rotate_left
      · obtain ⟨⟨hx0, hx1, hx2, hx3, hx4, hx5, hx6, hx7⟩, _⟩ := hx; go_simp; try with_reducible rfl
      refine wpAnyH_done (by kernel_rfl) ?_ _
      go_simp
      go_wp2
      go_roundw
      case rel => exact ⟨k + 1, by omega, by go_num, hS.2⟩
      case measure => simp [intOf]; omega
    · go_wp2
      go_ret
      exact ⟨rfl, hbw⟩
end Go.Proofs.YtknbeggnlhiamaaGreat


namespace Go.Proofs.YtknbeggnlhiamaaGreat
open Go.RowKit
set_option linter.unusedVariables false

/-- The three rows of a new store lie one behind the other. -/
def ApartS (S : Sto) (u0 u1 u2 : Value) : Prop := ∃ z1 z2, z1 ≤ z2 ∧ (0 < S.nc → ∀ k, u0.ownBlock = some k → k < z1) ∧ (0 < S.nl → ∀ k, u1.ownBlock = some k → z1 ≤ k ∧ k < z2) ∧ (0 < S.nw → ∀ k, u2.ownBlock = some k → z2 ≤ k)
set_option maxHeartbeats 1000000 in
theorem toStore_any (S : Sto) (v0 v1 v2 : Value) (B : Nat) (w : World) (h : St w B S v0 v1 v2) (hc : S.nc ≤ 1048576) (hl : S.nl ≤ 1048576) (hk : S.nw ≤ 1048576) :
    Calls Tryz.prog 6 #[.agg #[v0, v1, v2]] w fun e w' => ∃ u0 u1 u2, e = .returned (.agg #[u0, u1, u2]) ∧ St w' w.heap.size S u0 u1 u2 ∧ (FreeS w' S u0 u1 u2 ∧ ApartS S u0 u1 u2) ∧ Below w.heap.size w w' := by
  obtain ⟨a0, c0, a1, c1, a2, c2, rfl, rfl, rfl⟩ := h.form
  have H : Hid (St w B S (.slice a0 S.nc c0) (.slice a1 S.nl c1) (.slice a2 S.nw c2)) := h
  clear h
  go_enter Tryz.func6, Tryz.ntmps6
  go_wp2_with fail
  refine (toCellS_any _ B _ _ _ (((H.out.1.alloc _).alloc _).alloc _) hc).mono ?_
  rintro e w1 ⟨u0, rfl, r0, f0, q1⟩
  obtain ⟨b0, d0, rfl⟩ := r0.form
  have k1 := (((Blk3.new w (.slice a0 S.nc c0) (.slice a1 S.nl c1) (.slice a2 S.nw c2) 26).alloc (.cells #[.slice none 0 0, .slice none 0 0, .slice none 0 0] 32)).alloc (.cells #[.slice none 0 0, .slice none 0 0, .slice none 0 0] 32)).later q1
  have k2 := ((Blk3.new (w.alloc (.cells #[.slice a0 S.nc c0, .slice a1 S.nl c1, .slice a2 S.nw c2] 26)) (.slice none 0 0) (.slice none 0 0) (.slice none 0 0) 32).alloc (.cells #[.slice none 0 0, .slice none 0 0, .slice none 0 0] 32)).later q1
  have k3 := (Blk3.new ((w.alloc (.cells #[.slice a0 S.nc c0, .slice a1 S.nl c1, .slice a2 S.nw c2] 26)).alloc (.cells #[.slice none 0 0, .slice none 0 0, .slice none 0 0] 32)) (.slice none 0 0) (.slice none 0 0) (.slice none 0 0) 32).later q1
  simp only [World.size_alloc] at k2 k3 r0 q1
  have B1 : Hid (Below w.heap.size w w1) := (((below_alloc w _).alloc (by simp) _).alloc (by simp; omega) _).trans (q1.mono (by omega))
  have P1 : Hid (Blk3 w1 w.heap.size (.slice a0 S.nc c0) (.slice a1 S.nl c1) (.slice a2 S.nw c2) ∧ Blk3 w1 (w.heap.size + 1) (.slice none 0 0) (.slice none 0 0) (.slice none 0 0) ∧ Blk3 w1 (w.heap.size + 2) (.slice none 0 0) (.slice none 0 0) (.slice none 0 0)) := ⟨k1, k2, k3⟩
  have R1 : Hid (Row w1 (w.heap.size + 3) 3 S.nc S.c (.slice b0 S.nc d0) ∧ Free w1 (S.nc * 3) (.slice b0 S.nc d0)) := ⟨r0, f0⟩
  obtain ⟨⟨_, x1, _⟩, _⟩ := k1
  obtain ⟨⟨y0, _, _⟩, z0, _, _⟩ := k3
  clear k2 r0 f0 q1
  go_wp2_with fail
  have B1' : Hid (Below w.heap.size w (w1.setCell ⟨w.heap.size + 2, 0, none⟩ (.slice b0 S.nc d0))) := B1.out.setCell (by simp) _
  refine (toLockS_any _ B _ _ _ (H.out.2.1.later B1'.out) hl).mono ?_
  rintro e w2 ⟨u1, rfl, r1, f1, q2⟩
  obtain ⟨b1, d1, rfl⟩ := r1.form
  have z1 : w.heap.size + 3 ≤ w1.heap.size := P1.out.2.2.lt
  have sz1 : (w1.setCell ⟨w.heap.size + 2, 0, none⟩ (.slice b0 S.nc d0)).heap.size = w1.heap.size := by simp [World.setCell]
  have k1 := (P1.out.1.setFar (p := ⟨w.heap.size + 2, 0, none⟩) (by simp) (.slice b0 S.nc d0)).later q2
  have k2 := (P1.out.2.1.setFar (p := ⟨w.heap.size + 2, 0, none⟩) (by simp) (.slice b0 S.nc d0)).later q2
  have k3 := (P1.out.2.2.set0 (.slice b0 S.nc d0)).later q2
  have R2 : Hid (Row w2 (w.heap.size + 3) 3 S.nc S.c (.slice b0 S.nc d0) ∧ Free w2 (S.nc * 3) (.slice b0 S.nc d0)) :=
    have e := R1.out.1.far (a := ⟨w.heap.size + 2, 0, none⟩) (Or.inl (by simp)) (.slice b0 S.nc d0)
    ⟨e.later q2, (R1.out.2.far _ _).ofRow e q2⟩
  have T2 : Hid (Row w2 (w.heap.size + 3) 5 S.nl S.l (.slice b1 S.nl d1) ∧ Free w2 (S.nl * 5) (.slice b1 S.nl d1)) := ⟨r1.mono (by omega), f1⟩
  have B2 : Hid (Below w.heap.size w w2) := B1'.out.trans (q2.mono (by have := B1'.out.size; omega))
  have P2 : Hid (Blk3 w2 w.heap.size (.slice a0 S.nc c0) (.slice a1 S.nl c1) (.slice a2 S.nw c2) ∧ Blk3 w2 (w.heap.size + 1) (.slice none 0 0) (.slice none 0 0) (.slice none 0 0) ∧ Blk3 w2 (w.heap.size + 2) (.slice b0 S.nc d0) (.slice none 0 0) (.slice none 0 0)) := ⟨k1, k2, k3⟩
  have A2 : Hid ((0 < S.nc → ∀ k, (Value.slice b0 S.nc d0).ownBlock = some k → k < w1.heap.size) ∧ (0 < S.nl → ∀ k, (Value.slice b1 S.nl d1).ownBlock = some k → w1.heap.size ≤ k ∧ k < w2.heap.size)) := ⟨fun hn k hk => (R1.out.1.lt hn k hk).2, fun hn k hk => by have := r1.lt hn k hk; rw [sz1] at this; exact this⟩
  have zz2 : Hid (w1.heap.size ≤ w2.heap.size) := by have := q2.size; rw [sz1] at this; exact this
  clear x1 y0 z0 q2 r1 f1 B1 B1' P1 R1 k2 z1 sz1
  obtain ⟨⟨_, _, x2⟩, _⟩ := k1
  obtain ⟨⟨_, y1, _⟩, _, z1, _⟩ := k3
  go_wp2_with fail
  have B2' : Hid (Below w.heap.size w (w2.setCell ⟨w.heap.size + 2, 1, none⟩ (.slice b1 S.nl d1))) := B2.out.setCell (by simp) _
  refine (toWriteS_any _ B _ _ _ (H.out.2.2.later B2'.out) hk).mono ?_
  rintro e w3 ⟨u2, rfl, r2, f2, q3⟩
  obtain ⟨b2, d2, rfl⟩ := r2.form
  have z2 : w.heap.size + 3 ≤ w2.heap.size := P2.out.2.2.lt
  have sz2 : (w2.setCell ⟨w.heap.size + 2, 1, none⟩ (.slice b1 S.nl d1)).heap.size = w2.heap.size := by simp [World.setCell]
  have k2 := (P2.out.2.1.setFar (p := ⟨w.heap.size + 2, 1, none⟩) (by simp) (.slice b1 S.nl d1)).later q3
  have k3 := (P2.out.2.2.set1 (.slice b1 S.nl d1)).later q3
  have R3 : Hid (St w3 (w.heap.size + 3) S (.slice b0 S.nc d0) (.slice b1 S.nl d1) (.slice b2 S.nw d2) ∧ FreeS w3 S (.slice b0 S.nc d0) (.slice b1 S.nl d1) (.slice b2 S.nw d2)) :=
    have e := R2.out.1.far (a := ⟨w.heap.size + 2, 1, none⟩) (Or.inl (by simp)) (.slice b1 S.nl d1)
    have e' := T2.out.1.far (a := ⟨w.heap.size + 2, 1, none⟩) (Or.inl (by simp)) (.slice b1 S.nl d1)
    ⟨⟨e.later q3, e'.later q3, r2.mono (by omega)⟩, (R2.out.2.far _ _).ofRow e q3, (T2.out.2.far _ _).ofRow e' q3, f2⟩
  have B3 : Hid (Below w.heap.size w w3) := B2'.out.trans (q3.mono (by have := B2'.out.size; omega))
  have A3 : Hid (ApartS S (.slice b0 S.nc d0) (.slice b1 S.nl d1) (.slice b2 S.nw d2)) := ⟨_, _, zz2.out, A2.out.1, A2.out.2, fun hn k hk => by have := (r2.lt hn k hk).1; rw [sz2] at this; exact this⟩
  clear x2 y1 z1 q3 r2 f2 B2 B2' P2 R2 T2 z2 sz2
  obtain ⟨⟨x0, x1, x2⟩, y0, y1, y2⟩ := k2
  obtain ⟨⟨p0, p1, p2⟩, q0, q1, q2⟩ := k3
  go_wp2
  refine bodyPost_ret (v := .agg #[.slice b0 S.nc d0, .slice b1 S.nl d1, .slice b2 S.nw d2]) (by simp [results, Tryz.results6, go_sem, x0, x1, x2]) rfl ⟨_, _, _, rfl, ?_, ?_, ?_⟩
  · exact ((((R3.out.1.far (by simp) _).far (by simp) _).far (by simp) _).far (by simp) _).mono (by omega)
  · exact ⟨(((R3.out.2.far _ _).far _ _).far _ _).far _ _, A3.out⟩
  · exact (((B3.out.setCell (by simp; omega) _).setCell (by simp) _).setCell (by simp) _).setCell (by simp) _

set_option maxHeartbeats 1000000 in
theorem eqStore_same (S : Sto) (v0 v1 v2 u0 u1 u2 : Value) (B B' : Nat) (w : World) (h : St w B S v0 v1 v2) (h' : St w B' S u0 u1 u2) (hc : S.nc ≤ 1048576) (hl : S.nl ≤ 1048576) (hk : S.nw ≤ 1048576) :
    Calls Tryz.prog 9 #[.agg #[v0, v1, v2], .agg #[u0, u1, u2]] w fun e w' => e = .returned (.bool true) ∧ Below w.heap.size w w' := by
  obtain ⟨a0, c0, a1, c1, a2, c2, rfl, rfl, rfl⟩ := h.form
  obtain ⟨b0, d0, b1, d1, b2, d2, rfl, rfl, rfl⟩ := h'.form
  have H : Hid (St w B S (.slice a0 S.nc c0) (.slice a1 S.nl c1) (.slice a2 S.nw c2)) := h
  have H' : Hid (St w B' S (.slice b0 S.nc d0) (.slice b1 S.nl d1) (.slice b2 S.nw d2)) := h'
  clear h h'
  go_enter Tryz.func9, Tryz.ntmps9
  go_wp2_with fail
  refine (eqCellS_same _ _ B B' _ _ _ ((H.out.1.alloc _).alloc _) ((H'.out.1.alloc _).alloc _) hc).mono ?_
  rintro e w1 ⟨rfl, q1⟩
  have k1 := ((Blk3.new w (.slice a0 S.nc c0) (.slice a1 S.nl c1) (.slice a2 S.nw c2) 32).alloc (.cells #[.slice b0 S.nc d0, .slice b1 S.nl d1, .slice b2 S.nw d2] 32)).later q1
  have k2 := (Blk3.new (w.alloc (.cells #[.slice a0 S.nc c0, .slice a1 S.nl c1, .slice a2 S.nw c2] 32)) (.slice b0 S.nc d0) (.slice b1 S.nl d1) (.slice b2 S.nw d2) 32).later q1
  simp only [World.size_alloc] at k2 q1
  have B1 : Hid (Below w.heap.size w w1) := ((below_alloc w _).alloc (by simp) _).trans (q1.mono (by omega))
  have P1 : Hid (Blk3 w1 w.heap.size (.slice a0 S.nc c0) (.slice a1 S.nl c1) (.slice a2 S.nw c2) ∧ Blk3 w1 (w.heap.size + 1) (.slice b0 S.nc d0) (.slice b1 S.nl d1) (.slice b2 S.nw d2)) := ⟨k1, k2⟩
  obtain ⟨⟨_, x1, _⟩, _⟩ := k1
  obtain ⟨⟨_, y1, _⟩, _⟩ := k2
  clear q1
  go_wp2_with fail
  refine (eqLockS_same _ _ B B' _ _ _ (H.out.2.1.later B1.out) (H'.out.2.1.later B1.out) hl).mono ?_
  rintro e w2 ⟨rfl, q2⟩
  have k1 := P1.out.1.later q2
  have k2 := P1.out.2.later q2
  have B2 : Hid (Below w.heap.size w w2) := B1.out.trans (q2.mono B1.out.size)
  clear q2 x1 y1 B1 P1
  obtain ⟨⟨_, _, x2⟩, _⟩ := k1
  obtain ⟨⟨_, _, y2⟩, _⟩ := k2
  go_wp2_with fail
  refine (eqWriteS_same _ _ B B' _ _ _ (H.out.2.2.later B2.out) (H'.out.2.2.later B2.out) hk).mono ?_
  rintro e w3 ⟨rfl, q3⟩
  have B3 : Hid (Below w.heap.size w w3) := B2.out.trans (q3.mono B2.out.size)
  clear q3 x2 y2 B2
  go_wp2
  go_ret
  exact ⟨rfl, B3.out⟩

set_option maxHeartbeats 400000 in
theorem szStore_ok (left : Int) (a0 a1 a2 : Option Addr) (n0 n1 n2 c0 c1 c2 : Nat) (w : World) (h : (n0 : Int) + n1 + n2 ≤ left) (h0 : 0 ≤ left) (h2 : left ≤ 1048576) (hn0 : n0 ≤ 9223372036854775807) (hn1 : n1 ≤ 9223372036854775807) (hn2 : n2 ≤ 9223372036854775807) :
    Calls Tryz.prog 4 #[.agg #[.slice a0 n0 c0, .slice a1 n1 c1, .slice a2 n2 c2], .int .i64 left] w fun e w' => e = .returned (.int .i64 (left - n0 - n1 - n2)) ∧ Below w.heap.size w w' := by
  go_enter Tryz.func4, Tryz.ntmps4
  go_wp2_with fail
  refine (szCellS_ok _ _ _ _ _ (by omega) (by omega)).mono ?_
  rintro e w1 ⟨rfl, rfl⟩
  go_wp2_with fail
  refine (szLockS_ok _ _ _ _ _ (by omega) (by omega)).mono ?_
  rintro e w1 ⟨rfl, rfl⟩
  go_wp2_with fail
  refine (szWriteS_ok _ _ _ _ _ (by omega) (by omega)).mono ?_
  rintro e w1 ⟨rfl, rfl⟩
  go_wp2
  go_ret
  exact ⟨rfl, below_alloc _ _⟩
set_option maxHeartbeats 400000 in
theorem szStore_no0 (left : Int) (a0 a1 a2 : Option Addr) (n0 n1 n2 c0 c1 c2 : Nat) (w : World) (h : left < n0) (h0 : 0 ≤ left) (h2 : left ≤ 1048576) (hn0 : n0 ≤ 9223372036854775807) (hn1 : n1 ≤ 9223372036854775807) (hn2 : n2 ≤ 9223372036854775807) :
    Calls Tryz.prog 4 #[.agg #[.slice a0 n0 c0, .slice a1 n1 c1, .slice a2 n2 c2], .int .i64 left] w fun e w' => e = .returned (.int .i64 (-1)) ∧ Below w.heap.size w w' := by
  go_enter Tryz.func4, Tryz.ntmps4
  go_wp2_with fail
  refine (szCellS_no _ _ _ _ _ (by omega) (by omega) (by omega) hn0).mono ?_
  rintro e w1 ⟨rfl, rfl⟩
  go_wp2
  go_ret
  exact ⟨rfl, below_alloc _ _⟩
set_option maxHeartbeats 400000 in
theorem szStore_no1 (left : Int) (a0 a1 a2 : Option Addr) (n0 n1 n2 c0 c1 c2 : Nat) (w : World) (h : (n0 : Int) ≤ left ∧ left < n0 + n1) (h0 : 0 ≤ left) (h2 : left ≤ 1048576) (hn0 : n0 ≤ 9223372036854775807) (hn1 : n1 ≤ 9223372036854775807) (hn2 : n2 ≤ 9223372036854775807) :
    Calls Tryz.prog 4 #[.agg #[.slice a0 n0 c0, .slice a1 n1 c1, .slice a2 n2 c2], .int .i64 left] w fun e w' => e = .returned (.int .i64 (-1)) ∧ Below w.heap.size w w' := by
  go_enter Tryz.func4, Tryz.ntmps4
  go_wp2_with fail
  refine (szCellS_ok _ _ _ _ _ (by omega) (by omega)).mono ?_
  rintro e w1 ⟨rfl, rfl⟩
  go_wp2_with fail
  refine (szLockS_no _ _ _ _ _ (by omega) (by omega) (by omega) hn1).mono ?_
  rintro e w1 ⟨rfl, rfl⟩
  go_wp2
  go_ret
  exact ⟨rfl, below_alloc _ _⟩
set_option maxHeartbeats 400000 in
theorem szStore_no2 (left : Int) (a0 a1 a2 : Option Addr) (n0 n1 n2 c0 c1 c2 : Nat) (w : World) (h : (n0 : Int) + n1 ≤ left ∧ left < n0 + n1 + n2) (h0 : 0 ≤ left) (h2 : left ≤ 1048576) (hn0 : n0 ≤ 9223372036854775807) (hn1 : n1 ≤ 9223372036854775807) (hn2 : n2 ≤ 9223372036854775807) :
    Calls Tryz.prog 4 #[.agg #[.slice a0 n0 c0, .slice a1 n1 c1, .slice a2 n2 c2], .int .i64 left] w fun e w' => e = .returned (.int .i64 (-1)) ∧ Below w.heap.size w w' := by
  go_enter Tryz.func4, Tryz.ntmps4
  go_wp2_with fail
  refine (szCellS_ok _ _ _ _ _ (by omega) (by omega)).mono ?_
  rintro e w1 ⟨rfl, rfl⟩
  go_wp2_with fail
  refine (szLockS_ok _ _ _ _ _ (by omega) (by omega)).mono ?_
  rintro e w1 ⟨rfl, rfl⟩
  go_wp2_with fail
  refine (szWriteS_no _ _ _ _ _ (by omega) (by omega) (by omega) hn2).mono ?_
  rintro e w1 ⟨rfl, rfl⟩
  go_wp2
  go_ret
  exact ⟨rfl, below_alloc _ _⟩
theorem szStore_no (left : Int) (a0 a1 a2 : Option Addr) (n0 n1 n2 c0 c1 c2 : Nat) (w : World) (h : left < (n0 : Int) + n1 + n2) (h0 : 0 ≤ left) (h2 : left ≤ 1048576) (hn0 : n0 ≤ 9223372036854775807) (hn1 : n1 ≤ 9223372036854775807) (hn2 : n2 ≤ 9223372036854775807) :
    Calls Tryz.prog 4 #[.agg #[.slice a0 n0 c0, .slice a1 n1 c1, .slice a2 n2 c2], .int .i64 left] w fun e w' => e = .returned (.int .i64 (-1)) ∧ Below w.heap.size w w' := by
  by_cases e0 : left < n0
  · exact szStore_no0 left a0 a1 a2 n0 n1 n2 c0 c1 c2 w e0 h0 h2 hn0 hn1 hn2
  by_cases e1 : left < n0 + n1
  · exact szStore_no1 left a0 a1 a2 n0 n1 n2 c0 c1 c2 w ⟨by omega, e1⟩ h0 h2 hn0 hn1 hn2
  · exact szStore_no2 left a0 a1 a2 n0 n1 n2 c0 c1 c2 w ⟨by omega, h⟩ h0 h2 hn0 hn1 hn2
end Go.Proofs.YtknbeggnlhiamaaGreat

namespace Go.Proofs.YtknbeggnlhiamaaGreat
open Go.RowKit
set_option linter.unusedVariables false

theorem below_drewN {B : Nat} {a w : World} (h : Below B a w) (q : Nat) : Below B a (w.drewN q) := ⟨h.os, h.tape, h.output, h.size, h.block⟩

end Go.Proofs.YtknbeggnlhiamaaGreat

namespace Go.Proofs.YtknbeggnlhiamaaGreat
open Go.RowKit

/-- The two boxes of the law's arguments, and that nothing old has turned. -/
def Pkg (w : World) (v0 v1 v2 u0 u1 u2 : Value) (x : World) : Prop := Below w.heap.size w x ∧ Blk3 x w.heap.size v0 v1 v2 ∧ Blk3 x (w.heap.size + 1) u0 u1 u2
theorem Pkg.later {w x x' : World} {v0 v1 v2 u0 u1 u2 : Value} (h : Pkg w v0 v1 v2 u0 u1 u2 x) (hb : Below x.heap.size x x') : Pkg w v0 v1 v2 u0 u1 u2 x' := ⟨h.1.trans (hb.mono h.1.size), h.2.1.later hb, h.2.2.later hb⟩
def boxL (w : World) (v0 v1 v2 u0 u1 u2 : Value) : World := (w.alloc (.cells #[v0, v1, v2] 26)).alloc (.cells #[u0, u1, u2] 26)
theorem Pkg.new (w : World) (v0 v1 v2 u0 u1 u2 : Value) : Pkg w v0 v1 v2 u0 u1 u2 (boxL w v0 v1 v2 u0 u1 u2) := by
  refine ⟨(below_alloc _ _).alloc (by simp) _, (Blk3.new w v0 v1 v2 26).alloc _, ?_⟩
  have := Blk3.new (w.alloc (.cells #[v0, v1, v2] 26)) u0 u1 u2 26
  rwa [World.size_alloc] at this
end Go.Proofs.YtknbeggnlhiamaaGreat

namespace Go.Proofs.YtknbeggnlhiamaaGreat
open Go.RowKit

/-- The box of the law's store, and that nothing old has turned; and one box more. -/
def One (w : World) (v0 v1 v2 : Value) (x : World) : Prop := Below w.heap.size w x ∧ Blk3 x w.heap.size v0 v1 v2
theorem One.later {w x x' : World} {v0 v1 v2 : Value} (h : One w v0 v1 v2 x) (hb : Below x.heap.size x x') : One w v0 v1 v2 x' := ⟨h.1.trans (hb.mono h.1.size), h.2.later hb⟩
theorem One.new (w : World) (v0 v1 v2 : Value) : One w v0 v1 v2 (w.alloc (.cells #[v0, v1, v2] 26)) := ⟨below_alloc _ _, Blk3.new w _ _ _ _⟩
def Two (w : World) (v0 v1 v2 : Value) (g : Nat) (x0 x1 x2 : Value) (x : World) : Prop := One w v0 v1 v2 x ∧ Blk3 x g x0 x1 x2
theorem Two.later {w x x' : World} {v0 v1 v2 : Value} {g : Nat} {x0 x1 x2 : Value} (h : Two w v0 v1 v2 g x0 x1 x2 x) (hb : Below x.heap.size x x') : Two w v0 v1 v2 g x0 x1 x2 x' := ⟨h.1.later hb, h.2.later hb⟩
end Go.Proofs.YtknbeggnlhiamaaGreat

namespace Go.Proofs.YtknbeggnlhiamaaGreat
open Go.RowKit

theorem Fill.step {w : World} {g o N K : Nat} {F : Nat → Int} (h : Fill w g o N K F) (hK : K < N) {a : Nat} (ha : a = o + K) {x : Int} (hx : x = F K) : Fill (w.setCell ⟨g, a, none⟩ (.int .i64 x)) g o N (K + 1) F := by
  subst ha hx
  exact h.put hK
theorem grownBy_set {w x : World} {g : Nat} (h : w.grownBy x (some g)) (a : Nat) (u : Value) : w.grownBy (x.setCell ⟨g, a, none⟩ u) (some g) :=
  ⟨h.os, h.tape, h.output, by simpa [World.setCell] using h.size, fun k hk hne => (Below.heap_setCell x _ u k (fun e => hne (by rw [e]))).trans (h.block k hk hne)⟩
/-- A row half numbered: of n elements the first j. -/
def Marked (w x : World) (B m n j : Nat) (k0 : Int) (ao : Option Addr) (cp : Nat) : Prop :=
  (0 < n → ∃ g o, ao = some ⟨g, o, none⟩ ∧ B ≤ g ∧ Fill x g o (n * m) (j * m) (fun p => k0 + (p : Nat))) ∧ w.grownBy x (Value.slice ao n cp).ownBlock
theorem Marked.start {w : World} {B m n : Nat} {F : Nat → Int} {ao : Option Addr} {cp : Nat} (h : Row w B m n F (.slice ao n cp)) (hf : Free w (n * m) (.slice ao n cp)) (k0 : Int) : Marked w w B m n 0 k0 ao cp := by
  refine ⟨fun hn => ?_, rfl, rfl, rfl, Nat.le_refl _, fun _ _ _ => rfl⟩
  have h0 := h
  obtain ⟨ao', cp', hv, h⟩ := h
  simp only [Value.slice.injEq] at hv
  obtain ⟨rfl, _, rfl⟩ := hv
  obtain ⟨g, o, rfl, hB, _⟩ := h hn
  exact ⟨g, o, rfl, hB, by rw [Nat.zero_mul]; exact Fill.ofRow h0 hf hn⟩
theorem Marked.done {w x : World} {B m n : Nat} {k0 : Int} {ao : Option Addr} {cp : Nat} (h : Marked w x B m n n k0 ao cp) : Row x B m n (fun p => k0 + (p : Nat)) (.slice ao n cp) ∧ Free x (n * m) (.slice ao n cp) := by
  rcases Nat.eq_zero_or_pos n with e | e
  · subst e
    exact ⟨⟨_, _, rfl, fun q => absurd q (Nat.lt_irrefl 0)⟩, by rw [Nat.zero_mul]; exact Free.of0 _ _⟩
  · obtain ⟨g, o, rfl, hB, hF⟩ := h.1 e
    exact hF.row hB cp
set_option maxRecDepth 100000 in
set_option maxHeartbeats 2000000 in
theorem markCellS_any (v : Value) (B n : Nat) (F : Nat → Int) (k0 : Int) (w : World) (h : Row w B 3 n F v) (hf : Free w (n * 3) v) (hn : n ≤ 1048576) (hk0 : 0 ≤ k0) (hk1 : k0 ≤ 100000000) :
    Calls Tryz.prog 26 #[v, .int .i64 k0] w fun e w' => e = .returned (.int .i64 (k0 + n * 3)) ∧ Row w' B 3 n (fun p => k0 + (p : Nat)) v ∧ Free w' (n * 3) v ∧ w.grownBy w' v.ownBlock := by
  obtain ⟨ao, cp, rfl⟩ := h.form
  have H0 : Hid (Marked w w B 3 n 0 k0 ao cp) := Marked.start h hf k0
  clear h hf
  go_enter Tryz.func26, Tryz.ntmps26
  go_wp2
  go_loopw [1, 5] (fun k i wr => ∃ j : Nat, j ≤ n ∧ i = .int .i64 j ∧ k = .int .i64 (k0 + j * 3) ∧ Hid (Marked w wr B 3 n j k0 ao cp)) (fun _ i _ => n - (intOf i).toNat)
  case atStart => exact ⟨0, Nat.zero_le _, rfl, by go_num, H0⟩
  case round =>
    obtain ⟨j, hj, rfl, rfl, hM⟩ := hrel
    by_cases hlt : j < n
    · obtain ⟨g, o, rfl, hB, hF⟩ := hM.out.1 (by omega)
      obtain ⟨u0, c0, e0⟩ := hF.at (p := j * 3) (by omega)
      obtain ⟨u1, c1, e1⟩ := hF.at (p := j * 3 + 1) (by omega)
      obtain ⟨u2, c2, e2⟩ := hF.at (p := j * 3 + 2) (by omega)
      simp only [← Nat.add_assoc] at c0 e0 c1 e1 c2 e2
      have HF : Hid (Fill wr g o (n * 3) (j * 3) (fun p => k0 + (p : Nat)) ∧ w.grownBy wr (some g)) := ⟨hF, hM.out.2⟩
      clear hF hM H0
      go_wp2
      go_roundw
      case rel => exact ⟨j + 1, by omega, by go_num, by go_num, fun _ => ⟨g, o, rfl, hB, by rw [Nat.succ_mul]; exact (((HF.out.1.step (by omega) (by omega) (by omega)).step (by omega) (by omega) (by omega)).step (by omega) (by omega) (by omega))⟩, (grownBy_set (grownBy_set (grownBy_set HF.out.2 _ _) _ _) _ _)⟩
      case measure => simp [intOf]; omega
    · obtain rfl : j = n := by omega
      go_wp2
      go_ret
      exact ⟨rfl, hM.out.done.1, hM.out.done.2, hM.out.2⟩
set_option maxHeartbeats 2000000 in
theorem heldCellS_any (v : Value) (B n : Nat) (k0 : Int) (w : World) (h : Row w B 3 n (fun p => k0 + (p : Nat)) v) (hn : n ≤ 1048576) (hk0 : 0 ≤ k0) (hk1 : k0 ≤ 100000000) :
    Calls Tryz.prog 59 #[v, .int .i64 k0] w fun e w' => e = .returned (.int .i64 (k0 + n * 3)) ∧ w' = w := by
  obtain ⟨ao, cp, rfl⟩ := h.form
  have H0 : Hid (Row w B 3 n (fun p => k0 + (p : Nat)) (.slice ao n cp)) := h
  clear h
  go_enter Tryz.func59, Tryz.ntmps59
  go_wp2
  go_loop [1, 5] (fun k i => ∃ j : Nat, j ≤ n ∧ i = .int .i64 j ∧ k = .int .i64 (k0 + j * 3)) (fun _ i => n - (intOf i).toNat)
  case atStart => exact ⟨0, Nat.zero_le _, rfl, by go_num⟩
  case round =>
    obtain ⟨j, hj, rfl, rfl⟩ := hrel
    by_cases hlt : j < n
    · obtain ⟨g, o, rfl, _, _, c0, c1, c2⟩ := H0.out.at3 hlt
      rw [show k0 + ((j * 3 : Nat) : Int) = k0 + j * 3 from by omega] at c0
      rw [show k0 + ((j * 3 + 1 : Nat) : Int) = k0 + j * 3 + 1 from by omega] at c1
      rw [show k0 + ((j * 3 + 2 : Nat) : Int) = k0 + j * 3 + 1 + 1 from by omega] at c2
      go_wp2
      go_round
      case rel => exact ⟨j + 1, by omega, by go_num, by go_num⟩
      case measure => simp [intOf]; omega
    · obtain rfl : j = n := by omega
      go_wp2
      go_ret
      exact ⟨rfl, rfl⟩
set_option maxRecDepth 100000 in
set_option maxHeartbeats 2000000 in
theorem markLockS_any (v : Value) (B n : Nat) (F : Nat → Int) (k0 : Int) (w : World) (h : Row w B 5 n F v) (hf : Free w (n * 5) v) (hn : n ≤ 1048576) (hk0 : 0 ≤ k0) (hk1 : k0 ≤ 100000000) :
    Calls Tryz.prog 27 #[v, .int .i64 k0] w fun e w' => e = .returned (.int .i64 (k0 + n * 5)) ∧ Row w' B 5 n (fun p => k0 + (p : Nat)) v ∧ Free w' (n * 5) v ∧ w.grownBy w' v.ownBlock := by
  obtain ⟨ao, cp, rfl⟩ := h.form
  have H0 : Hid (Marked w w B 5 n 0 k0 ao cp) := Marked.start h hf k0
  clear h hf
  go_enter Tryz.func27, Tryz.ntmps27
  go_wp2
  go_loopw [1, 5] (fun k i wr => ∃ j : Nat, j ≤ n ∧ i = .int .i64 j ∧ k = .int .i64 (k0 + j * 5) ∧ Hid (Marked w wr B 5 n j k0 ao cp)) (fun _ i _ => n - (intOf i).toNat)
  case atStart => exact ⟨0, Nat.zero_le _, rfl, by go_num, H0⟩
  case round =>
    obtain ⟨j, hj, rfl, rfl, hM⟩ := hrel
    by_cases hlt : j < n
    · obtain ⟨g, o, rfl, hB, hF⟩ := hM.out.1 (by omega)
      obtain ⟨u0, c0, e0⟩ := hF.at (p := j * 5) (by omega)
      obtain ⟨u1, c1, e1⟩ := hF.at (p := j * 5 + 1) (by omega)
      obtain ⟨u2, c2, e2⟩ := hF.at (p := j * 5 + 2) (by omega)
      obtain ⟨u3, c3, e3⟩ := hF.at (p := j * 5 + 3) (by omega)
      obtain ⟨u4, c4, e4⟩ := hF.at (p := j * 5 + 4) (by omega)
      simp only [← Nat.add_assoc] at c0 e0 c1 e1 c2 e2 c3 e3 c4 e4
      have HF : Hid (Fill wr g o (n * 5) (j * 5) (fun p => k0 + (p : Nat)) ∧ w.grownBy wr (some g)) := ⟨hF, hM.out.2⟩
      clear hF hM H0
      go_wp2
      go_roundw
      case rel => exact ⟨j + 1, by omega, by go_num, by go_num, fun _ => ⟨g, o, rfl, hB, by rw [Nat.succ_mul]; exact (((((HF.out.1.step (by omega) (by omega) (by omega)).step (by omega) (by omega) (by omega)).step (by omega) (by omega) (by omega)).step (by omega) (by omega) (by omega)).step (by omega) (by omega) (by omega))⟩, (grownBy_set (grownBy_set (grownBy_set (grownBy_set (grownBy_set HF.out.2 _ _) _ _) _ _) _ _) _ _)⟩
      case measure => simp [intOf]; omega
    · obtain rfl : j = n := by omega
      go_wp2
      go_ret
      exact ⟨rfl, hM.out.done.1, hM.out.done.2, hM.out.2⟩
set_option maxHeartbeats 2000000 in
theorem heldLockS_any (v : Value) (B n : Nat) (k0 : Int) (w : World) (h : Row w B 5 n (fun p => k0 + (p : Nat)) v) (hn : n ≤ 1048576) (hk0 : 0 ≤ k0) (hk1 : k0 ≤ 100000000) :
    Calls Tryz.prog 60 #[v, .int .i64 k0] w fun e w' => e = .returned (.int .i64 (k0 + n * 5)) ∧ w' = w := by
  obtain ⟨ao, cp, rfl⟩ := h.form
  have H0 : Hid (Row w B 5 n (fun p => k0 + (p : Nat)) (.slice ao n cp)) := h
  clear h
  go_enter Tryz.func60, Tryz.ntmps60
  go_wp2
  go_loop [1, 5] (fun k i => ∃ j : Nat, j ≤ n ∧ i = .int .i64 j ∧ k = .int .i64 (k0 + j * 5)) (fun _ i => n - (intOf i).toNat)
  case atStart => exact ⟨0, Nat.zero_le _, rfl, by go_num⟩
  case round =>
    obtain ⟨j, hj, rfl, rfl⟩ := hrel
    by_cases hlt : j < n
    · obtain ⟨g, o, rfl, _, _, c0, c1, c2, c3, c4⟩ := H0.out.at5 hlt
      rw [show k0 + ((j * 5 : Nat) : Int) = k0 + j * 5 from by omega] at c0
      rw [show k0 + ((j * 5 + 1 : Nat) : Int) = k0 + j * 5 + 1 from by omega] at c1
      rw [show k0 + ((j * 5 + 2 : Nat) : Int) = k0 + j * 5 + 1 + 1 from by omega] at c2
      rw [show k0 + ((j * 5 + 3 : Nat) : Int) = k0 + j * 5 + 1 + 1 + 1 from by omega] at c3
      rw [show k0 + ((j * 5 + 4 : Nat) : Int) = k0 + j * 5 + 1 + 1 + 1 + 1 from by omega] at c4
      go_wp2
      go_round
      case rel => exact ⟨j + 1, by omega, by go_num, by go_num⟩
      case measure => simp [intOf]; omega
    · obtain rfl : j = n := by omega
      go_wp2
      go_ret
      exact ⟨rfl, rfl⟩
set_option maxRecDepth 100000 in
set_option maxHeartbeats 2000000 in
theorem markWriteS_any (v : Value) (B n : Nat) (F : Nat → Int) (k0 : Int) (w : World) (h : Row w B 4 n F v) (hf : Free w (n * 4) v) (hn : n ≤ 1048576) (hk0 : 0 ≤ k0) (hk1 : k0 ≤ 100000000) :
    Calls Tryz.prog 28 #[v, .int .i64 k0] w fun e w' => e = .returned (.int .i64 (k0 + n * 4)) ∧ Row w' B 4 n (fun p => k0 + (p : Nat)) v ∧ Free w' (n * 4) v ∧ w.grownBy w' v.ownBlock := by
  obtain ⟨ao, cp, rfl⟩ := h.form
  have H0 : Hid (Marked w w B 4 n 0 k0 ao cp) := Marked.start h hf k0
  clear h hf
  go_enter Tryz.func28, Tryz.ntmps28
  go_wp2
  go_loopw [1, 5] (fun k i wr => ∃ j : Nat, j ≤ n ∧ i = .int .i64 j ∧ k = .int .i64 (k0 + j * 4) ∧ Hid (Marked w wr B 4 n j k0 ao cp)) (fun _ i _ => n - (intOf i).toNat)
  case atStart => exact ⟨0, Nat.zero_le _, rfl, by go_num, H0⟩
  case round =>
    obtain ⟨j, hj, rfl, rfl, hM⟩ := hrel
    by_cases hlt : j < n
    · obtain ⟨g, o, rfl, hB, hF⟩ := hM.out.1 (by omega)
      obtain ⟨u0, c0, e0⟩ := hF.at (p := j * 4) (by omega)
      obtain ⟨u1, c1, e1⟩ := hF.at (p := j * 4 + 1) (by omega)
      obtain ⟨u2, c2, e2⟩ := hF.at (p := j * 4 + 2) (by omega)
      obtain ⟨u3, c3, e3⟩ := hF.at (p := j * 4 + 3) (by omega)
      simp only [← Nat.add_assoc] at c0 e0 c1 e1 c2 e2 c3 e3
      have HF : Hid (Fill wr g o (n * 4) (j * 4) (fun p => k0 + (p : Nat)) ∧ w.grownBy wr (some g)) := ⟨hF, hM.out.2⟩
      clear hF hM H0
      go_wp2
      go_roundw
      case rel => exact ⟨j + 1, by omega, by go_num, by go_num, fun _ => ⟨g, o, rfl, hB, by rw [Nat.succ_mul]; exact ((((HF.out.1.step (by omega) (by omega) (by omega)).step (by omega) (by omega) (by omega)).step (by omega) (by omega) (by omega)).step (by omega) (by omega) (by omega))⟩, (grownBy_set (grownBy_set (grownBy_set (grownBy_set HF.out.2 _ _) _ _) _ _) _ _)⟩
      case measure => simp [intOf]; omega
    · obtain rfl : j = n := by omega
      go_wp2
      go_ret
      exact ⟨rfl, hM.out.done.1, hM.out.done.2, hM.out.2⟩
set_option maxHeartbeats 2000000 in
theorem heldWriteS_any (v : Value) (B n : Nat) (k0 : Int) (w : World) (h : Row w B 4 n (fun p => k0 + (p : Nat)) v) (hn : n ≤ 1048576) (hk0 : 0 ≤ k0) (hk1 : k0 ≤ 100000000) :
    Calls Tryz.prog 61 #[v, .int .i64 k0] w fun e w' => e = .returned (.int .i64 (k0 + n * 4)) ∧ w' = w := by
  obtain ⟨ao, cp, rfl⟩ := h.form
  have H0 : Hid (Row w B 4 n (fun p => k0 + (p : Nat)) (.slice ao n cp)) := h
  clear h
  go_enter Tryz.func61, Tryz.ntmps61
  go_wp2
  go_loop [1, 5] (fun k i => ∃ j : Nat, j ≤ n ∧ i = .int .i64 j ∧ k = .int .i64 (k0 + j * 4)) (fun _ i => n - (intOf i).toNat)
  case atStart => exact ⟨0, Nat.zero_le _, rfl, by go_num⟩
  case round =>
    obtain ⟨j, hj, rfl, rfl⟩ := hrel
    by_cases hlt : j < n
    · obtain ⟨g, o, rfl, _, _, c0, c1, c2, c3⟩ := H0.out.at4 hlt
      rw [show k0 + ((j * 4 : Nat) : Int) = k0 + j * 4 from by omega] at c0
      rw [show k0 + ((j * 4 + 1 : Nat) : Int) = k0 + j * 4 + 1 from by omega] at c1
      rw [show k0 + ((j * 4 + 2 : Nat) : Int) = k0 + j * 4 + 1 + 1 from by omega] at c2
      rw [show k0 + ((j * 4 + 3 : Nat) : Int) = k0 + j * 4 + 1 + 1 + 1 from by omega] at c3
      go_wp2
      go_round
      case rel => exact ⟨j + 1, by omega, by go_num, by go_num⟩
      case measure => simp [intOf]; omega
    · obtain rfl : j = n := by omega
      go_wp2
      go_ret
      exact ⟨rfl, rfl⟩
/-- x' is x but for blocks from B on below E, and new ones. -/
structure Within (B E : Nat) (x x' : World) : Prop where
  os : x'.os = x.os
  tape : x'.tape = x.tape
  output : x'.output = x.output
  size : x.heap.size ≤ x'.heap.size
  block : ∀ k, k < x.heap.size → k < B ∨ E ≤ k → x'.heap[k]? = x.heap[k]?
theorem Within.refl (B E : Nat) (x : World) : Within B E x x := ⟨rfl, rfl, rfl, Nat.le_refl _, fun _ _ _ => rfl⟩
theorem Within.trans {B E : Nat} {a b c : World} (h : Within B E a b) (k : Within B E b c) : Within B E a c :=
  ⟨k.os.trans h.os, k.tape.trans h.tape, k.output.trans h.output, Nat.le_trans h.size k.size, fun i hi hr => (k.block i (Nat.lt_of_lt_of_le hi h.size) hr).trans (h.block i hi hr)⟩
theorem Within.grow {B E : Nat} {x x' : World} (h : Below x.heap.size x x') : Within B E x x' := ⟨h.os, h.tape, h.output, h.size, fun k hk _ => h.block k hk⟩
theorem Within.of {B E : Nat} {x x' : World} {row : Option Nat} (h : x.grownBy x' row) (hr : ∀ b, row = some b → B ≤ b ∧ b < E) : Within B E x x' :=
  ⟨h.os, h.tape, h.output, h.size, fun k hk ho => h.block k hk (fun e => by have := hr k e.symm; omega)⟩
theorem Within.below {B E : Nat} {w x x' : World} (h : Within B E x x') (hw : Below w.heap.size w x) (hB : w.heap.size ≤ B) : Below w.heap.size w x' :=
  ⟨h.os.trans hw.os, h.tape.trans hw.tape, h.output.trans hw.output, Nat.le_trans hw.size h.size, fun k hk => (h.block k (Nat.lt_of_lt_of_le hk hw.size) (Or.inl (by omega))).trans (hw.block k hk)⟩
theorem Within.mono {B E B' E' : Nat} {x x' : World} (h : Within B E x x') (hB : B' ≤ B) (hE : E ≤ E') : Within B' E' x x' := ⟨h.os, h.tape, h.output, h.size, fun k hk ho => h.block k hk (by omega)⟩
theorem Row.within {x x' : World} {C m n B E : Nat} {F : Nat → Int} {v : Value} (h : Row x C m n F v) (hw : Within B E x x') (ho : 0 < n → ∀ k, v.ownBlock = some k → k < B ∨ E ≤ k) : Row x' C m n F v := by
  rcases Nat.eq_zero_or_pos n with e | e
  · subst e
    obtain ⟨ao, cp, rfl, _⟩ := h
    exact ⟨ao, cp, rfl, fun q => absurd q (Nat.lt_irrefl 0)⟩
  · exact h.kept hw.size (fun k hk hlt => hw.block k hlt (ho e k hk))
theorem Free.within {x x' : World} {C m n B E : Nat} {F : Nat → Int} {v : Value} (h : Free x (n * m) v) (hr : Row x C m n F v) (hw : Within B E x x') (ho : 0 < n → ∀ k, v.ownBlock = some k → k < B ∨ E ≤ k) : Free x' (n * m) v := by
  rcases Nat.eq_zero_or_pos n with e | e
  · subst e; rw [Nat.zero_mul]; exact Free.of0 _ _
  · intro g o n' c hv p hp
    rw [World.frozen?_of_block (w := x) (a := ⟨g, o + p, none⟩) (hw.block g (hr.lt e g (by rw [hv]; rfl)).2 (ho e g (by rw [hv]; rfl)))]
    exact h g o n' c hv p hp
theorem Blk3.within {x x' : World} {b B E : Nat} {a0 a1 a2 : Value} (h : Blk3 x b a0 a1 a2) (hw : Within B E x x') (ho : b < B ∨ E ≤ b) : Blk3 x' b a0 a1 a2 := h.kept (hw.block b h.lt ho)
/-- The block that is turned by numbering: none, if there is nothing. -/
def turn (n : Nat) (v : Value) : Option Nat := if n = 0 then none else v.ownBlock
set_option maxHeartbeats 1000000 in
theorem markCellS_none (ao : Option Addr) (cp : Nat) (k0 : Int) (w : World) :
    Calls Tryz.prog 26 #[.slice ao 0 cp, .int .i64 k0] w fun e w' => e = .returned (.int .i64 k0) ∧ w' = w := by
  go_enter Tryz.func26, Tryz.ntmps26
  go_wp2
  go_loop [1, 5] (fun k i => i = .int .i64 0 ∧ k = .int .i64 k0) (fun _ i => 1 - (intOf i).toNat)
  case atStart => exact ⟨rfl, rfl⟩
  case round =>
    obtain ⟨rfl, rfl⟩ := hrel
    go_wp2
    go_ret
    exact ⟨rfl, rfl⟩
theorem markCellS_turn (v : Value) (B n : Nat) (F : Nat → Int) (k0 : Int) (w : World) (h : Row w B 3 n F v) (hf : Free w (n * 3) v) (hn : n ≤ 1048576) (hk0 : 0 ≤ k0) (hk1 : k0 ≤ 100000000) :
    Calls Tryz.prog 26 #[v, .int .i64 k0] w fun e w' => e = .returned (.int .i64 (k0 + n * 3)) ∧ Row w' B 3 n (fun p => k0 + (p : Nat)) v ∧ Free w' (n * 3) v ∧ w.grownBy w' (turn n v) := by
  rcases Nat.eq_zero_or_pos n with e | e
  · subst e
    obtain ⟨ao, cp, rfl⟩ := h.form
    refine (markCellS_none ao cp k0 w).mono fun e w' ⟨he, hw⟩ => ?_
    subst hw
    exact ⟨by rw [he]; simp, ⟨_, _, rfl, fun q => absurd q (Nat.lt_irrefl 0)⟩, hf, rfl, rfl, rfl, Nat.le_refl _, fun _ _ _ => rfl⟩
  · refine (markCellS_any v B n F k0 w h hf hn hk0 hk1).mono fun e' w' ⟨he, h1, h2, h3⟩ => ⟨he, h1, h2, ?_⟩
    unfold turn
    rw [if_neg (by omega)]
    exact h3
set_option maxHeartbeats 1000000 in
theorem markLockS_none (ao : Option Addr) (cp : Nat) (k0 : Int) (w : World) :
    Calls Tryz.prog 27 #[.slice ao 0 cp, .int .i64 k0] w fun e w' => e = .returned (.int .i64 k0) ∧ w' = w := by
  go_enter Tryz.func27, Tryz.ntmps27
  go_wp2
  go_loop [1, 5] (fun k i => i = .int .i64 0 ∧ k = .int .i64 k0) (fun _ i => 1 - (intOf i).toNat)
  case atStart => exact ⟨rfl, rfl⟩
  case round =>
    obtain ⟨rfl, rfl⟩ := hrel
    go_wp2
    go_ret
    exact ⟨rfl, rfl⟩
theorem markLockS_turn (v : Value) (B n : Nat) (F : Nat → Int) (k0 : Int) (w : World) (h : Row w B 5 n F v) (hf : Free w (n * 5) v) (hn : n ≤ 1048576) (hk0 : 0 ≤ k0) (hk1 : k0 ≤ 100000000) :
    Calls Tryz.prog 27 #[v, .int .i64 k0] w fun e w' => e = .returned (.int .i64 (k0 + n * 5)) ∧ Row w' B 5 n (fun p => k0 + (p : Nat)) v ∧ Free w' (n * 5) v ∧ w.grownBy w' (turn n v) := by
  rcases Nat.eq_zero_or_pos n with e | e
  · subst e
    obtain ⟨ao, cp, rfl⟩ := h.form
    refine (markLockS_none ao cp k0 w).mono fun e w' ⟨he, hw⟩ => ?_
    subst hw
    exact ⟨by rw [he]; simp, ⟨_, _, rfl, fun q => absurd q (Nat.lt_irrefl 0)⟩, hf, rfl, rfl, rfl, Nat.le_refl _, fun _ _ _ => rfl⟩
  · refine (markLockS_any v B n F k0 w h hf hn hk0 hk1).mono fun e' w' ⟨he, h1, h2, h3⟩ => ⟨he, h1, h2, ?_⟩
    unfold turn
    rw [if_neg (by omega)]
    exact h3
set_option maxHeartbeats 1000000 in
theorem markWriteS_none (ao : Option Addr) (cp : Nat) (k0 : Int) (w : World) :
    Calls Tryz.prog 28 #[.slice ao 0 cp, .int .i64 k0] w fun e w' => e = .returned (.int .i64 k0) ∧ w' = w := by
  go_enter Tryz.func28, Tryz.ntmps28
  go_wp2
  go_loop [1, 5] (fun k i => i = .int .i64 0 ∧ k = .int .i64 k0) (fun _ i => 1 - (intOf i).toNat)
  case atStart => exact ⟨rfl, rfl⟩
  case round =>
    obtain ⟨rfl, rfl⟩ := hrel
    go_wp2
    go_ret
    exact ⟨rfl, rfl⟩
theorem markWriteS_turn (v : Value) (B n : Nat) (F : Nat → Int) (k0 : Int) (w : World) (h : Row w B 4 n F v) (hf : Free w (n * 4) v) (hn : n ≤ 1048576) (hk0 : 0 ≤ k0) (hk1 : k0 ≤ 100000000) :
    Calls Tryz.prog 28 #[v, .int .i64 k0] w fun e w' => e = .returned (.int .i64 (k0 + n * 4)) ∧ Row w' B 4 n (fun p => k0 + (p : Nat)) v ∧ Free w' (n * 4) v ∧ w.grownBy w' (turn n v) := by
  rcases Nat.eq_zero_or_pos n with e | e
  · subst e
    obtain ⟨ao, cp, rfl⟩ := h.form
    refine (markWriteS_none ao cp k0 w).mono fun e w' ⟨he, hw⟩ => ?_
    subst hw
    exact ⟨by rw [he]; simp, ⟨_, _, rfl, fun q => absurd q (Nat.lt_irrefl 0)⟩, hf, rfl, rfl, rfl, Nat.le_refl _, fun _ _ _ => rfl⟩
  · refine (markWriteS_any v B n F k0 w h hf hn hk0 hk1).mono fun e' w' ⟨he, h1, h2, h3⟩ => ⟨he, h1, h2, ?_⟩
    unfold turn
    rw [if_neg (by omega)]
    exact h3
theorem turn_off {n : Nat} {v : Value} {P : Nat → Prop} (h : 0 < n → ∀ k, v.ownBlock = some k → P k) : ∀ b, turn n v = some b → P b := by
  intro b hb
  unfold turn at hb
  split at hb
  · cases hb
  · exact h (by omega) b hb
theorem Row.turned {x x' : World} {C m n : Nat} {F : Nat → Int} {v : Value} {row : Option Nat} (h : Row x C m n F v) (hg : x.grownBy x' row) (ho : 0 < n → ∀ k, v.ownBlock = some k → some k ≠ row) : Row x' C m n F v := by
  rcases Nat.eq_zero_or_pos n with e | e
  · subst e
    obtain ⟨ao, cp, rfl, _⟩ := h
    exact ⟨ao, cp, rfl, fun q => absurd q (Nat.lt_irrefl 0)⟩
  · exact h.kept hg.size (fun k hk hlt => hg.block k hlt (ho e k hk))
theorem Free.turned {x x' : World} {C m n : Nat} {F : Nat → Int} {v : Value} {row : Option Nat} (h : Free x (n * m) v) (hr : Row x C m n F v) (hg : x.grownBy x' row) (ho : 0 < n → ∀ k, v.ownBlock = some k → some k ≠ row) : Free x' (n * m) v := by
  rcases Nat.eq_zero_or_pos n with e | e
  · subst e; rw [Nat.zero_mul]; exact Free.of0 _ _
  · intro g o n' c hv p hp
    rw [World.frozen?_of_block (w := x) (a := ⟨g, o + p, none⟩) (hg.block g (hr.lt e g (by rw [hv]; rfl)).2 (ho e g (by rw [hv]; rfl)))]
    exact h g o n' c hv p hp
end Go.Proofs.YtknbeggnlhiamaaGreat

namespace Go.Proofs.YtknbeggnlhiamaaGreat
open Go.RowKit

set_option maxRecDepth 100000 in
set_option maxHeartbeats 2000000 in
theorem markStore_any (S : Sto) (v0 v1 v2 : Value) (B E : Nat) (w : World) (h : St w B S v0 v1 v2) (hf : FreeS w S v0 v1 v2) (ha : ApartS S v0 v1 v2) (hE : (0 < S.nc → ∀ k, v0.ownBlock = some k → k < E) ∧ (0 < S.nl → ∀ k, v1.ownBlock = some k → k < E) ∧ (0 < S.nw → ∀ k, v2.ownBlock = some k → k < E)) (hEw : E ≤ w.heap.size) (hc : S.nc ≤ 1048576) (hl : S.nl ≤ 1048576) (hk : S.nw ≤ 1048576) :
    Calls Tryz.prog 10 #[.agg #[v0, v1, v2], .int .i64 1] w fun e w' => e = .returned (.int .i64 (1 + S.nc * 3 + S.nl * 5 + S.nw * 4)) ∧ Within B E w w' := by
  obtain ⟨a0, c0, a1, c1, a2, c2, rfl, rfl, rfl⟩ := h.form
  have H : Hid (St w B S (.slice a0 S.nc c0) (.slice a1 S.nl c1) (.slice a2 S.nw c2) ∧ FreeS w S (.slice a0 S.nc c0) (.slice a1 S.nl c1) (.slice a2 S.nw c2)) := ⟨h, hf⟩
  obtain ⟨z1, z2, hz, A0, A1, A2⟩ := ha
  have HA : Hid (z1 ≤ z2 ∧ (0 < S.nc → ∀ k, (Value.slice a0 S.nc c0).ownBlock = some k → B ≤ k ∧ k < E ∧ k < z1) ∧ (0 < S.nl → ∀ k, (Value.slice a1 S.nl c1).ownBlock = some k → B ≤ k ∧ k < E ∧ z1 ≤ k ∧ k < z2) ∧ (0 < S.nw → ∀ k, (Value.slice a2 S.nw c2).ownBlock = some k → B ≤ k ∧ k < E ∧ z2 ≤ k)) :=
    ⟨hz, fun hn k q => ⟨(h.1.lt hn k q).1, hE.1 hn k q, A0 hn k q⟩, fun hn k q => ⟨(h.2.1.lt hn k q).1, hE.2.1 hn k q, A1 hn k q⟩, fun hn k q => ⟨(h.2.2.lt hn k q).1, hE.2.2 hn k q, A2 hn k q⟩⟩
  clear h hf hz A0 A1 A2 hE
  go_enter Tryz.func10, Tryz.ntmps10
  go_wp2_with fail
  refine (markCellS_turn _ B S.nc S.c 1 _ (H.out.1.1.alloc _) (H.out.2.1.ofRow H.out.1.1 (below_alloc _ _)) hc (by omega) (by omega)).mono ?_
  rintro e w1 ⟨rfl, _, _, g1⟩
  have hb1 : w1.heap[w.heap.size]? = (w.alloc (.cells #[.slice a0 S.nc c0, .slice a1 S.nl c1, .slice a2 S.nw c2] 32)).heap[w.heap.size]? := g1.block _ (by simp) (fun q => by have := turn_off HA.out.2.1 _ q.symm; omega)
  have W1 : Hid (Within B E w w1) := (Within.grow (below_alloc w _)).trans (Within.of g1 (fun b q => by have := turn_off HA.out.2.1 b q; omega))
  have K1 : Hid (Blk3 w1 w.heap.size (.slice a0 S.nc c0) (.slice a1 S.nl c1) (.slice a2 S.nw c2)) := (Blk3.new w _ _ _ _).kept hb1
  have R1 : Hid (Row w1 B 5 S.nl S.l (.slice a1 S.nl c1) ∧ Free w1 (S.nl * 5) (.slice a1 S.nl c1)) :=
    ⟨(H.out.1.2.1.alloc _).turned g1 (fun hn k q e => by have := HA.out.2.2.1 hn k q; have := turn_off HA.out.2.1 k e.symm; omega), (H.out.2.2.1.ofRow H.out.1.2.1 (below_alloc _ _)).turned (H.out.1.2.1.alloc _) g1 (fun hn k q e => by have := HA.out.2.2.1 hn k q; have := turn_off HA.out.2.1 k e.symm; omega)⟩
  have T1 : Hid (Row w1 B 4 S.nw S.k (.slice a2 S.nw c2) ∧ Free w1 (S.nw * 4) (.slice a2 S.nw c2)) :=
    ⟨(H.out.1.2.2.alloc _).turned g1 (fun hn k q e => by have := HA.out.2.2.2 hn k q; have := turn_off HA.out.2.1 k e.symm; have := HA.out.1; omega), (H.out.2.2.2.ofRow H.out.1.2.2 (below_alloc _ _)).turned (H.out.1.2.2.alloc _) g1 (fun hn k q e => by have := HA.out.2.2.2 hn k q; have := turn_off HA.out.2.1 k e.symm; have := HA.out.1; omega)⟩
  obtain ⟨⟨p0, p1, p2⟩, _⟩ := K1.out
  clear hb1 g1 H
  go_wp2_with fail
  refine (markLockS_turn _ B S.nl S.l _ _ R1.out.1 R1.out.2 hl (by omega) (by omega)).mono ?_
  rintro e w2 ⟨rfl, _, _, g2⟩
  have W2 : Hid (Within B E w w2) := W1.out.trans (Within.of g2 (fun b q => by have := turn_off HA.out.2.2.1 b q; omega))
  have K2 : Hid (Blk3 w2 w.heap.size (.slice a0 S.nc c0) (.slice a1 S.nl c1) (.slice a2 S.nw c2)) := K1.out.kept (g2.block _ K1.out.lt (fun q => by have := turn_off HA.out.2.2.1 _ q.symm; omega))
  have T2 : Hid (Row w2 B 4 S.nw S.k (.slice a2 S.nw c2) ∧ Free w2 (S.nw * 4) (.slice a2 S.nw c2)) :=
    ⟨T1.out.1.turned g2 (fun hn k q e => by have := HA.out.2.2.2 hn k q; have := turn_off HA.out.2.2.1 k e.symm; omega), T1.out.2.turned T1.out.1 g2 (fun hn k q e => by have := HA.out.2.2.2 hn k q; have := turn_off HA.out.2.2.1 k e.symm; omega)⟩
  clear p0 p1 p2 g2 T1 R1 K1 W1
  obtain ⟨⟨p0, p1, p2⟩, _⟩ := K2.out
  go_wp2_with fail
  refine (markWriteS_turn _ B S.nw S.k _ _ T2.out.1 T2.out.2 hk (by omega) (by omega)).mono ?_
  rintro e w3 ⟨rfl, _, _, g3⟩
  have W3 : Hid (Within B E w w3) := W2.out.trans (Within.of g3 (fun b q => by have := turn_off HA.out.2.2.2 b q; omega))
  clear p0 p1 p2 g3 T2 K2 W2
  go_wp2
  go_ret
  exact ⟨rfl, W3.out⟩
end Go.Proofs.YtknbeggnlhiamaaGreat

namespace Go.Proofs.YtknbeggnlhiamaaGreat
open Go.RowKit

/-- A block of four cells, none frozen. -/
def Blk4 (x : World) (b : Nat) (a0 a1 a2 a3 : Value) : Prop := (x.cell? ⟨b, 0, none⟩ = some a0 ∧ x.cell? ⟨b, 1, none⟩ = some a1 ∧ x.cell? ⟨b, 2, none⟩ = some a2 ∧ x.cell? ⟨b, 3, none⟩ = some a3) ∧ x.frozen? ⟨b, 0, none⟩ = false ∧ x.frozen? ⟨b, 1, none⟩ = false ∧ x.frozen? ⟨b, 2, none⟩ = false ∧ x.frozen? ⟨b, 3, none⟩ = false
theorem Blk4.lt {x : World} {b : Nat} {a0 a1 a2 a3 : Value} (h : Blk4 x b a0 a1 a2 a3) : b < x.heap.size := World.block_lt_of_cell? x _ h.1.1
theorem Blk4.later {x x' : World} {b : Nat} {a0 a1 a2 a3 : Value} (h : Blk4 x b a0 a1 a2 a3) (hb : Below x.heap.size x x') : Blk4 x' b a0 a1 a2 a3 := by
  have hl := h.lt
  obtain ⟨⟨h0, h1, h2, h3⟩, f0, f1, f2, f3⟩ := h
  exact ⟨⟨(hb.cell (p := ⟨b, 0, none⟩) hl).trans h0, (hb.cell (p := ⟨b, 1, none⟩) hl).trans h1, (hb.cell (p := ⟨b, 2, none⟩) hl).trans h2, (hb.cell (p := ⟨b, 3, none⟩) hl).trans h3⟩,
    (hb.frozen (p := ⟨b, 0, none⟩) hl).trans f0, (hb.frozen (p := ⟨b, 1, none⟩) hl).trans f1, (hb.frozen (p := ⟨b, 2, none⟩) hl).trans f2, (hb.frozen (p := ⟨b, 3, none⟩) hl).trans f3⟩
theorem Blk4.alloc {x : World} {b : Nat} {a0 a1 a2 a3 : Value} (h : Blk4 x b a0 a1 a2 a3) (o : Obj) : Blk4 (x.alloc o) b a0 a1 a2 a3 := h.later (below_alloc _ _)
theorem Blk4.new (w : World) (a0 a1 a2 a3 : Value) (t : TypeId) : Blk4 (w.alloc (.cells #[a0, a1, a2, a3] t)) w.heap.size a0 a1 a2 a3 := by
  refine ⟨⟨World.cell?_alloc_mark w _ _ _ 0, World.cell?_alloc_mark w _ _ _ 1, World.cell?_alloc_mark w _ _ _ 2, World.cell?_alloc_mark w _ _ _ 3⟩, ?_, ?_, ?_, ?_⟩ <;> simp
theorem Blk4.put {x : World} {b : Nat} {a0 a1 a2 a3 : Value} (h : Blk4 x b a0 a1 a2 a3) (c0 c1 c2 c3 : Value) : Blk4 ((((x.setCell ⟨b, 0, none⟩ c0).setCell ⟨b, 1, none⟩ c1).setCell ⟨b, 2, none⟩ c2).setCell ⟨b, 3, none⟩ c3) b c0 c1 c2 c3 := by
  obtain ⟨⟨h0, h1, h2, h3⟩, f0, f1, f2, f3⟩ := h
  have o : ∀ {y : World} {i j : Nat} {u v : Value}, i ≠ j → y.cell? ⟨b, i, none⟩ = some u → (y.setCell ⟨b, j, none⟩ v).cell? ⟨b, i, none⟩ = some u := fun hn hu => (World.cell?_setCell_other _ _ _ _ (fun e => hn (congrArg Addr.off e).symm)).trans hu
  refine ⟨⟨?_, ?_, ?_, ?_⟩, by simpa using f0, by simpa using f1, by simpa using f2, by simpa using f3⟩
  · exact o (by decide) (o (by decide) (o (by decide) (World.cell?_setCell_same _ _ _ h0)))
  · exact o (by decide) (o (by decide) (World.cell?_setCell_same _ _ _ (o (by decide) h1)))
  · exact o (by decide) (World.cell?_setCell_same _ _ _ (o (by decide) (o (by decide) h2)))
  · exact World.cell?_setCell_same _ _ _ (o (by decide) (o (by decide) (o (by decide) h3)))
end Go.Proofs.YtknbeggnlhiamaaGreat

namespace Go.Proofs.YtknbeggnlhiamaaGreat
open Go.RowKit

theorem turn_eq {n : Nat} {v : Value} {b : Nat} (h : turn n v = some b) : 0 < n ∧ v.ownBlock = some b := by
  unfold turn at h
  split at h
  · cases h
  · exact ⟨by omega, h⟩
/-- The three rows of a store lie in three blocks. -/
def ApartD (S : Sto) (u0 u1 u2 : Value) : Prop := (0 < S.nc → 0 < S.nl → u0.ownBlock ≠ u1.ownBlock) ∧ (0 < S.nc → 0 < S.nw → u0.ownBlock ≠ u2.ownBlock) ∧ (0 < S.nl → 0 < S.nw → u1.ownBlock ≠ u2.ownBlock)
theorem apart_rows {w : World} {B m n m' n' : Nat} {F F' : Nat → Int} {u u' : Value} (_ : Row w B m n F u) (_ : Row w B m' n' F' u') (hd : 0 < n → 0 < n' → u.ownBlock ≠ u'.ownBlock) : 0 < n' → ∀ k, u'.ownBlock = some k → some k ≠ turn n u := by
  intro hn k hk e
  obtain ⟨h0, h1⟩ := turn_eq e.symm
  exact hd h0 hn (h1.trans hk.symm)
/-- A store numbered from 1 on. -/
def markS (S : Sto) : Sto := ⟨S.nc, fun p => 1 + (p : Nat), S.nl, fun p => 1 + S.nc * 3 + (p : Nat), S.nw, fun p => 1 + S.nc * 3 + S.nl * 5 + (p : Nat)⟩
set_option maxRecDepth 100000 in
set_option maxHeartbeats 2000000 in
theorem markStore_full (S : Sto) (v0 v1 v2 : Value) (B E : Nat) (w : World) (h : St w B S v0 v1 v2) (hf : FreeS w S v0 v1 v2) (ha : ApartD S v0 v1 v2) (hE : (0 < S.nc → ∀ k, v0.ownBlock = some k → k < E) ∧ (0 < S.nl → ∀ k, v1.ownBlock = some k → k < E) ∧ (0 < S.nw → ∀ k, v2.ownBlock = some k → k < E)) (hEw : E ≤ w.heap.size) (hc : S.nc ≤ 1048576) (hl : S.nl ≤ 1048576) (hk : S.nw ≤ 1048576) :
    Calls Tryz.prog 10 #[.agg #[v0, v1, v2], .int .i64 1] w fun e w' => e = .returned (.int .i64 (1 + S.nc * 3 + S.nl * 5 + S.nw * 4)) ∧ St w' B (markS S) v0 v1 v2 ∧ Within B E w w' := by
  obtain ⟨a0, c0, a1, c1, a2, c2, rfl, rfl, rfl⟩ := h.form
  have H : Hid (St w B S (.slice a0 S.nc c0) (.slice a1 S.nl c1) (.slice a2 S.nw c2) ∧ FreeS w S (.slice a0 S.nc c0) (.slice a1 S.nl c1) (.slice a2 S.nw c2)) := ⟨h, hf⟩
  have HD : Hid (ApartD S (.slice a0 S.nc c0) (.slice a1 S.nl c1) (.slice a2 S.nw c2)) := ha
  have HA : Hid ((0 < S.nc → ∀ k, (Value.slice a0 S.nc c0).ownBlock = some k → B ≤ k ∧ k < E) ∧ (0 < S.nl → ∀ k, (Value.slice a1 S.nl c1).ownBlock = some k → B ≤ k ∧ k < E) ∧ (0 < S.nw → ∀ k, (Value.slice a2 S.nw c2).ownBlock = some k → B ≤ k ∧ k < E)) :=
    ⟨fun hn k q => ⟨(h.1.lt hn k q).1, hE.1 hn k q⟩, fun hn k q => ⟨(h.2.1.lt hn k q).1, hE.2.1 hn k q⟩, fun hn k q => ⟨(h.2.2.lt hn k q).1, hE.2.2 hn k q⟩⟩
  clear h hf ha hE
  go_enter Tryz.func10, Tryz.ntmps10
  go_wp2_with fail
  refine (markCellS_turn _ B S.nc S.c 1 _ (H.out.1.1.alloc _) (H.out.2.1.ofRow H.out.1.1 (below_alloc _ _)) hc (by omega) (by omega)).mono ?_
  rintro e w1 ⟨rfl, m1, _, g1⟩
  have hb1 : w1.heap[w.heap.size]? = (w.alloc (.cells #[.slice a0 S.nc c0, .slice a1 S.nl c1, .slice a2 S.nw c2] 32)).heap[w.heap.size]? := g1.block _ (by simp) (fun q => by have := turn_off HA.out.1 _ q.symm; omega)
  have W1 : Hid (Within B E w w1) := (Within.grow (below_alloc w _)).trans (Within.of g1 (fun b q => turn_off HA.out.1 b q))
  have K1 : Hid (Blk3 w1 w.heap.size (.slice a0 S.nc c0) (.slice a1 S.nl c1) (.slice a2 S.nw c2)) := (Blk3.new w _ _ _ _).kept hb1
  have M1 : Hid (Row w1 B 3 S.nc (fun p => 1 + (p : Nat)) (.slice a0 S.nc c0)) := m1
  have x1 := apart_rows H.out.1.1 H.out.1.2.1 HD.out.1
  have x2 := apart_rows H.out.1.1 H.out.1.2.2 HD.out.2.1
  have R1 : Hid (Row w1 B 5 S.nl S.l (.slice a1 S.nl c1) ∧ Free w1 (S.nl * 5) (.slice a1 S.nl c1)) :=
    ⟨(H.out.1.2.1.alloc _).turned g1 x1, (H.out.2.2.1.ofRow H.out.1.2.1 (below_alloc _ _)).turned (H.out.1.2.1.alloc _) g1 x1⟩
  have T1 : Hid (Row w1 B 4 S.nw S.k (.slice a2 S.nw c2) ∧ Free w1 (S.nw * 4) (.slice a2 S.nw c2)) :=
    ⟨(H.out.1.2.2.alloc _).turned g1 x2, (H.out.2.2.2.ofRow H.out.1.2.2 (below_alloc _ _)).turned (H.out.1.2.2.alloc _) g1 x2⟩
  obtain ⟨⟨p0, p1, p2⟩, _⟩ := K1.out
  clear hb1 g1 H m1 x1 x2
  go_wp2_with fail
  refine (markLockS_turn _ B S.nl S.l _ _ R1.out.1 R1.out.2 hl (by omega) (by omega)).mono ?_
  rintro e w2 ⟨rfl, m2, _, g2⟩
  have x0 := apart_rows R1.out.1 M1.out (fun h1 h2 e => HD.out.1 h2 h1 e.symm)
  have x2 := apart_rows R1.out.1 T1.out.1 HD.out.2.2
  have W2 : Hid (Within B E w w2) := W1.out.trans (Within.of g2 (fun b q => turn_off HA.out.2.1 b q))
  have K2 : Hid (Blk3 w2 w.heap.size (.slice a0 S.nc c0) (.slice a1 S.nl c1) (.slice a2 S.nw c2)) := K1.out.kept (g2.block _ K1.out.lt (fun q => by have := turn_off HA.out.2.1 _ q.symm; omega))
  have M2 : Hid (Row w2 B 3 S.nc (fun p => 1 + (p : Nat)) (.slice a0 S.nc c0) ∧ Row w2 B 5 S.nl (fun p => 1 + S.nc * 3 + (p : Nat)) (.slice a1 S.nl c1)) := ⟨M1.out.turned g2 x0, m2⟩
  have T2 : Hid (Row w2 B 4 S.nw S.k (.slice a2 S.nw c2) ∧ Free w2 (S.nw * 4) (.slice a2 S.nw c2)) := ⟨T1.out.1.turned g2 x2, T1.out.2.turned T1.out.1 g2 x2⟩
  clear p0 p1 p2 g2 T1 R1 K1 W1 m2 x0 x2 M1
  obtain ⟨⟨p0, p1, p2⟩, _⟩ := K2.out
  go_wp2_with fail
  refine (markWriteS_turn _ B S.nw S.k _ _ T2.out.1 T2.out.2 hk (by omega) (by omega)).mono ?_
  rintro e w3 ⟨rfl, m3, _, g3⟩
  have x0 := apart_rows T2.out.1 M2.out.1 (fun h1 h2 e => HD.out.2.1 h2 h1 e.symm)
  have x1 := apart_rows T2.out.1 M2.out.2 (fun h1 h2 e => HD.out.2.2 h2 h1 e.symm)
  have W3 : Hid (Within B E w w3) := W2.out.trans (Within.of g3 (fun b q => turn_off HA.out.2.2 b q))
  have M3 : Hid (St w3 B (markS S) (.slice a0 S.nc c0) (.slice a1 S.nl c1) (.slice a2 S.nw c2)) := ⟨M2.out.1.turned g3 x0, M2.out.2.turned g3 x1, m3⟩
  clear p0 p1 p2 g3 T2 K2 W2 m3 x0 x1 M2
  go_wp2
  go_ret
  exact ⟨rfl, M3.out, W3.out⟩
set_option maxRecDepth 100000 in
set_option maxHeartbeats 2000000 in
theorem heldStore_any (S : Sto) (v0 v1 v2 : Value) (B : Nat) (w : World) (h : St w B (markS S) v0 v1 v2) (hc : S.nc ≤ 1048576) (hl : S.nl ≤ 1048576) (hk : S.nw ≤ 1048576) :
    Calls Tryz.prog 29 #[.agg #[v0, v1, v2], .int .i64 1] w fun e w' => e = .returned (.int .i64 (1 + S.nc * 3 + S.nl * 5 + S.nw * 4)) ∧ Below w.heap.size w w' := by
  obtain ⟨a0, c0, a1, c1, a2, c2, rfl, rfl, rfl⟩ := h.form
  have H : Hid (Row w B 3 S.nc (fun p => 1 + (p : Nat)) (.slice a0 S.nc c0) ∧ Row w B 5 S.nl (fun p => 1 + S.nc * 3 + (p : Nat)) (.slice a1 S.nl c1) ∧ Row w B 4 S.nw (fun p => 1 + S.nc * 3 + S.nl * 5 + (p : Nat)) (.slice a2 S.nw c2)) := h
  have d0 : decide ((1 : Int) + S.nc * 3 < 0) = false := decide_eq_false (by omega)
  have d1 : decide ((1 : Int) + S.nc * 3 + S.nl * 5 < 0) = false := decide_eq_false (by omega)
  have d2 : decide ((1 : Int) + S.nc * 3 + S.nl * 5 + S.nw * 4 < 0) = false := decide_eq_false (by omega)
  clear h
  simp only [markS]
  go_enter Tryz.func29, Tryz.ntmps29
  go_wp2_with fail
  refine (heldCellS_any _ B S.nc 1 _ (H.out.1.alloc _) hc (by omega) (by omega)).mono ?_
  rintro e w1 ⟨rfl, rfl⟩
  go_wp2_with fail
  refine (heldLockS_any _ B S.nl _ _ (H.out.2.1.alloc _) hl (by omega) (by omega)).mono ?_
  rintro e w1 ⟨rfl, rfl⟩
  go_wp2_with fail
  refine (heldWriteS_any _ B S.nw _ _ (H.out.2.2.alloc _) hk (by omega) (by omega)).mono ?_
  rintro e w1 ⟨rfl, rfl⟩
  go_wp2
  go_ret
  exact ⟨rfl, below_alloc _ _⟩
set_option maxHeartbeats 1000000 in
theorem eqStoreResult_same (c : Int) (S : Sto) (v0 v1 v2 u0 u1 u2 : Value) (B B' : Nat) (w : World) (h : St w B S v0 v1 v2) (h' : St w B' S u0 u1 u2) (hc : S.nc ≤ 1048576) (hl : S.nl ≤ 1048576) (hk : S.nw ≤ 1048576) :
    Calls Tryz.prog 8 #[.agg #[.int .i64 c, v0, v1, v2], .agg #[.int .i64 c, u0, u1, u2]] w fun e w' => e = .returned (.bool true) ∧ Below w.heap.size w w' := by
  obtain ⟨a0, c0, a1, c1, a2, c2, rfl, rfl, rfl⟩ := h.form
  obtain ⟨b0, d0, b1, d1, b2, d2, rfl, rfl, rfl⟩ := h'.form
  have H : Hid (St w B S (.slice a0 S.nc c0) (.slice a1 S.nl c1) (.slice a2 S.nw c2) ∧ St w B' S (.slice b0 S.nc d0) (.slice b1 S.nl d1) (.slice b2 S.nw d2)) := ⟨h, h'⟩
  clear h h'
  go_enter Tryz.func8, Tryz.ntmps8
  go_wp2_with fail
  refine (eqStore_same S _ _ _ _ _ _ B B' _ ((H.out.1.alloc _).alloc _) ((H.out.2.alloc _).alloc _) hc hl hk).mono ?_
  rintro e w1 ⟨rfl, q1⟩
  have Q : Hid (Below w.heap.size w w1) := ((below_alloc _ _).alloc (by simp) _).trans (q1.mono (by simp; omega))
  clear q1
  go_wp2
  go_ret
  exact ⟨rfl, Q.out⟩
set_option maxHeartbeats 1000000 in
theorem markStoreResult_any (c : Int) (S : Sto) (v0 v1 v2 : Value) (B E : Nat) (w : World) (h : St w B S v0 v1 v2) (hf : FreeS w S v0 v1 v2) (ha : ApartD S v0 v1 v2) (hE : (0 < S.nc → ∀ k, v0.ownBlock = some k → k < E) ∧ (0 < S.nl → ∀ k, v1.ownBlock = some k → k < E) ∧ (0 < S.nw → ∀ k, v2.ownBlock = some k → k < E)) (hEw : E ≤ w.heap.size) (hc : S.nc ≤ 1048576) (hl : S.nl ≤ 1048576) (hk : S.nw ≤ 1048576) :
    Calls Tryz.prog 11 #[.agg #[.int .i64 c, v0, v1, v2], .int .i64 1] w fun e w' => e = .returned (.int .i64 (1 + S.nc * 3 + S.nl * 5 + S.nw * 4)) ∧ St w' B (markS S) v0 v1 v2 ∧ Within B E w w' := by
  obtain ⟨a0, c0, a1, c1, a2, c2, rfl, rfl, rfl⟩ := h.form
  have H : Hid ((St w B S (.slice a0 S.nc c0) (.slice a1 S.nl c1) (.slice a2 S.nw c2) ∧ FreeS w S (.slice a0 S.nc c0) (.slice a1 S.nl c1) (.slice a2 S.nw c2)) ∧ ApartD S (.slice a0 S.nc c0) (.slice a1 S.nl c1) (.slice a2 S.nw c2)) := ⟨⟨h, hf⟩, ha⟩
  have HE : Hid ((0 < S.nc → ∀ k, (Value.slice a0 S.nc c0).ownBlock = some k → k < E) ∧ (0 < S.nl → ∀ k, (Value.slice a1 S.nl c1).ownBlock = some k → k < E) ∧ (0 < S.nw → ∀ k, (Value.slice a2 S.nw c2).ownBlock = some k → k < E)) := hE
  clear h hf ha hE
  go_enter Tryz.func11, Tryz.ntmps11
  go_wp2_with fail
  refine (markStore_full S _ _ _ B E _ (H.out.1.1.alloc _) (H.out.1.2.later H.out.1.1 (below_alloc _ _)) H.out.2 HE.out (by simp; omega) hc hl hk).mono ?_
  rintro e w1 ⟨rfl, m1, W1⟩
  have Q : Hid (St w1 B (markS S) (.slice a0 S.nc c0) (.slice a1 S.nl c1) (.slice a2 S.nw c2) ∧ Within B E w w1) := ⟨m1, (Within.grow (below_alloc _ _)).trans W1⟩
  clear m1 W1
  go_wp2
  go_ret
  exact ⟨rfl, Q.out.1, Q.out.2⟩
set_option maxHeartbeats 1000000 in
theorem heldStoreResult_any (c : Int) (S : Sto) (v0 v1 v2 : Value) (B : Nat) (w : World) (h : St w B (markS S) v0 v1 v2) (hc : S.nc ≤ 1048576) (hl : S.nl ≤ 1048576) (hk : S.nw ≤ 1048576) :
    Calls Tryz.prog 12 #[.agg #[.int .i64 c, v0, v1, v2], .int .i64 1] w fun e w' => e = .returned (.int .i64 (1 + S.nc * 3 + S.nl * 5 + S.nw * 4)) ∧ Below w.heap.size w w' := by
  obtain ⟨a0, c0, a1, c1, a2, c2, rfl, rfl, rfl⟩ := h.form
  have H : Hid (St w B (markS S) (.slice a0 (markS S).nc c0) (.slice a1 (markS S).nl c1) (.slice a2 (markS S).nw c2)) := h
  have d2 : decide ((1 : Int) + S.nc * 3 + S.nl * 5 + S.nw * 4 < 0) = false := decide_eq_false (by omega)
  clear h
  simp only [markS] at H ⊢
  go_enter Tryz.func12, Tryz.ntmps12
  go_wp2_with fail
  refine (heldStore_any S _ _ _ B _ (St.alloc (S := markS S) H.out _) hc hl hk).mono ?_
  rintro e w1 ⟨rfl, q1⟩
  have Q : Hid (Below w.heap.size w w1) := (below_alloc _ _).trans (q1.mono (by simp))
  clear q1
  go_wp2
  go_ret
  exact ⟨rfl, Q.out⟩
end Go.Proofs.YtknbeggnlhiamaaGreat

namespace Go.Proofs.YtknbeggnlhiamaaGreat
open Go.RowKit

/-- A code, and a new store, its rows in three blocks. -/
def ResSto (w : World) (c : Int) (R : Sto) (e : Ending) (w' : World) : Prop := ∃ a0 c0 a1 c1 a2 c2, e = .returned (.agg #[.int .i64 c, .slice a0 R.nc c0, .slice a1 R.nl c1, .slice a2 R.nw c2]) ∧ (St w' w.heap.size R (.slice a0 R.nc c0) (.slice a1 R.nl c1) (.slice a2 R.nw c2) ∧ FreeS w' R (.slice a0 R.nc c0) (.slice a1 R.nl c1) (.slice a2 R.nw c2) ∧ ApartD R (.slice a0 R.nc c0) (.slice a1 R.nl c1) (.slice a2 R.nw c2)) ∧ Below w.heap.size w w'
theorem Blk4.kept {x x' : World} {b : Nat} {a0 a1 a2 a3 : Value} (h : Blk4 x b a0 a1 a2 a3) (hb : x'.heap[b]? = x.heap[b]?) : Blk4 x' b a0 a1 a2 a3 := by
  obtain ⟨⟨h0, h1, h2, h3⟩, f0, f1, f2, f3⟩ := h
  exact ⟨⟨(World.cell?_of_block (w := x) (a := ⟨b, 0, none⟩) hb).trans h0, (World.cell?_of_block (w := x) (a := ⟨b, 1, none⟩) hb).trans h1, (World.cell?_of_block (w := x) (a := ⟨b, 2, none⟩) hb).trans h2, (World.cell?_of_block (w := x) (a := ⟨b, 3, none⟩) hb).trans h3⟩,
    (World.frozen?_of_block (w := x) (a := ⟨b, 0, none⟩) hb).trans f0, (World.frozen?_of_block (w := x) (a := ⟨b, 1, none⟩) hb).trans f1, (World.frozen?_of_block (w := x) (a := ⟨b, 2, none⟩) hb).trans f2, (World.frozen?_of_block (w := x) (a := ⟨b, 3, none⟩) hb).trans f3⟩
theorem Blk4.within {x x' : World} {b B E : Nat} {a0 a1 a2 a3 : Value} (h : Blk4 x b a0 a1 a2 a3) (hw : Within B E x x') (ho : b < B ∨ E ≤ b) : Blk4 x' b a0 a1 a2 a3 := h.kept (hw.block b h.lt ho)
/-- The blocks of a store's rows that are not empty keep to P. -/
def OwnIn (S : Sto) (u0 u1 u2 : Value) (P : Nat → Prop) : Prop := (0 < S.nc → ∀ k, u0.ownBlock = some k → P k) ∧ (0 < S.nl → ∀ k, u1.ownBlock = some k → P k) ∧ (0 < S.nw → ∀ k, u2.ownBlock = some k → P k)
theorem St.ownIn {w : World} {B : Nat} {S : Sto} {u0 u1 u2 : Value} (h : St w B S u0 u1 u2) : OwnIn S u0 u1 u2 (fun k => B ≤ k ∧ k < w.heap.size) := ⟨fun hn k q => h.1.lt hn k q, fun hn k q => h.2.1.lt hn k q, fun hn k q => h.2.2.lt hn k q⟩
theorem OwnIn.mono {S : Sto} {u0 u1 u2 : Value} {P Q : Nat → Prop} (h : OwnIn S u0 u1 u2 P) (hpq : ∀ k, P k → Q k) : OwnIn S u0 u1 u2 Q := ⟨fun hn k q => hpq k (h.1 hn k q), fun hn k q => hpq k (h.2.1 hn k q), fun hn k q => hpq k (h.2.2 hn k q)⟩
theorem St.within {x x' : World} {C B E : Nat} {S : Sto} {u0 u1 u2 : Value} (h : St x C S u0 u1 u2) (hw : Within B E x x') (ho : OwnIn S u0 u1 u2 (fun k => k < B ∨ E ≤ k)) : St x' C S u0 u1 u2 := ⟨h.1.within hw ho.1, h.2.1.within hw ho.2.1, h.2.2.within hw ho.2.2⟩
theorem FreeS.within {x x' : World} {C B E : Nat} {S : Sto} {u0 u1 u2 : Value} (hf : FreeS x S u0 u1 u2) (h : St x C S u0 u1 u2) (hw : Within B E x x') (ho : OwnIn S u0 u1 u2 (fun k => k < B ∨ E ≤ k)) : FreeS x' S u0 u1 u2 := ⟨hf.1.within h.1 hw ho.1, hf.2.1.within h.2.1 hw ho.2.1, hf.2.2.within h.2.2 hw ho.2.2⟩
end Go.Proofs.YtknbeggnlhiamaaGreat

