/-
  Own text, merged of RegT, ColsA, ColsB, ColsC, ColsE, LawE, MarkA, StorQ, MarkS, LawT, RngA, GrpA, KeysA, ColsP, ColsF, GrpC, ColsK, ColsZ, PartA.
-/
import Derived.Test.YtdfikaehipdjaaaRows
import Derived.Deep.RegionHeld
import Derived.WalkKit
import Derived.RowKitTokens
import Derived.WalkLawsBesides
import Derived.ProofKit
import Derived.OpenShut
import Derived.Handy
import Derived.BigQuiet
import Derived.Deep.QuietTactic
import Derived.Deep.Slices
import Derived.Lib.SmallJoins
import Derived.Laws.OwnMore
import Derived.OwnWalk
import Derived.Laws.AppendOwn
import Derived.Deep.Onto
import Derived.Deep.RegionLaw
import Derived.Deep.AppendLies
import Derived.WalkSmall
import Derived.Maps.OwnSet
import Derived.DeepKeys4
import Derived.Laws.AppendOwnNone
import Derived.Deep.Cut
import Derived.Shelf.SlGeneric
import Derived.Shelf.SlSortCmp.NoneTotal
import Derived.Ground.SlsfProg
import Derived.Maps.RangeWalk
import Derived.ShutString
namespace Go.Proofs.Ytdfikaehipdjaaa
open Go.RowKit
theorem tkH {P : Program} {ops : Array Oper} {Q : Exit → Act → World → Prop} {md : Region.Mode} {S : World → Prop} (i : Nat) {oi : Oper} (v : Value) {fuel : Nat} {listed : Array Bool} {a : Act} {w : World} (hS : S w) (hy : ∀ w, S w → (execOp a.eval oi).run P w = .ok (.value v) w) (h : wpAnyH P md ops Q S fuel (listed.setIfInBounds i true) (a.put oi.dst v) w) (hi : ops[i]? = some oi := by exact rfl) (hs : Region.noSelect ops = true := by as_aux_lemma => kernel_rfl) (hf : Region.free md ops listed i = true := by as_aux_lemma => kernel_rfl) (hr : (Region.ready md ops listed).contains i = true := by as_aux_lemma => kernel_rfl) (hQ : ∀ c a w, Q (.panic c) (a.put oi.dst v) w → Q (.panic c) a w := by exact fun _ _ _ h => h) (hw : Region.wanted oi (yielded ops a.tmps) = true := by kernel_rfl) : wpAnyH P md ops Q S (fuel + 1) listed a w :=
  wpAnyH_take hi hs hf hr hQ (Or.inl ⟨hw, hy⟩) hS h
theorem noH {P : Program} {ops : Array Oper} {Q : Exit → Act → World → Prop} {md : Region.Mode} {S : World → Prop} (i : Nat) {oi : Oper} {fuel : Nat} {listed : Array Bool} {a : Act} {w : World} (hS : S w) (h : wpAnyH P md ops Q S fuel (listed.setIfInBounds i true) (a.put oi.dst undef) w) (hi : ops[i]? = some oi := by exact rfl) (hs : Region.noSelect ops = true := by as_aux_lemma => kernel_rfl) (hf : Region.free md ops listed i = true := by as_aux_lemma => kernel_rfl) (hr : (Region.ready md ops listed).contains i = true := by as_aux_lemma => kernel_rfl) (hQ : ∀ c a w, Q (.panic c) (a.put oi.dst undef) w → Q (.panic c) a w := by exact fun _ _ _ h => h) (hw : Region.wanted oi (yielded ops a.tmps) = false := by kernel_rfl) : wpAnyH P md ops Q S (fuel + 1) listed a w :=
  wpAnyH_take hi hs hf hr hQ (Or.inr ⟨hw, rfl⟩) hS h
theorem rdH {P : Program} {ops : Array Oper} {Q : Exit → Act → World → Prop} {md : Region.Mode} {S : World → Prop} (i : Nat) {o : Oper} {fuel : Nat} {listed : Array Bool} {a : Act} {w : World} (h : ∀ K' : Act → World → Prop, Shut (∀ a w, S w → (S w → wpAnyH P md ops Q S fuel (listed.setIfInBounds i true) a w) → K' a w) → if Region.wanted o (yielded ops a.tmps) = true then Oper.wp P o a w K' Q else K' (a.put o.dst undef) w) (ho : ops[i]? = some o := by exact rfl) (hr : Region.ready md ops listed = [i] := by as_aux_lemma => kernel_rfl) : wpAnyH P md ops Q S (fuel + 1) listed a w :=
  wpAnyH_ready hr (List.cons_ne_nil _ _) (AllReadyH.cons ho h AllReadyH.nil)
end Go.Proofs.Ytdfikaehipdjaaa

namespace Go.Proofs.Ytdfikaehipdjaaa
open Go.RowKit

/-- n elements of m whole numbers each, from block B on; number p of all of them is F p. -/
def Row (w : World) (B m n : Nat) (F : Nat → Int) (v : Value) : Prop :=
  ∃ ao cp, v = .slice ao n cp ∧ (0 < n → ∃ g o, ao = some ⟨g, o, none⟩ ∧ B ≤ g ∧ g < w.heap.size ∧ ∀ p, p < n * m → w.cell? ⟨g, o + p, none⟩ = some (.int .i64 (F p)))
/-- None of the first N places of the slice is frozen. -/
def Free (w : World) (N : Nat) (v : Value) : Prop := ∀ g o n c, v = .slice (some ⟨g, o, none⟩) n c → ∀ p, p < N → w.frozen? ⟨g, o + p, none⟩ = false

theorem Row.form {w : World} {B m n : Nat} {F : Nat → Int} {v : Value} (h : Row w B m n F v) : ∃ ao cp, v = .slice ao n cp := by
  obtain ⟨ao, cp, rfl, _⟩ := h; exact ⟨ao, cp, rfl⟩
theorem Row.at {w : World} {B m n : Nat} {F : Nat → Int} {ao : Option Addr} {cp : Nat} (h : Row w B m n F (.slice ao n cp)) {k : Nat} (hk : k < n) :
    ∃ g o, ao = some ⟨g, o, none⟩ ∧ B ≤ g ∧ g < w.heap.size ∧ ∀ j, j < m → w.cell? ⟨g, o + k * m + j, none⟩ = some (.int .i64 (F (k * m + j))) := by
  obtain ⟨ao', cp', hv, h⟩ := h
  simp only [Value.slice.injEq] at hv
  obtain ⟨rfl, _, rfl⟩ := hv
  obtain ⟨g, o, ha, hB, hg, hc⟩ := h (by omega)
  refine ⟨g, o, ha, hB, hg, fun j hj => ?_⟩
  rw [Nat.add_assoc]
  refine hc _ ?_
  calc k * m + j < k * m + m := by omega
    _ = (k + 1) * m := by rw [Nat.succ_mul]
    _ ≤ n * m := Nat.mul_le_mul_right m hk
theorem Row.kept {w w' : World} {B m n : Nat} {F : Nat → Int} {v : Value} (h : Row w B m n F v) (hs : w.heap.size ≤ w'.heap.size) (hb : ∀ k, v.ownBlock = some k → k < w.heap.size → w'.heap[k]? = w.heap[k]?) : Row w' B m n F v := by
  obtain ⟨ao, cp, rfl, h⟩ := h
  refine ⟨ao, cp, rfl, fun hn => ?_⟩
  obtain ⟨g, o, rfl, hB, hg, hc⟩ := h hn
  exact ⟨g, o, rfl, hB, Nat.lt_of_lt_of_le hg hs, fun p hp => (World.cell?_of_block (w := w) (hb g rfl hg)).trans (hc p hp)⟩
theorem Row.lt {w : World} {B m n : Nat} {F : Nat → Int} {v : Value} (h : Row w B m n F v) (hn : 0 < n) : ∀ k, v.ownBlock = some k → B ≤ k ∧ k < w.heap.size := by
  intro k hk
  obtain ⟨ao, cp, rfl, h⟩ := h
  obtain ⟨g, o, rfl, hB, hg, hc⟩ := h hn
  simp [Value.ownBlock] at hk
  subst hk
  exact ⟨hB, hg⟩
theorem Row.later {w w' : World} {B m n : Nat} {F : Nat → Int} {v : Value} (h : Row w B m n F v) (hb : Below w.heap.size w w') : Row w' B m n F v :=
  h.kept hb.size (fun k _ hk => hb.block k hk)
theorem Row.alloc {w : World} {B m n : Nat} {F : Nat → Int} {v : Value} (h : Row w B m n F v) (o : Obj) : Row (w.alloc o) B m n F v := h.later ((Below.refl _ _).alloc (Nat.le_refl _) o)
theorem Row.drewN {w : World} {B m n : Nat} {F : Nat → Int} {v : Value} (h : Row w B m n F v) (k : Nat) : Row (w.drewN k) B m n F v := h
theorem Row.mono {w : World} {B B' m n : Nat} {F : Nat → Int} {v : Value} (h : Row w B m n F v) (hB : B' ≤ B) : Row w B' m n F v := by
  obtain ⟨ao, cp, rfl, h⟩ := h
  refine ⟨ao, cp, rfl, fun hn => ?_⟩
  obtain ⟨g, o, rfl, hb, hg, hc⟩ := h hn
  exact ⟨g, o, rfl, by omega, hg, hc⟩
theorem Row.setCell {w : World} {B m n : Nat} {F : Nat → Int} {v : Value} (h : Row w B m n F v) {a : Addr} (ha : v.ownBlock ≠ some a.block) (u : Value) : Row (w.setCell a u) B m n F v :=
  h.kept (by simp [World.setCell]) (fun k hk _ => Below.heap_setCell w a u k (fun e => ha (by rw [hk, e])))
theorem Row.congr {w : World} {B m n : Nat} {F G : Nat → Int} {v : Value} (h : Row w B m n F v) (e : ∀ p, p < n * m → F p = G p) : Row w B m n G v := by
  obtain ⟨ao, cp, rfl, h⟩ := h
  refine ⟨ao, cp, rfl, fun hn => ?_⟩
  obtain ⟨g, o, rfl, hb, hg, hc⟩ := h hn
  exact ⟨g, o, rfl, hb, hg, fun p hp => by rw [← e p hp]; exact hc p hp⟩
theorem Row.at3 {w : World} {B n : Nat} {F : Nat → Int} {ao : Option Addr} {cp : Nat} (h : Row w B 3 n F (.slice ao n cp)) {k : Nat} (hk : k < n) :
    ∃ g o, ao = some ⟨g, o, none⟩ ∧ B ≤ g ∧ g < w.heap.size ∧ w.cell? ⟨g, o + k * 3, none⟩ = some (.int .i64 (F (k * 3))) ∧ w.cell? ⟨g, o + k * 3 + 1, none⟩ = some (.int .i64 (F (k * 3 + 1))) ∧ w.cell? ⟨g, o + k * 3 + 2, none⟩ = some (.int .i64 (F (k * 3 + 2))) := by
  obtain ⟨g, o, ha, hB, hg, hc⟩ := h.at hk
  exact ⟨g, o, ha, hB, hg, hc 0 (by omega), hc 1 (by omega), hc 2 (by omega)⟩
theorem Row.at4 {w : World} {B n : Nat} {F : Nat → Int} {ao : Option Addr} {cp : Nat} (h : Row w B 4 n F (.slice ao n cp)) {k : Nat} (hk : k < n) :
    ∃ g o, ao = some ⟨g, o, none⟩ ∧ B ≤ g ∧ g < w.heap.size ∧ w.cell? ⟨g, o + k * 4, none⟩ = some (.int .i64 (F (k * 4))) ∧ w.cell? ⟨g, o + k * 4 + 1, none⟩ = some (.int .i64 (F (k * 4 + 1))) ∧ w.cell? ⟨g, o + k * 4 + 2, none⟩ = some (.int .i64 (F (k * 4 + 2))) ∧ w.cell? ⟨g, o + k * 4 + 3, none⟩ = some (.int .i64 (F (k * 4 + 3))) := by
  obtain ⟨g, o, ha, hB, hg, hc⟩ := h.at hk
  exact ⟨g, o, ha, hB, hg, hc 0 (by omega), hc 1 (by omega), hc 2 (by omega), hc 3 (by omega)⟩
theorem Row.at5 {w : World} {B n : Nat} {F : Nat → Int} {ao : Option Addr} {cp : Nat} (h : Row w B 5 n F (.slice ao n cp)) {k : Nat} (hk : k < n) :
    ∃ g o, ao = some ⟨g, o, none⟩ ∧ B ≤ g ∧ g < w.heap.size ∧ w.cell? ⟨g, o + k * 5, none⟩ = some (.int .i64 (F (k * 5))) ∧ w.cell? ⟨g, o + k * 5 + 1, none⟩ = some (.int .i64 (F (k * 5 + 1))) ∧ w.cell? ⟨g, o + k * 5 + 2, none⟩ = some (.int .i64 (F (k * 5 + 2))) ∧ w.cell? ⟨g, o + k * 5 + 3, none⟩ = some (.int .i64 (F (k * 5 + 3))) ∧ w.cell? ⟨g, o + k * 5 + 4, none⟩ = some (.int .i64 (F (k * 5 + 4))) := by
  obtain ⟨g, o, ha, hB, hg, hc⟩ := h.at hk
  exact ⟨g, o, ha, hB, hg, hc 0 (by omega), hc 1 (by omega), hc 2 (by omega), hc 3 (by omega), hc 4 (by omega)⟩
theorem Free.later {w w' : World} {N : Nat} {v : Value} (h : Free w N v) (hl : ∀ k, v.ownBlock = some k → k < w.heap.size) (hb : Below w.heap.size w w') : Free w' N v := by
  intro g o n c hv p hp
  rw [hb.frozen (hl g (by rw [hv]; rfl))]
  exact h g o n c hv p hp

/-- Block g has N places from o on, none frozen; the first K of them hold F 0, F 1 .. -/
def Fill (w : World) (g o N K : Nat) (F : Nat → Int) : Prop :=
  g < w.heap.size ∧ (∀ p, p < N → (∃ u, w.cell? ⟨g, o + p, none⟩ = some u) ∧ w.frozen? ⟨g, o + p, none⟩ = false) ∧ ∀ p, p < K → w.cell? ⟨g, o + p, none⟩ = some (.int .i64 (F p))
theorem Fill.put {w : World} {g o N K : Nat} {F : Nat → Int} (h : Fill w g o N K F) (hK : K < N) : Fill (w.setCell ⟨g, o + K, none⟩ (.int .i64 (F K))) g o N (K + 1) F := by
  obtain ⟨h1, h2, h3⟩ := h
  obtain ⟨⟨u, hu⟩, hf⟩ := h2 K hK
  refine ⟨by simpa [World.setCell] using h1, fun p hp => ⟨?_, by rw [World.frozen?_setCell]; exact (h2 p hp).2⟩, fun p hp => ?_⟩
  · by_cases e : p = K
    · subst e; exact ⟨_, World.cell?_setCell_same _ _ _ hu⟩
    · obtain ⟨u', hu'⟩ := (h2 p hp).1
      exact ⟨u', (World.cell?_setCell_other _ _ _ _ (by intro q; simp at q; try omega)).trans hu'⟩
  · by_cases e : p = K
    · subst e; exact World.cell?_setCell_same _ _ _ hu
    · exact (World.cell?_setCell_other _ _ _ _ (by intro q; simp at q; try omega)).trans (h3 p (by omega))
theorem Fill.later {w w' : World} {g o N K : Nat} {F : Nat → Int} (h : Fill w g o N K F) (hb : Below w.heap.size w w') : Fill w' g o N K F := by
  obtain ⟨h1, h2, h3⟩ := h
  refine ⟨Nat.lt_of_lt_of_le h1 hb.size, fun p hp => ⟨?_, (hb.frozen (p := ⟨g, o + p, none⟩) h1).trans (h2 p hp).2⟩, fun p hp => (hb.cell (p := ⟨g, o + p, none⟩) h1).trans (h3 p hp)⟩
  obtain ⟨u, hu⟩ := (h2 p hp).1
  exact ⟨u, (hb.cell (p := ⟨g, o + p, none⟩) h1).trans hu⟩
theorem Fill.at {w : World} {g o N K : Nat} {F : Nat → Int} (h : Fill w g o N K F) {p : Nat} (hp : p < N) : ∃ u, w.cell? ⟨g, o + p, none⟩ = some u ∧ w.frozen? ⟨g, o + p, none⟩ = false := by
  obtain ⟨⟨u, hu⟩, hf⟩ := h.2.1 p hp
  exact ⟨u, hu, hf⟩
theorem Fill.row {w : World} {g o m n B : Nat} {F : Nat → Int} (h : Fill w g o (n * m) (n * m) F) (hB : B ≤ g) (cp : Nat) : Row w B m n F (.slice (some ⟨g, o, none⟩) n cp) ∧ Free w (n * m) (.slice (some ⟨g, o, none⟩) n cp) := by
  refine ⟨⟨_, _, rfl, fun _ => ⟨g, o, rfl, hB, h.1, h.2.2⟩⟩, ?_⟩
  intro g' o' n' c' hv p hp
  simp only [Value.slice.injEq, Option.some.injEq, Addr.mk.injEq] at hv
  obtain ⟨⟨rfl, rfl, _⟩, _, _⟩ := hv
  exact (h.2.1 p hp).2
theorem Fill.ofRow {w : World} {B m n g o cp : Nat} {F G : Nat → Int} (h : Row w B m n F (.slice (some ⟨g, o, none⟩) n cp)) (hf : Free w (n * m) (.slice (some ⟨g, o, none⟩) n cp)) (hn : 0 < n) : Fill w g o (n * m) 0 G := by
  obtain ⟨ao, cp', hv, h⟩ := h
  obtain ⟨g', o', rfl, _, hg, hc⟩ := h hn
  simp only [Value.slice.injEq, Option.some.injEq, Addr.mk.injEq] at hv
  obtain ⟨⟨rfl, rfl, _⟩, _, rfl⟩ := hv
  exact ⟨hg, fun p hp => ⟨⟨_, hc p hp⟩, hf _ _ _ _ rfl p hp⟩, fun p hp => absurd hp (Nat.not_lt_zero p)⟩
theorem Fill.made (w : World) (z : Array Value) (N : Nat) (e : TypeId) (F : Nat → Int) : Fill (w.alloc (.cells (madeCells z N) e)) w.heap.size 0 N 0 F := by
  refine ⟨by simp, fun p hp => ⟨⟨(madeCells z N)[p]'(by rw [size_madeCells]; exact hp), ?_⟩, by simp⟩, fun p hp => absurd hp (Nat.not_lt_zero p)⟩
  rw [Nat.zero_add, World.cell?_alloc_mark]
  simp

/-- Block b holds three cells, none frozen. -/
def Blk3 (x : World) (b : Nat) (a0 a1 a2 : Value) : Prop :=
  (x.cell? ⟨b, 0, none⟩ = some a0 ∧ x.cell? ⟨b, 1, none⟩ = some a1 ∧ x.cell? ⟨b, 2, none⟩ = some a2) ∧ x.frozen? ⟨b, 0, none⟩ = false ∧ x.frozen? ⟨b, 1, none⟩ = false ∧ x.frozen? ⟨b, 2, none⟩ = false
theorem Blk3.kept {x x' : World} {b : Nat} {a0 a1 a2 : Value} (h : Blk3 x b a0 a1 a2) (hb : x'.heap[b]? = x.heap[b]?) : Blk3 x' b a0 a1 a2 := by
  obtain ⟨⟨h0, h1, h2⟩, f0, f1, f2⟩ := h
  exact ⟨⟨(World.cell?_of_block (w := x) (a := ⟨b, 0, none⟩) hb).trans h0, (World.cell?_of_block (w := x) (a := ⟨b, 1, none⟩) hb).trans h1, (World.cell?_of_block (w := x) (a := ⟨b, 2, none⟩) hb).trans h2⟩,
    (World.frozen?_of_block (w := x) (a := ⟨b, 0, none⟩) hb).trans f0, (World.frozen?_of_block (w := x) (a := ⟨b, 1, none⟩) hb).trans f1, (World.frozen?_of_block (w := x) (a := ⟨b, 2, none⟩) hb).trans f2⟩
theorem Blk3.lt {x : World} {b : Nat} {a0 a1 a2 : Value} (h : Blk3 x b a0 a1 a2) : b < x.heap.size := World.block_lt_of_cell? x _ h.1.1
theorem Blk3.later {x x' : World} {b : Nat} {a0 a1 a2 : Value} (h : Blk3 x b a0 a1 a2) (hb : Below x.heap.size x x') : Blk3 x' b a0 a1 a2 := h.kept (hb.block b h.lt)
theorem Blk3.alloc {x : World} {b : Nat} {a0 a1 a2 : Value} (h : Blk3 x b a0 a1 a2) (o : Obj) : Blk3 (x.alloc o) b a0 a1 a2 := h.later ((Below.refl _ _).alloc (Nat.le_refl _) o)
theorem Blk3.new (w : World) (a0 a1 a2 : Value) (t : TypeId) : Blk3 (w.alloc (.cells #[a0, a1, a2] t)) w.heap.size a0 a1 a2 := by
  refine ⟨⟨World.cell?_alloc_mark w _ _ _ 0, World.cell?_alloc_mark w _ _ _ 1, World.cell?_alloc_mark w _ _ _ 2⟩, ?_, ?_, ?_⟩ <;> simp
theorem Blk3.setFar {x : World} {b : Nat} {a0 a1 a2 : Value} (h : Blk3 x b a0 a1 a2) {p : Addr} (hp : b ≠ p.block) (u : Value) : Blk3 (x.setCell p u) b a0 a1 a2 := h.kept (Below.heap_setCell x p u b hp)
theorem Blk3.set0 {x : World} {b : Nat} {a0 a1 a2 : Value} (h : Blk3 x b a0 a1 a2) (u : Value) : Blk3 (x.setCell ⟨b, 0, none⟩ u) b u a1 a2 := by
  obtain ⟨⟨h0, h1, h2⟩, f0, f1, f2⟩ := h
  exact ⟨⟨World.cell?_setCell_same _ _ _ h0, (World.cell?_setCell_other _ _ _ _ (by simp)).trans h1, (World.cell?_setCell_other _ _ _ _ (by simp)).trans h2⟩, by simpa using f0, by simpa using f1, by simpa using f2⟩
theorem Blk3.set1 {x : World} {b : Nat} {a0 a1 a2 : Value} (h : Blk3 x b a0 a1 a2) (u : Value) : Blk3 (x.setCell ⟨b, 1, none⟩ u) b a0 u a2 := by
  obtain ⟨⟨h0, h1, h2⟩, f0, f1, f2⟩ := h
  exact ⟨⟨(World.cell?_setCell_other _ _ _ _ (by simp)).trans h0, World.cell?_setCell_same _ _ _ h1, (World.cell?_setCell_other _ _ _ _ (by simp)).trans h2⟩, by simpa using f0, by simpa using f1, by simpa using f2⟩
theorem Blk3.set2 {x : World} {b : Nat} {a0 a1 a2 : Value} (h : Blk3 x b a0 a1 a2) (u : Value) : Blk3 (x.setCell ⟨b, 2, none⟩ u) b a0 a1 u := by
  obtain ⟨⟨h0, h1, h2⟩, f0, f1, f2⟩ := h
  exact ⟨⟨(World.cell?_setCell_other _ _ _ _ (by simp)).trans h0, (World.cell?_setCell_other _ _ _ _ (by simp)).trans h1, World.cell?_setCell_same _ _ _ h2⟩, by simpa using f0, by simpa using f1, by simpa using f2⟩
theorem Row.far {w : World} {B m n : Nat} {F : Nat → Int} {v : Value} (h : Row w B m n F v) {a : Addr} (ha : a.block < B ∨ w.heap.size ≤ a.block) (u : Value) : Row (w.setCell a u) B m n F v := by
  obtain ⟨ao, cp, rfl, h⟩ := h
  refine ⟨ao, cp, rfl, fun hn => ?_⟩
  obtain ⟨g, o, rfl, hB, hg, hc⟩ := h hn
  refine ⟨g, o, rfl, hB, by simpa [World.setCell] using hg, fun p hp => ?_⟩
  rw [← hc p hp]
  exact World.cell?_of_block (Below.heap_setCell w a u g (by omega))
theorem Free.far {w : World} {N : Nat} {v : Value} (h : Free w N v) (a : Addr) (u : Value) : Free (w.setCell a u) N v := by
  intro g o n c hv p hp
  rw [World.frozen?_setCell]
  exact h g o n c hv p hp
theorem Free.of0 (w : World) (v : Value) : Free w 0 v := fun _ _ _ _ _ _ hp => absurd hp (Nat.not_lt_zero _)
theorem Free.ofRow {w w' : World} {B m n : Nat} {F : Nat → Int} {v : Value} (h : Free w (n * m) v) (hr : Row w B m n F v) (hb : Below w.heap.size w w') : Free w' (n * m) v := by
  rcases Nat.eq_zero_or_pos n with e | e
  · subst e; rw [Nat.zero_mul]; exact Free.of0 _ _
  · exact h.later (fun k hk => (hr.lt e k hk).2) hb

/-- A store as numbers: how many cells, locks and writes, and all their numbers. -/
structure Sto where
  nc : Nat
  c : Nat → Int
  nl : Nat
  l : Nat → Int
  nw : Nat
  k : Nat → Int
def St (w : World) (B : Nat) (S : Sto) (v0 v1 v2 : Value) : Prop := Row w B 3 S.nc S.c v0 ∧ Row w B 5 S.nl S.l v1 ∧ Row w B 4 S.nw S.k v2
theorem St.later {w w' : World} {B : Nat} {S : Sto} {v0 v1 v2 : Value} (h : St w B S v0 v1 v2) (hb : Below w.heap.size w w') : St w' B S v0 v1 v2 := ⟨h.1.later hb, h.2.1.later hb, h.2.2.later hb⟩
theorem St.alloc {w : World} {B : Nat} {S : Sto} {v0 v1 v2 : Value} (h : St w B S v0 v1 v2) (o : Obj) : St (w.alloc o) B S v0 v1 v2 := ⟨h.1.alloc o, h.2.1.alloc o, h.2.2.alloc o⟩
theorem St.mono {w : World} {B B' : Nat} {S : Sto} {v0 v1 v2 : Value} (h : St w B S v0 v1 v2) (hB : B' ≤ B) : St w B' S v0 v1 v2 := ⟨h.1.mono hB, h.2.1.mono hB, h.2.2.mono hB⟩
theorem St.form {w : World} {B : Nat} {S : Sto} {v0 v1 v2 : Value} (h : St w B S v0 v1 v2) : ∃ a0 c0 a1 c1 a2 c2, v0 = .slice a0 S.nc c0 ∧ v1 = .slice a1 S.nl c1 ∧ v2 = .slice a2 S.nw c2 := by
  obtain ⟨a0, c0, h0⟩ := h.1.form
  obtain ⟨a1, c1, h1⟩ := h.2.1.form
  obtain ⟨a2, c2, h2⟩ := h.2.2.form
  exact ⟨a0, c0, a1, c1, a2, c2, h0, h1, h2⟩
theorem below_alloc (w : World) (o : Obj) : Below w.heap.size w (w.alloc o) := (Below.refl _ _).alloc (Nat.le_refl _) o
theorem St.far {w : World} {B : Nat} {S : Sto} {v0 v1 v2 : Value} (h : St w B S v0 v1 v2) {a : Addr} (ha : a.block < B) (u : Value) : St (w.setCell a u) B S v0 v1 v2 := ⟨h.1.far (Or.inl ha) u, h.2.1.far (Or.inl ha) u, h.2.2.far (Or.inl ha) u⟩
def FreeS (w : World) (S : Sto) (v0 v1 v2 : Value) : Prop := Free w (S.nc * 3) v0 ∧ Free w (S.nl * 5) v1 ∧ Free w (S.nw * 4) v2
theorem FreeS.far {w : World} {S : Sto} {v0 v1 v2 : Value} (h : FreeS w S v0 v1 v2) (a : Addr) (u : Value) : FreeS (w.setCell a u) S v0 v1 v2 := ⟨h.1.far a u, h.2.1.far a u, h.2.2.far a u⟩
theorem FreeS.later {w w' : World} {B : Nat} {S : Sto} {v0 v1 v2 : Value} (h : FreeS w S v0 v1 v2) (hs : St w B S v0 v1 v2) (hb : Below w.heap.size w w') : FreeS w' S v0 v1 v2 := ⟨h.1.ofRow hs.1 hb, h.2.1.ofRow hs.2.1 hb, h.2.2.ofRow hs.2.2 hb⟩
end Go.Proofs.Ytdfikaehipdjaaa

namespace Go.Proofs.Ytdfikaehipdjaaa
open Go.RowKit

theorem info_Cell : (Try.prog.info? 92).map (fun i => (i.zero, i.size, i.bytes)) = some (some (.agg #[.int .i64 0, .int .i64 0, .int .i64 0]), 3, 24) := by kernel_rfl
theorem info_Lock : (Try.prog.info? 94).map (fun i => (i.zero, i.size, i.bytes)) = some (some (.agg #[.int .i64 0, .int .i64 0, .int .i64 0, .int .i64 0, .int .i64 0]), 5, 40) := by kernel_rfl
theorem info_Write : (Try.prog.info? 96).map (fun i => (i.zero, i.size, i.bytes)) = some (some (.agg #[.int .i64 0, .int .i64 0, .int .i64 0, .int .i64 0]), 4, 32) := by kernel_rfl
end Go.Proofs.Ytdfikaehipdjaaa

namespace Go.Proofs.Ytdfikaehipdjaaa
open Go.RowKit

set_option maxHeartbeats 400000 in
theorem eqCell_same (x0 x1 x2 : Int) (w : World) :
    Calls Try.prog 94 #[.agg #[.int .i64 x0, .int .i64 x1, .int .i64 x2], .agg #[.int .i64 x0, .int .i64 x1, .int .i64 x2]] w fun e w' => e = .returned (.bool true) ∧ Below w.heap.size w w' := by
  go_enter Try.func94, Try.ntmps94
  go_wp2
  go_ret
  exact ⟨rfl, ((Below.refl _ _).alloc (Nat.le_refl _) _).alloc (by simp) _⟩
def TwoCell (w : World) (g o g' o' k : Nat) (F : Nat → Int) (x : World) : Prop := (x.cell? ⟨g, o + k * 3, none⟩ = some (.int .i64 (F (k * 3))) ∧ x.cell? ⟨g, o + k * 3 + 1, none⟩ = some (.int .i64 (F (k * 3 + 1))) ∧ x.cell? ⟨g, o + k * 3 + 2, none⟩ = some (.int .i64 (F (k * 3 + 2))) ∧ x.cell? ⟨g', o' + k * 3, none⟩ = some (.int .i64 (F (k * 3))) ∧ x.cell? ⟨g', o' + k * 3 + 1, none⟩ = some (.int .i64 (F (k * 3 + 1))) ∧ x.cell? ⟨g', o' + k * 3 + 2, none⟩ = some (.int .i64 (F (k * 3 + 2)))) ∧ Below w.heap.size w x
theorem TwoCell.later {w x x' : World} {g o g' o' k : Nat} {F : Nat → Int} (h : TwoCell w g o g' o' k F x) (hg : g < w.heap.size) (hg' : g' < w.heap.size) (hb : Below x.heap.size x x') : TwoCell w g o g' o' k F x' := by
  obtain ⟨⟨hx0, hx1, hx2, hx3, hx4, hx5⟩, hy⟩ := h
  exact ⟨⟨(hb.cell (Nat.lt_of_lt_of_le hg hy.size)).trans hx0, (hb.cell (Nat.lt_of_lt_of_le hg hy.size)).trans hx1, (hb.cell (Nat.lt_of_lt_of_le hg hy.size)).trans hx2, (hb.cell (Nat.lt_of_lt_of_le hg' hy.size)).trans hx3, (hb.cell (Nat.lt_of_lt_of_le hg' hy.size)).trans hx4, (hb.cell (Nat.lt_of_lt_of_le hg' hy.size)).trans hx5⟩, hy.trans (hb.mono hy.size)⟩
set_option maxRecDepth 100000 in
set_option maxHeartbeats 1000000 in
theorem eqCellS_same (va vb : Value) (Ba Bb n : Nat) (F : Nat → Int) (w : World) (ha : Row w Ba 3 n F va) (hb : Row w Bb 3 n F vb) (hn : n ≤ 1048576) :
    Calls Try.prog 78 #[va, vb] w fun e w' => e = .returned (.bool true) ∧ Below w.heap.size w w' := by
  obtain ⟨ao, ca, rfl⟩ := ha.form
  obtain ⟨bo, cb, rfl⟩ := hb.form
  have HA : Hid (Row w Ba 3 n F (.slice ao n ca)) := ha
  have HB : Hid (Row w Bb 3 n F (.slice bo n cb)) := hb
  clear ha hb
  go_enter Try.func78, Try.ntmps78
  go_wp2
  go_loopw [5] (fun i wr => ∃ k : Nat, k ≤ n ∧ i = .int .i64 k ∧ Below w.heap.size w wr) (fun i _ => n - (intOf i).toNat)
  case atStart => exact ⟨0, Nat.zero_le _, rfl, Below.refl _ _⟩
  case round =>
    obtain ⟨k, hk, rfl, hbw⟩ := hrel
    by_cases hlt : k < n
    · obtain ⟨g, o, rfl, _, hg, c0, c1, c2⟩ := HA.out.at3 hlt
      obtain ⟨g', o', rfl, _, hg', d0, d1, d2⟩ := HB.out.at3 hlt
      have h0 : TwoCell w g o g' o' k F wr.drew := ⟨⟨(hbw.cell (p := ⟨g, o + k * 3, none⟩) hg).trans c0, (hbw.cell (p := ⟨g, o + k * 3 + 1, none⟩) hg).trans c1, (hbw.cell (p := ⟨g, o + k * 3 + 2, none⟩) hg).trans c2, (hbw.cell (p := ⟨g', o' + k * 3, none⟩) hg').trans d0, (hbw.cell (p := ⟨g', o' + k * 3 + 1, none⟩) hg').trans d1, (hbw.cell (p := ⟨g', o' + k * 3 + 2, none⟩) hg').trans d2⟩, hbw.drew⟩
      clear c0 d0 c1 d1 c2 d2 hbw
      go_wp2_with fail
      refine wp_region_held_drew (S := TwoCell w g o g' o' k F) (by kernel_rfl) h0 (fun hS => ?_)
      clear h0
      refine tkH 0 ?_ hS (fun wx hx => ?_) ?_; rotate_left
      · obtain ⟨⟨hx0, hx1, hx2, hx3, hx4, hx5⟩, _⟩ := hx; go_simp; try with_reducible rfl
      refine tkH 1 ?_ hS (fun wx hx => ?_) ?_; rotate_left
      · obtain ⟨⟨hx0, hx1, hx2, hx3, hx4, hx5⟩, _⟩ := hx; go_simp; try with_reducible rfl
      refine tkH 2 ?_ hS (fun wx hx => ?_) ?_; rotate_left
      · obtain ⟨⟨hx0, hx1, hx2, hx3, hx4, hx5⟩, _⟩ := hx; go_simp; try with_reducible rfl
      refine tkH 3 ?_ hS (fun wx hx => ?_) ?_; rotate_left
      · obtain ⟨⟨hx0, hx1, hx2, hx3, hx4, hx5⟩, _⟩ := hx; go_simp; try with_reducible rfl
      refine tkH 4 ?_ hS (fun wx hx => ?_) ?_; rotate_left
      · obtain ⟨⟨hx0, hx1, hx2, hx3, hx4, hx5⟩, _⟩ := hx; go_simp; try with_reducible rfl
      refine tkH 5 ?_ hS (fun wx hx => ?_) ?_; rotate_left
      · obtain ⟨⟨hx0, hx1, hx2, hx3, hx4, hx5⟩, _⟩ := hx; go_simp; try with_reducible rfl
      refine tkH 6 ?_ hS (fun wx hx => ?_) ?_; rotate_left
      · obtain ⟨⟨hx0, hx1, hx2, hx3, hx4, hx5⟩, _⟩ := hx; go_simp; try with_reducible rfl
      refine tkH 7 ?_ hS (fun wx hx => ?_) ?_; rotate_left
      · obtain ⟨⟨hx0, hx1, hx2, hx3, hx4, hx5⟩, _⟩ := hx; go_simp; try with_reducible rfl
      refine rdH 8 (fun K hK => ?_)
      go_simp
      go_wp2_with fail
      refine (eqCell_same _ _ _ _).mono ?_
      rintro e w' ⟨rfl, hb⟩
      go_wp2_with fail
      refine hK.out _ _ (hS.later hg hg' hb) (fun hS => ?_)
      clear hK K
      refine tkH 9 ?_ hS (fun wx hx => ?_) ?_; rotate_left
      · obtain ⟨⟨hx0, hx1, hx2, hx3, hx4, hx5⟩, _⟩ := hx; go_simp; try with_reducible rfl
      refine wpAnyH_done (by kernel_rfl) ?_ _
      go_simp
      go_wp2
      go_roundw
      case rel => exact ⟨k + 1, by omega, by go_num, hS.2⟩
      case measure => simp [intOf]; omega
    · go_wp2
      go_ret
      exact ⟨rfl, hbw⟩
set_option maxHeartbeats 400000 in
theorem eqLock_same (x0 x1 x2 x3 x4 : Int) (w : World) :
    Calls Try.prog 95 #[.agg #[.int .i64 x0, .int .i64 x1, .int .i64 x2, .int .i64 x3, .int .i64 x4], .agg #[.int .i64 x0, .int .i64 x1, .int .i64 x2, .int .i64 x3, .int .i64 x4]] w fun e w' => e = .returned (.bool true) ∧ Below w.heap.size w w' := by
  go_enter Try.func95, Try.ntmps95
  go_wp2
  go_ret
  exact ⟨rfl, ((Below.refl _ _).alloc (Nat.le_refl _) _).alloc (by simp) _⟩
def TwoLock (w : World) (g o g' o' k : Nat) (F : Nat → Int) (x : World) : Prop := (x.cell? ⟨g, o + k * 5, none⟩ = some (.int .i64 (F (k * 5))) ∧ x.cell? ⟨g, o + k * 5 + 1, none⟩ = some (.int .i64 (F (k * 5 + 1))) ∧ x.cell? ⟨g, o + k * 5 + 2, none⟩ = some (.int .i64 (F (k * 5 + 2))) ∧ x.cell? ⟨g, o + k * 5 + 3, none⟩ = some (.int .i64 (F (k * 5 + 3))) ∧ x.cell? ⟨g, o + k * 5 + 4, none⟩ = some (.int .i64 (F (k * 5 + 4))) ∧ x.cell? ⟨g', o' + k * 5, none⟩ = some (.int .i64 (F (k * 5))) ∧ x.cell? ⟨g', o' + k * 5 + 1, none⟩ = some (.int .i64 (F (k * 5 + 1))) ∧ x.cell? ⟨g', o' + k * 5 + 2, none⟩ = some (.int .i64 (F (k * 5 + 2))) ∧ x.cell? ⟨g', o' + k * 5 + 3, none⟩ = some (.int .i64 (F (k * 5 + 3))) ∧ x.cell? ⟨g', o' + k * 5 + 4, none⟩ = some (.int .i64 (F (k * 5 + 4)))) ∧ Below w.heap.size w x
theorem TwoLock.later {w x x' : World} {g o g' o' k : Nat} {F : Nat → Int} (h : TwoLock w g o g' o' k F x) (hg : g < w.heap.size) (hg' : g' < w.heap.size) (hb : Below x.heap.size x x') : TwoLock w g o g' o' k F x' := by
  obtain ⟨⟨hx0, hx1, hx2, hx3, hx4, hx5, hx6, hx7, hx8, hx9⟩, hy⟩ := h
  exact ⟨⟨(hb.cell (Nat.lt_of_lt_of_le hg hy.size)).trans hx0, (hb.cell (Nat.lt_of_lt_of_le hg hy.size)).trans hx1, (hb.cell (Nat.lt_of_lt_of_le hg hy.size)).trans hx2, (hb.cell (Nat.lt_of_lt_of_le hg hy.size)).trans hx3, (hb.cell (Nat.lt_of_lt_of_le hg hy.size)).trans hx4, (hb.cell (Nat.lt_of_lt_of_le hg' hy.size)).trans hx5, (hb.cell (Nat.lt_of_lt_of_le hg' hy.size)).trans hx6, (hb.cell (Nat.lt_of_lt_of_le hg' hy.size)).trans hx7, (hb.cell (Nat.lt_of_lt_of_le hg' hy.size)).trans hx8, (hb.cell (Nat.lt_of_lt_of_le hg' hy.size)).trans hx9⟩, hy.trans (hb.mono hy.size)⟩
set_option maxRecDepth 100000 in
set_option maxHeartbeats 1000000 in
theorem eqLockS_same (va vb : Value) (Ba Bb n : Nat) (F : Nat → Int) (w : World) (ha : Row w Ba 5 n F va) (hb : Row w Bb 5 n F vb) (hn : n ≤ 1048576) :
    Calls Try.prog 79 #[va, vb] w fun e w' => e = .returned (.bool true) ∧ Below w.heap.size w w' := by
  obtain ⟨ao, ca, rfl⟩ := ha.form
  obtain ⟨bo, cb, rfl⟩ := hb.form
  have HA : Hid (Row w Ba 5 n F (.slice ao n ca)) := ha
  have HB : Hid (Row w Bb 5 n F (.slice bo n cb)) := hb
  clear ha hb
  go_enter Try.func79, Try.ntmps79
  go_wp2
  go_loopw [5] (fun i wr => ∃ k : Nat, k ≤ n ∧ i = .int .i64 k ∧ Below w.heap.size w wr) (fun i _ => n - (intOf i).toNat)
  case atStart => exact ⟨0, Nat.zero_le _, rfl, Below.refl _ _⟩
  case round =>
    obtain ⟨k, hk, rfl, hbw⟩ := hrel
    by_cases hlt : k < n
    · obtain ⟨g, o, rfl, _, hg, c0, c1, c2, c3, c4⟩ := HA.out.at5 hlt
      obtain ⟨g', o', rfl, _, hg', d0, d1, d2, d3, d4⟩ := HB.out.at5 hlt
      have h0 : TwoLock w g o g' o' k F wr.drew := ⟨⟨(hbw.cell (p := ⟨g, o + k * 5, none⟩) hg).trans c0, (hbw.cell (p := ⟨g, o + k * 5 + 1, none⟩) hg).trans c1, (hbw.cell (p := ⟨g, o + k * 5 + 2, none⟩) hg).trans c2, (hbw.cell (p := ⟨g, o + k * 5 + 3, none⟩) hg).trans c3, (hbw.cell (p := ⟨g, o + k * 5 + 4, none⟩) hg).trans c4, (hbw.cell (p := ⟨g', o' + k * 5, none⟩) hg').trans d0, (hbw.cell (p := ⟨g', o' + k * 5 + 1, none⟩) hg').trans d1, (hbw.cell (p := ⟨g', o' + k * 5 + 2, none⟩) hg').trans d2, (hbw.cell (p := ⟨g', o' + k * 5 + 3, none⟩) hg').trans d3, (hbw.cell (p := ⟨g', o' + k * 5 + 4, none⟩) hg').trans d4⟩, hbw.drew⟩
      clear c0 d0 c1 d1 c2 d2 c3 d3 c4 d4 hbw
      go_wp2_with fail
      refine wp_region_held_drew (S := TwoLock w g o g' o' k F) (by kernel_rfl) h0 (fun hS => ?_)
      clear h0
      refine tkH 0 ?_ hS (fun wx hx => ?_) ?_; rotate_left
      · obtain ⟨⟨hx0, hx1, hx2, hx3, hx4, hx5, hx6, hx7, hx8, hx9⟩, _⟩ := hx; go_simp; try with_reducible rfl
      refine tkH 1 ?_ hS (fun wx hx => ?_) ?_; rotate_left
      · obtain ⟨⟨hx0, hx1, hx2, hx3, hx4, hx5, hx6, hx7, hx8, hx9⟩, _⟩ := hx; go_simp; try with_reducible rfl
      refine tkH 2 ?_ hS (fun wx hx => ?_) ?_; rotate_left
      · obtain ⟨⟨hx0, hx1, hx2, hx3, hx4, hx5, hx6, hx7, hx8, hx9⟩, _⟩ := hx; go_simp; try with_reducible rfl
      refine tkH 3 ?_ hS (fun wx hx => ?_) ?_; rotate_left
      · obtain ⟨⟨hx0, hx1, hx2, hx3, hx4, hx5, hx6, hx7, hx8, hx9⟩, _⟩ := hx; go_simp; try with_reducible rfl
      refine tkH 4 ?_ hS (fun wx hx => ?_) ?_; rotate_left
      · obtain ⟨⟨hx0, hx1, hx2, hx3, hx4, hx5, hx6, hx7, hx8, hx9⟩, _⟩ := hx; go_simp; try with_reducible rfl
      refine tkH 5 ?_ hS (fun wx hx => ?_) ?_; rotate_left
      · obtain ⟨⟨hx0, hx1, hx2, hx3, hx4, hx5, hx6, hx7, hx8, hx9⟩, _⟩ := hx; go_simp; try with_reducible rfl
      refine tkH 6 ?_ hS (fun wx hx => ?_) ?_; rotate_left
      · obtain ⟨⟨hx0, hx1, hx2, hx3, hx4, hx5, hx6, hx7, hx8, hx9⟩, _⟩ := hx; go_simp; try with_reducible rfl
      refine tkH 7 ?_ hS (fun wx hx => ?_) ?_; rotate_left
      · obtain ⟨⟨hx0, hx1, hx2, hx3, hx4, hx5, hx6, hx7, hx8, hx9⟩, _⟩ := hx; go_simp; try with_reducible rfl
      refine rdH 8 (fun K hK => ?_)
      go_simp
      go_wp2_with fail
      refine (eqLock_same _ _ _ _ _ _).mono ?_
      rintro e w' ⟨rfl, hb⟩
      go_wp2_with fail
      refine hK.out _ _ (hS.later hg hg' hb) (fun hS => ?_)
      clear hK K
      refine tkH 9 ?_ hS (fun wx hx => ?_) ?_; rotate_left
      · obtain ⟨⟨hx0, hx1, hx2, hx3, hx4, hx5, hx6, hx7, hx8, hx9⟩, _⟩ := hx; go_simp; try with_reducible rfl
      refine wpAnyH_done (by kernel_rfl) ?_ _
      go_simp
      go_wp2
      go_roundw
      case rel => exact ⟨k + 1, by omega, by go_num, hS.2⟩
      case measure => simp [intOf]; omega
    · go_wp2
      go_ret
      exact ⟨rfl, hbw⟩
set_option maxHeartbeats 400000 in
theorem eqWrite_same (x0 x1 x2 x3 : Int) (w : World) :
    Calls Try.prog 96 #[.agg #[.int .i64 x0, .int .i64 x1, .int .i64 x2, .int .i64 x3], .agg #[.int .i64 x0, .int .i64 x1, .int .i64 x2, .int .i64 x3]] w fun e w' => e = .returned (.bool true) ∧ Below w.heap.size w w' := by
  go_enter Try.func96, Try.ntmps96
  go_wp2
  go_ret
  exact ⟨rfl, ((Below.refl _ _).alloc (Nat.le_refl _) _).alloc (by simp) _⟩
def TwoWrite (w : World) (g o g' o' k : Nat) (F : Nat → Int) (x : World) : Prop := (x.cell? ⟨g, o + k * 4, none⟩ = some (.int .i64 (F (k * 4))) ∧ x.cell? ⟨g, o + k * 4 + 1, none⟩ = some (.int .i64 (F (k * 4 + 1))) ∧ x.cell? ⟨g, o + k * 4 + 2, none⟩ = some (.int .i64 (F (k * 4 + 2))) ∧ x.cell? ⟨g, o + k * 4 + 3, none⟩ = some (.int .i64 (F (k * 4 + 3))) ∧ x.cell? ⟨g', o' + k * 4, none⟩ = some (.int .i64 (F (k * 4))) ∧ x.cell? ⟨g', o' + k * 4 + 1, none⟩ = some (.int .i64 (F (k * 4 + 1))) ∧ x.cell? ⟨g', o' + k * 4 + 2, none⟩ = some (.int .i64 (F (k * 4 + 2))) ∧ x.cell? ⟨g', o' + k * 4 + 3, none⟩ = some (.int .i64 (F (k * 4 + 3)))) ∧ Below w.heap.size w x
theorem TwoWrite.later {w x x' : World} {g o g' o' k : Nat} {F : Nat → Int} (h : TwoWrite w g o g' o' k F x) (hg : g < w.heap.size) (hg' : g' < w.heap.size) (hb : Below x.heap.size x x') : TwoWrite w g o g' o' k F x' := by
  obtain ⟨⟨hx0, hx1, hx2, hx3, hx4, hx5, hx6, hx7⟩, hy⟩ := h
  exact ⟨⟨(hb.cell (Nat.lt_of_lt_of_le hg hy.size)).trans hx0, (hb.cell (Nat.lt_of_lt_of_le hg hy.size)).trans hx1, (hb.cell (Nat.lt_of_lt_of_le hg hy.size)).trans hx2, (hb.cell (Nat.lt_of_lt_of_le hg hy.size)).trans hx3, (hb.cell (Nat.lt_of_lt_of_le hg' hy.size)).trans hx4, (hb.cell (Nat.lt_of_lt_of_le hg' hy.size)).trans hx5, (hb.cell (Nat.lt_of_lt_of_le hg' hy.size)).trans hx6, (hb.cell (Nat.lt_of_lt_of_le hg' hy.size)).trans hx7⟩, hy.trans (hb.mono hy.size)⟩
set_option maxRecDepth 100000 in
set_option maxHeartbeats 1000000 in
theorem eqWriteS_same (va vb : Value) (Ba Bb n : Nat) (F : Nat → Int) (w : World) (ha : Row w Ba 4 n F va) (hb : Row w Bb 4 n F vb) (hn : n ≤ 1048576) :
    Calls Try.prog 80 #[va, vb] w fun e w' => e = .returned (.bool true) ∧ Below w.heap.size w w' := by
  obtain ⟨ao, ca, rfl⟩ := ha.form
  obtain ⟨bo, cb, rfl⟩ := hb.form
  have HA : Hid (Row w Ba 4 n F (.slice ao n ca)) := ha
  have HB : Hid (Row w Bb 4 n F (.slice bo n cb)) := hb
  clear ha hb
  go_enter Try.func80, Try.ntmps80
  go_wp2
  go_loopw [5] (fun i wr => ∃ k : Nat, k ≤ n ∧ i = .int .i64 k ∧ Below w.heap.size w wr) (fun i _ => n - (intOf i).toNat)
  case atStart => exact ⟨0, Nat.zero_le _, rfl, Below.refl _ _⟩
  case round =>
    obtain ⟨k, hk, rfl, hbw⟩ := hrel
    by_cases hlt : k < n
    · obtain ⟨g, o, rfl, _, hg, c0, c1, c2, c3⟩ := HA.out.at4 hlt
      obtain ⟨g', o', rfl, _, hg', d0, d1, d2, d3⟩ := HB.out.at4 hlt
      have h0 : TwoWrite w g o g' o' k F wr.drew := ⟨⟨(hbw.cell (p := ⟨g, o + k * 4, none⟩) hg).trans c0, (hbw.cell (p := ⟨g, o + k * 4 + 1, none⟩) hg).trans c1, (hbw.cell (p := ⟨g, o + k * 4 + 2, none⟩) hg).trans c2, (hbw.cell (p := ⟨g, o + k * 4 + 3, none⟩) hg).trans c3, (hbw.cell (p := ⟨g', o' + k * 4, none⟩) hg').trans d0, (hbw.cell (p := ⟨g', o' + k * 4 + 1, none⟩) hg').trans d1, (hbw.cell (p := ⟨g', o' + k * 4 + 2, none⟩) hg').trans d2, (hbw.cell (p := ⟨g', o' + k * 4 + 3, none⟩) hg').trans d3⟩, hbw.drew⟩
      clear c0 d0 c1 d1 c2 d2 c3 d3 hbw
      go_wp2_with fail
      refine wp_region_held_drew (S := TwoWrite w g o g' o' k F) (by kernel_rfl) h0 (fun hS => ?_)
      clear h0
      refine tkH 0 ?_ hS (fun wx hx => ?_) ?_; rotate_left
      · obtain ⟨⟨hx0, hx1, hx2, hx3, hx4, hx5, hx6, hx7⟩, _⟩ := hx; go_simp; try with_reducible rfl
      refine tkH 1 ?_ hS (fun wx hx => ?_) ?_; rotate_left
      · obtain ⟨⟨hx0, hx1, hx2, hx3, hx4, hx5, hx6, hx7⟩, _⟩ := hx; go_simp; try with_reducible rfl
      refine tkH 2 ?_ hS (fun wx hx => ?_) ?_; rotate_left
      · obtain ⟨⟨hx0, hx1, hx2, hx3, hx4, hx5, hx6, hx7⟩, _⟩ := hx; go_simp; try with_reducible rfl
      refine tkH 3 ?_ hS (fun wx hx => ?_) ?_; rotate_left
      · obtain ⟨⟨hx0, hx1, hx2, hx3, hx4, hx5, hx6, hx7⟩, _⟩ := hx; go_simp; try with_reducible rfl
      refine tkH 4 ?_ hS (fun wx hx => ?_) ?_; rotate_left
      · obtain ⟨⟨hx0, hx1, hx2, hx3, hx4, hx5, hx6, hx7⟩, _⟩ := hx; go_simp; try with_reducible rfl
      refine tkH 5 ?_ hS (fun wx hx => ?_) ?_; rotate_left
      · obtain ⟨⟨hx0, hx1, hx2, hx3, hx4, hx5, hx6, hx7⟩, _⟩ := hx; go_simp; try with_reducible rfl
      refine tkH 6 ?_ hS (fun wx hx => ?_) ?_; rotate_left
      · obtain ⟨⟨hx0, hx1, hx2, hx3, hx4, hx5, hx6, hx7⟩, _⟩ := hx; go_simp; try with_reducible rfl
      refine tkH 7 ?_ hS (fun wx hx => ?_) ?_; rotate_left
      · obtain ⟨⟨hx0, hx1, hx2, hx3, hx4, hx5, hx6, hx7⟩, _⟩ := hx; go_simp; try with_reducible rfl
      refine rdH 8 (fun K hK => ?_)
      go_simp
      go_wp2_with fail
      refine (eqWrite_same _ _ _ _ _).mono ?_
      rintro e w' ⟨rfl, hb⟩
      go_wp2_with fail
      refine hK.out _ _ (hS.later hg hg' hb) (fun hS => ?_)
      clear hK K
      refine tkH 9 ?_ hS (fun wx hx => ?_) ?_; rotate_left
      · obtain ⟨⟨hx0, hx1, hx2, hx3, hx4, hx5, hx6, hx7⟩, _⟩ := hx; go_simp; try with_reducible rfl
      refine wpAnyH_done (by kernel_rfl) ?_ _
      go_simp
      go_wp2
      go_roundw
      case rel => exact ⟨k + 1, by omega, by go_num, hS.2⟩
      case measure => simp [intOf]; omega
    · go_wp2
      go_ret
      exact ⟨rfl, hbw⟩
end Go.Proofs.Ytdfikaehipdjaaa


namespace Go.Proofs.Ytdfikaehipdjaaa
open Go.RowKit
set_option linter.unusedVariables false

set_option maxHeartbeats 1000000 in
theorem eqStore_same (S : Sto) (v0 v1 v2 u0 u1 u2 : Value) (B B' : Nat) (w : World) (h : St w B S v0 v1 v2) (h' : St w B' S u0 u1 u2) (hc : S.nc ≤ 1048576) (hl : S.nl ≤ 1048576) (hk : S.nw ≤ 1048576) :
    Calls Try.prog 63 #[.agg #[v0, v1, v2], .agg #[u0, u1, u2]] w fun e w' => e = .returned (.bool true) ∧ Below w.heap.size w w' := by
  obtain ⟨a0, c0, a1, c1, a2, c2, rfl, rfl, rfl⟩ := h.form
  obtain ⟨b0, d0, b1, d1, b2, d2, rfl, rfl, rfl⟩ := h'.form
  have H : Hid (St w B S (.slice a0 S.nc c0) (.slice a1 S.nl c1) (.slice a2 S.nw c2)) := h
  have H' : Hid (St w B' S (.slice b0 S.nc d0) (.slice b1 S.nl d1) (.slice b2 S.nw d2)) := h'
  clear h h'
  go_enter Try.func63, Try.ntmps63
  go_wp2_with fail
  refine (eqCellS_same _ _ B B' _ _ _ ((H.out.1.alloc _).alloc _) ((H'.out.1.alloc _).alloc _) hc).mono ?_
  rintro e w1 ⟨rfl, q1⟩
  have k1 := ((Blk3.new w (.slice a0 S.nc c0) (.slice a1 S.nl c1) (.slice a2 S.nw c2) 48).alloc (.cells #[.slice b0 S.nc d0, .slice b1 S.nl d1, .slice b2 S.nw d2] 48)).later q1
  have k2 := (Blk3.new (w.alloc (.cells #[.slice a0 S.nc c0, .slice a1 S.nl c1, .slice a2 S.nw c2] 48)) (.slice b0 S.nc d0) (.slice b1 S.nl d1) (.slice b2 S.nw d2) 48).later q1
  simp only [World.size_alloc] at k2 q1
  have B1 : Hid (Below w.heap.size w w1) := ((below_alloc w _).alloc (by simp) _).trans (q1.mono (by omega))
  have P1 : Hid (Blk3 w1 w.heap.size (.slice a0 S.nc c0) (.slice a1 S.nl c1) (.slice a2 S.nw c2) ∧ Blk3 w1 (w.heap.size + 1) (.slice b0 S.nc d0) (.slice b1 S.nl d1) (.slice b2 S.nw d2)) := ⟨k1, k2⟩
  obtain ⟨⟨_, x1, _⟩, _⟩ := k1
  obtain ⟨⟨_, y1, _⟩, _⟩ := k2
  clear q1
  go_wp2_with fail
  refine (eqLockS_same _ _ B B' _ _ _ (H.out.2.1.later B1.out) (H'.out.2.1.later B1.out) hl).mono ?_
  rintro e w2 ⟨rfl, q2⟩
  have k1 := P1.out.1.later q2
  have k2 := P1.out.2.later q2
  have B2 : Hid (Below w.heap.size w w2) := B1.out.trans (q2.mono B1.out.size)
  clear q2 x1 y1 B1 P1
  obtain ⟨⟨_, _, x2⟩, _⟩ := k1
  obtain ⟨⟨_, _, y2⟩, _⟩ := k2
  go_wp2_with fail
  refine (eqWriteS_same _ _ B B' _ _ _ (H.out.2.2.later B2.out) (H'.out.2.2.later B2.out) hk).mono ?_
  rintro e w3 ⟨rfl, q3⟩
  have B3 : Hid (Below w.heap.size w w3) := B2.out.trans (q3.mono B2.out.size)
  clear q3 x2 y2 B2
  go_wp2
  go_ret
  exact ⟨rfl, B3.out⟩

end Go.Proofs.Ytdfikaehipdjaaa

namespace Go.Proofs.Ytdfikaehipdjaaa
open Go.RowKit

/-- The box of the law's store, and that nothing old has turned; and one box more. -/
def One (w : World) (v0 v1 v2 : Value) (x : World) : Prop := Below w.heap.size w x ∧ Blk3 x w.heap.size v0 v1 v2
theorem One.later {w x x' : World} {v0 v1 v2 : Value} (h : One w v0 v1 v2 x) (hb : Below x.heap.size x x') : One w v0 v1 v2 x' := ⟨h.1.trans (hb.mono h.1.size), h.2.later hb⟩
end Go.Proofs.Ytdfikaehipdjaaa

namespace Go.Proofs.Ytdfikaehipdjaaa
open Go.RowKit

theorem Fill.step {w : World} {g o N K : Nat} {F : Nat → Int} (h : Fill w g o N K F) (hK : K < N) {a : Nat} (ha : a = o + K) {x : Int} (hx : x = F K) : Fill (w.setCell ⟨g, a, none⟩ (.int .i64 x)) g o N (K + 1) F := by
  subst ha hx
  exact h.put hK
theorem grownBy_set {w x : World} {g : Nat} (h : w.grownBy x (some g)) (a : Nat) (u : Value) : w.grownBy (x.setCell ⟨g, a, none⟩ u) (some g) :=
  ⟨h.os, h.tape, h.output, by simpa [World.setCell] using h.size, fun k hk hne => (Below.heap_setCell x _ u k (fun e => hne (by rw [e]))).trans (h.block k hk hne)⟩
/-- A row half numbered: of n elements the first j. -/
def Marked (w x : World) (B m n j : Nat) (k0 : Int) (ao : Option Addr) (cp : Nat) : Prop :=
  (0 < n → ∃ g o, ao = some ⟨g, o, none⟩ ∧ B ≤ g ∧ Fill x g o (n * m) (j * m) (fun p => k0 + (p : Nat))) ∧ w.grownBy x (Value.slice ao n cp).ownBlock
theorem Marked.start {w : World} {B m n : Nat} {F : Nat → Int} {ao : Option Addr} {cp : Nat} (h : Row w B m n F (.slice ao n cp)) (hf : Free w (n * m) (.slice ao n cp)) (k0 : Int) : Marked w w B m n 0 k0 ao cp := by
  refine ⟨fun hn => ?_, rfl, rfl, rfl, Nat.le_refl _, fun _ _ _ => rfl⟩
  have h0 := h
  obtain ⟨ao', cp', hv, h⟩ := h
  simp only [Value.slice.injEq] at hv
  obtain ⟨rfl, _, rfl⟩ := hv
  obtain ⟨g, o, rfl, hB, _⟩ := h hn
  exact ⟨g, o, rfl, hB, by rw [Nat.zero_mul]; exact Fill.ofRow h0 hf hn⟩
theorem Marked.done {w x : World} {B m n : Nat} {k0 : Int} {ao : Option Addr} {cp : Nat} (h : Marked w x B m n n k0 ao cp) : Row x B m n (fun p => k0 + (p : Nat)) (.slice ao n cp) ∧ Free x (n * m) (.slice ao n cp) := by
  rcases Nat.eq_zero_or_pos n with e | e
  · subst e
    exact ⟨⟨_, _, rfl, fun q => absurd q (Nat.lt_irrefl 0)⟩, by rw [Nat.zero_mul]; exact Free.of0 _ _⟩
  · obtain ⟨g, o, rfl, hB, hF⟩ := h.1 e
    exact hF.row hB cp
set_option maxRecDepth 100000 in
set_option maxHeartbeats 2000000 in
theorem markCellS_any (v : Value) (B n : Nat) (F : Nat → Int) (k0 : Int) (w : World) (h : Row w B 3 n F v) (hf : Free w (n * 3) v) (hn : n ≤ 1048576) (hk0 : 0 ≤ k0) (hk1 : k0 ≤ 100000000) :
    Calls Try.prog 65 #[v, .int .i64 k0] w fun e w' => e = .returned (.int .i64 (k0 + n * 3)) ∧ Row w' B 3 n (fun p => k0 + (p : Nat)) v ∧ Free w' (n * 3) v ∧ w.grownBy w' v.ownBlock := by
  obtain ⟨ao, cp, rfl⟩ := h.form
  have H0 : Hid (Marked w w B 3 n 0 k0 ao cp) := Marked.start h hf k0
  clear h hf
  go_enter Try.func65, Try.ntmps65
  go_wp2
  go_loopw [1, 5] (fun k i wr => ∃ j : Nat, j ≤ n ∧ i = .int .i64 j ∧ k = .int .i64 (k0 + j * 3) ∧ Hid (Marked w wr B 3 n j k0 ao cp)) (fun _ i _ => n - (intOf i).toNat)
  case atStart => exact ⟨0, Nat.zero_le _, rfl, by go_num, H0⟩
  case round =>
    obtain ⟨j, hj, rfl, rfl, hM⟩ := hrel
    by_cases hlt : j < n
    · obtain ⟨g, o, rfl, hB, hF⟩ := hM.out.1 (by omega)
      obtain ⟨u0, c0, e0⟩ := hF.at (p := j * 3) (by omega)
      obtain ⟨u1, c1, e1⟩ := hF.at (p := j * 3 + 1) (by omega)
      obtain ⟨u2, c2, e2⟩ := hF.at (p := j * 3 + 2) (by omega)
      simp only [← Nat.add_assoc] at c0 e0 c1 e1 c2 e2
      have HF : Hid (Fill wr g o (n * 3) (j * 3) (fun p => k0 + (p : Nat)) ∧ w.grownBy wr (some g)) := ⟨hF, hM.out.2⟩
      clear hF hM H0
      go_wp2
      go_roundw
      case rel => exact ⟨j + 1, by omega, by go_num, by go_num, fun _ => ⟨g, o, rfl, hB, by rw [Nat.succ_mul]; exact (((HF.out.1.step (by omega) (by omega) (by omega)).step (by omega) (by omega) (by omega)).step (by omega) (by omega) (by omega))⟩, (grownBy_set (grownBy_set (grownBy_set HF.out.2 _ _) _ _) _ _)⟩
      case measure => simp [intOf]; omega
    · obtain rfl : j = n := by omega
      go_wp2
      go_ret
      exact ⟨rfl, hM.out.done.1, hM.out.done.2, hM.out.2⟩
set_option maxHeartbeats 2000000 in
theorem heldCellS_any (v : Value) (B n : Nat) (k0 : Int) (w : World) (h : Row w B 3 n (fun p => k0 + (p : Nat)) v) (hn : n ≤ 1048576) (hk0 : 0 ≤ k0) (hk1 : k0 ≤ 100000000) :
    Calls Try.prog 68 #[v, .int .i64 k0] w fun e w' => e = .returned (.int .i64 (k0 + n * 3)) ∧ w' = w := by
  obtain ⟨ao, cp, rfl⟩ := h.form
  have H0 : Hid (Row w B 3 n (fun p => k0 + (p : Nat)) (.slice ao n cp)) := h
  clear h
  go_enter Try.func68, Try.ntmps68
  go_wp2
  go_loop [1, 5] (fun k i => ∃ j : Nat, j ≤ n ∧ i = .int .i64 j ∧ k = .int .i64 (k0 + j * 3)) (fun _ i => n - (intOf i).toNat)
  case atStart => exact ⟨0, Nat.zero_le _, rfl, by go_num⟩
  case round =>
    obtain ⟨j, hj, rfl, rfl⟩ := hrel
    by_cases hlt : j < n
    · obtain ⟨g, o, rfl, _, _, c0, c1, c2⟩ := H0.out.at3 hlt
      rw [show k0 + ((j * 3 : Nat) : Int) = k0 + j * 3 from by omega] at c0
      rw [show k0 + ((j * 3 + 1 : Nat) : Int) = k0 + j * 3 + 1 from by omega] at c1
      rw [show k0 + ((j * 3 + 2 : Nat) : Int) = k0 + j * 3 + 1 + 1 from by omega] at c2
      go_wp2
      go_round
      case rel => exact ⟨j + 1, by omega, by go_num, by go_num⟩
      case measure => simp [intOf]; omega
    · obtain rfl : j = n := by omega
      go_wp2
      go_ret
      exact ⟨rfl, rfl⟩
set_option maxRecDepth 100000 in
set_option maxHeartbeats 2000000 in
theorem markLockS_any (v : Value) (B n : Nat) (F : Nat → Int) (k0 : Int) (w : World) (h : Row w B 5 n F v) (hf : Free w (n * 5) v) (hn : n ≤ 1048576) (hk0 : 0 ≤ k0) (hk1 : k0 ≤ 100000000) :
    Calls Try.prog 66 #[v, .int .i64 k0] w fun e w' => e = .returned (.int .i64 (k0 + n * 5)) ∧ Row w' B 5 n (fun p => k0 + (p : Nat)) v ∧ Free w' (n * 5) v ∧ w.grownBy w' v.ownBlock := by
  obtain ⟨ao, cp, rfl⟩ := h.form
  have H0 : Hid (Marked w w B 5 n 0 k0 ao cp) := Marked.start h hf k0
  clear h hf
  go_enter Try.func66, Try.ntmps66
  go_wp2
  go_loopw [1, 5] (fun k i wr => ∃ j : Nat, j ≤ n ∧ i = .int .i64 j ∧ k = .int .i64 (k0 + j * 5) ∧ Hid (Marked w wr B 5 n j k0 ao cp)) (fun _ i _ => n - (intOf i).toNat)
  case atStart => exact ⟨0, Nat.zero_le _, rfl, by go_num, H0⟩
  case round =>
    obtain ⟨j, hj, rfl, rfl, hM⟩ := hrel
    by_cases hlt : j < n
    · obtain ⟨g, o, rfl, hB, hF⟩ := hM.out.1 (by omega)
      obtain ⟨u0, c0, e0⟩ := hF.at (p := j * 5) (by omega)
      obtain ⟨u1, c1, e1⟩ := hF.at (p := j * 5 + 1) (by omega)
      obtain ⟨u2, c2, e2⟩ := hF.at (p := j * 5 + 2) (by omega)
      obtain ⟨u3, c3, e3⟩ := hF.at (p := j * 5 + 3) (by omega)
      obtain ⟨u4, c4, e4⟩ := hF.at (p := j * 5 + 4) (by omega)
      simp only [← Nat.add_assoc] at c0 e0 c1 e1 c2 e2 c3 e3 c4 e4
      have HF : Hid (Fill wr g o (n * 5) (j * 5) (fun p => k0 + (p : Nat)) ∧ w.grownBy wr (some g)) := ⟨hF, hM.out.2⟩
      clear hF hM H0
      go_wp2
      go_roundw
      case rel => exact ⟨j + 1, by omega, by go_num, by go_num, fun _ => ⟨g, o, rfl, hB, by rw [Nat.succ_mul]; exact (((((HF.out.1.step (by omega) (by omega) (by omega)).step (by omega) (by omega) (by omega)).step (by omega) (by omega) (by omega)).step (by omega) (by omega) (by omega)).step (by omega) (by omega) (by omega))⟩, (grownBy_set (grownBy_set (grownBy_set (grownBy_set (grownBy_set HF.out.2 _ _) _ _) _ _) _ _) _ _)⟩
      case measure => simp [intOf]; omega
    · obtain rfl : j = n := by omega
      go_wp2
      go_ret
      exact ⟨rfl, hM.out.done.1, hM.out.done.2, hM.out.2⟩
set_option maxHeartbeats 2000000 in
theorem heldLockS_any (v : Value) (B n : Nat) (k0 : Int) (w : World) (h : Row w B 5 n (fun p => k0 + (p : Nat)) v) (hn : n ≤ 1048576) (hk0 : 0 ≤ k0) (hk1 : k0 ≤ 100000000) :
    Calls Try.prog 69 #[v, .int .i64 k0] w fun e w' => e = .returned (.int .i64 (k0 + n * 5)) ∧ w' = w := by
  obtain ⟨ao, cp, rfl⟩ := h.form
  have H0 : Hid (Row w B 5 n (fun p => k0 + (p : Nat)) (.slice ao n cp)) := h
  clear h
  go_enter Try.func69, Try.ntmps69
  go_wp2
  go_loop [1, 5] (fun k i => ∃ j : Nat, j ≤ n ∧ i = .int .i64 j ∧ k = .int .i64 (k0 + j * 5)) (fun _ i => n - (intOf i).toNat)
  case atStart => exact ⟨0, Nat.zero_le _, rfl, by go_num⟩
  case round =>
    obtain ⟨j, hj, rfl, rfl⟩ := hrel
    by_cases hlt : j < n
    · obtain ⟨g, o, rfl, _, _, c0, c1, c2, c3, c4⟩ := H0.out.at5 hlt
      rw [show k0 + ((j * 5 : Nat) : Int) = k0 + j * 5 from by omega] at c0
      rw [show k0 + ((j * 5 + 1 : Nat) : Int) = k0 + j * 5 + 1 from by omega] at c1
      rw [show k0 + ((j * 5 + 2 : Nat) : Int) = k0 + j * 5 + 1 + 1 from by omega] at c2
      rw [show k0 + ((j * 5 + 3 : Nat) : Int) = k0 + j * 5 + 1 + 1 + 1 from by omega] at c3
      rw [show k0 + ((j * 5 + 4 : Nat) : Int) = k0 + j * 5 + 1 + 1 + 1 + 1 from by omega] at c4
      go_wp2
      go_round
      case rel => exact ⟨j + 1, by omega, by go_num, by go_num⟩
      case measure => simp [intOf]; omega
    · obtain rfl : j = n := by omega
      go_wp2
      go_ret
      exact ⟨rfl, rfl⟩
set_option maxRecDepth 100000 in
set_option maxHeartbeats 2000000 in
theorem markWriteS_any (v : Value) (B n : Nat) (F : Nat → Int) (k0 : Int) (w : World) (h : Row w B 4 n F v) (hf : Free w (n * 4) v) (hn : n ≤ 1048576) (hk0 : 0 ≤ k0) (hk1 : k0 ≤ 100000000) :
    Calls Try.prog 67 #[v, .int .i64 k0] w fun e w' => e = .returned (.int .i64 (k0 + n * 4)) ∧ Row w' B 4 n (fun p => k0 + (p : Nat)) v ∧ Free w' (n * 4) v ∧ w.grownBy w' v.ownBlock := by
  obtain ⟨ao, cp, rfl⟩ := h.form
  have H0 : Hid (Marked w w B 4 n 0 k0 ao cp) := Marked.start h hf k0
  clear h hf
  go_enter Try.func67, Try.ntmps67
  go_wp2
  go_loopw [1, 5] (fun k i wr => ∃ j : Nat, j ≤ n ∧ i = .int .i64 j ∧ k = .int .i64 (k0 + j * 4) ∧ Hid (Marked w wr B 4 n j k0 ao cp)) (fun _ i _ => n - (intOf i).toNat)
  case atStart => exact ⟨0, Nat.zero_le _, rfl, by go_num, H0⟩
  case round =>
    obtain ⟨j, hj, rfl, rfl, hM⟩ := hrel
    by_cases hlt : j < n
    · obtain ⟨g, o, rfl, hB, hF⟩ := hM.out.1 (by omega)
      obtain ⟨u0, c0, e0⟩ := hF.at (p := j * 4) (by omega)
      obtain ⟨u1, c1, e1⟩ := hF.at (p := j * 4 + 1) (by omega)
      obtain ⟨u2, c2, e2⟩ := hF.at (p := j * 4 + 2) (by omega)
      obtain ⟨u3, c3, e3⟩ := hF.at (p := j * 4 + 3) (by omega)
      simp only [← Nat.add_assoc] at c0 e0 c1 e1 c2 e2 c3 e3
      have HF : Hid (Fill wr g o (n * 4) (j * 4) (fun p => k0 + (p : Nat)) ∧ w.grownBy wr (some g)) := ⟨hF, hM.out.2⟩
      clear hF hM H0
      go_wp2
      go_roundw
      case rel => exact ⟨j + 1, by omega, by go_num, by go_num, fun _ => ⟨g, o, rfl, hB, by rw [Nat.succ_mul]; exact ((((HF.out.1.step (by omega) (by omega) (by omega)).step (by omega) (by omega) (by omega)).step (by omega) (by omega) (by omega)).step (by omega) (by omega) (by omega))⟩, (grownBy_set (grownBy_set (grownBy_set (grownBy_set HF.out.2 _ _) _ _) _ _) _ _)⟩
      case measure => simp [intOf]; omega
    · obtain rfl : j = n := by omega
      go_wp2
      go_ret
      exact ⟨rfl, hM.out.done.1, hM.out.done.2, hM.out.2⟩
set_option maxHeartbeats 2000000 in
theorem heldWriteS_any (v : Value) (B n : Nat) (k0 : Int) (w : World) (h : Row w B 4 n (fun p => k0 + (p : Nat)) v) (hn : n ≤ 1048576) (hk0 : 0 ≤ k0) (hk1 : k0 ≤ 100000000) :
    Calls Try.prog 70 #[v, .int .i64 k0] w fun e w' => e = .returned (.int .i64 (k0 + n * 4)) ∧ w' = w := by
  obtain ⟨ao, cp, rfl⟩ := h.form
  have H0 : Hid (Row w B 4 n (fun p => k0 + (p : Nat)) (.slice ao n cp)) := h
  clear h
  go_enter Try.func70, Try.ntmps70
  go_wp2
  go_loop [1, 5] (fun k i => ∃ j : Nat, j ≤ n ∧ i = .int .i64 j ∧ k = .int .i64 (k0 + j * 4)) (fun _ i => n - (intOf i).toNat)
  case atStart => exact ⟨0, Nat.zero_le _, rfl, by go_num⟩
  case round =>
    obtain ⟨j, hj, rfl, rfl⟩ := hrel
    by_cases hlt : j < n
    · obtain ⟨g, o, rfl, _, _, c0, c1, c2, c3⟩ := H0.out.at4 hlt
      rw [show k0 + ((j * 4 : Nat) : Int) = k0 + j * 4 from by omega] at c0
      rw [show k0 + ((j * 4 + 1 : Nat) : Int) = k0 + j * 4 + 1 from by omega] at c1
      rw [show k0 + ((j * 4 + 2 : Nat) : Int) = k0 + j * 4 + 1 + 1 from by omega] at c2
      rw [show k0 + ((j * 4 + 3 : Nat) : Int) = k0 + j * 4 + 1 + 1 + 1 from by omega] at c3
      go_wp2
      go_round
      case rel => exact ⟨j + 1, by omega, by go_num, by go_num⟩
      case measure => simp [intOf]; omega
    · obtain rfl : j = n := by omega
      go_wp2
      go_ret
      exact ⟨rfl, rfl⟩
set_option maxRecDepth 100000 in
set_option maxHeartbeats 2000000 in
theorem markRangeS_any (v : Value) (B n : Nat) (F : Nat → Int) (k0 : Int) (w : World) (h : Row w B 3 n F v) (hf : Free w (n * 3) v) (hn : n ≤ 1048576) (hk0 : 0 ≤ k0) (hk1 : k0 ≤ 100000000) :
    Calls Try.prog 43 #[v, .int .i64 k0] w fun e w' => e = .returned (.int .i64 (k0 + n * 3)) ∧ Row w' B 3 n (fun p => k0 + (p : Nat)) v ∧ Free w' (n * 3) v ∧ w.grownBy w' v.ownBlock := by
  obtain ⟨ao, cp, rfl⟩ := h.form
  have H0 : Hid (Marked w w B 3 n 0 k0 ao cp) := Marked.start h hf k0
  clear h hf
  go_enter Try.func43, Try.ntmps43
  go_wp2
  go_loopw [1, 5] (fun k i wr => ∃ j : Nat, j ≤ n ∧ i = .int .i64 j ∧ k = .int .i64 (k0 + j * 3) ∧ Hid (Marked w wr B 3 n j k0 ao cp)) (fun _ i _ => n - (intOf i).toNat)
  case atStart => exact ⟨0, Nat.zero_le _, rfl, by go_num, H0⟩
  case round =>
    obtain ⟨j, hj, rfl, rfl, hM⟩ := hrel
    by_cases hlt : j < n
    · obtain ⟨g, o, rfl, hB, hF⟩ := hM.out.1 (by omega)
      obtain ⟨u0, c0, e0⟩ := hF.at (p := j * 3) (by omega)
      obtain ⟨u1, c1, e1⟩ := hF.at (p := j * 3 + 1) (by omega)
      obtain ⟨u2, c2, e2⟩ := hF.at (p := j * 3 + 2) (by omega)
      simp only [← Nat.add_assoc] at c0 e0 c1 e1 c2 e2
      have HF : Hid (Fill wr g o (n * 3) (j * 3) (fun p => k0 + (p : Nat)) ∧ w.grownBy wr (some g)) := ⟨hF, hM.out.2⟩
      clear hF hM H0
      go_wp2
      go_roundw
      case rel => exact ⟨j + 1, by omega, by go_num, by go_num, fun _ => ⟨g, o, rfl, hB, by rw [Nat.succ_mul]; exact (((HF.out.1.step (by omega) (by omega) (by omega)).step (by omega) (by omega) (by omega)).step (by omega) (by omega) (by omega))⟩, (grownBy_set (grownBy_set (grownBy_set HF.out.2 _ _) _ _) _ _)⟩
      case measure => simp [intOf]; omega
    · obtain rfl : j = n := by omega
      go_wp2
      go_ret
      exact ⟨rfl, hM.out.done.1, hM.out.done.2, hM.out.2⟩
set_option maxHeartbeats 2000000 in
theorem heldRangeS_any (v : Value) (B n : Nat) (k0 : Int) (w : World) (h : Row w B 3 n (fun p => k0 + (p : Nat)) v) (hn : n ≤ 1048576) (hk0 : 0 ≤ k0) (hk1 : k0 ≤ 100000000) :
    Calls Try.prog 46 #[v, .int .i64 k0] w fun e w' => e = .returned (.int .i64 (k0 + n * 3)) ∧ w' = w := by
  obtain ⟨ao, cp, rfl⟩ := h.form
  have H0 : Hid (Row w B 3 n (fun p => k0 + (p : Nat)) (.slice ao n cp)) := h
  clear h
  go_enter Try.func46, Try.ntmps46
  go_wp2
  go_loop [1, 5] (fun k i => ∃ j : Nat, j ≤ n ∧ i = .int .i64 j ∧ k = .int .i64 (k0 + j * 3)) (fun _ i => n - (intOf i).toNat)
  case atStart => exact ⟨0, Nat.zero_le _, rfl, by go_num⟩
  case round =>
    obtain ⟨j, hj, rfl, rfl⟩ := hrel
    by_cases hlt : j < n
    · obtain ⟨g, o, rfl, _, _, c0, c1, c2⟩ := H0.out.at3 hlt
      rw [show k0 + ((j * 3 : Nat) : Int) = k0 + j * 3 from by omega] at c0
      rw [show k0 + ((j * 3 + 1 : Nat) : Int) = k0 + j * 3 + 1 from by omega] at c1
      rw [show k0 + ((j * 3 + 2 : Nat) : Int) = k0 + j * 3 + 1 + 1 from by omega] at c2
      go_wp2
      go_round
      case rel => exact ⟨j + 1, by omega, by go_num, by go_num⟩
      case measure => simp [intOf]; omega
    · obtain rfl : j = n := by omega
      go_wp2
      go_ret
      exact ⟨rfl, rfl⟩
/-- x' is x but for blocks from B on below E, and new ones. -/
structure Within (B E : Nat) (x x' : World) : Prop where
  os : x'.os = x.os
  tape : x'.tape = x.tape
  output : x'.output = x.output
  size : x.heap.size ≤ x'.heap.size
  block : ∀ k, k < x.heap.size → k < B ∨ E ≤ k → x'.heap[k]? = x.heap[k]?
theorem Within.refl (B E : Nat) (x : World) : Within B E x x := ⟨rfl, rfl, rfl, Nat.le_refl _, fun _ _ _ => rfl⟩
theorem Within.trans {B E : Nat} {a b c : World} (h : Within B E a b) (k : Within B E b c) : Within B E a c :=
  ⟨k.os.trans h.os, k.tape.trans h.tape, k.output.trans h.output, Nat.le_trans h.size k.size, fun i hi hr => (k.block i (Nat.lt_of_lt_of_le hi h.size) hr).trans (h.block i hi hr)⟩
theorem Within.grow {B E : Nat} {x x' : World} (h : Below x.heap.size x x') : Within B E x x' := ⟨h.os, h.tape, h.output, h.size, fun k hk _ => h.block k hk⟩
theorem Within.of {B E : Nat} {x x' : World} {row : Option Nat} (h : x.grownBy x' row) (hr : ∀ b, row = some b → B ≤ b ∧ b < E) : Within B E x x' :=
  ⟨h.os, h.tape, h.output, h.size, fun k hk ho => h.block k hk (fun e => by have := hr k e.symm; omega)⟩
theorem Within.below {B E : Nat} {w x x' : World} (h : Within B E x x') (hw : Below w.heap.size w x) (hB : w.heap.size ≤ B) : Below w.heap.size w x' :=
  ⟨h.os.trans hw.os, h.tape.trans hw.tape, h.output.trans hw.output, Nat.le_trans hw.size h.size, fun k hk => (h.block k (Nat.lt_of_lt_of_le hk hw.size) (Or.inl (by omega))).trans (hw.block k hk)⟩
theorem Within.mono {B E B' E' : Nat} {x x' : World} (h : Within B E x x') (hB : B' ≤ B) (hE : E ≤ E') : Within B' E' x x' := ⟨h.os, h.tape, h.output, h.size, fun k hk ho => h.block k hk (by omega)⟩
theorem Row.within {x x' : World} {C m n B E : Nat} {F : Nat → Int} {v : Value} (h : Row x C m n F v) (hw : Within B E x x') (ho : 0 < n → ∀ k, v.ownBlock = some k → k < B ∨ E ≤ k) : Row x' C m n F v := by
  rcases Nat.eq_zero_or_pos n with e | e
  · subst e
    obtain ⟨ao, cp, rfl, _⟩ := h
    exact ⟨ao, cp, rfl, fun q => absurd q (Nat.lt_irrefl 0)⟩
  · exact h.kept hw.size (fun k hk hlt => hw.block k hlt (ho e k hk))
theorem Free.within {x x' : World} {C m n B E : Nat} {F : Nat → Int} {v : Value} (h : Free x (n * m) v) (hr : Row x C m n F v) (hw : Within B E x x') (ho : 0 < n → ∀ k, v.ownBlock = some k → k < B ∨ E ≤ k) : Free x' (n * m) v := by
  rcases Nat.eq_zero_or_pos n with e | e
  · subst e; rw [Nat.zero_mul]; exact Free.of0 _ _
  · intro g o n' c hv p hp
    rw [World.frozen?_of_block (w := x) (a := ⟨g, o + p, none⟩) (hw.block g (hr.lt e g (by rw [hv]; rfl)).2 (ho e g (by rw [hv]; rfl)))]
    exact h g o n' c hv p hp
theorem Blk3.within {x x' : World} {b B E : Nat} {a0 a1 a2 : Value} (h : Blk3 x b a0 a1 a2) (hw : Within B E x x') (ho : b < B ∨ E ≤ b) : Blk3 x' b a0 a1 a2 := h.kept (hw.block b h.lt ho)
/-- The block that is turned by numbering: none, if there is nothing. -/
def turn (n : Nat) (v : Value) : Option Nat := if n = 0 then none else v.ownBlock
set_option maxHeartbeats 1000000 in
theorem markCellS_none (ao : Option Addr) (cp : Nat) (k0 : Int) (w : World) :
    Calls Try.prog 65 #[.slice ao 0 cp, .int .i64 k0] w fun e w' => e = .returned (.int .i64 k0) ∧ w' = w := by
  go_enter Try.func65, Try.ntmps65
  go_wp2
  go_loop [1, 5] (fun k i => i = .int .i64 0 ∧ k = .int .i64 k0) (fun _ i => 1 - (intOf i).toNat)
  case atStart => exact ⟨rfl, rfl⟩
  case round =>
    obtain ⟨rfl, rfl⟩ := hrel
    go_wp2
    go_ret
    exact ⟨rfl, rfl⟩
theorem markCellS_turn (v : Value) (B n : Nat) (F : Nat → Int) (k0 : Int) (w : World) (h : Row w B 3 n F v) (hf : Free w (n * 3) v) (hn : n ≤ 1048576) (hk0 : 0 ≤ k0) (hk1 : k0 ≤ 100000000) :
    Calls Try.prog 65 #[v, .int .i64 k0] w fun e w' => e = .returned (.int .i64 (k0 + n * 3)) ∧ Row w' B 3 n (fun p => k0 + (p : Nat)) v ∧ Free w' (n * 3) v ∧ w.grownBy w' (turn n v) := by
  rcases Nat.eq_zero_or_pos n with e | e
  · subst e
    obtain ⟨ao, cp, rfl⟩ := h.form
    refine (markCellS_none ao cp k0 w).mono fun e w' ⟨he, hw⟩ => ?_
    subst hw
    exact ⟨by rw [he]; simp, ⟨_, _, rfl, fun q => absurd q (Nat.lt_irrefl 0)⟩, hf, rfl, rfl, rfl, Nat.le_refl _, fun _ _ _ => rfl⟩
  · refine (markCellS_any v B n F k0 w h hf hn hk0 hk1).mono fun e' w' ⟨he, h1, h2, h3⟩ => ⟨he, h1, h2, ?_⟩
    unfold turn
    rw [if_neg (by omega)]
    exact h3
set_option maxHeartbeats 1000000 in
theorem markLockS_none (ao : Option Addr) (cp : Nat) (k0 : Int) (w : World) :
    Calls Try.prog 66 #[.slice ao 0 cp, .int .i64 k0] w fun e w' => e = .returned (.int .i64 k0) ∧ w' = w := by
  go_enter Try.func66, Try.ntmps66
  go_wp2
  go_loop [1, 5] (fun k i => i = .int .i64 0 ∧ k = .int .i64 k0) (fun _ i => 1 - (intOf i).toNat)
  case atStart => exact ⟨rfl, rfl⟩
  case round =>
    obtain ⟨rfl, rfl⟩ := hrel
    go_wp2
    go_ret
    exact ⟨rfl, rfl⟩
theorem markLockS_turn (v : Value) (B n : Nat) (F : Nat → Int) (k0 : Int) (w : World) (h : Row w B 5 n F v) (hf : Free w (n * 5) v) (hn : n ≤ 1048576) (hk0 : 0 ≤ k0) (hk1 : k0 ≤ 100000000) :
    Calls Try.prog 66 #[v, .int .i64 k0] w fun e w' => e = .returned (.int .i64 (k0 + n * 5)) ∧ Row w' B 5 n (fun p => k0 + (p : Nat)) v ∧ Free w' (n * 5) v ∧ w.grownBy w' (turn n v) := by
  rcases Nat.eq_zero_or_pos n with e | e
  · subst e
    obtain ⟨ao, cp, rfl⟩ := h.form
    refine (markLockS_none ao cp k0 w).mono fun e w' ⟨he, hw⟩ => ?_
    subst hw
    exact ⟨by rw [he]; simp, ⟨_, _, rfl, fun q => absurd q (Nat.lt_irrefl 0)⟩, hf, rfl, rfl, rfl, Nat.le_refl _, fun _ _ _ => rfl⟩
  · refine (markLockS_any v B n F k0 w h hf hn hk0 hk1).mono fun e' w' ⟨he, h1, h2, h3⟩ => ⟨he, h1, h2, ?_⟩
    unfold turn
    rw [if_neg (by omega)]
    exact h3
set_option maxHeartbeats 1000000 in
theorem markWriteS_none (ao : Option Addr) (cp : Nat) (k0 : Int) (w : World) :
    Calls Try.prog 67 #[.slice ao 0 cp, .int .i64 k0] w fun e w' => e = .returned (.int .i64 k0) ∧ w' = w := by
  go_enter Try.func67, Try.ntmps67
  go_wp2
  go_loop [1, 5] (fun k i => i = .int .i64 0 ∧ k = .int .i64 k0) (fun _ i => 1 - (intOf i).toNat)
  case atStart => exact ⟨rfl, rfl⟩
  case round =>
    obtain ⟨rfl, rfl⟩ := hrel
    go_wp2
    go_ret
    exact ⟨rfl, rfl⟩
theorem markWriteS_turn (v : Value) (B n : Nat) (F : Nat → Int) (k0 : Int) (w : World) (h : Row w B 4 n F v) (hf : Free w (n * 4) v) (hn : n ≤ 1048576) (hk0 : 0 ≤ k0) (hk1 : k0 ≤ 100000000) :
    Calls Try.prog 67 #[v, .int .i64 k0] w fun e w' => e = .returned (.int .i64 (k0 + n * 4)) ∧ Row w' B 4 n (fun p => k0 + (p : Nat)) v ∧ Free w' (n * 4) v ∧ w.grownBy w' (turn n v) := by
  rcases Nat.eq_zero_or_pos n with e | e
  · subst e
    obtain ⟨ao, cp, rfl⟩ := h.form
    refine (markWriteS_none ao cp k0 w).mono fun e w' ⟨he, hw⟩ => ?_
    subst hw
    exact ⟨by rw [he]; simp, ⟨_, _, rfl, fun q => absurd q (Nat.lt_irrefl 0)⟩, hf, rfl, rfl, rfl, Nat.le_refl _, fun _ _ _ => rfl⟩
  · refine (markWriteS_any v B n F k0 w h hf hn hk0 hk1).mono fun e' w' ⟨he, h1, h2, h3⟩ => ⟨he, h1, h2, ?_⟩
    unfold turn
    rw [if_neg (by omega)]
    exact h3
set_option maxHeartbeats 1000000 in
theorem markRangeS_none (ao : Option Addr) (cp : Nat) (k0 : Int) (w : World) :
    Calls Try.prog 43 #[.slice ao 0 cp, .int .i64 k0] w fun e w' => e = .returned (.int .i64 k0) ∧ w' = w := by
  go_enter Try.func43, Try.ntmps43
  go_wp2
  go_loop [1, 5] (fun k i => i = .int .i64 0 ∧ k = .int .i64 k0) (fun _ i => 1 - (intOf i).toNat)
  case atStart => exact ⟨rfl, rfl⟩
  case round =>
    obtain ⟨rfl, rfl⟩ := hrel
    go_wp2
    go_ret
    exact ⟨rfl, rfl⟩
theorem markRangeS_turn (v : Value) (B n : Nat) (F : Nat → Int) (k0 : Int) (w : World) (h : Row w B 3 n F v) (hf : Free w (n * 3) v) (hn : n ≤ 1048576) (hk0 : 0 ≤ k0) (hk1 : k0 ≤ 100000000) :
    Calls Try.prog 43 #[v, .int .i64 k0] w fun e w' => e = .returned (.int .i64 (k0 + n * 3)) ∧ Row w' B 3 n (fun p => k0 + (p : Nat)) v ∧ Free w' (n * 3) v ∧ w.grownBy w' (turn n v) := by
  rcases Nat.eq_zero_or_pos n with e | e
  · subst e
    obtain ⟨ao, cp, rfl⟩ := h.form
    refine (markRangeS_none ao cp k0 w).mono fun e w' ⟨he, hw⟩ => ?_
    subst hw
    exact ⟨by rw [he]; simp, ⟨_, _, rfl, fun q => absurd q (Nat.lt_irrefl 0)⟩, hf, rfl, rfl, rfl, Nat.le_refl _, fun _ _ _ => rfl⟩
  · refine (markRangeS_any v B n F k0 w h hf hn hk0 hk1).mono fun e' w' ⟨he, h1, h2, h3⟩ => ⟨he, h1, h2, ?_⟩
    unfold turn
    rw [if_neg (by omega)]
    exact h3
theorem turn_off {n : Nat} {v : Value} {P : Nat → Prop} (h : 0 < n → ∀ k, v.ownBlock = some k → P k) : ∀ b, turn n v = some b → P b := by
  intro b hb
  unfold turn at hb
  split at hb
  · cases hb
  · exact h (by omega) b hb
theorem Row.turned {x x' : World} {C m n : Nat} {F : Nat → Int} {v : Value} {row : Option Nat} (h : Row x C m n F v) (hg : x.grownBy x' row) (ho : 0 < n → ∀ k, v.ownBlock = some k → some k ≠ row) : Row x' C m n F v := by
  rcases Nat.eq_zero_or_pos n with e | e
  · subst e
    obtain ⟨ao, cp, rfl, _⟩ := h
    exact ⟨ao, cp, rfl, fun q => absurd q (Nat.lt_irrefl 0)⟩
  · exact h.kept hg.size (fun k hk hlt => hg.block k hlt (ho e k hk))
theorem Free.turned {x x' : World} {C m n : Nat} {F : Nat → Int} {v : Value} {row : Option Nat} (h : Free x (n * m) v) (hr : Row x C m n F v) (hg : x.grownBy x' row) (ho : 0 < n → ∀ k, v.ownBlock = some k → some k ≠ row) : Free x' (n * m) v := by
  rcases Nat.eq_zero_or_pos n with e | e
  · subst e; rw [Nat.zero_mul]; exact Free.of0 _ _
  · intro g o n' c hv p hp
    rw [World.frozen?_of_block (w := x) (a := ⟨g, o + p, none⟩) (hg.block g (hr.lt e g (by rw [hv]; rfl)).2 (ho e g (by rw [hv]; rfl)))]
    exact h g o n' c hv p hp
end Go.Proofs.Ytdfikaehipdjaaa

namespace Go.Proofs.Ytdfikaehipdjaaa
open Go.RowKit

/-- Block b holds two cells, none frozen. -/
def Blk2 (x : World) (b : Nat) (a0 a1 : Value) : Prop :=
  (x.cell? ⟨b, 0, none⟩ = some a0 ∧ x.cell? ⟨b, 1, none⟩ = some a1) ∧ x.frozen? ⟨b, 0, none⟩ = false ∧ x.frozen? ⟨b, 1, none⟩ = false
theorem Blk2.kept {x x' : World} {b : Nat} {a0 a1 : Value} (h : Blk2 x b a0 a1) (hb : x'.heap[b]? = x.heap[b]?) : Blk2 x' b a0 a1 := by
  obtain ⟨⟨h0, h1⟩, f0, f1⟩ := h
  exact ⟨⟨(World.cell?_of_block (w := x) (a := ⟨b, 0, none⟩) hb).trans h0, (World.cell?_of_block (w := x) (a := ⟨b, 1, none⟩) hb).trans h1⟩,
    (World.frozen?_of_block (w := x) (a := ⟨b, 0, none⟩) hb).trans f0, (World.frozen?_of_block (w := x) (a := ⟨b, 1, none⟩) hb).trans f1⟩
theorem Blk2.lt {x : World} {b : Nat} {a0 a1 : Value} (h : Blk2 x b a0 a1) : b < x.heap.size := World.block_lt_of_cell? x _ h.1.1
theorem Blk2.later {x x' : World} {b : Nat} {a0 a1 : Value} (h : Blk2 x b a0 a1) (hb : Below x.heap.size x x') : Blk2 x' b a0 a1 := h.kept (hb.block b h.lt)
theorem Blk2.alloc {x : World} {b : Nat} {a0 a1 : Value} (h : Blk2 x b a0 a1) (o : Obj) : Blk2 (x.alloc o) b a0 a1 := h.later ((Below.refl _ _).alloc (Nat.le_refl _) o)
theorem Blk2.new (w : World) (a0 a1 : Value) (t : TypeId) : Blk2 (w.alloc (.cells #[a0, a1] t)) w.heap.size a0 a1 := by
  refine ⟨⟨World.cell?_alloc_mark w _ _ _ 0, World.cell?_alloc_mark w _ _ _ 1⟩, ?_, ?_⟩ <;> simp
theorem Blk2.put {x : World} {b : Nat} {a0 a1 : Value} (h : Blk2 x b a0 a1) (c v : Value) : Blk2 ((x.setCell ⟨b, 0, none⟩ c).setCell ⟨b, 1, none⟩ v) b c v := by
  obtain ⟨⟨h0, h1⟩, f0, f1⟩ := h
  refine ⟨⟨(World.cell?_setCell_other _ _ _ _ (by simp)).trans (World.cell?_setCell_same _ _ _ h0), World.cell?_setCell_same _ _ _ ((World.cell?_setCell_other _ _ _ _ (by simp)).trans h1)⟩, by simpa using f0, by simpa using f1⟩
/-- A block of four cells, none frozen. -/
def Blk4 (x : World) (b : Nat) (a0 a1 a2 a3 : Value) : Prop := (x.cell? ⟨b, 0, none⟩ = some a0 ∧ x.cell? ⟨b, 1, none⟩ = some a1 ∧ x.cell? ⟨b, 2, none⟩ = some a2 ∧ x.cell? ⟨b, 3, none⟩ = some a3) ∧ x.frozen? ⟨b, 0, none⟩ = false ∧ x.frozen? ⟨b, 1, none⟩ = false ∧ x.frozen? ⟨b, 2, none⟩ = false ∧ x.frozen? ⟨b, 3, none⟩ = false
theorem Blk4.lt {x : World} {b : Nat} {a0 a1 a2 a3 : Value} (h : Blk4 x b a0 a1 a2 a3) : b < x.heap.size := World.block_lt_of_cell? x _ h.1.1
theorem Blk4.later {x x' : World} {b : Nat} {a0 a1 a2 a3 : Value} (h : Blk4 x b a0 a1 a2 a3) (hb : Below x.heap.size x x') : Blk4 x' b a0 a1 a2 a3 := by
  have hl := h.lt
  obtain ⟨⟨h0, h1, h2, h3⟩, f0, f1, f2, f3⟩ := h
  exact ⟨⟨(hb.cell (p := ⟨b, 0, none⟩) hl).trans h0, (hb.cell (p := ⟨b, 1, none⟩) hl).trans h1, (hb.cell (p := ⟨b, 2, none⟩) hl).trans h2, (hb.cell (p := ⟨b, 3, none⟩) hl).trans h3⟩,
    (hb.frozen (p := ⟨b, 0, none⟩) hl).trans f0, (hb.frozen (p := ⟨b, 1, none⟩) hl).trans f1, (hb.frozen (p := ⟨b, 2, none⟩) hl).trans f2, (hb.frozen (p := ⟨b, 3, none⟩) hl).trans f3⟩
theorem Blk4.alloc {x : World} {b : Nat} {a0 a1 a2 a3 : Value} (h : Blk4 x b a0 a1 a2 a3) (o : Obj) : Blk4 (x.alloc o) b a0 a1 a2 a3 := h.later (below_alloc _ _)
theorem Blk4.new (w : World) (a0 a1 a2 a3 : Value) (t : TypeId) : Blk4 (w.alloc (.cells #[a0, a1, a2, a3] t)) w.heap.size a0 a1 a2 a3 := by
  refine ⟨⟨World.cell?_alloc_mark w _ _ _ 0, World.cell?_alloc_mark w _ _ _ 1, World.cell?_alloc_mark w _ _ _ 2, World.cell?_alloc_mark w _ _ _ 3⟩, ?_, ?_, ?_, ?_⟩ <;> simp
theorem Blk4.put {x : World} {b : Nat} {a0 a1 a2 a3 : Value} (h : Blk4 x b a0 a1 a2 a3) (c0 c1 c2 c3 : Value) : Blk4 ((((x.setCell ⟨b, 0, none⟩ c0).setCell ⟨b, 1, none⟩ c1).setCell ⟨b, 2, none⟩ c2).setCell ⟨b, 3, none⟩ c3) b c0 c1 c2 c3 := by
  obtain ⟨⟨h0, h1, h2, h3⟩, f0, f1, f2, f3⟩ := h
  have o : ∀ {y : World} {i j : Nat} {u v : Value}, i ≠ j → y.cell? ⟨b, i, none⟩ = some u → (y.setCell ⟨b, j, none⟩ v).cell? ⟨b, i, none⟩ = some u := fun hn hu => (World.cell?_setCell_other _ _ _ _ (fun e => hn (congrArg Addr.off e).symm)).trans hu
  refine ⟨⟨?_, ?_, ?_, ?_⟩, by simpa using f0, by simpa using f1, by simpa using f2, by simpa using f3⟩
  · exact o (by decide) (o (by decide) (o (by decide) (World.cell?_setCell_same _ _ _ h0)))
  · exact o (by decide) (o (by decide) (World.cell?_setCell_same _ _ _ (o (by decide) h1)))
  · exact o (by decide) (World.cell?_setCell_same _ _ _ (o (by decide) (o (by decide) h2)))
  · exact World.cell?_setCell_same _ _ _ (o (by decide) (o (by decide) (o (by decide) h3)))
/-- A code, and a new row of n structs of m numbers each. -/
def ResRow (m : Nat) (w : World) (c : Int) (n : Nat) (F : Nat → Int) (e : Ending) (w' : World) : Prop := ∃ ao cp, e = .returned (.agg #[.int .i64 c, .slice ao n cp]) ∧ Row w' w.heap.size m n F (.slice ao n cp) ∧ Free w' (n * m) (.slice ao n cp) ∧ Below w.heap.size w w'
end Go.Proofs.Ytdfikaehipdjaaa

namespace Go.Proofs.Ytdfikaehipdjaaa
open Go.RowKit

theorem turn_eq {n : Nat} {v : Value} {b : Nat} (h : turn n v = some b) : 0 < n ∧ v.ownBlock = some b := by
  unfold turn at h
  split at h
  · cases h
  · exact ⟨by omega, h⟩
/-- The three rows of a store lie in three blocks. -/
def ApartD (S : Sto) (u0 u1 u2 : Value) : Prop := (0 < S.nc → 0 < S.nl → u0.ownBlock ≠ u1.ownBlock) ∧ (0 < S.nc → 0 < S.nw → u0.ownBlock ≠ u2.ownBlock) ∧ (0 < S.nl → 0 < S.nw → u1.ownBlock ≠ u2.ownBlock)
theorem apart_rows {w : World} {B m n m' n' : Nat} {F F' : Nat → Int} {u u' : Value} (_ : Row w B m n F u) (_ : Row w B m' n' F' u') (hd : 0 < n → 0 < n' → u.ownBlock ≠ u'.ownBlock) : 0 < n' → ∀ k, u'.ownBlock = some k → some k ≠ turn n u := by
  intro hn k hk e
  obtain ⟨h0, h1⟩ := turn_eq e.symm
  exact hd h0 hn (h1.trans hk.symm)
end Go.Proofs.Ytdfikaehipdjaaa

namespace Go.Proofs.Ytdfikaehipdjaaa
open Go.RowKit

theorem Blk4.kept {x x' : World} {b : Nat} {a0 a1 a2 a3 : Value} (h : Blk4 x b a0 a1 a2 a3) (hb : x'.heap[b]? = x.heap[b]?) : Blk4 x' b a0 a1 a2 a3 := by
  obtain ⟨⟨h0, h1, h2, h3⟩, f0, f1, f2, f3⟩ := h
  exact ⟨⟨(World.cell?_of_block (w := x) (a := ⟨b, 0, none⟩) hb).trans h0, (World.cell?_of_block (w := x) (a := ⟨b, 1, none⟩) hb).trans h1, (World.cell?_of_block (w := x) (a := ⟨b, 2, none⟩) hb).trans h2, (World.cell?_of_block (w := x) (a := ⟨b, 3, none⟩) hb).trans h3⟩,
    (World.frozen?_of_block (w := x) (a := ⟨b, 0, none⟩) hb).trans f0, (World.frozen?_of_block (w := x) (a := ⟨b, 1, none⟩) hb).trans f1, (World.frozen?_of_block (w := x) (a := ⟨b, 2, none⟩) hb).trans f2, (World.frozen?_of_block (w := x) (a := ⟨b, 3, none⟩) hb).trans f3⟩
theorem Blk4.within {x x' : World} {b B E : Nat} {a0 a1 a2 a3 : Value} (h : Blk4 x b a0 a1 a2 a3) (hw : Within B E x x') (ho : b < B ∨ E ≤ b) : Blk4 x' b a0 a1 a2 a3 := h.kept (hw.block b h.lt ho)
/-- The blocks of a store's rows that are not empty keep to P. -/
def OwnIn (S : Sto) (u0 u1 u2 : Value) (P : Nat → Prop) : Prop := (0 < S.nc → ∀ k, u0.ownBlock = some k → P k) ∧ (0 < S.nl → ∀ k, u1.ownBlock = some k → P k) ∧ (0 < S.nw → ∀ k, u2.ownBlock = some k → P k)
theorem St.ownIn {w : World} {B : Nat} {S : Sto} {u0 u1 u2 : Value} (h : St w B S u0 u1 u2) : OwnIn S u0 u1 u2 (fun k => B ≤ k ∧ k < w.heap.size) := ⟨fun hn k q => h.1.lt hn k q, fun hn k q => h.2.1.lt hn k q, fun hn k q => h.2.2.lt hn k q⟩
theorem OwnIn.mono {S : Sto} {u0 u1 u2 : Value} {P Q : Nat → Prop} (h : OwnIn S u0 u1 u2 P) (hpq : ∀ k, P k → Q k) : OwnIn S u0 u1 u2 Q := ⟨fun hn k q => hpq k (h.1 hn k q), fun hn k q => hpq k (h.2.1 hn k q), fun hn k q => hpq k (h.2.2 hn k q)⟩
theorem St.within {x x' : World} {C B E : Nat} {S : Sto} {u0 u1 u2 : Value} (h : St x C S u0 u1 u2) (hw : Within B E x x') (ho : OwnIn S u0 u1 u2 (fun k => k < B ∨ E ≤ k)) : St x' C S u0 u1 u2 := ⟨h.1.within hw ho.1, h.2.1.within hw ho.2.1, h.2.2.within hw ho.2.2⟩
theorem FreeS.within {x x' : World} {C B E : Nat} {S : Sto} {u0 u1 u2 : Value} (hf : FreeS x S u0 u1 u2) (h : St x C S u0 u1 u2) (hw : Within B E x x') (ho : OwnIn S u0 u1 u2 (fun k => k < B ∨ E ≤ k)) : FreeS x' S u0 u1 u2 := ⟨hf.1.within h.1 hw ho.1, hf.2.1.within h.2.1 hw ho.2.1, hf.2.2.within h.2.2 hw ho.2.2⟩
end Go.Proofs.Ytdfikaehipdjaaa

namespace Go.Proofs.Ytdfikaehipdjaaa
open Go.RowKit

theorem info_Range : (Try.prog.info? 54).map (fun i => (i.zero, i.size, i.bytes)) = some (some (.agg #[.int .i64 0, .int .i64 0, .int .i64 0]), 3, 24) := by kernel_rfl
set_option maxHeartbeats 400000 in
theorem eqRange_same (x0 x1 x2 : Int) (w : World) :
    Calls Try.prog 62 #[.agg #[.int .i64 x0, .int .i64 x1, .int .i64 x2], .agg #[.int .i64 x0, .int .i64 x1, .int .i64 x2]] w fun e w' => e = .returned (.bool true) ∧ Below w.heap.size w w' := by
  go_enter Try.func62, Try.ntmps62
  go_wp2
  go_ret
  exact ⟨rfl, ((Below.refl _ _).alloc (Nat.le_refl _) _).alloc (by simp) _⟩
def TwoRange (w : World) (g o g' o' k : Nat) (F : Nat → Int) (x : World) : Prop := (x.cell? ⟨g, o + k * 3, none⟩ = some (.int .i64 (F (k * 3))) ∧ x.cell? ⟨g, o + k * 3 + 1, none⟩ = some (.int .i64 (F (k * 3 + 1))) ∧ x.cell? ⟨g, o + k * 3 + 2, none⟩ = some (.int .i64 (F (k * 3 + 2))) ∧ x.cell? ⟨g', o' + k * 3, none⟩ = some (.int .i64 (F (k * 3))) ∧ x.cell? ⟨g', o' + k * 3 + 1, none⟩ = some (.int .i64 (F (k * 3 + 1))) ∧ x.cell? ⟨g', o' + k * 3 + 2, none⟩ = some (.int .i64 (F (k * 3 + 2)))) ∧ Below w.heap.size w x
theorem TwoRange.later {w x x' : World} {g o g' o' k : Nat} {F : Nat → Int} (h : TwoRange w g o g' o' k F x) (hg : g < w.heap.size) (hg' : g' < w.heap.size) (hb : Below x.heap.size x x') : TwoRange w g o g' o' k F x' := by
  obtain ⟨⟨hx0, hx1, hx2, hx3, hx4, hx5⟩, hy⟩ := h
  exact ⟨⟨(hb.cell (Nat.lt_of_lt_of_le hg hy.size)).trans hx0, (hb.cell (Nat.lt_of_lt_of_le hg hy.size)).trans hx1, (hb.cell (Nat.lt_of_lt_of_le hg hy.size)).trans hx2, (hb.cell (Nat.lt_of_lt_of_le hg' hy.size)).trans hx3, (hb.cell (Nat.lt_of_lt_of_le hg' hy.size)).trans hx4, (hb.cell (Nat.lt_of_lt_of_le hg' hy.size)).trans hx5⟩, hy.trans (hb.mono hy.size)⟩
set_option maxRecDepth 100000 in
set_option maxHeartbeats 1000000 in
theorem eqRangeS_same (va vb : Value) (Ba Bb n : Nat) (F : Nat → Int) (w : World) (ha : Row w Ba 3 n F va) (hb : Row w Bb 3 n F vb) (hn : n ≤ 1048576) :
    Calls Try.prog 40 #[va, vb] w fun e w' => e = .returned (.bool true) ∧ Below w.heap.size w w' := by
  obtain ⟨ao, ca, rfl⟩ := ha.form
  obtain ⟨bo, cb, rfl⟩ := hb.form
  have HA : Hid (Row w Ba 3 n F (.slice ao n ca)) := ha
  have HB : Hid (Row w Bb 3 n F (.slice bo n cb)) := hb
  clear ha hb
  go_enter Try.func40, Try.ntmps40
  go_wp2
  go_loopw [5] (fun i wr => ∃ k : Nat, k ≤ n ∧ i = .int .i64 k ∧ Below w.heap.size w wr) (fun i _ => n - (intOf i).toNat)
  case atStart => exact ⟨0, Nat.zero_le _, rfl, Below.refl _ _⟩
  case round =>
    obtain ⟨k, hk, rfl, hbw⟩ := hrel
    by_cases hlt : k < n
    · obtain ⟨g, o, rfl, _, hg, c0, c1, c2⟩ := HA.out.at3 hlt
      obtain ⟨g', o', rfl, _, hg', d0, d1, d2⟩ := HB.out.at3 hlt
      have h0 : TwoRange w g o g' o' k F wr.drew := ⟨⟨(hbw.cell (p := ⟨g, o + k * 3, none⟩) hg).trans c0, (hbw.cell (p := ⟨g, o + k * 3 + 1, none⟩) hg).trans c1, (hbw.cell (p := ⟨g, o + k * 3 + 2, none⟩) hg).trans c2, (hbw.cell (p := ⟨g', o' + k * 3, none⟩) hg').trans d0, (hbw.cell (p := ⟨g', o' + k * 3 + 1, none⟩) hg').trans d1, (hbw.cell (p := ⟨g', o' + k * 3 + 2, none⟩) hg').trans d2⟩, hbw.drew⟩
      clear c0 d0 c1 d1 c2 d2 hbw
      go_wp2_with fail
      refine wp_region_held_drew (S := TwoRange w g o g' o' k F) (by kernel_rfl) h0 (fun hS => ?_)
      clear h0
      refine tkH 0 ?_ hS (fun wx hx => ?_) ?_; rotate_left
      · obtain ⟨⟨hx0, hx1, hx2, hx3, hx4, hx5⟩, _⟩ := hx; go_simp; try with_reducible rfl
      refine tkH 1 ?_ hS (fun wx hx => ?_) ?_; rotate_left
      · obtain ⟨⟨hx0, hx1, hx2, hx3, hx4, hx5⟩, _⟩ := hx; go_simp; try with_reducible rfl
      refine tkH 2 ?_ hS (fun wx hx => ?_) ?_; rotate_left
      · obtain ⟨⟨hx0, hx1, hx2, hx3, hx4, hx5⟩, _⟩ := hx; go_simp; try with_reducible rfl
      refine tkH 3 ?_ hS (fun wx hx => ?_) ?_; rotate_left
      · obtain ⟨⟨hx0, hx1, hx2, hx3, hx4, hx5⟩, _⟩ := hx; go_simp; try with_reducible rfl
      refine tkH 4 ?_ hS (fun wx hx => ?_) ?_; rotate_left
      · obtain ⟨⟨hx0, hx1, hx2, hx3, hx4, hx5⟩, _⟩ := hx; go_simp; try with_reducible rfl
      refine tkH 5 ?_ hS (fun wx hx => ?_) ?_; rotate_left
      · obtain ⟨⟨hx0, hx1, hx2, hx3, hx4, hx5⟩, _⟩ := hx; go_simp; try with_reducible rfl
      refine tkH 6 ?_ hS (fun wx hx => ?_) ?_; rotate_left
      · obtain ⟨⟨hx0, hx1, hx2, hx3, hx4, hx5⟩, _⟩ := hx; go_simp; try with_reducible rfl
      refine tkH 7 ?_ hS (fun wx hx => ?_) ?_; rotate_left
      · obtain ⟨⟨hx0, hx1, hx2, hx3, hx4, hx5⟩, _⟩ := hx; go_simp; try with_reducible rfl
      refine rdH 8 (fun K hK => ?_)
      go_simp
      go_wp2_with fail
      refine (eqRange_same _ _ _ _).mono ?_
      rintro e w' ⟨rfl, hb⟩
      go_wp2_with fail
      refine hK.out _ _ (hS.later hg hg' hb) (fun hS => ?_)
      clear hK K
      refine tkH 9 ?_ hS (fun wx hx => ?_) ?_; rotate_left
      · obtain ⟨⟨hx0, hx1, hx2, hx3, hx4, hx5⟩, _⟩ := hx; go_simp; try with_reducible rfl
      refine wpAnyH_done (by kernel_rfl) ?_ _
      go_simp
      go_wp2
      go_roundw
      case rel => exact ⟨k + 1, by omega, by go_num, hS.2⟩
      case measure => simp [intOf]; omega
    · go_wp2
      go_ret
      exact ⟨rfl, hbw⟩
end Go.Proofs.Ytdfikaehipdjaaa

namespace Go.Proofs.Ytdfikaehipdjaaa
open Go.RowKit

/-- A row of n stores from block B on: number i is S i, its lists are V i 0, V i 1, V i 2. -/
def Stos (w : World) (B n : Nat) (S : Nat → Sto) (V : Nat → Nat → Value) (v : Value) : Prop :=
  (∃ ao cp, v = .slice ao n cp ∧ (0 < n → ∃ g o, ao = some ⟨g, o, none⟩ ∧ B ≤ g ∧ g < w.heap.size ∧ ∀ i, i < n → w.cell? ⟨g, o + i * 3, none⟩ = some (V i 0) ∧ w.cell? ⟨g, o + i * 3 + 1, none⟩ = some (V i 1) ∧ w.cell? ⟨g, o + i * 3 + 2, none⟩ = some (V i 2))) ∧ ∀ i, i < n → St w B (S i) (V i 0) (V i 1) (V i 2)
theorem Stos.form {w : World} {B n : Nat} {S : Nat → Sto} {V : Nat → Nat → Value} {v : Value} (h : Stos w B n S V v) : ∃ ao cp, v = .slice ao n cp := by
  obtain ⟨⟨ao, cp, rfl, _⟩, _⟩ := h; exact ⟨ao, cp, rfl⟩
theorem Stos.later {w w' : World} {B n : Nat} {S : Nat → Sto} {V : Nat → Nat → Value} {v : Value} (h : Stos w B n S V v) (hb : Below w.heap.size w w') : Stos w' B n S V v := by
  obtain ⟨⟨ao, cp, rfl, h1⟩, h2⟩ := h
  refine ⟨⟨ao, cp, rfl, fun hn => ?_⟩, fun i hi => (h2 i hi).later hb⟩
  obtain ⟨g, o, rfl, hB, hg, hc⟩ := h1 hn
  refine ⟨g, o, rfl, hB, Nat.lt_of_lt_of_le hg hb.size, fun i hi => ?_⟩
  obtain ⟨c0, c1, c2⟩ := hc i hi
  exact ⟨(hb.cell (p := ⟨g, o + i * 3, none⟩) hg).trans c0, (hb.cell (p := ⟨g, o + i * 3 + 1, none⟩) hg).trans c1, (hb.cell (p := ⟨g, o + i * 3 + 2, none⟩) hg).trans c2⟩
theorem Stos.alloc {w : World} {B n : Nat} {S : Nat → Sto} {V : Nat → Nat → Value} {v : Value} (h : Stos w B n S V v) (o : Obj) : Stos (w.alloc o) B n S V v := h.later (below_alloc _ _)
theorem Stos.mono {w : World} {B B' n : Nat} {S : Nat → Sto} {V : Nat → Nat → Value} {v : Value} (h : Stos w B n S V v) (hB : B' ≤ B) : Stos w B' n S V v := by
  obtain ⟨⟨ao, cp, rfl, h1⟩, h2⟩ := h
  refine ⟨⟨ao, cp, rfl, fun hn => ?_⟩, fun i hi => (h2 i hi).mono hB⟩
  obtain ⟨g, o, rfl, hb, hg, hc⟩ := h1 hn
  exact ⟨g, o, rfl, by omega, hg, hc⟩
theorem Stos.at {w : World} {B n : Nat} {S : Nat → Sto} {V : Nat → Nat → Value} {ao : Option Addr} {cp : Nat} (h : Stos w B n S V (.slice ao n cp)) {i : Nat} (hi : i < n) :
    ∃ g o, ao = some ⟨g, o, none⟩ ∧ B ≤ g ∧ g < w.heap.size ∧ (w.cell? ⟨g, o + i * 3, none⟩ = some (V i 0) ∧ w.cell? ⟨g, o + i * 3 + 1, none⟩ = some (V i 1) ∧ w.cell? ⟨g, o + i * 3 + 2, none⟩ = some (V i 2)) ∧ St w B (S i) (V i 0) (V i 1) (V i 2) := by
  obtain ⟨⟨ao', cp', hv, h1⟩, h2⟩ := h
  simp only [Value.slice.injEq] at hv
  obtain ⟨rfl, _, rfl⟩ := hv
  obtain ⟨g, o, ha, hB, hg, hc⟩ := h1 (by omega)
  exact ⟨g, o, ha, hB, hg, hc i hi, h2 i hi⟩
theorem Stos.far {w : World} {B n : Nat} {S : Nat → Sto} {V : Nat → Nat → Value} {v : Value} (h : Stos w B n S V v) {a : Addr} (ha : a.block < B) (u : Value) : Stos (w.setCell a u) B n S V v := by
  obtain ⟨⟨ao, cp, rfl, h1⟩, h2⟩ := h
  refine ⟨⟨ao, cp, rfl, fun hn => ?_⟩, fun i hi => (h2 i hi).far ha u⟩
  obtain ⟨g, o, rfl, hB, hg, hc⟩ := h1 hn
  have hk : ∀ p, (w.setCell a u).cell? ⟨g, p, none⟩ = w.cell? ⟨g, p, none⟩ := fun p => World.cell?_of_block (Below.heap_setCell w a u g (by omega))
  refine ⟨g, o, rfl, hB, by simpa [World.setCell] using hg, fun i hi => ?_⟩
  obtain ⟨c0, c1, c2⟩ := hc i hi
  exact ⟨(hk _).trans c0, (hk _).trans c1, (hk _).trans c2⟩

/-- The stores' own lists: each may be written, and they lie one behind the other: those of number i from block z i on, below z (i + 1). -/
def Fine (w : World) (z : Nat → Nat) (n : Nat) (S : Nat → Sto) (U : Nat → Nat → Value) : Prop :=
  ∀ i, i < n → (St w (z i) (S i) (U i 0) (U i 1) (U i 2) ∧ FreeS w (S i) (U i 0) (U i 1) (U i 2) ∧ ApartD (S i) (U i 0) (U i 1) (U i 2)) ∧ OwnIn (S i) (U i 0) (U i 1) (U i 2) (fun k => z i ≤ k ∧ k < z (i + 1)) ∧ z i ≤ z (i + 1)
theorem Fine.later {w w' : World} {z : Nat → Nat} {n : Nat} {S : Nat → Sto} {U : Nat → Nat → Value} (h : Fine w z n S U) (hb : Below w.heap.size w w') : Fine w' z n S U := fun i hi => by
  obtain ⟨⟨h1, h2, h3⟩, h4⟩ := h i hi
  exact ⟨⟨h1.later hb, h2.later h1 hb, h3⟩, h4⟩
theorem Fine.far {w : World} {z : Nat → Nat} {n : Nat} {S : Nat → Sto} {U : Nat → Nat → Value} (h : Fine w z n S U) {a : Addr} (ha : ∀ i, i < n → a.block < z i) (u : Value) : Fine (w.setCell a u) z n S U := fun i hi => by
  obtain ⟨⟨h1, h2, h3⟩, h4⟩ := h i hi
  exact ⟨⟨h1.far (ha i hi) u, h2.far _ _, h3⟩, h4⟩

/-- A block of stores that is filled: of its n stores the first k are laid. -/
def FillS (w : World) (g n k : Nat) (U : Nat → Nat → Value) : Prop :=
  g < w.heap.size ∧ (∀ p, p < n * 3 → (∃ u, w.cell? ⟨g, p, none⟩ = some u) ∧ w.frozen? ⟨g, p, none⟩ = false) ∧ ∀ i, i < k → w.cell? ⟨g, i * 3, none⟩ = some (U i 0) ∧ w.cell? ⟨g, i * 3 + 1, none⟩ = some (U i 1) ∧ w.cell? ⟨g, i * 3 + 2, none⟩ = some (U i 2)
theorem FillS.later {w w' : World} {g n k : Nat} {U : Nat → Nat → Value} (h : FillS w g n k U) (hb : Below w.heap.size w w') : FillS w' g n k U := by
  obtain ⟨h1, h2, h3⟩ := h
  refine ⟨Nat.lt_of_lt_of_le h1 hb.size, fun p hp => ⟨?_, (hb.frozen (p := ⟨g, p, none⟩) h1).trans (h2 p hp).2⟩, fun i hi => ?_⟩
  · obtain ⟨u, hu⟩ := (h2 p hp).1
    exact ⟨u, (hb.cell (p := ⟨g, p, none⟩) h1).trans hu⟩
  · obtain ⟨c0, c1, c2⟩ := h3 i hi
    exact ⟨(hb.cell (p := ⟨g, i * 3, none⟩) h1).trans c0, (hb.cell (p := ⟨g, i * 3 + 1, none⟩) h1).trans c1, (hb.cell (p := ⟨g, i * 3 + 2, none⟩) h1).trans c2⟩
theorem FillS.at {w : World} {g n k : Nat} {U : Nat → Nat → Value} (h : FillS w g n k U) {p : Nat} (hp : p < n * 3) : ∃ u, w.cell? ⟨g, p, none⟩ = some u ∧ w.frozen? ⟨g, p, none⟩ = false := by
  obtain ⟨⟨u, hu⟩, hf⟩ := h.2.1 p hp
  exact ⟨u, hu, hf⟩
theorem FillS.made (w : World) (z : Array Value) (n : Nat) (e : TypeId) (U : Nat → Nat → Value) : FillS (w.alloc (.cells (madeCells z (n * 3)) e)) w.heap.size n 0 U := by
  refine ⟨by simp, fun p hp => ⟨⟨(madeCells z (n * 3))[p]'(by rw [size_madeCells]; exact hp), ?_⟩, by simp⟩, fun p hp => absurd hp (Nat.not_lt_zero p)⟩
  rw [World.cell?_alloc_mark]
  simp
/-- The lists of a further store. -/
def putU (U : Nat → Nat → Value) (k : Nat) (u0 u1 u2 : Value) (i j : Nat) : Value := if i = k then (if j = 0 then u0 else if j = 1 then u1 else u2) else U i j
theorem FillS.put {w : World} {g n k : Nat} {U : Nat → Nat → Value} (h : FillS w g n k U) (hk : k < n) (u0 u1 u2 : Value) : FillS (((w.setCell ⟨g, k * 3, none⟩ u0).setCell ⟨g, k * 3 + 1, none⟩ u1).setCell ⟨g, k * 3 + 2, none⟩ u2) g n (k + 1) (putU U k u0 u1 u2) := by
  obtain ⟨h1, h2, h3⟩ := h
  obtain ⟨⟨a0, b0⟩, _⟩ := h2 (k * 3) (by omega)
  obtain ⟨⟨a1, b1⟩, _⟩ := h2 (k * 3 + 1) (by omega)
  obtain ⟨⟨a2, b2⟩, _⟩ := h2 (k * 3 + 2) (by omega)
  have c1 : (w.setCell ⟨g, k * 3, none⟩ u0).cell? ⟨g, k * 3 + 1, none⟩ = some a1 := (World.cell?_setCell_other _ _ _ _ (by intro q; simp at q)).trans b1
  have c2 : ((w.setCell ⟨g, k * 3, none⟩ u0).setCell ⟨g, k * 3 + 1, none⟩ u1).cell? ⟨g, k * 3 + 2, none⟩ = some a2 := (World.cell?_setCell_other _ _ _ _ (by intro q; simp at q)).trans ((World.cell?_setCell_other _ _ _ _ (by intro q; simp at q)).trans b2)
  have other : ∀ p, p ≠ k * 3 → p ≠ k * 3 + 1 → p ≠ k * 3 + 2 → (((w.setCell ⟨g, k * 3, none⟩ u0).setCell ⟨g, k * 3 + 1, none⟩ u1).setCell ⟨g, k * 3 + 2, none⟩ u2).cell? ⟨g, p, none⟩ = w.cell? ⟨g, p, none⟩ := fun p q0 q1 q2 =>
    (World.cell?_setCell_other _ _ _ _ (by intro q; simp at q; try omega)).trans ((World.cell?_setCell_other _ _ _ _ (by intro q; simp at q; try omega)).trans (World.cell?_setCell_other _ _ _ _ (by intro q; simp at q; try omega)))
  have s0 : (((w.setCell ⟨g, k * 3, none⟩ u0).setCell ⟨g, k * 3 + 1, none⟩ u1).setCell ⟨g, k * 3 + 2, none⟩ u2).cell? ⟨g, k * 3, none⟩ = some u0 := (World.cell?_setCell_other _ _ _ _ (by intro q; simp at q)).trans ((World.cell?_setCell_other _ _ _ _ (by intro q; simp at q)).trans (World.cell?_setCell_same _ _ _ b0))
  have s1 : (((w.setCell ⟨g, k * 3, none⟩ u0).setCell ⟨g, k * 3 + 1, none⟩ u1).setCell ⟨g, k * 3 + 2, none⟩ u2).cell? ⟨g, k * 3 + 1, none⟩ = some u1 := (World.cell?_setCell_other _ _ _ _ (by intro q; simp at q)).trans (World.cell?_setCell_same _ _ _ c1)
  have s2 : (((w.setCell ⟨g, k * 3, none⟩ u0).setCell ⟨g, k * 3 + 1, none⟩ u1).setCell ⟨g, k * 3 + 2, none⟩ u2).cell? ⟨g, k * 3 + 2, none⟩ = some u2 := World.cell?_setCell_same _ _ _ c2
  refine ⟨by simpa [World.setCell] using h1, fun p hp => ⟨?_, by simp only [World.frozen?_setCell]; exact (h2 p hp).2⟩, fun i hi => ?_⟩
  · by_cases q0 : p = k * 3
    · subst q0; exact ⟨_, s0⟩
    by_cases q1 : p = k * 3 + 1
    · subst q1; exact ⟨_, s1⟩
    by_cases q2 : p = k * 3 + 2
    · subst q2; exact ⟨_, s2⟩
    obtain ⟨u, hu⟩ := (h2 p hp).1
    exact ⟨u, (other p q0 q1 q2).trans hu⟩
  · unfold putU
    by_cases q : i = k
    · subst q
      simp only [if_true]
      exact ⟨s0, s1, s2⟩
    · rw [if_neg q, if_neg q, if_neg q]
      obtain ⟨d0, d1, d2⟩ := h3 i (by omega)
      exact ⟨(other _ (by omega) (by omega) (by omega)).trans d0, (other _ (by omega) (by omega) (by omega)).trans d1, (other _ (by omega) (by omega) (by omega)).trans d2⟩
theorem Fine.put {w : World} {z : Nat → Nat} {k : Nat} {S : Nat → Sto} {U : Nat → Nat → Value} (h : Fine w z k S U) {u0 u1 u2 : Value} {a b : Nat} (hz : z k = a) (hs : St w a (S k) u0 u1 u2 ∧ FreeS w (S k) u0 u1 u2 ∧ ApartD (S k) u0 u1 u2) (ho : OwnIn (S k) u0 u1 u2 (fun q => a ≤ q ∧ q < b)) (hab : a ≤ b) : Fine w (fun i => if i = k + 1 then b else z i) (k + 1) S (putU U k u0 u1 u2) := fun i hi => by
  by_cases q : i = k
  · subst q
    simp only [putU, if_true, if_neg (show ¬ (i = i + 1) by omega), hz]
    exact ⟨hs, ho, hab⟩
  · have := h i (by omega)
    simp only [putU, if_neg q, if_neg (show ¬ (i = k + 1) by omega), if_neg (show ¬ (i + 1 = k + 1) by omega)]
    exact this

theorem info_Store : (Try.prog.info? 48).map (fun i => (i.zero, i.size, i.bytes)) = some (some (.agg #[.slice none 0 0, .slice none 0 0, .slice none 0 0]), 3, 72) := by kernel_rfl
end Go.Proofs.Ytdfikaehipdjaaa

namespace Go.Proofs.Ytdfikaehipdjaaa
open Go.RowKit

theorem fl_back_fin : ∀ n : Fin 200, floatToIntVal .f64 (floatOfInt .f64 (n.val : Int)) .i64 = some (n.val : Int) := by decide +kernel
theorem fl_back (n : Int) (h0 : 0 ≤ n) (h1 : n ≤ 199) : floatToIntVal .f64 (floatOfInt .f64 n) .i64 = some n := by
  have := fl_back_fin ⟨n.toNat, by omega⟩
  simpa [Int.toNat_of_nonneg h0] using this
/-- A small number comes back out of its float. -/
theorem run_to_int (n : Int) (h0 : 0 ≤ n) (h1 : n ≤ 199) (w : World) : (convert 132 2 (.float .f64 (floatOfInt .f64 n))).run Try.prog w = .ok (.int .i64 n) w :=
  run_convert_float_int w _ _ _ _ _ _ (by rw [Try.underlying132]; rfl) Try.underlying2 (fl_back n h0 h1)

/-- What is told of a key: 0 it stands for something, 1 for nothing, 3 it leaves its bounds. -/
def faultOf (key : Int) : Int :=
  if key < 0 ∨ 199 < key then 3
  else if key = 0 ∨ (10 ≤ key ∧ key ≤ 19) ∨ (180 ≤ key ∧ key ≤ 189) ∨ (20 ≤ key ∧ key ≤ 119 ∧ key % 10 ≤ 5) then 0 else 1
theorem faultOf_range {key : Int} (h : key < 0 ∨ 199 < key) : faultOf key = 3 := by unfold faultOf; rw [if_pos h]
theorem faultOf_ok {key : Int} (h : key = 0 ∨ (10 ≤ key ∧ key ≤ 19) ∨ (180 ≤ key ∧ key ≤ 189) ∨ (20 ≤ key ∧ key ≤ 119 ∧ key % 10 ≤ 5)) : faultOf key = 0 := by
  unfold faultOf; rw [if_neg (by omega), if_pos h]
theorem faultOf_form {key : Int} (h0 : 0 ≤ key) (h1 : key ≤ 199) (h : ¬ (key = 0 ∨ (10 ≤ key ∧ key ≤ 19) ∨ (180 ≤ key ∧ key ≤ 189) ∨ (20 ≤ key ∧ key ≤ 119 ∧ key % 10 ≤ 5))) : faultOf key = 1 := by
  unfold faultOf; rw [if_neg (by omega), if_neg h]
end Go.Proofs.Ytdfikaehipdjaaa

namespace Go.Proofs.Ytdfikaehipdjaaa
open Go.RowKit

/-- Of g 0, g 1 .. below n the first that is not 0; 0 where there is none. -/
def scan (g : Nat → Int) : Nat → Int
  | 0 => 0
  | n + 1 => if scan g n = 0 then g n else scan g n
theorem scan_go {g : Nat → Int} {k : Nat} (h : scan g k = 0) (h2 : g k = 0) : scan g (k + 1) = 0 := by rw [scan, if_pos h, h2]
theorem scan_stop {g : Nat → Int} {k : Nat} (h : scan g k = 0) (h2 : g k ≠ 0) : ∀ {n : Nat}, k < n → scan g n = g k
  | 0, hn => by omega
  | n + 1, hn => by
    rcases Nat.lt_or_ge k n with h3 | h3
    · have := scan_stop h h2 h3
      rw [scan, this, if_neg h2]
    · obtain rfl : k = n := by omega
      rw [scan, if_pos h]

def cellF (c : Nat → Int) (i : Nat) : Int :=
  if faultOf (c (i * 3)) ≠ 0 then faultOf (c (i * 3))
  else if ¬ (1 ≤ c (i * 3 + 1) ∧ c (i * 3 + 1) ≤ 100000 ∧ 0 ≤ c (i * 3 + 2) ∧ c (i * 3 + 2) ≤ 9999) then 3
  else if 0 < i ∧ ¬ (c ((i - 1) * 3) < c (i * 3) ∨ c ((i - 1) * 3) = c (i * 3) ∧ c ((i - 1) * 3 + 1) < c (i * 3 + 1)) then 1 else 0
def lockF (l : Nat → Int) (i : Nat) : Int :=
  if faultOf (l (i * 5)) ≠ 0 then faultOf (l (i * 5))
  else if faultOf (l (i * 5 + 3)) ≠ 0 then faultOf (l (i * 5 + 3))
  else if ¬ (1 ≤ l (i * 5 + 1) ∧ l (i * 5 + 1) ≤ 100000 ∧ 1 ≤ l (i * 5 + 2) ∧ l (i * 5 + 2) ≤ 3 ∧ 0 ≤ l (i * 5 + 4) ∧ l (i * 5 + 4) ≤ 100000) then 3
  else if 0 < i ∧ ¬ (l ((i - 1) * 5) < l (i * 5)) then 1 else 0
def fits (k : Nat → Int) (i : Nat) : Prop := (k (i * 4 + 3) = 4 → k (i * 4 + 1) = k (i * 4 + 2)) ∧ (k (i * 4 + 3) ≠ 4 → k (i * 4 + 2) < k (i * 4 + 1))
instance (k : Nat → Int) (i : Nat) : Decidable (fits k i) := by unfold fits; exact inferInstance
def writeF (k : Nat → Int) (i : Nat) : Int :=
  if faultOf (k (i * 4)) ≠ 0 then faultOf (k (i * 4))
  else if ¬ (1 ≤ k (i * 4 + 1) ∧ k (i * 4 + 1) ≤ 100000 ∧ 1 ≤ k (i * 4 + 2) ∧ k (i * 4 + 2) ≤ 100000 ∧ 1 ≤ k (i * 4 + 3) ∧ k (i * 4 + 3) ≤ 4) then 3
  else if (0 < i ∧ ¬ (k ((i - 1) * 4) < k (i * 4) ∨ k ((i - 1) * 4) = k (i * 4) ∧ k ((i - 1) * 4 + 1) < k (i * 4 + 1))) ∨ ¬ fits k i then 1 else 0
/-- Cell i is of this key and start; write i is. -/
def cellIs (c : Nat → Int) (a b : Int) (i : Nat) : Prop := c (i * 3) = a ∧ c (i * 3 + 1) = b
def writeIs (k : Nat → Int) (a b : Int) (i : Nat) : Prop := k (i * 4) = a ∧ k (i * 4 + 2) = b
instance (c : Nat → Int) (a b : Int) (i : Nat) : Decidable (cellIs c a b i) := by unfold cellIs; exact inferInstance
instance (c : Nat → Int) (a b : Int) (i : Nat) : Decidable (writeIs c a b i) := by unfold writeIs; exact inferInstance
def hasCell (S : Sto) (n : Nat) (a b : Int) : Prop := ∃ i, i < n ∧ cellIs S.c a b i
def hasWrite (S : Sto) (n : Nat) (a b : Int) : Prop := ∃ i, i < n ∧ writeIs S.k a b i
def putW (S : Sto) (i : Nat) : Prop := S.k (i * 4 + 3) = 1 → hasCell S S.nc (S.k (i * 4)) (S.k (i * 4 + 2))
def putL (S : Sto) (i : Nat) : Prop := S.l (i * 5 + 2) = 1 → hasCell S S.nc (S.l (i * 5)) (S.l (i * 5 + 1))
def onceW (S : Sto) (i : Nat) : Prop := ¬ hasWrite S i (S.k (i * 4)) (S.k (i * 4 + 2))
def onceL (S : Sto) (i : Nat) : Prop := ¬ hasWrite S S.nw (S.l (i * 5)) (S.l (i * 5 + 1))
def needs (S : Sto) : Prop := (∀ i, i < S.nw → putW S i) ∧ ∀ i, i < S.nl → putL S i
def once (S : Sto) : Prop := (∀ i, i < S.nw → onceW S i) ∧ ∀ i, i < S.nl → onceL S i
open Classical in
noncomputable def storeF (S : Sto) : Int :=
  if 200 < S.nc ∨ 200 < S.nl ∨ 200 < S.nw then 2
  else if scan (cellF S.c) S.nc ≠ 0 then scan (cellF S.c) S.nc
  else if scan (lockF S.l) S.nl ≠ 0 then scan (lockF S.l) S.nl
  else if scan (writeF S.k) S.nw ≠ 0 then scan (writeF S.k) S.nw
  else if ¬ needs S then 4 else if ¬ once S then 6 else 0
end Go.Proofs.Ytdfikaehipdjaaa

namespace Go.Proofs.Ytdfikaehipdjaaa
open Go.RowKit

/-- Block b holds a store: its three lists, and all their numbers. -/
def Lies (w : World) (b : Nat) (S : Sto) (v0 v1 v2 : Value) : Prop := (w.cell? ⟨b, 0, none⟩ = some v0 ∧ w.cell? ⟨b, 1, none⟩ = some v1 ∧ w.cell? ⟨b, 2, none⟩ = some v2) ∧ St w 0 S v0 v1 v2
theorem Lies.lt {w : World} {b : Nat} {S : Sto} {v0 v1 v2 : Value} (h : Lies w b S v0 v1 v2) : b < w.heap.size := World.block_lt_of_cell? w _ h.1.1
theorem Lies.later {w w' : World} {b : Nat} {S : Sto} {v0 v1 v2 : Value} (h : Lies w b S v0 v1 v2) (hb : Below w.heap.size w w') : Lies w' b S v0 v1 v2 :=
  ⟨⟨(hb.cell (p := ⟨b, 0, none⟩) h.lt).trans h.1.1, (hb.cell (p := ⟨b, 1, none⟩) h.lt).trans h.1.2.1, (hb.cell (p := ⟨b, 2, none⟩) h.lt).trans h.1.2.2⟩, h.2.later hb⟩

/-- From place oo of block b on lies a store: its three lists, and all their numbers. -/
def LiesO (w : World) (b oo : Nat) (S : Sto) (v0 v1 v2 : Value) : Prop := (w.cell? ⟨b, oo, none⟩ = some v0 ∧ w.cell? ⟨b, oo + 1, none⟩ = some v1 ∧ w.cell? ⟨b, oo + 2, none⟩ = some v2) ∧ St w 0 S v0 v1 v2
theorem LiesO.lt {w : World} {b oo : Nat} {S : Sto} {v0 v1 v2 : Value} (h : LiesO w b oo S v0 v1 v2) : b < w.heap.size := World.block_lt_of_cell? w ⟨b, oo, none⟩ h.1.1
theorem LiesO.later {w w' : World} {b oo : Nat} {S : Sto} {v0 v1 v2 : Value} (h : LiesO w b oo S v0 v1 v2) (hb : Below w.heap.size w w') : LiesO w' b oo S v0 v1 v2 :=
  ⟨⟨(hb.cell (p := ⟨b, oo, none⟩) h.lt).trans h.1.1, (hb.cell (p := ⟨b, oo + 1, none⟩) h.lt).trans h.1.2.1, (hb.cell (p := ⟨b, oo + 2, none⟩) h.lt).trans h.1.2.2⟩, h.2.later hb⟩
theorem Lies.o {w : World} {b : Nat} {S : Sto} {v0 v1 v2 : Value} (h : Lies w b S v0 v1 v2) : LiesO w b 0 S v0 v1 v2 := h

theorem l1In_is (v lo hi : Int) (r : Bool) (hr : decide (lo ≤ v ∧ v ≤ hi) = r) (w : World) :
    Calls Try.prog 17 #[.int .i64 v, .int .i64 lo, .int .i64 hi] w fun e w' => e = .returned (.bool r) ∧ w' = w := by
  by_cases h1 : lo ≤ v
  · by_cases h2 : v ≤ hi
    · have d : decide (v ≤ hi) = true := decide_eq_true h2
      rw [decide_eq_true (show lo ≤ v ∧ v ≤ hi from ⟨h1, h2⟩)] at hr
      subst hr
      go_enter Try.func17, Try.ntmps17
      go_wp2
      go_ret
      exact ⟨rfl, rfl⟩
    · have d : decide (v ≤ hi) = false := decide_eq_false h2
      rw [decide_eq_false (show ¬ (lo ≤ v ∧ v ≤ hi) from fun h => h2 h.2)] at hr
      subst hr
      go_enter Try.func17, Try.ntmps17
      go_wp2
      go_ret
      exact ⟨rfl, rfl⟩
  · have d : decide (lo ≤ v) = false := decide_eq_false h1
    rw [decide_eq_false (show ¬ (lo ≤ v ∧ v ≤ hi) from fun h => h1 h.1)] at hr
    subst hr
    go_enter Try.func17, Try.ntmps17
    go_wp2
    go_ret
    exact ⟨rfl, rfl⟩
theorem l2Ts_is (t : Int) (r : Bool) (hr : decide (1 ≤ t ∧ t ≤ 100000) = r) (w : World) :
    Calls Try.prog 9 #[.int .i64 t] w fun e w' => e = .returned (.bool r) ∧ w' = w := by
  have H : Hid (decide (1 ≤ t ∧ t ≤ 100000) = r) := hr
  clear hr
  go_enter Try.func9, Try.ntmps9
  go_wp2_with fail
  refine (l1In_is _ _ _ r H.out _).mono ?_
  rintro e w' ⟨rfl, rfl⟩
  go_wp2
  go_ret
  exact ⟨rfl, rfl⟩

theorem below_dr {B : Nat} {a w : World} (h : Below B a w) (q : Nat) : Below B a (w.drewN q) := ⟨h.os, h.tape, h.output, h.size, h.block⟩
end Go.Proofs.Ytdfikaehipdjaaa

namespace Go.Proofs.Ytdfikaehipdjaaa
section
open Go.RowKit
def SmallS (S : Sto) : Prop := S.nc ≤ 1048576 ∧ S.nl ≤ 1048576 ∧ S.nw ≤ 1048576
def sumN (f : Nat → Nat) : Nat → Nat
  | 0 => 0
  | n + 1 => sumN f n + f n
def sizeT (S : Nat → Sto) (i : Nat) : Nat := (S i).nc + (S i).nl + (S i).nw
def Two3 (w : World) (g o g' o' k : Nat) (V U : Nat → Nat → Value) (x : World) : Prop :=
  Below w.heap.size w x ∧ (x.cell? ⟨g, o + k * 3, none⟩ = some (V k 0) ∧ x.cell? ⟨g, o + k * 3 + 1, none⟩ = some (V k 1) ∧ x.cell? ⟨g, o + k * 3 + 2, none⟩ = some (V k 2)) ∧ x.cell? ⟨g', o' + k * 3, none⟩ = some (U k 0) ∧ x.cell? ⟨g', o' + k * 3 + 1, none⟩ = some (U k 1) ∧ x.cell? ⟨g', o' + k * 3 + 2, none⟩ = some (U k 2)
theorem Two3.drew {w x : World} {g o g' o' k : Nat} {V U : Nat → Nat → Value} (h : Two3 w g o g' o' k V U x) : Two3 w g o g' o' k V U x.drew := ⟨below_dr h.1 1, h.2⟩
set_option maxRecDepth 100000 in
set_option maxHeartbeats 4000000 in
theorem eqStoreS_same (n : Nat) (S : Nat → Sto) (V U : Nat → Nat → Value) (va vb : Value) (Ba Bb : Nat) (w : World) (ha : Stos w Ba n S V va) (hb : Stos w Bb n S U vb) (hn : n ≤ 1048576) (hs : ∀ i, i < n → SmallS (S i)) :
    Calls Try.prog 41 #[va, vb] w fun e w' => e = .returned (.bool true) ∧ Below w.heap.size w w' := by
  obtain ⟨ao, cp, rfl⟩ := ha.form
  obtain ⟨ao', cp', rfl⟩ := hb.form
  have H : Hid (Stos w Ba n S V (.slice ao n cp)) := ha
  have H' : Hid (Stos w Bb n S U (.slice ao' n cp')) := hb
  have HN : Hid (∀ i, i < n → SmallS (S i)) := hs
  clear ha hb hs
  go_enter Try.func41, Try.ntmps41
  go_wp2
  go_loopw [5] (fun i wr => ∃ k : Nat, k ≤ n ∧ i = .int .i64 k ∧ Hid (Below w.heap.size w wr)) (fun i _ => n - (intOf i).toNat)
  case atStart => exact ⟨0, Nat.zero_le _, rfl, Below.refl _ _⟩
  case round =>
    obtain ⟨k, hk, rfl, hR⟩ := hrel
    by_cases hlt : k < n
    · obtain ⟨g, o, rfl, _, hg, ⟨c0, c1, c2⟩, sk⟩ := (H.out.later hR.out).at hlt
      obtain ⟨g', o', rfl, _, hg', ⟨c0', c1', c2'⟩, sk'⟩ := (H'.out.later hR.out).at hlt
      have T : Hid (Two3 w g o g' o' k V U wr) := ⟨hR.out, ⟨c0, c1, c2⟩, c0', c1', c2'⟩
      obtain ⟨a0, d0, a1, d1, a2, d2, e0, e1, e2⟩ := sk.form
      obtain ⟨a0', d0', a1', d1', a2', d2', e0', e1', e2'⟩ := sk'.form
      obtain ⟨n0, hn0⟩ : ∃ x, (S k).nc = x := ⟨_, rfl⟩
      obtain ⟨n1, hn1⟩ : ∃ x, (S k).nl = x := ⟨_, rfl⟩
      obtain ⟨n2, hn2⟩ : ∃ x, (S k).nw = x := ⟨_, rfl⟩
      rw [e0, e1, e2, hn0, hn1, hn2] at sk
      rw [e0', e1', e2', hn0, hn1, hn2] at sk'
      rw [hn0] at e0 e0'
      rw [hn1] at e1 e1'
      rw [hn2] at e2 e2'
      have SK : Hid (St wr Ba (S k) (.slice a0 n0 d0) (.slice a1 n1 d1) (.slice a2 n2 d2)) := sk
      have SK' : Hid (St wr Bb (S k) (.slice a0' n0 d0') (.slice a1' n1 d1') (.slice a2' n2 d2')) := sk'
      have hN : Hid (SmallS (S k)) := HN.out k hlt
      clear sk sk' hn0 hn1 hn2 c0 c1 c2 c0' c1' c2'
      go_wp2_with fail
      refine wp_region_held_drew (S := Two3 w g o g' o' k V U) (by kernel_rfl) T.out.drew (fun hS => ?_)
      refine tkH 0 ?_ hS (fun wx hx => ?_) ?_; rotate_left
      · obtain ⟨_, ⟨hx0, hx1, hx2⟩, hx3, hx4, hx5⟩ := hx; rw [e0] at hx0; rw [e1] at hx1; rw [e2] at hx2; rw [e0'] at hx3; rw [e1'] at hx4; rw [e2'] at hx5; go_simp; try with_reducible rfl
      refine tkH 1 ?_ hS (fun wx hx => ?_) ?_; rotate_left
      · obtain ⟨_, ⟨hx0, hx1, hx2⟩, hx3, hx4, hx5⟩ := hx; rw [e0] at hx0; rw [e1] at hx1; rw [e2] at hx2; rw [e0'] at hx3; rw [e1'] at hx4; rw [e2'] at hx5; go_simp; try with_reducible rfl
      refine tkH 2 ?_ hS (fun wx hx => ?_) ?_; rotate_left
      · obtain ⟨_, ⟨hx0, hx1, hx2⟩, hx3, hx4, hx5⟩ := hx; rw [e0] at hx0; rw [e1] at hx1; rw [e2] at hx2; rw [e0'] at hx3; rw [e1'] at hx4; rw [e2'] at hx5; go_simp; try with_reducible rfl
      refine tkH 3 ?_ hS (fun wx hx => ?_) ?_; rotate_left
      · obtain ⟨_, ⟨hx0, hx1, hx2⟩, hx3, hx4, hx5⟩ := hx; rw [e0] at hx0; rw [e1] at hx1; rw [e2] at hx2; rw [e0'] at hx3; rw [e1'] at hx4; rw [e2'] at hx5; go_simp; try with_reducible rfl
      refine tkH 4 ?_ hS (fun wx hx => ?_) ?_; rotate_left
      · obtain ⟨_, ⟨hx0, hx1, hx2⟩, hx3, hx4, hx5⟩ := hx; rw [e0] at hx0; rw [e1] at hx1; rw [e2] at hx2; rw [e0'] at hx3; rw [e1'] at hx4; rw [e2'] at hx5; go_simp; try with_reducible rfl
      refine tkH 5 ?_ hS (fun wx hx => ?_) ?_; rotate_left
      · obtain ⟨_, ⟨hx0, hx1, hx2⟩, hx3, hx4, hx5⟩ := hx; rw [e0] at hx0; rw [e1] at hx1; rw [e2] at hx2; rw [e0'] at hx3; rw [e1'] at hx4; rw [e2'] at hx5; go_simp; try with_reducible rfl
      refine tkH 6 ?_ hS (fun wx hx => ?_) ?_; rotate_left
      · obtain ⟨_, ⟨hx0, hx1, hx2⟩, hx3, hx4, hx5⟩ := hx; rw [e0] at hx0; rw [e1] at hx1; rw [e2] at hx2; rw [e0'] at hx3; rw [e1'] at hx4; rw [e2'] at hx5; go_simp; try with_reducible rfl
      refine tkH 7 ?_ hS (fun wx hx => ?_) ?_; rotate_left
      · obtain ⟨_, ⟨hx0, hx1, hx2⟩, hx3, hx4, hx5⟩ := hx; rw [e0] at hx0; rw [e1] at hx1; rw [e2] at hx2; rw [e0'] at hx3; rw [e1'] at hx4; rw [e2'] at hx5; go_simp; try with_reducible rfl
      refine rdH 8 (fun K hK => ?_)
      go_simp
      go_wp2_with fail
      refine (eqStore_same (S k) _ _ _ _ _ _ Ba Bb _ (SK.out.later (below_dr (Below.refl _ _) 1)) (SK'.out.later (below_dr (Below.refl _ _) 1)) hN.out.1 hN.out.2.1 hN.out.2.2).mono ?_
      rintro e w1 ⟨rfl, q1⟩
      have hg2 : g < wr.heap.size := hg
      have hS' : Two3 w g o g' o' k V U w1 := by
        obtain ⟨hB, ⟨x0, x1, x2⟩, x3, x4, x5⟩ := hS
        exact ⟨hB.trans (q1.mono hB.size), ⟨(q1.cell (p := ⟨g, o + k * 3, none⟩) hg).trans x0, (q1.cell (p := ⟨g, o + k * 3 + 1, none⟩) hg).trans x1, (q1.cell (p := ⟨g, o + k * 3 + 2, none⟩) hg).trans x2⟩, (q1.cell (p := ⟨g', o' + k * 3, none⟩) hg').trans x3, (q1.cell (p := ⟨g', o' + k * 3 + 1, none⟩) hg').trans x4, (q1.cell (p := ⟨g', o' + k * 3 + 2, none⟩) hg').trans x5⟩
      clear q1
      go_wp2_with fail
      refine hK.out _ _ hS' (fun hS => ?_)
      clear hK K hS' T
      refine tkH 9 ?_ hS (fun wx hx => ?_) ?_; rotate_left
      · obtain ⟨_, ⟨hx0, hx1, hx2⟩, hx3, hx4, hx5⟩ := hx; rw [e0] at hx0; rw [e1] at hx1; rw [e2] at hx2; rw [e0'] at hx3; rw [e1'] at hx4; rw [e2'] at hx5; go_simp; try with_reducible rfl
      refine wpAnyH_done (by kernel_rfl) ?_ _
      have HB : Hid (Below w.heap.size w w1) := hS.1
      clear hS hR SK SK'
      go_simp
      go_wp2
      go_roundw
      case rel => exact ⟨k + 1, by omega, by go_num, HB⟩
      case measure => simp [intOf]; omega
    · obtain rfl : k = n := by omega
      go_wp2
      go_ret
      exact ⟨rfl, hR.out⟩
end

section
open Go.RowKit
theorem Blk2.set0 {x : World} {b : Nat} {a0 a1 : Value} (h : Blk2 x b a0 a1) (u : Value) : Blk2 (x.setCell ⟨b, 0, none⟩ u) b u a1 := by
  obtain ⟨⟨h0, h1⟩, f0, f1⟩ := h
  exact ⟨⟨World.cell?_setCell_same _ _ _ h0, (World.cell?_setCell_other _ _ _ _ (by simp)).trans h1⟩, by simpa using f0, by simpa using f1⟩
theorem Blk2.set1 {x : World} {b : Nat} {a0 a1 : Value} (h : Blk2 x b a0 a1) (u : Value) : Blk2 (x.setCell ⟨b, 1, none⟩ u) b a0 u := by
  obtain ⟨⟨h0, h1⟩, f0, f1⟩ := h
  exact ⟨⟨(World.cell?_setCell_other _ _ _ _ (by simp)).trans h0, World.cell?_setCell_same _ _ _ h1⟩, by simpa using f0, by simpa using f1⟩
theorem Blk2.setFar {x : World} {b : Nat} {a0 a1 : Value} (h : Blk2 x b a0 a1) {p : Addr} (hp : b ≠ p.block) (u : Value) : Blk2 (x.setCell p u) b a0 a1 := h.kept (Below.heap_setCell x p u b hp)
theorem FillS.kept {w w' : World} {g n k : Nat} {U : Nat → Nat → Value} (h : FillS w g n k U) (hs : w.heap.size ≤ w'.heap.size) (hb : w'.heap[g]? = w.heap[g]?) : FillS w' g n k U := by
  obtain ⟨h1, h2, h3⟩ := h
  have hc : ∀ p, w'.cell? ⟨g, p, none⟩ = w.cell? ⟨g, p, none⟩ := fun p => World.cell?_of_block (w := w) hb
  have hf : ∀ p, w'.frozen? ⟨g, p, none⟩ = w.frozen? ⟨g, p, none⟩ := fun p => World.frozen?_of_block (w := w) hb
  refine ⟨Nat.lt_of_lt_of_le h1 hs, fun p hp => ⟨?_, (hf p).trans (h2 p hp).2⟩, fun i hi => ?_⟩
  · obtain ⟨u, hu⟩ := (h2 p hp).1
    exact ⟨u, (hc p).trans hu⟩
  · obtain ⟨c0, c1, c2⟩ := h3 i hi
    exact ⟨(hc _).trans c0, (hc _).trans c1, (hc _).trans c2⟩
theorem FillS.far {w : World} {g n k : Nat} {U : Nat → Nat → Value} (h : FillS w g n k U) {a : Addr} (ha : g ≠ a.block) (u : Value) : FillS (w.setCell a u) g n k U := h.kept (by simp [World.setCell]) (Below.heap_setCell w a u g ha)

/-- Ranges and stores, as they came in or were laid. -/
def Grs (w : World) (B nr : Nat) (F : Nat → Int) (n : Nat) (S : Nat → Sto) (V : Nat → Nat → Value) (vr vs : Value) : Prop := Row w B 3 nr F vr ∧ Stos w B n S V vs
theorem Grs.later {w w' : World} {B nr : Nat} {F : Nat → Int} {n : Nat} {S : Nat → Sto} {V : Nat → Nat → Value} {vr vs : Value} (h : Grs w B nr F n S V vr vs) (hb : Below w.heap.size w w') : Grs w' B nr F n S V vr vs := ⟨h.1.later hb, h.2.later hb⟩
theorem Grs.alloc {w : World} {B nr : Nat} {F : Nat → Int} {n : Nat} {S : Nat → Sto} {V : Nat → Nat → Value} {vr vs : Value} (h : Grs w B nr F n S V vr vs) (o : Obj) : Grs (w.alloc o) B nr F n S V vr vs := ⟨h.1.alloc o, h.2.alloc o⟩
theorem Grs.mono {w : World} {B B' nr : Nat} {F : Nat → Int} {n : Nat} {S : Nat → Sto} {V : Nat → Nat → Value} {vr vs : Value} (h : Grs w B nr F n S V vr vs) (hB : B' ≤ B) : Grs w B' nr F n S V vr vs := ⟨h.1.mono hB, h.2.mono hB⟩
theorem Grs.form {w : World} {B nr : Nat} {F : Nat → Int} {n : Nat} {S : Nat → Sto} {V : Nat → Nat → Value} {vr vs : Value} (h : Grs w B nr F n S V vr vs) : ∃ a0 c0 a1 c1, vr = .slice a0 nr c0 ∧ vs = .slice a1 n c1 := by
  obtain ⟨a0, c0, h0⟩ := h.1.form
  obtain ⟨a1, c1, h1⟩ := h.2.form
  exact ⟨a0, c0, a1, c1, h0, h1⟩
set_option maxHeartbeats 1000000 in
theorem eqGroups_same (nr : Nat) (F : Nat → Int) (n : Nat) (S : Nat → Sto) (V U : Nat → Nat → Value) (vr vs ur us : Value) (B B' : Nat) (w : World) (h : Grs w B nr F n S V vr vs) (h' : Grs w B' nr F n S U ur us) (hr : nr ≤ 1048576) (hn : n ≤ 1048576) (hs : ∀ i, i < n → SmallS (S i)) :
    Calls Try.prog 25 #[.agg #[vr, vs], .agg #[ur, us]] w fun e w' => e = .returned (.bool true) ∧ Below w.heap.size w w' := by
  obtain ⟨a0, c0, a1, c1, rfl, rfl⟩ := h.form
  obtain ⟨b0, d0, b1, d1, rfl, rfl⟩ := h'.form
  have H : Hid (Grs w B nr F n S V (.slice a0 nr c0) (.slice a1 n c1)) := h
  have H' : Hid (Grs w B' nr F n S U (.slice b0 nr d0) (.slice b1 n d1)) := h'
  have HN : Hid (∀ i, i < n → SmallS (S i)) := hs
  clear h h' hs
  go_enter Try.func25, Try.ntmps25
  go_wp2_with fail
  refine (eqRangeS_same _ _ B B' _ _ _ ((H.out.1.alloc _).alloc _) ((H'.out.1.alloc _).alloc _) hr).mono ?_
  rintro e w1 ⟨rfl, q1⟩
  have k1 := ((Blk2.new w (.slice a0 nr c0) (.slice a1 n c1) 27).alloc (.cells #[.slice b0 nr d0, .slice b1 n d1] 27)).later q1
  have k2 := (Blk2.new (w.alloc (.cells #[.slice a0 nr c0, .slice a1 n c1] 27)) (.slice b0 nr d0) (.slice b1 n d1) 27).later q1
  simp only [World.size_alloc] at k2 q1
  have B1 : Hid (Below w.heap.size w w1) := ((below_alloc w _).alloc (by simp) _).trans (q1.mono (by omega))
  obtain ⟨⟨_, x1⟩, _⟩ := k1
  obtain ⟨⟨_, y1⟩, _⟩ := k2
  clear q1
  go_wp2_with fail
  refine (eqStoreS_same n S V U _ _ B B' _ (H.out.2.later B1.out) (H'.out.2.later B1.out) hn HN.out).mono ?_
  rintro e w2 ⟨rfl, q2⟩
  have B2 : Hid (Below w.heap.size w w2) := B1.out.trans (q2.mono B1.out.size)
  clear q2 x1 y1
  go_wp2
  go_ret
  exact ⟨rfl, B2.out⟩
end
end Go.Proofs.Ytdfikaehipdjaaa

namespace Go.Proofs.Ytdfikaehipdjaaa
section
open Go.RowKit
end

section
open Go.RowKit
theorem LiesO.drewN {w : World} {b oo : Nat} {S : Sto} {v0 v1 v2 : Value} (h : LiesO w b oo S v0 v1 v2) (q : Nat) : LiesO (w.drewN q) b oo S v0 v1 v2 := h
theorem Lies.drewN {w : World} {b : Nat} {S : Sto} {v0 v1 v2 : Value} (h : Lies w b S v0 v1 v2) (q : Nat) : Lies (w.drewN q) b S v0 v1 v2 := h
end

section
open Go.RowKit
end

section
open Go.RowKit
end
end Go.Proofs.Ytdfikaehipdjaaa

namespace Go.Proofs.Ytdfikaehipdjaaa
open Go.RowKit

def vals (F : Nat → Int) (N : Nat) : List Value := (List.range N).map fun p => .int .i64 (F p)
theorem vals_length (F : Nat → Int) (N : Nat) : (vals F N).length = N := by simp [vals]
theorem vals_at (F : Nat → Int) (N p : Nat) (h : p < N) : (vals F N)[p]? = some (.int .i64 (F p)) := by simp [vals, h]
theorem vals_one (F : Nat → Int) (N : Nat) : ∀ u ∈ vals F N, u.oneCell' = true := by
  intro u hu
  simp only [vals, List.mem_map] at hu
  obtain ⟨p, _, rfl⟩ := hu
  rfl
theorem vals_inv {F : Nat → Int} {N p : Nat} {u : Value} (h : (vals F N)[p]? = some u) : p < N ∧ u = .int .i64 (F p) := by
  have hp : p < N := by
    have := (List.getElem?_eq_some_iff.1 h).1
    rwa [vals_length] at this
  rw [vals_at F N p hp] at h
  exact ⟨hp, (Option.some.inj h).symm⟩
/-- A row that a call has made, n elements of m numbers each, with room behind them. -/
def Own (w : World) (B : Nat) (e : TypeId) (m n : Nat) (F : Nat → Int) (v : Value) : Prop := w.ownsRow B e m v n (vals F (n * m))
theorem Own.row {w : World} {B : Nat} {e : TypeId} {m n : Nat} {F : Nat → Int} {v : Value} (h : Own w B e m n F v) : Row w B m n F v ∧ Free w (n * m) v := by
  have h0 : w.ownsRow B e m v n (vals F (n * m)) := h
  rcases h.2 with ⟨rfl, rfl⟩ | ⟨g, cap, cur, rfl, hg, hw, _⟩
  · refine ⟨⟨_, _, rfl, fun q => absurd q (Nat.lt_irrefl 0)⟩, ?_⟩
    rw [Nat.zero_mul]
    exact Free.of0 _ _
  · have hgs : g < w.heap.size := (Array.getElem?_eq_some_iff.1 hw).1
    refine ⟨⟨_, _, rfl, fun _ => ⟨g, 0, rfl, hg, hgs, fun p hp => ?_⟩⟩, ?_⟩
    · rw [Nat.zero_add, World.ownsRow.cellAt h0 p hp, vals_at _ _ _ hp]
    · intro g' o' n' c' hv p hp
      simp only [Value.slice.injEq, Option.some.injEq, Addr.mk.injEq] at hv
      obtain ⟨⟨rfl, rfl, _⟩, _, _⟩ := hv
      rw [Nat.zero_add]
      exact World.ownsRow.frozenAt h0 p
theorem Own.nil (w : World) (B : Nat) (e : TypeId) (m : Nat) (F : Nat → Int) : Own w B e m 0 F (.slice none 0 0) := ⟨by rw [vals_length], Or.inl ⟨rfl, rfl⟩⟩
theorem Own.later {w w' : World} {B : Nat} {e : TypeId} {m n : Nat} {F : Nat → Int} {v : Value} (h : Own w B e m n F v) (hb : Below w.heap.size w w') : Own w' B e m n F v := by
  refine ⟨h.1, ?_⟩
  rcases h.2 with q | ⟨g, cap, cur, rfl, hg, hw, r⟩
  · exact Or.inl q
  · exact Or.inr ⟨g, cap, cur, rfl, hg, (hb.block g (Array.getElem?_eq_some_iff.1 hw).1).trans hw, r⟩
theorem Own.alloc {w : World} {B : Nat} {e : TypeId} {m n : Nat} {F : Nat → Int} {v : Value} (h : Own w B e m n F v) (o : Obj) : Own (w.alloc o) B e m n F v := h.later (below_alloc _ _)
theorem Own.mono {w : World} {B B' : Nat} {e : TypeId} {m n : Nat} {F : Nat → Int} {v : Value} (h : Own w B e m n F v) (hB : B' ≤ B) : Own w B' e m n F v := World.ownsRow.mono h hB
theorem Own.form {w : World} {B : Nat} {e : TypeId} {m n : Nat} {F : Nat → Int} {v : Value} (h : Own w B e m n F v) : ∃ ao cp, v = .slice ao n cp := h.row.1.form
theorem row_cells {w : World} {B m n : Nat} {F : Nat → Int} {a : Addr} {cp : Nat} (h : Row w B m n F (.slice (some a) n cp)) : ∀ j u, (vals F (n * m))[j]? = some u → w.cell? (a.add j) = some u := by
  intro j u hu
  obtain ⟨hj, rfl⟩ := vals_inv hu
  obtain ⟨ao, cp', hv, h⟩ := h
  have hn : 0 < n := Nat.pos_of_ne_zero (fun e => by rw [e, Nat.zero_mul] at hj; omega)
  obtain ⟨g, o, rfl, _, _, hc⟩ := h hn
  simp only [Value.slice.injEq, Option.some.injEq] at hv
  obtain ⟨rfl, _⟩ := hv
  rw [WideShapes.add_plain]
  exact hc j hj
theorem below_grownBy {B : Nat} {w x x' : World} {row : Option Nat} (h : Below B w x) (hB : B ≤ x.heap.size) (hr : ∀ b, row = some b → B ≤ b) (g : x.grownBy x' row) : Below B w x' :=
  ⟨g.os.trans h.os, g.tape.trans h.tape, g.output.trans h.output, Nat.le_trans h.size g.size, fun i hi => (g.block i (by omega) (by intro e; have := hr i e.symm; omega)).trans (h.block i hi)⟩
theorem own_empty (w : World) (e : TypeId) (m : Nat) : (w.alloc (.cells #[] e)).ownsRow w.heap.size e m (.slice (some ⟨w.heap.size, 0, none⟩) 0 0) 0 [] :=
  ⟨by simp, Or.inr ⟨w.heap.size, 0, #[], rfl, Nat.le_refl _, (MapKept.heap_alloc w _).1, Nat.le_refl _, Nat.zero_le _, by simp, by simp⟩⟩
theorem infoz_Lock : (Try.prog.info? 94).map (fun i => (i.zero, i.size, i.bytes)) = some (some (.agg #[.int .i64 0, .int .i64 0, .int .i64 0, .int .i64 0, .int .i64 0]), 5, 40) := by kernel_rfl
set_option maxRecDepth 100000 in
theorem cloneLocks_any (n : Nat) (F : Nat → Int) (v : Value) (B : Nat) (w : World) (h : Row w B 5 n F v) (hn : n ≤ 1048576) :
    Calls Try.prog 60 #[v] w fun e w' => ∃ v', e = .returned v' ∧ Own w' w.heap.size 94 5 n F v' ∧ Below w.heap.size w w' := by
  obtain ⟨ao, cp, rfl⟩ := h.form
  cases ao with
  | none =>
    have e0 : n = 0 := by
      rcases Nat.eq_zero_or_pos n with e | e
      · exact e
      · obtain ⟨ao, cp', hv, h⟩ := h
        obtain ⟨g, o, rfl, _⟩ := h e
        simp at hv
    subst e0
    clear h
    have he : ∀ w : World, (binOp .eql 45 (.slice none 0 cp) (.slice none 0 0)).run Try.prog w = .ok (.bool true) w := fun _ => rfl
    go_enter Try.func60, Try.ntmps60
    go_wp2
    go_ret
    exact ⟨_, rfl, Own.nil _ _ _ _ _, Below.refl _ _⟩
  | some a =>
    have H : Hid (Row w B 5 n F (.slice (some a) n cp)) := h
    clear h
    have he : ∀ w : World, (binOp .eql 45 (.slice (some a) n cp) (.slice none 0 0)).run Try.prog w = .ok (.bool false) w := fun _ => rfl
    obtain ⟨i0, hi, hz0, hz1, hz2⟩ := info_parts infoz_Lock
    go_enter Try.func60, Try.ntmps60
    go_wp2_with (at_builtin; refine wpList_append_own _ rfl _ _ 45 rfl w.heap.size 94 i0 (.agg #[.int .i64 0, .int .i64 0, .int .i64 0, .int .i64 0, .int .i64 0]) 5 40 Try.underlying45 hi hz0 hz1 hz2 rfl (by decide) _ 0 [] rfl (own_empty w 94 5) a n cp (vals F (n * 5)) rfl (vals_length _ _) (row_cells (H.out.alloc _)) (vals_one _ _) ?c3 ?c4 ?c5 ?_)
    case c3 => unfold maxLen; omega
    case c4 => omega
    case c5 => simp
    intro v' w1 ho hg _
    go_wp2
    go_ret
    refine ⟨v', rfl, ?_, below_grownBy (below_alloc w _) (by simp) (fun b hb => by simp [Value.ownBlock] at hb; omega) hg⟩
    simpa [Own] using ho
theorem infoz_Write : (Try.prog.info? 96).map (fun i => (i.zero, i.size, i.bytes)) = some (some (.agg #[.int .i64 0, .int .i64 0, .int .i64 0, .int .i64 0]), 4, 32) := by kernel_rfl
set_option maxRecDepth 100000 in
theorem cloneWrites_any (n : Nat) (F : Nat → Int) (v : Value) (B : Nat) (w : World) (h : Row w B 4 n F v) (hn : n ≤ 1048576) :
    Calls Try.prog 61 #[v] w fun e w' => ∃ v', e = .returned v' ∧ Own w' w.heap.size 96 4 n F v' ∧ Below w.heap.size w w' := by
  obtain ⟨ao, cp, rfl⟩ := h.form
  cases ao with
  | none =>
    have e0 : n = 0 := by
      rcases Nat.eq_zero_or_pos n with e | e
      · exact e
      · obtain ⟨ao, cp', hv, h⟩ := h
        obtain ⟨g, o, rfl, _⟩ := h e
        simp at hv
    subst e0
    clear h
    have he : ∀ w : World, (binOp .eql 46 (.slice none 0 cp) (.slice none 0 0)).run Try.prog w = .ok (.bool true) w := fun _ => rfl
    go_enter Try.func61, Try.ntmps61
    go_wp2
    go_ret
    exact ⟨_, rfl, Own.nil _ _ _ _ _, Below.refl _ _⟩
  | some a =>
    have H : Hid (Row w B 4 n F (.slice (some a) n cp)) := h
    clear h
    have he : ∀ w : World, (binOp .eql 46 (.slice (some a) n cp) (.slice none 0 0)).run Try.prog w = .ok (.bool false) w := fun _ => rfl
    obtain ⟨i0, hi, hz0, hz1, hz2⟩ := info_parts infoz_Write
    go_enter Try.func61, Try.ntmps61
    go_wp2_with (at_builtin; refine wpList_append_own _ rfl _ _ 46 rfl w.heap.size 96 i0 (.agg #[.int .i64 0, .int .i64 0, .int .i64 0, .int .i64 0]) 4 32 Try.underlying46 hi hz0 hz1 hz2 rfl (by decide) _ 0 [] rfl (own_empty w 96 4) a n cp (vals F (n * 4)) rfl (vals_length _ _) (row_cells (H.out.alloc _)) (vals_one _ _) ?c3 ?c4 ?c5 ?_)
    case c3 => unfold maxLen; omega
    case c4 => omega
    case c5 => simp
    intro v' w1 ho hg _
    go_wp2
    go_ret
    refine ⟨v', rfl, ?_, below_grownBy (below_alloc w _) (by simp) (fun b hb => by simp [Value.ownBlock] at hb; omega) hg⟩
    simpa [Own] using ho
/-- A row of structs of m numbers that a call has made, as a list of numbers. -/
def OwnM (w : World) (B : Nat) (e : TypeId) (m : Nat) (v : Value) (n : Nat) (L : List Int) : Prop := w.ownsRow B e m v n (L.map (Value.int .i64))
theorem vals_listM (L : List Int) : vals (fun p => L.getD p 0) L.length = L.map (Value.int .i64) := by
  apply List.ext_getElem?
  intro p
  rcases Nat.lt_or_ge p L.length with h | h
  · rw [vals_at _ _ _ h]
    simp [h]
  · rw [List.getElem?_eq_none (by rw [vals_length]; exact h), List.getElem?_eq_none (by simpa using h)]
theorem OwnM.own {w : World} {B : Nat} {e : TypeId} {m : Nat} {v : Value} {n : Nat} {L : List Int} (h : OwnM w B e m v n L) (hl : L.length = n * m) : Own w B e m n (fun p => L.getD p 0) v := by
  unfold Own
  rw [← hl, vals_listM]
  exact h
theorem OwnM.kept {w w' : World} {B : Nat} {e : TypeId} {m : Nat} {v : Value} {n : Nat} {L : List Int} (h : OwnM w B e m v n L) (hb : ∀ g, B ≤ g → g < w.heap.size → w'.heap[g]? = w.heap[g]?) : OwnM w' B e m v n L := by
  refine ⟨h.1, ?_⟩
  rcases h.2 with q | ⟨g, cap, cur, rfl, hg, hw, r⟩
  · exact Or.inl q
  · exact Or.inr ⟨g, cap, cur, rfl, hg, (hb g hg (Array.getElem?_eq_some_iff.1 hw).1).trans hw, r⟩
theorem OwnM.later {w w' : World} {B : Nat} {e : TypeId} {m : Nat} {v : Value} {n : Nat} {L : List Int} (h : OwnM w B e m v n L) (hb : Below w.heap.size w w') : OwnM w' B e m v n L := h.kept (fun g _ hg => hb.block g hg)
theorem OwnM.far {w : World} {B : Nat} {e : TypeId} {m : Nat} {v : Value} {n : Nat} {L : List Int} (h : OwnM w B e m v n L) {a : Addr} (ha : a.block < B) (u : Value) : OwnM (w.setCell a u) B e m v n L := h.kept (fun g hg _ => Below.heap_setCell w a u g (by omega))
theorem OwnM.nil (w : World) (B : Nat) (e : TypeId) (m : Nat) : OwnM w B e m (.slice none 0 0) 0 [] := ⟨by simp, Or.inl ⟨rfl, rfl⟩⟩
theorem OwnM.form {w : World} {B : Nat} {e : TypeId} {m : Nat} {v : Value} {n : Nat} {L : List Int} (h : OwnM w B e m v n L) : ∃ ao cp, v = .slice ao n cp := by
  rcases h.2 with ⟨rfl, rfl⟩ | ⟨g, cap, cur, rfl, _⟩
  · exact ⟨_, _, rfl⟩
  · exact ⟨_, _, rfl⟩
theorem OwnM.block {w : World} {B : Nat} {e : TypeId} {m : Nat} {v : Value} {n : Nat} {L : List Int} (h : OwnM w B e m v n L) : ∀ k, v.ownBlock = some k → B ≤ k ∧ k < w.heap.size := by
  intro k hk
  rcases h.2 with ⟨rfl, _⟩ | ⟨g, cap, cur, rfl, hg, hw, _⟩
  · simp [Value.ownBlock] at hk
  · simp [Value.ownBlock] at hk
    subst hk
    exact ⟨hg, (Array.getElem?_eq_some_iff.1 hw).1⟩
end Go.Proofs.Ytdfikaehipdjaaa

namespace Go.Proofs.Ytdfikaehipdjaaa
open Go.RowKit

/-- The numbers of the structs (m numbers each) among the first k whose first number lies from a to b. -/
def keepL (F : Nat → Int) (m : Nat) (a b : Int) : Nat → List Int
  | 0 => []
  | k + 1 => keepL F m a b k ++ (if a ≤ F (k * m) ∧ F (k * m) ≤ b then (List.range m).map (fun q => F (k * m + q)) else [])
def keepN (F : Nat → Int) (m : Nat) (a b : Int) : Nat → Nat
  | 0 => 0
  | k + 1 => keepN F m a b k + (if a ≤ F (k * m) ∧ F (k * m) ≤ b then 1 else 0)
theorem keep_yes {F : Nat → Int} {m : Nat} {a b : Int} {k : Nat} (h : a ≤ F (k * m) ∧ F (k * m) ≤ b) : keepL F m a b (k + 1) = keepL F m a b k ++ (List.range m).map (fun q => F (k * m + q)) ∧ keepN F m a b (k + 1) = keepN F m a b k + 1 := by
  rw [keepL, keepN, if_pos h, if_pos h]
  exact ⟨rfl, rfl⟩
theorem keep_no {F : Nat → Int} {m : Nat} {a b : Int} {k : Nat} (h : ¬ (a ≤ F (k * m) ∧ F (k * m) ≤ b)) : keepL F m a b (k + 1) = keepL F m a b k ∧ keepN F m a b (k + 1) = keepN F m a b k := by
  rw [keepL, keepN, if_neg h, if_neg h]
  exact ⟨List.append_nil _, rfl⟩
theorem keep_length (F : Nat → Int) (m : Nat) (a b : Int) : ∀ k, (keepL F m a b k).length = keepN F m a b k * m
  | 0 => by simp [keepL, keepN]
  | k + 1 => by
    have ih := keep_length F m a b k
    by_cases h : a ≤ F (k * m) ∧ F (k * m) ≤ b
    · rw [(keep_yes h).1, (keep_yes h).2, List.length_append, ih, List.length_map, List.length_range, Nat.succ_mul]
    · rw [(keep_no h).1, (keep_no h).2, ih]
theorem keep_le (F : Nat → Int) (m : Nat) (a b : Int) : ∀ k, keepN F m a b k ≤ k
  | 0 => Nat.le_refl _
  | k + 1 => by
    have ih := keep_le F m a b k
    by_cases h : a ≤ F (k * m) ∧ F (k * m) ≤ b
    · rw [(keep_yes h).2]; omega
    · rw [(keep_no h).2]; omega
def keepF (F : Nat → Int) (m : Nat) (a b : Int) (k : Nat) : Nat → Int := fun p => (keepL F m a b k).getD p 0
/-- The part of a store from fr on below to. -/
def partS (S : Sto) (fr to : Int) : Sto := ⟨keepN S.c 3 fr (to - 1) S.nc, keepF S.c 3 fr (to - 1) S.nc, keepN S.l 5 fr (to - 1) S.nl, keepF S.l 5 fr (to - 1) S.nl, keepN S.k 4 fr (to - 1) S.nw, keepF S.k 4 fr (to - 1) S.nw⟩
/-- A row that a call has made and has done with: its block lies from lo on below hi. -/
def Done (x : World) (lo hi m n : Nat) (F : Nat → Int) (u : Value) : Prop := (Row x lo m n F u ∧ Free x (n * m) u) ∧ (0 < n → ∀ k, u.ownBlock = some k → k < hi)
theorem OwnM.done {w : World} {B : Nat} {e : TypeId} {m : Nat} {v : Value} {n : Nat} {L : List Int} (h : OwnM w B e m v n L) (hl : L.length = n * m) : Done w B w.heap.size m n (fun p => L.getD p 0) v := ⟨(h.own hl).row, fun _ k hk => (h.block k hk).2⟩
theorem Done.within {x x' : World} {lo hi m n B E : Nat} {F : Nat → Int} {u : Value} (h : Done x lo hi m n F u) (hw : Within B E x x') (hB : hi ≤ B) : Done x' lo hi m n F u :=
  ⟨⟨h.1.1.within hw (fun h0 k hk => Or.inl (Nat.lt_of_lt_of_le (h.2 h0 k hk) hB)), h.1.2.within h.1.1 hw (fun h0 k hk => Or.inl (Nat.lt_of_lt_of_le (h.2 h0 k hk) hB))⟩, h.2⟩
theorem Done.later {x x' : World} {lo hi m n : Nat} {F : Nat → Int} {u : Value} (h : Done x lo hi m n F u) (hb : Below x.heap.size x x') : Done x' lo hi m n F u := h.within (Within.grow (B := hi) (E := hi) hb) (Nat.le_refl _)
theorem Done.far {x : World} {lo hi m n : Nat} {F : Nat → Int} {u : Value} (h : Done x lo hi m n F u) {a : Addr} (ha : a.block < lo) (v : Value) : Done (x.setCell a v) lo hi m n F u := ⟨⟨h.1.1.far (Or.inl ha) v, h.1.2.far a v⟩, h.2⟩
theorem Done.mono {x : World} {lo hi lo' hi' m n : Nat} {F : Nat → Int} {u : Value} (h : Done x lo hi m n F u) (h1 : lo' ≤ lo) (h2 : hi ≤ hi') : Done x lo' hi' m n F u := ⟨⟨h.1.1.mono h1, h.1.2⟩, fun h0 k hk => Nat.lt_of_lt_of_le (h.2 h0 k hk) h2⟩
/-- What the model's part stands on: its result (the first block), the store that it makes (the second). -/
def PartEnv (w : World) (u0 u1 u2 : Value) (x : World) : Prop := Blk3 x w.heap.size (.slice none 0 0) (.slice none 0 0) (.slice none 0 0) ∧ Blk3 x (w.heap.size + 1) u0 u1 u2 ∧ Below w.heap.size w x
theorem PartEnv.later {w x x' : World} {u0 u1 u2 : Value} (h : PartEnv w u0 u1 u2 x) (hb : Below x.heap.size x x') : PartEnv w u0 u1 u2 x' := ⟨h.1.later hb, h.2.1.later hb, h.2.2.trans (hb.mono h.2.2.size)⟩
theorem PartEnv.within {w x x' : World} {u0 u1 u2 : Value} {B E : Nat} (h : PartEnv w u0 u1 u2 x) (hw : Within B E x x') (hB : w.heap.size + 2 ≤ B) : PartEnv w u0 u1 u2 x' := ⟨h.1.within hw (Or.inl (by omega)), h.2.1.within hw (Or.inl (by omega)), hw.below h.2.2 (by omega)⟩
theorem PartEnv.set0 {w x : World} {u0 u1 u2 : Value} (h : PartEnv w u0 u1 u2 x) (u : Value) : PartEnv w u u1 u2 (x.setCell ⟨w.heap.size + 1, 0, none⟩ u) := ⟨h.1.setFar (by simp) _, h.2.1.set0 _, h.2.2.setCell (by simp) _⟩
theorem PartEnv.set1 {w x : World} {u0 u1 u2 : Value} (h : PartEnv w u0 u1 u2 x) (u : Value) : PartEnv w u0 u u2 (x.setCell ⟨w.heap.size + 1, 1, none⟩ u) := ⟨h.1.setFar (by simp) _, h.2.1.set1 _, h.2.2.setCell (by simp) _⟩
theorem PartEnv.set2 {w x : World} {u0 u1 u2 : Value} (h : PartEnv w u0 u1 u2 x) (u : Value) : PartEnv w u0 u1 u (x.setCell ⟨w.heap.size + 1, 2, none⟩ u) := ⟨h.1.setFar (by simp) _, h.2.1.set2 _, h.2.2.setCell (by simp) _⟩
/-- D speaks of what lies below Z, and of no block of the part's own two. -/
structure Stays (w : World) (Z : Nat) (D : World → Prop) : Prop where
  lo : w.heap.size + 2 ≤ Z
  within : ∀ x x' E, D x → Within Z E x x' → D x'
  far : ∀ x a u, D x → a.block < w.heap.size + 2 → D (x.setCell a u)
/-- What a loop of the part stands on: the store that it makes, what is done, and the row under way. -/
def Mak (w : World) (Z : Nat) (D : World → Prop) (T : TypeId) (m : Nat) (u0 u1 u2 v : Value) (n : Nat) (L : List Int) (x : World) : Prop := PartEnv w u0 u1 u2 x ∧ D x ∧ OwnM x Z T m v n L
theorem Mak.later {w x x' : World} {Z : Nat} {D : World → Prop} {T : TypeId} {m : Nat} {u0 u1 u2 v : Value} {n : Nat} {L : List Int} (h : Mak w Z D T m u0 u1 u2 v n L x) (hs : Stays w Z D) (hb : Below x.heap.size x x') : Mak w Z D T m u0 u1 u2 v n L x' := ⟨h.1.later hb, hs.within x x' Z h.2.1 (Within.grow hb), h.2.2.later hb⟩
theorem Mak.step {w x x' : World} {Z : Nat} {D : World → Prop} {T : TypeId} {m : Nat} {u0 u1 u2 v v' : Value} {n n' : Nat} {L L' : List Int} (h : Mak w Z D T m u0 u1 u2 v n L x) (hs : Stays w Z D) (hg : x.grownBy x' v.ownBlock) (ho : OwnM x' Z T m v' n' L') : Mak w Z D T m u0 u1 u2 v' n' L' x' :=
  have hw : Within Z x.heap.size x x' := Within.of hg (fun b q => h.2.2.block b q)
  ⟨h.1.within hw hs.lo, hs.within _ _ _ h.2.1 hw, ho⟩
theorem Mak.set0 {w x : World} {Z : Nat} {D : World → Prop} {T : TypeId} {m : Nat} {u0 u1 u2 v : Value} {n : Nat} {L : List Int} (h : Mak w Z D T m u0 u1 u2 v n L x) (hs : Stays w Z D) : Mak w Z D T m v u1 u2 v n L (x.setCell ⟨w.heap.size + 1, 0, none⟩ v) := ⟨h.1.set0 _, hs.far _ _ _ h.2.1 (by simp), h.2.2.far (by have := hs.lo; simp; omega) _⟩
theorem Mak.set1 {w x : World} {Z : Nat} {D : World → Prop} {T : TypeId} {m : Nat} {u0 u1 u2 v : Value} {n : Nat} {L : List Int} (h : Mak w Z D T m u0 u1 u2 v n L x) (hs : Stays w Z D) : Mak w Z D T m u0 v u2 v n L (x.setCell ⟨w.heap.size + 1, 1, none⟩ v) := ⟨h.1.set1 _, hs.far _ _ _ h.2.1 (by simp), h.2.2.far (by have := hs.lo; simp; omega) _⟩
theorem Mak.set2 {w x : World} {Z : Nat} {D : World → Prop} {T : TypeId} {m : Nat} {u0 u1 u2 v : Value} {n : Nat} {L : List Int} (h : Mak w Z D T m u0 u1 u2 v n L x) (hs : Stays w Z D) : Mak w Z D T m u0 u1 v v n L (x.setCell ⟨w.heap.size + 1, 2, none⟩ v) := ⟨h.1.set2 _, hs.far _ _ _ h.2.1 (by simp), h.2.2.far (by have := hs.lo; simp; omega) _⟩
theorem Stays.none (w : World) : Stays w (w.heap.size + 2) (fun x => w.heap.size + 2 ≤ x.heap.size) := ⟨Nat.le_refl _, fun _ _ _ h hw => Nat.le_trans h hw.size, fun _ _ _ h _ => by simpa using h⟩
theorem Stays.more {w : World} {Z Z' : Nat} {D : World → Prop} {m n : Nat} {F : Nat → Int} {u : Value} (h : Stays w Z D) (hZ : Z ≤ Z') : Stays w Z' (fun x => Z' ≤ x.heap.size ∧ D x ∧ Done x Z Z' m n F u) :=
  ⟨Nat.le_trans h.lo hZ, fun x x' E hd hw => ⟨Nat.le_trans hd.1 hw.size, h.within x x' E hd.2.1 ⟨hw.os, hw.tape, hw.output, hw.size, fun k hk ho => hw.block k hk (by omega)⟩, hd.2.2.within hw (Nat.le_refl _)⟩, fun x a u hd ha => ⟨by simpa using hd.1, h.far x a u hd.2.1 ha, hd.2.2.far (Nat.lt_of_lt_of_le ha h.lo) u⟩⟩
/-- A new store, its rows in three blocks. -/
def NewSto (w : World) (R : Sto) (e : Ending) (w' : World) : Prop := ∃ a0 c0 a1 c1 a2 c2, e = .returned (.agg #[.slice a0 R.nc c0, .slice a1 R.nl c1, .slice a2 R.nw c2]) ∧ (St w' w.heap.size R (.slice a0 R.nc c0) (.slice a1 R.nl c1) (.slice a2 R.nw c2) ∧ FreeS w' R (.slice a0 R.nc c0) (.slice a1 R.nl c1) (.slice a2 R.nw c2) ∧ ApartD R (.slice a0 R.nc c0) (.slice a1 R.nl c1) (.slice a2 R.nw c2)) ∧ Below w.heap.size w w'
def emptyS : Sto := ⟨0, fun _ => 0, 0, fun _ => 0, 0, fun _ => 0⟩
end Go.Proofs.Ytdfikaehipdjaaa

