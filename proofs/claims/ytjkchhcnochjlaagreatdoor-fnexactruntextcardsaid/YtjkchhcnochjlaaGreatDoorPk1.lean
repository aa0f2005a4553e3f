/-
  Own text, merged of RegT, ColsA, ColsO, ColsB, ColsC, ColsE, LawE, MarkA, StorQ, MarkS, LawT, RngA, GrpA, KeysA, ColsP, ColsF.
-/
import Derived.Test.YtjkchhcnochjlaaGreatDoorRows
import Derived.Test.YtjkchhcnochjlaaGreatDoorCards
import Derived.Test.YtjkchhcnochjlaaGreatDoorTie
import Derived.Deep.RegionHeld
import Derived.WalkKit
import Derived.RowKitTokens
import Derived.WalkLawsBesides
import Derived.ProofKit
import Derived.OpenShut
import Derived.Handy
import Derived.BigQuiet
import Derived.Deep.QuietTactic
import Derived.Deep.Slices
import Derived.Lib.SmallJoins
import Derived.Laws.OwnMore
import Derived.OwnWalk
import Derived.Laws.AppendOwn
import Derived.Deep.Onto
import Derived.Deep.AppendLies
import Derived.Laws.AppendOwnNone
import Derived.Ground.NamesProg
import Derived.Shelf.Strconv.Itoa4
import Derived.Maps.OwnSet
import Derived.DeepKeys4
import Derived.Lib.SliceRun
import Derived.Deep.DeepCutAuto
import Derived.Laws.IdiomCopy
import Derived.Laws.Externs
import Derived.Lib.Overlaps
import Derived.Lib.AppendZerosOnto
import Derived.Deep.RegionLaw
import Derived.ArgAppend
import Derived.Deep.AppendSrc
import Derived.WalkSmall
import Derived.Deep.Cut
import Derived.Maps.RangeWalk
import Derived.Laws.Tables
import Derived.Laws.Rows
import Derived.Laws.IdiomStrings
import Derived.Laws.Concat
import Derived.Deep.DeepMust
import Derived.Lib.LaidTab
import Derived.LaidMore
import Derived.Stop.Joined
import Derived.SevenTiedAt
import Derived.ShutString
namespace Go.Proofs.YtjkchhcnochjlaaGreatDoor
open Go.RowKit
theorem tkH {P : Program} {ops : Array Oper} {Q : Exit → Act → World → Prop} {md : Region.Mode} {S : World → Prop} (i : Nat) {oi : Oper} (v : Value) {fuel : Nat} {listed : Array Bool} {a : Act} {w : World} (hS : S w) (hy : ∀ w, S w → (execOp a.eval oi).run P w = .ok (.value v) w) (h : wpAnyH P md ops Q S fuel (listed.setIfInBounds i true) (a.put oi.dst v) w) (hi : ops[i]? = some oi := by exact rfl) (hs : Region.noSelect ops = true := by as_aux_lemma => kernel_rfl) (hf : Region.free md ops listed i = true := by as_aux_lemma => kernel_rfl) (hr : (Region.ready md ops listed).contains i = true := by as_aux_lemma => kernel_rfl) (hQ : ∀ c a w, Q (.panic c) (a.put oi.dst v) w → Q (.panic c) a w := by exact fun _ _ _ h => h) (hw : Region.wanted oi (yielded ops a.tmps) = true := by kernel_rfl) : wpAnyH P md ops Q S (fuel + 1) listed a w :=
  wpAnyH_take hi hs hf hr hQ (Or.inl ⟨hw, hy⟩) hS h
theorem noH {P : Program} {ops : Array Oper} {Q : Exit → Act → World → Prop} {md : Region.Mode} {S : World → Prop} (i : Nat) {oi : Oper} {fuel : Nat} {listed : Array Bool} {a : Act} {w : World} (hS : S w) (h : wpAnyH P md ops Q S fuel (listed.setIfInBounds i true) (a.put oi.dst undef) w) (hi : ops[i]? = some oi := by exact rfl) (hs : Region.noSelect ops = true := by as_aux_lemma => kernel_rfl) (hf : Region.free md ops listed i = true := by as_aux_lemma => kernel_rfl) (hr : (Region.ready md ops listed).contains i = true := by as_aux_lemma => kernel_rfl) (hQ : ∀ c a w, Q (.panic c) (a.put oi.dst undef) w → Q (.panic c) a w := by exact fun _ _ _ h => h) (hw : Region.wanted oi (yielded ops a.tmps) = false := by kernel_rfl) : wpAnyH P md ops Q S (fuel + 1) listed a w :=
  wpAnyH_take hi hs hf hr hQ (Or.inr ⟨hw, rfl⟩) hS h
theorem rdH {P : Program} {ops : Array Oper} {Q : Exit → Act → World → Prop} {md : Region.Mode} {S : World → Prop} (i : Nat) {o : Oper} {fuel : Nat} {listed : Array Bool} {a : Act} {w : World} (h : ∀ K' : Act → World → Prop, Shut (∀ a w, S w → (S w → wpAnyH P md ops Q S fuel (listed.setIfInBounds i true) a w) → K' a w) → if Region.wanted o (yielded ops a.tmps) = true then Oper.wp P o a w K' Q else K' (a.put o.dst undef) w) (ho : ops[i]? = some o := by exact rfl) (hr : Region.ready md ops listed = [i] := by as_aux_lemma => kernel_rfl) : wpAnyH P md ops Q S (fuel + 1) listed a w :=
  wpAnyH_ready hr (List.cons_ne_nil _ _) (AllReadyH.cons ho h AllReadyH.nil)
end Go.Proofs.YtjkchhcnochjlaaGreatDoor

namespace Go.Proofs.YtjkchhcnochjlaaGreatDoor
open Go.RowKit

/-- n elements of m whole numbers each, from block B on; number p of all of them is F p. -/
def Row (w : World) (B m n : Nat) (F : Nat → Int) (v : Value) : Prop :=
  ∃ ao cp, v = .slice ao n cp ∧ (0 < n → ∃ g o, ao = some ⟨g, o, none⟩ ∧ B ≤ g ∧ g < w.heap.size ∧ ∀ p, p < n * m → w.cell? ⟨g, o + p, none⟩ = some (.int .i64 (F p)))
/-- None of the first N places of the slice is frozen. -/
def Free (w : World) (N : Nat) (v : Value) : Prop := ∀ g o n c, v = .slice (some ⟨g, o, none⟩) n c → ∀ p, p < N → w.frozen? ⟨g, o + p, none⟩ = false

theorem Row.form {w : World} {B m n : Nat} {F : Nat → Int} {v : Value} (h : Row w B m n F v) : ∃ ao cp, v = .slice ao n cp := by
  obtain ⟨ao, cp, rfl, _⟩ := h; exact ⟨ao, cp, rfl⟩
theorem Row.at {w : World} {B m n : Nat} {F : Nat → Int} {ao : Option Addr} {cp : Nat} (h : Row w B m n F (.slice ao n cp)) {k : Nat} (hk : k < n) :
    ∃ g o, ao = some ⟨g, o, none⟩ ∧ B ≤ g ∧ g < w.heap.size ∧ ∀ j, j < m → w.cell? ⟨g, o + k * m + j, none⟩ = some (.int .i64 (F (k * m + j))) := by
  obtain ⟨ao', cp', hv, h⟩ := h
  simp only [Value.slice.injEq] at hv
  obtain ⟨rfl, _, rfl⟩ := hv
  obtain ⟨g, o, ha, hB, hg, hc⟩ := h (by omega)
  refine ⟨g, o, ha, hB, hg, fun j hj => ?_⟩
  rw [Nat.add_assoc]
  refine hc _ ?_
  calc k * m + j < k * m + m := by omega
    _ = (k + 1) * m := by rw [Nat.succ_mul]
    _ ≤ n * m := Nat.mul_le_mul_right m hk
theorem Row.kept {w w' : World} {B m n : Nat} {F : Nat → Int} {v : Value} (h : Row w B m n F v) (hs : w.heap.size ≤ w'.heap.size) (hb : ∀ k, v.ownBlock = some k → k < w.heap.size → w'.heap[k]? = w.heap[k]?) : Row w' B m n F v := by
  obtain ⟨ao, cp, rfl, h⟩ := h
  refine ⟨ao, cp, rfl, fun hn => ?_⟩
  obtain ⟨g, o, rfl, hB, hg, hc⟩ := h hn
  exact ⟨g, o, rfl, hB, Nat.lt_of_lt_of_le hg hs, fun p hp => (World.cell?_of_block (w := w) (hb g rfl hg)).trans (hc p hp)⟩
theorem Row.lt {w : World} {B m n : Nat} {F : Nat → Int} {v : Value} (h : Row w B m n F v) (hn : 0 < n) : ∀ k, v.ownBlock = some k → B ≤ k ∧ k < w.heap.size := by
  intro k hk
  obtain ⟨ao, cp, rfl, h⟩ := h
  obtain ⟨g, o, rfl, hB, hg, hc⟩ := h hn
  simp [Value.ownBlock] at hk
  subst hk
  exact ⟨hB, hg⟩
theorem Row.later {w w' : World} {B m n : Nat} {F : Nat → Int} {v : Value} (h : Row w B m n F v) (hb : Below w.heap.size w w') : Row w' B m n F v :=
  h.kept hb.size (fun k _ hk => hb.block k hk)
theorem Row.alloc {w : World} {B m n : Nat} {F : Nat → Int} {v : Value} (h : Row w B m n F v) (o : Obj) : Row (w.alloc o) B m n F v := h.later ((Below.refl _ _).alloc (Nat.le_refl _) o)
theorem Row.drewN {w : World} {B m n : Nat} {F : Nat → Int} {v : Value} (h : Row w B m n F v) (k : Nat) : Row (w.drewN k) B m n F v := h
theorem Row.mono {w : World} {B B' m n : Nat} {F : Nat → Int} {v : Value} (h : Row w B m n F v) (hB : B' ≤ B) : Row w B' m n F v := by
  obtain ⟨ao, cp, rfl, h⟩ := h
  refine ⟨ao, cp, rfl, fun hn => ?_⟩
  obtain ⟨g, o, rfl, hb, hg, hc⟩ := h hn
  exact ⟨g, o, rfl, by omega, hg, hc⟩
theorem Row.setCell {w : World} {B m n : Nat} {F : Nat → Int} {v : Value} (h : Row w B m n F v) {a : Addr} (ha : v.ownBlock ≠ some a.block) (u : Value) : Row (w.setCell a u) B m n F v :=
  h.kept (by simp [World.setCell]) (fun k hk _ => Below.heap_setCell w a u k (fun e => ha (by rw [hk, e])))
theorem Row.congr {w : World} {B m n : Nat} {F G : Nat → Int} {v : Value} (h : Row w B m n F v) (e : ∀ p, p < n * m → F p = G p) : Row w B m n G v := by
  obtain ⟨ao, cp, rfl, h⟩ := h
  refine ⟨ao, cp, rfl, fun hn => ?_⟩
  obtain ⟨g, o, rfl, hb, hg, hc⟩ := h hn
  exact ⟨g, o, rfl, hb, hg, fun p hp => by rw [← e p hp]; exact hc p hp⟩
theorem Row.at3 {w : World} {B n : Nat} {F : Nat → Int} {ao : Option Addr} {cp : Nat} (h : Row w B 3 n F (.slice ao n cp)) {k : Nat} (hk : k < n) :
    ∃ g o, ao = some ⟨g, o, none⟩ ∧ B ≤ g ∧ g < w.heap.size ∧ w.cell? ⟨g, o + k * 3, none⟩ = some (.int .i64 (F (k * 3))) ∧ w.cell? ⟨g, o + k * 3 + 1, none⟩ = some (.int .i64 (F (k * 3 + 1))) ∧ w.cell? ⟨g, o + k * 3 + 2, none⟩ = some (.int .i64 (F (k * 3 + 2))) := by
  obtain ⟨g, o, ha, hB, hg, hc⟩ := h.at hk
  exact ⟨g, o, ha, hB, hg, hc 0 (by omega), hc 1 (by omega), hc 2 (by omega)⟩
theorem Row.at4 {w : World} {B n : Nat} {F : Nat → Int} {ao : Option Addr} {cp : Nat} (h : Row w B 4 n F (.slice ao n cp)) {k : Nat} (hk : k < n) :
    ∃ g o, ao = some ⟨g, o, none⟩ ∧ B ≤ g ∧ g < w.heap.size ∧ w.cell? ⟨g, o + k * 4, none⟩ = some (.int .i64 (F (k * 4))) ∧ w.cell? ⟨g, o + k * 4 + 1, none⟩ = some (.int .i64 (F (k * 4 + 1))) ∧ w.cell? ⟨g, o + k * 4 + 2, none⟩ = some (.int .i64 (F (k * 4 + 2))) ∧ w.cell? ⟨g, o + k * 4 + 3, none⟩ = some (.int .i64 (F (k * 4 + 3))) := by
  obtain ⟨g, o, ha, hB, hg, hc⟩ := h.at hk
  exact ⟨g, o, ha, hB, hg, hc 0 (by omega), hc 1 (by omega), hc 2 (by omega), hc 3 (by omega)⟩
theorem Row.at5 {w : World} {B n : Nat} {F : Nat → Int} {ao : Option Addr} {cp : Nat} (h : Row w B 5 n F (.slice ao n cp)) {k : Nat} (hk : k < n) :
    ∃ g o, ao = some ⟨g, o, none⟩ ∧ B ≤ g ∧ g < w.heap.size ∧ w.cell? ⟨g, o + k * 5, none⟩ = some (.int .i64 (F (k * 5))) ∧ w.cell? ⟨g, o + k * 5 + 1, none⟩ = some (.int .i64 (F (k * 5 + 1))) ∧ w.cell? ⟨g, o + k * 5 + 2, none⟩ = some (.int .i64 (F (k * 5 + 2))) ∧ w.cell? ⟨g, o + k * 5 + 3, none⟩ = some (.int .i64 (F (k * 5 + 3))) ∧ w.cell? ⟨g, o + k * 5 + 4, none⟩ = some (.int .i64 (F (k * 5 + 4))) := by
  obtain ⟨g, o, ha, hB, hg, hc⟩ := h.at hk
  exact ⟨g, o, ha, hB, hg, hc 0 (by omega), hc 1 (by omega), hc 2 (by omega), hc 3 (by omega), hc 4 (by omega)⟩
theorem Free.later {w w' : World} {N : Nat} {v : Value} (h : Free w N v) (hl : ∀ k, v.ownBlock = some k → k < w.heap.size) (hb : Below w.heap.size w w') : Free w' N v := by
  intro g o n c hv p hp
  rw [hb.frozen (hl g (by rw [hv]; rfl))]
  exact h g o n c hv p hp

/-- Block g has N places from o on, none frozen; the first K of them hold F 0, F 1 .. -/
def Fill (w : World) (g o N K : Nat) (F : Nat → Int) : Prop :=
  g < w.heap.size ∧ (∀ p, p < N → (∃ u, w.cell? ⟨g, o + p, none⟩ = some u) ∧ w.frozen? ⟨g, o + p, none⟩ = false) ∧ ∀ p, p < K → w.cell? ⟨g, o + p, none⟩ = some (.int .i64 (F p))
theorem Fill.put {w : World} {g o N K : Nat} {F : Nat → Int} (h : Fill w g o N K F) (hK : K < N) : Fill (w.setCell ⟨g, o + K, none⟩ (.int .i64 (F K))) g o N (K + 1) F := by
  obtain ⟨h1, h2, h3⟩ := h
  obtain ⟨⟨u, hu⟩, hf⟩ := h2 K hK
  refine ⟨by simpa [World.setCell] using h1, fun p hp => ⟨?_, by rw [World.frozen?_setCell]; exact (h2 p hp).2⟩, fun p hp => ?_⟩
  · by_cases e : p = K
    · subst e; exact ⟨_, World.cell?_setCell_same _ _ _ hu⟩
    · obtain ⟨u', hu'⟩ := (h2 p hp).1
      exact ⟨u', (World.cell?_setCell_other _ _ _ _ (by intro q; simp at q; try omega)).trans hu'⟩
  · by_cases e : p = K
    · subst e; exact World.cell?_setCell_same _ _ _ hu
    · exact (World.cell?_setCell_other _ _ _ _ (by intro q; simp at q; try omega)).trans (h3 p (by omega))
theorem Fill.put0 {w : World} {g N K : Nat} {F : Nat → Int} (h : Fill w g 0 N K F) (hK : K < N) : Fill (w.setCell ⟨g, K, none⟩ (.int .i64 (F K))) g 0 N (K + 1) F := by
  have := h.put hK
  rwa [Nat.zero_add] at this
theorem Fill.later {w w' : World} {g o N K : Nat} {F : Nat → Int} (h : Fill w g o N K F) (hb : Below w.heap.size w w') : Fill w' g o N K F := by
  obtain ⟨h1, h2, h3⟩ := h
  refine ⟨Nat.lt_of_lt_of_le h1 hb.size, fun p hp => ⟨?_, (hb.frozen (p := ⟨g, o + p, none⟩) h1).trans (h2 p hp).2⟩, fun p hp => (hb.cell (p := ⟨g, o + p, none⟩) h1).trans (h3 p hp)⟩
  obtain ⟨u, hu⟩ := (h2 p hp).1
  exact ⟨u, (hb.cell (p := ⟨g, o + p, none⟩) h1).trans hu⟩
theorem Fill.at {w : World} {g o N K : Nat} {F : Nat → Int} (h : Fill w g o N K F) {p : Nat} (hp : p < N) : ∃ u, w.cell? ⟨g, o + p, none⟩ = some u ∧ w.frozen? ⟨g, o + p, none⟩ = false := by
  obtain ⟨⟨u, hu⟩, hf⟩ := h.2.1 p hp
  exact ⟨u, hu, hf⟩
theorem Fill.row {w : World} {g o m n B : Nat} {F : Nat → Int} (h : Fill w g o (n * m) (n * m) F) (hB : B ≤ g) (cp : Nat) : Row w B m n F (.slice (some ⟨g, o, none⟩) n cp) ∧ Free w (n * m) (.slice (some ⟨g, o, none⟩) n cp) := by
  refine ⟨⟨_, _, rfl, fun _ => ⟨g, o, rfl, hB, h.1, h.2.2⟩⟩, ?_⟩
  intro g' o' n' c' hv p hp
  simp only [Value.slice.injEq, Option.some.injEq, Addr.mk.injEq] at hv
  obtain ⟨⟨rfl, rfl, _⟩, _, _⟩ := hv
  exact (h.2.1 p hp).2
theorem Fill.ofRow {w : World} {B m n g o cp : Nat} {F G : Nat → Int} (h : Row w B m n F (.slice (some ⟨g, o, none⟩) n cp)) (hf : Free w (n * m) (.slice (some ⟨g, o, none⟩) n cp)) (hn : 0 < n) : Fill w g o (n * m) 0 G := by
  obtain ⟨ao, cp', hv, h⟩ := h
  obtain ⟨g', o', rfl, _, hg, hc⟩ := h hn
  simp only [Value.slice.injEq, Option.some.injEq, Addr.mk.injEq] at hv
  obtain ⟨⟨rfl, rfl, _⟩, _, rfl⟩ := hv
  exact ⟨hg, fun p hp => ⟨⟨_, hc p hp⟩, hf _ _ _ _ rfl p hp⟩, fun p hp => absurd hp (Nat.not_lt_zero p)⟩
theorem Fill.made (w : World) (z : Array Value) (N : Nat) (e : TypeId) (F : Nat → Int) : Fill (w.alloc (.cells (madeCells z N) e)) w.heap.size 0 N 0 F := by
  refine ⟨by simp, fun p hp => ⟨⟨(madeCells z N)[p]'(by rw [size_madeCells]; exact hp), ?_⟩, by simp⟩, fun p hp => absurd hp (Nat.not_lt_zero p)⟩
  rw [Nat.zero_add, World.cell?_alloc_mark]
  simp

/-- Block b holds three cells, none frozen. -/
def Blk3 (x : World) (b : Nat) (a0 a1 a2 : Value) : Prop :=
  (x.cell? ⟨b, 0, none⟩ = some a0 ∧ x.cell? ⟨b, 1, none⟩ = some a1 ∧ x.cell? ⟨b, 2, none⟩ = some a2) ∧ x.frozen? ⟨b, 0, none⟩ = false ∧ x.frozen? ⟨b, 1, none⟩ = false ∧ x.frozen? ⟨b, 2, none⟩ = false
theorem Blk3.kept {x x' : World} {b : Nat} {a0 a1 a2 : Value} (h : Blk3 x b a0 a1 a2) (hb : x'.heap[b]? = x.heap[b]?) : Blk3 x' b a0 a1 a2 := by
  obtain ⟨⟨h0, h1, h2⟩, f0, f1, f2⟩ := h
  exact ⟨⟨(World.cell?_of_block (w := x) (a := ⟨b, 0, none⟩) hb).trans h0, (World.cell?_of_block (w := x) (a := ⟨b, 1, none⟩) hb).trans h1, (World.cell?_of_block (w := x) (a := ⟨b, 2, none⟩) hb).trans h2⟩,
    (World.frozen?_of_block (w := x) (a := ⟨b, 0, none⟩) hb).trans f0, (World.frozen?_of_block (w := x) (a := ⟨b, 1, none⟩) hb).trans f1, (World.frozen?_of_block (w := x) (a := ⟨b, 2, none⟩) hb).trans f2⟩
theorem Blk3.lt {x : World} {b : Nat} {a0 a1 a2 : Value} (h : Blk3 x b a0 a1 a2) : b < x.heap.size := World.block_lt_of_cell? x _ h.1.1
theorem Blk3.later {x x' : World} {b : Nat} {a0 a1 a2 : Value} (h : Blk3 x b a0 a1 a2) (hb : Below x.heap.size x x') : Blk3 x' b a0 a1 a2 := h.kept (hb.block b h.lt)
theorem Blk3.alloc {x : World} {b : Nat} {a0 a1 a2 : Value} (h : Blk3 x b a0 a1 a2) (o : Obj) : Blk3 (x.alloc o) b a0 a1 a2 := h.later ((Below.refl _ _).alloc (Nat.le_refl _) o)
theorem Blk3.new (w : World) (a0 a1 a2 : Value) (t : TypeId) : Blk3 (w.alloc (.cells #[a0, a1, a2] t)) w.heap.size a0 a1 a2 := by
  refine ⟨⟨World.cell?_alloc_mark w _ _ _ 0, World.cell?_alloc_mark w _ _ _ 1, World.cell?_alloc_mark w _ _ _ 2⟩, ?_, ?_, ?_⟩ <;> simp
theorem Blk3.setFar {x : World} {b : Nat} {a0 a1 a2 : Value} (h : Blk3 x b a0 a1 a2) {p : Addr} (hp : b ≠ p.block) (u : Value) : Blk3 (x.setCell p u) b a0 a1 a2 := h.kept (Below.heap_setCell x p u b hp)
theorem Blk3.set0 {x : World} {b : Nat} {a0 a1 a2 : Value} (h : Blk3 x b a0 a1 a2) (u : Value) : Blk3 (x.setCell ⟨b, 0, none⟩ u) b u a1 a2 := by
  obtain ⟨⟨h0, h1, h2⟩, f0, f1, f2⟩ := h
  exact ⟨⟨World.cell?_setCell_same _ _ _ h0, (World.cell?_setCell_other _ _ _ _ (by simp)).trans h1, (World.cell?_setCell_other _ _ _ _ (by simp)).trans h2⟩, by simpa using f0, by simpa using f1, by simpa using f2⟩
theorem Blk3.set1 {x : World} {b : Nat} {a0 a1 a2 : Value} (h : Blk3 x b a0 a1 a2) (u : Value) : Blk3 (x.setCell ⟨b, 1, none⟩ u) b a0 u a2 := by
  obtain ⟨⟨h0, h1, h2⟩, f0, f1, f2⟩ := h
  exact ⟨⟨(World.cell?_setCell_other _ _ _ _ (by simp)).trans h0, World.cell?_setCell_same _ _ _ h1, (World.cell?_setCell_other _ _ _ _ (by simp)).trans h2⟩, by simpa using f0, by simpa using f1, by simpa using f2⟩
theorem Blk3.set2 {x : World} {b : Nat} {a0 a1 a2 : Value} (h : Blk3 x b a0 a1 a2) (u : Value) : Blk3 (x.setCell ⟨b, 2, none⟩ u) b a0 a1 u := by
  obtain ⟨⟨h0, h1, h2⟩, f0, f1, f2⟩ := h
  exact ⟨⟨(World.cell?_setCell_other _ _ _ _ (by simp)).trans h0, (World.cell?_setCell_other _ _ _ _ (by simp)).trans h1, World.cell?_setCell_same _ _ _ h2⟩, by simpa using f0, by simpa using f1, by simpa using f2⟩
theorem Row.far {w : World} {B m n : Nat} {F : Nat → Int} {v : Value} (h : Row w B m n F v) {a : Addr} (ha : a.block < B ∨ w.heap.size ≤ a.block) (u : Value) : Row (w.setCell a u) B m n F v := by
  obtain ⟨ao, cp, rfl, h⟩ := h
  refine ⟨ao, cp, rfl, fun hn => ?_⟩
  obtain ⟨g, o, rfl, hB, hg, hc⟩ := h hn
  refine ⟨g, o, rfl, hB, by simpa [World.setCell] using hg, fun p hp => ?_⟩
  rw [← hc p hp]
  exact World.cell?_of_block (Below.heap_setCell w a u g (by omega))
theorem Free.far {w : World} {N : Nat} {v : Value} (h : Free w N v) (a : Addr) (u : Value) : Free (w.setCell a u) N v := by
  intro g o n c hv p hp
  rw [World.frozen?_setCell]
  exact h g o n c hv p hp
theorem Free.of0 (w : World) (v : Value) : Free w 0 v := fun _ _ _ _ _ _ hp => absurd hp (Nat.not_lt_zero _)
theorem Free.ofRow {w w' : World} {B m n : Nat} {F : Nat → Int} {v : Value} (h : Free w (n * m) v) (hr : Row w B m n F v) (hb : Below w.heap.size w w') : Free w' (n * m) v := by
  rcases Nat.eq_zero_or_pos n with e | e
  · subst e; rw [Nat.zero_mul]; exact Free.of0 _ _
  · exact h.later (fun k hk => (hr.lt e k hk).2) hb

/-- A store as numbers: how many cells, locks and writes, and all their numbers. -/
structure Sto where
  nc : Nat
  c : Nat → Int
  nl : Nat
  l : Nat → Int
  nw : Nat
  k : Nat → Int
def St (w : World) (B : Nat) (S : Sto) (v0 v1 v2 : Value) : Prop := Row w B 3 S.nc S.c v0 ∧ Row w B 5 S.nl S.l v1 ∧ Row w B 4 S.nw S.k v2
theorem St.later {w w' : World} {B : Nat} {S : Sto} {v0 v1 v2 : Value} (h : St w B S v0 v1 v2) (hb : Below w.heap.size w w') : St w' B S v0 v1 v2 := ⟨h.1.later hb, h.2.1.later hb, h.2.2.later hb⟩
theorem St.alloc {w : World} {B : Nat} {S : Sto} {v0 v1 v2 : Value} (h : St w B S v0 v1 v2) (o : Obj) : St (w.alloc o) B S v0 v1 v2 := ⟨h.1.alloc o, h.2.1.alloc o, h.2.2.alloc o⟩
theorem St.mono {w : World} {B B' : Nat} {S : Sto} {v0 v1 v2 : Value} (h : St w B S v0 v1 v2) (hB : B' ≤ B) : St w B' S v0 v1 v2 := ⟨h.1.mono hB, h.2.1.mono hB, h.2.2.mono hB⟩
theorem St.form {w : World} {B : Nat} {S : Sto} {v0 v1 v2 : Value} (h : St w B S v0 v1 v2) : ∃ a0 c0 a1 c1 a2 c2, v0 = .slice a0 S.nc c0 ∧ v1 = .slice a1 S.nl c1 ∧ v2 = .slice a2 S.nw c2 := by
  obtain ⟨a0, c0, h0⟩ := h.1.form
  obtain ⟨a1, c1, h1⟩ := h.2.1.form
  obtain ⟨a2, c2, h2⟩ := h.2.2.form
  exact ⟨a0, c0, a1, c1, a2, c2, h0, h1, h2⟩
theorem below_alloc (w : World) (o : Obj) : Below w.heap.size w (w.alloc o) := (Below.refl _ _).alloc (Nat.le_refl _) o
theorem St.far {w : World} {B : Nat} {S : Sto} {v0 v1 v2 : Value} (h : St w B S v0 v1 v2) {a : Addr} (ha : a.block < B) (u : Value) : St (w.setCell a u) B S v0 v1 v2 := ⟨h.1.far (Or.inl ha) u, h.2.1.far (Or.inl ha) u, h.2.2.far (Or.inl ha) u⟩
def FreeS (w : World) (S : Sto) (v0 v1 v2 : Value) : Prop := Free w (S.nc * 3) v0 ∧ Free w (S.nl * 5) v1 ∧ Free w (S.nw * 4) v2
theorem FreeS.far {w : World} {S : Sto} {v0 v1 v2 : Value} (h : FreeS w S v0 v1 v2) (a : Addr) (u : Value) : FreeS (w.setCell a u) S v0 v1 v2 := ⟨h.1.far a u, h.2.1.far a u, h.2.2.far a u⟩
theorem FreeS.later {w w' : World} {B : Nat} {S : Sto} {v0 v1 v2 : Value} (h : FreeS w S v0 v1 v2) (hs : St w B S v0 v1 v2) (hb : Below w.heap.size w w') : FreeS w' S v0 v1 v2 := ⟨h.1.ofRow hs.1 hb, h.2.1.ofRow hs.2.1 hb, h.2.2.ofRow hs.2.2 hb⟩
end Go.Proofs.YtjkchhcnochjlaaGreatDoor

namespace Go.Proofs.YtjkchhcnochjlaaGreatDoor
open Go.RowKit Go.Deep

theorem open_row {H : Type} {enc : TypeId × Value → H} {P : Program} {w : World} {base : Nat} {spare : Nat → Bool} {held : Bool} {t e : TypeId} {fs : Array Field} {fuel m : Nat} {v : Value} {x : DataW H × List MemPlace}
    (ht : P.underlying t = some (.slice e)) (he : P.underlying e = some (.struct fs)) (hce : P.cellsOf e = m) (hm0 : 0 < m) (hfm : fs.size = m)
    (hfs : ∀ (j : Nat) (f : Field), fs[j]? = some f → f.offset = j ∧ P.cellsOf f.type = 1 ∧ P.underlying f.type = some (.int .i64))
    (h : DataW.trod enc P w base spare held fuel t [v] = some x) :
    ∃ n F, Row w base m n F v ∧ n ≤ maxLen ∧ ∀ p, (Lit.int .i64 (F p)).wf = true := by
  rcases open_slice ht h with ⟨h0, _⟩ | ⟨a, len, cap, q, n, D, Pl, hv, hb, hl, hm, hmm, rfl, hx⟩
  · simp only [List.cons.injEq, and_true] at h0
    subst h0
    exact ⟨0, fun _ => 0, ⟨_, _, rfl, fun h => absurd h (Nat.lt_irrefl 0)⟩, Nat.zero_le _, fun _ => (by decide : (Lit.int .i64 0).wf = true)⟩
  simp only [List.cons.injEq, and_true] at hv
  subst hv
  have hlq : len ≤ q := by rw [hmm]; split <;> omega
  have each : ∀ p, p < len * m → ∃ z : Int, w.cell? (a.add p) = some (.int .i64 z) ∧ (Lit.int .i64 z).wf = true := by
    intro p hp
    have hi : p / m < len := (Nat.div_lt_iff_lt_mul hm0).2 hp
    have hj : p % m < m := Nat.mod_lt _ hm0
    obtain ⟨cs', h1, h2⟩ := hx (p / m) (by omega)
    rw [hce] at h1
    obtain ⟨_, hlen, hcell⟩ := World.cells?_some h1
    obtain ⟨xs, k, hk, hxy, _, hxl, hf⟩ := DataW.trod_struct he h2
    obtain ⟨f, hff⟩ : ∃ f, fs[p % m]? = some f := ⟨fs[p % m]'(by omega), by simp⟩
    obtain ⟨h3, h4, h5⟩ := hfs _ f hff
    have h6 := hf _ f hff
    rw [h3, h4, List.getElem?_eq_getElem (by omega)] at h6
    obtain ⟨z, hz, _, hwf⟩ := DataW.trod_int h5 h6
    refine ⟨z, ?_, hwf⟩
    have e0 := hcell (p % m) hj
    rw [List.drop_eq_getElem_cons (by omega)] at hz
    simp only [List.take_succ_cons, List.take_zero, List.cons.injEq, and_true] at hz
    rw [List.getElem?_eq_getElem (by omega), hz, add_add, Nat.mul_comm, Nat.div_add_mod] at e0
    exact e0
  obtain ⟨F, hF⟩ := choose_lt each
  refine ⟨len, fun p => if p < len * m then F p else 0, ⟨_, _, rfl, fun hn => ?_⟩, Nat.le_trans hl hm, fun p => ?_⟩
  · have e : 0 < m := hm0
    obtain ⟨b, o, s⟩ := a
    have h0 := (hF 0 (Nat.mul_pos hn e)).1
    obtain rfl : s = none := by simpa [Addr.add] using World.cell?_spot h0
    refine ⟨b, o, rfl, hb, World.block_lt_of_cell? w _ h0, fun p hp => ?_⟩
    show w.cell? ⟨b, o + p, none⟩ = some (.int .i64 (if p < len * m then F p else 0))
    rw [if_pos hp]
    have e1 := (hF p hp).1
    rw [WideShapes.add_plain] at e1
    exact e1
  · show (Lit.int .i64 (if p < len * m then F p else 0)).wf = true
    split
    · exact (hF p (by assumption)).2
    · decide
end Go.Proofs.YtjkchhcnochjlaaGreatDoor

namespace Go.Proofs.YtjkchhcnochjlaaGreatDoor
open Go.RowKit

theorem make_row {P : Program} {t e : TypeId} {z : Value} {size bytes : Nat} (ht : P.underlying t = some (.slice e)) (hinfo : (P.info? e).map (fun i => (i.zero, i.size, i.bytes)) = some (some z, size, bytes)) (n : Nat) (hn : bytes * n ≤ 281474976710656) (hm : n ≤ 9223372036854775807) (w : World) :
    (Instr.makeSlice t (.int .i64 (n : Int)) (.int .i64 (n : Int))).run P w = .ok (.slice (some ⟨w.heap.size, 0, none⟩) n n) (w.alloc (.cells (madeCells z.cells (n * size)) e)) := by
  obtain ⟨i, hi, hz, hs, hb⟩ := info_parts hinfo
  have hb' : (i.bytes : Int) * (n : Int) ≤ 281474976710656 := by
    have h : ((i.bytes * n : Nat) : Int) ≤ 281474976710656 := by rw [hb]; omega
    rwa [Int.natCast_mul] at h
  have hr := run_make (P := P) w t e i z ht hi hz .i64 .i64 n n (by omega) (Int.le_refl _) hb' (by omega)
  simp only [Int.toNat_natCast, hs] at hr
  exact hr

theorem info_Cell : (Tryz.prog.info? 212).map (fun i => (i.zero, i.size, i.bytes)) = some (some (.agg #[.int .i64 0, .int .i64 0, .int .i64 0]), 3, 24) := by kernel_rfl
set_option maxHeartbeats 400000 in
theorem toCell_any (x0 x1 x2 : Int) (w : World) :
    Calls Tryz.prog 156 #[.agg #[.int .i64 x0, .int .i64 x1, .int .i64 x2]] w fun e w' => e = .returned (.agg #[.int .i64 x0, .int .i64 x1, .int .i64 x2]) ∧ Below w.heap.size w w' := by
  go_enter Tryz.func156, Tryz.ntmps156
  go_wp2
  exact bodyPost_ret (v := .agg #[.int .i64 x0, .int .i64 x1, .int .i64 x2]) (by simp [results, Tryz.results156, go_sem]) rfl ⟨rfl, (((Below.refl _ _).alloc (Nat.le_refl _) _).alloc (by simp) _).alloc (by simp; omega) _⟩
set_option maxHeartbeats 400000 in
theorem toCellS_any (v : Value) (B n : Nat) (F : Nat → Int) (w : World) (h : Row w B 3 n F v) (hn : n ≤ 1048576) :
    Calls Tryz.prog 119 #[v] w fun e w' => ∃ u, e = .returned u ∧ Row w' w.heap.size 3 n F u ∧ Free w' (n * 3) u ∧ Below w.heap.size w w' := by
  obtain ⟨ao, cp, rfl⟩ := h.form
  have H : Hid (Row w B 3 n F (.slice ao n cp)) := h
  clear h
  have hmk := make_row Tryz.underlying122 info_Cell n (by omega) (by omega)
  go_enter Tryz.func119, Tryz.ntmps119
  go_wp2
  go_loopw [4] (fun i wr => ∃ k : Nat, k ≤ n ∧ i = .int .i64 k ∧ Hid (Below w.heap.size w wr ∧ Fill wr w.heap.size 0 (n * 3) (k * 3) F)) (fun i _ => n - (intOf i).toNat)
  case atStart => exact ⟨0, Nat.zero_le _, rfl, below_alloc _ _, by rw [Nat.zero_mul]; exact Fill.made _ _ _ _ _⟩
  case round =>
    obtain ⟨k, hk, rfl, hR⟩ := hrel
    by_cases hlt : k < n
    · obtain ⟨g, o, rfl, _, hg, c0, c1, c2⟩ := H.out.at3 hlt
      have b0 := hR.out.1.cell (p := ⟨g, o + k * 3, none⟩) hg
      rw [c0] at b0
      have b1 := hR.out.1.cell (p := ⟨g, o + k * 3 + 1, none⟩) hg
      rw [c1] at b1
      have b2 := hR.out.1.cell (p := ⟨g, o + k * 3 + 2, none⟩) hg
      rw [c2] at b2
      clear c0 c1 c2
      go_wp2_with fail
      refine (toCell_any _ _ _ _).mono ?_
      rintro e w1 ⟨rfl, q1⟩
      have f1 := hR.out.2.later q1
      obtain ⟨v0, d0, e0⟩ := f1.at (p := k * 3) (by omega)
      obtain ⟨v1, d1, e1⟩ := f1.at (p := k * 3 + 1) (by omega)
      obtain ⟨v2, d2, e2⟩ := f1.at (p := k * 3 + 2) (by omega)
      have HF : Hid (Below w.heap.size w w1 ∧ Fill w1 w.heap.size 0 (n * 3) (k * 3) F) := ⟨hR.out.1.trans (q1.mono hR.out.1.size), f1⟩
      clear q1 f1 b0 b1 b2
      simp only [Nat.zero_add] at d0 e0 d1 e1 d2 e2
      go_wp2
      go_roundw
      case rel =>
        refine ⟨k + 1, by omega, by go_num, (((HF.out.1.setCell (Nat.le_refl _) _).setCell (Nat.le_refl _) _).setCell (Nat.le_refl _) _), ?_⟩
        have hq := (((HF.out.2.put0 (by omega)).put0 (by omega)).put0 (by omega))
        rwa [show k * 3 + 1 + 1 + 1 = (k + 1) * 3 by omega] at hq
      case measure => simp [intOf]; omega
    · obtain rfl : k = n := by omega
      go_wp2
      go_ret
      exact ⟨_, rfl, (hR.out.2.row (Nat.le_refl _) _).1, (hR.out.2.row (B := 0) (Nat.zero_le _) _).2, hR.out.1⟩
set_option maxHeartbeats 400000 in
theorem szCellS_ok (a : Option Addr) (n c : Nat) (left : Int) (w : World) (h : (n : Int) ≤ left) (h2 : left ≤ 1048576) :
    Calls Tryz.prog 108 #[.slice a n c, .int .i64 left] w fun e w' => e = .returned (.int .i64 (left - n)) ∧ w' = w := by
  have d : decide (left - n < 0) = false := decide_eq_false (by omega)
  go_enter Tryz.func108, Tryz.ntmps108
  go_wp2
  go_ret
  exact ⟨rfl, rfl⟩
set_option maxHeartbeats 400000 in
theorem szCellS_no (a : Option Addr) (n c : Nat) (left : Int) (w : World) (h : left < n) (h0 : 0 ≤ left) (h2 : left ≤ 1048576) (hn : n ≤ 9223372036854775807) :
    Calls Tryz.prog 108 #[.slice a n c, .int .i64 left] w fun e w' => e = .returned (.int .i64 (-1)) ∧ w' = w := by
  have d : decide (left - n < 0) = true := decide_eq_true (by omega)
  go_enter Tryz.func108, Tryz.ntmps108
  go_wp2
  go_ret
  exact ⟨rfl, rfl⟩

theorem info_Lock : (Tryz.prog.info? 162).map (fun i => (i.zero, i.size, i.bytes)) = some (some (.agg #[.int .i64 0, .int .i64 0, .int .i64 0, .int .i64 0, .int .i64 0]), 5, 40) := by kernel_rfl
set_option maxHeartbeats 400000 in
theorem toLock_any (x0 x1 x2 x3 x4 : Int) (w : World) :
    Calls Tryz.prog 157 #[.agg #[.int .i64 x0, .int .i64 x1, .int .i64 x2, .int .i64 x3, .int .i64 x4]] w fun e w' => e = .returned (.agg #[.int .i64 x0, .int .i64 x1, .int .i64 x2, .int .i64 x3, .int .i64 x4]) ∧ Below w.heap.size w w' := by
  go_enter Tryz.func157, Tryz.ntmps157
  go_wp2
  exact bodyPost_ret (v := .agg #[.int .i64 x0, .int .i64 x1, .int .i64 x2, .int .i64 x3, .int .i64 x4]) (by simp [results, Tryz.results157, go_sem]) rfl ⟨rfl, (((Below.refl _ _).alloc (Nat.le_refl _) _).alloc (by simp) _).alloc (by simp; omega) _⟩
set_option maxHeartbeats 400000 in
theorem toLockS_any (v : Value) (B n : Nat) (F : Nat → Int) (w : World) (h : Row w B 5 n F v) (hn : n ≤ 1048576) :
    Calls Tryz.prog 120 #[v] w fun e w' => ∃ u, e = .returned u ∧ Row w' w.heap.size 5 n F u ∧ Free w' (n * 5) u ∧ Below w.heap.size w w' := by
  obtain ⟨ao, cp, rfl⟩ := h.form
  have H : Hid (Row w B 5 n F (.slice ao n cp)) := h
  clear h
  have hmk := make_row Tryz.underlying123 info_Lock n (by omega) (by omega)
  go_enter Tryz.func120, Tryz.ntmps120
  go_wp2
  go_loopw [4] (fun i wr => ∃ k : Nat, k ≤ n ∧ i = .int .i64 k ∧ Hid (Below w.heap.size w wr ∧ Fill wr w.heap.size 0 (n * 5) (k * 5) F)) (fun i _ => n - (intOf i).toNat)
  case atStart => exact ⟨0, Nat.zero_le _, rfl, below_alloc _ _, by rw [Nat.zero_mul]; exact Fill.made _ _ _ _ _⟩
  case round =>
    obtain ⟨k, hk, rfl, hR⟩ := hrel
    by_cases hlt : k < n
    · obtain ⟨g, o, rfl, _, hg, c0, c1, c2, c3, c4⟩ := H.out.at5 hlt
      have b0 := hR.out.1.cell (p := ⟨g, o + k * 5, none⟩) hg
      rw [c0] at b0
      have b1 := hR.out.1.cell (p := ⟨g, o + k * 5 + 1, none⟩) hg
      rw [c1] at b1
      have b2 := hR.out.1.cell (p := ⟨g, o + k * 5 + 2, none⟩) hg
      rw [c2] at b2
      have b3 := hR.out.1.cell (p := ⟨g, o + k * 5 + 3, none⟩) hg
      rw [c3] at b3
      have b4 := hR.out.1.cell (p := ⟨g, o + k * 5 + 4, none⟩) hg
      rw [c4] at b4
      clear c0 c1 c2 c3 c4
      go_wp2_with fail
      refine (toLock_any _ _ _ _ _ _).mono ?_
      rintro e w1 ⟨rfl, q1⟩
      have f1 := hR.out.2.later q1
      obtain ⟨v0, d0, e0⟩ := f1.at (p := k * 5) (by omega)
      obtain ⟨v1, d1, e1⟩ := f1.at (p := k * 5 + 1) (by omega)
      obtain ⟨v2, d2, e2⟩ := f1.at (p := k * 5 + 2) (by omega)
      obtain ⟨v3, d3, e3⟩ := f1.at (p := k * 5 + 3) (by omega)
      obtain ⟨v4, d4, e4⟩ := f1.at (p := k * 5 + 4) (by omega)
      have HF : Hid (Below w.heap.size w w1 ∧ Fill w1 w.heap.size 0 (n * 5) (k * 5) F) := ⟨hR.out.1.trans (q1.mono hR.out.1.size), f1⟩
      clear q1 f1 b0 b1 b2 b3 b4
      simp only [Nat.zero_add] at d0 e0 d1 e1 d2 e2 d3 e3 d4 e4
      go_wp2
      go_roundw
      case rel =>
        refine ⟨k + 1, by omega, by go_num, (((((HF.out.1.setCell (Nat.le_refl _) _).setCell (Nat.le_refl _) _).setCell (Nat.le_refl _) _).setCell (Nat.le_refl _) _).setCell (Nat.le_refl _) _), ?_⟩
        have hq := (((((HF.out.2.put0 (by omega)).put0 (by omega)).put0 (by omega)).put0 (by omega)).put0 (by omega))
        rwa [show k * 5 + 1 + 1 + 1 + 1 + 1 = (k + 1) * 5 by omega] at hq
      case measure => simp [intOf]; omega
    · obtain rfl : k = n := by omega
      go_wp2
      go_ret
      exact ⟨_, rfl, (hR.out.2.row (Nat.le_refl _) _).1, (hR.out.2.row (B := 0) (Nat.zero_le _) _).2, hR.out.1⟩
set_option maxHeartbeats 400000 in
theorem szLockS_ok (a : Option Addr) (n c : Nat) (left : Int) (w : World) (h : (n : Int) ≤ left) (h2 : left ≤ 1048576) :
    Calls Tryz.prog 109 #[.slice a n c, .int .i64 left] w fun e w' => e = .returned (.int .i64 (left - n)) ∧ w' = w := by
  have d : decide (left - n < 0) = false := decide_eq_false (by omega)
  go_enter Tryz.func109, Tryz.ntmps109
  go_wp2
  go_ret
  exact ⟨rfl, rfl⟩
set_option maxHeartbeats 400000 in
theorem szLockS_no (a : Option Addr) (n c : Nat) (left : Int) (w : World) (h : left < n) (h0 : 0 ≤ left) (h2 : left ≤ 1048576) (hn : n ≤ 9223372036854775807) :
    Calls Tryz.prog 109 #[.slice a n c, .int .i64 left] w fun e w' => e = .returned (.int .i64 (-1)) ∧ w' = w := by
  have d : decide (left - n < 0) = true := decide_eq_true (by omega)
  go_enter Tryz.func109, Tryz.ntmps109
  go_wp2
  go_ret
  exact ⟨rfl, rfl⟩

theorem info_Write : (Tryz.prog.info? 121).map (fun i => (i.zero, i.size, i.bytes)) = some (some (.agg #[.int .i64 0, .int .i64 0, .int .i64 0, .int .i64 0]), 4, 32) := by kernel_rfl
set_option maxHeartbeats 400000 in
theorem toWrite_any (x0 x1 x2 x3 : Int) (w : World) :
    Calls Tryz.prog 158 #[.agg #[.int .i64 x0, .int .i64 x1, .int .i64 x2, .int .i64 x3]] w fun e w' => e = .returned (.agg #[.int .i64 x0, .int .i64 x1, .int .i64 x2, .int .i64 x3]) ∧ Below w.heap.size w w' := by
  go_enter Tryz.func158, Tryz.ntmps158
  go_wp2
  exact bodyPost_ret (v := .agg #[.int .i64 x0, .int .i64 x1, .int .i64 x2, .int .i64 x3]) (by simp [results, Tryz.results158, go_sem]) rfl ⟨rfl, (((Below.refl _ _).alloc (Nat.le_refl _) _).alloc (by simp) _).alloc (by simp; omega) _⟩
set_option maxHeartbeats 400000 in
theorem toWriteS_any (v : Value) (B n : Nat) (F : Nat → Int) (w : World) (h : Row w B 4 n F v) (hn : n ≤ 1048576) :
    Calls Tryz.prog 121 #[v] w fun e w' => ∃ u, e = .returned u ∧ Row w' w.heap.size 4 n F u ∧ Free w' (n * 4) u ∧ Below w.heap.size w w' := by
  obtain ⟨ao, cp, rfl⟩ := h.form
  have H : Hid (Row w B 4 n F (.slice ao n cp)) := h
  clear h
  have hmk := make_row Tryz.underlying124 info_Write n (by omega) (by omega)
  go_enter Tryz.func121, Tryz.ntmps121
  go_wp2
  go_loopw [4] (fun i wr => ∃ k : Nat, k ≤ n ∧ i = .int .i64 k ∧ Hid (Below w.heap.size w wr ∧ Fill wr w.heap.size 0 (n * 4) (k * 4) F)) (fun i _ => n - (intOf i).toNat)
  case atStart => exact ⟨0, Nat.zero_le _, rfl, below_alloc _ _, by rw [Nat.zero_mul]; exact Fill.made _ _ _ _ _⟩
  case round =>
    obtain ⟨k, hk, rfl, hR⟩ := hrel
    by_cases hlt : k < n
    · obtain ⟨g, o, rfl, _, hg, c0, c1, c2, c3⟩ := H.out.at4 hlt
      have b0 := hR.out.1.cell (p := ⟨g, o + k * 4, none⟩) hg
      rw [c0] at b0
      have b1 := hR.out.1.cell (p := ⟨g, o + k * 4 + 1, none⟩) hg
      rw [c1] at b1
      have b2 := hR.out.1.cell (p := ⟨g, o + k * 4 + 2, none⟩) hg
      rw [c2] at b2
      have b3 := hR.out.1.cell (p := ⟨g, o + k * 4 + 3, none⟩) hg
      rw [c3] at b3
      clear c0 c1 c2 c3
      go_wp2_with fail
      refine (toWrite_any _ _ _ _ _).mono ?_
      rintro e w1 ⟨rfl, q1⟩
      have f1 := hR.out.2.later q1
      obtain ⟨v0, d0, e0⟩ := f1.at (p := k * 4) (by omega)
      obtain ⟨v1, d1, e1⟩ := f1.at (p := k * 4 + 1) (by omega)
      obtain ⟨v2, d2, e2⟩ := f1.at (p := k * 4 + 2) (by omega)
      obtain ⟨v3, d3, e3⟩ := f1.at (p := k * 4 + 3) (by omega)
      have HF : Hid (Below w.heap.size w w1 ∧ Fill w1 w.heap.size 0 (n * 4) (k * 4) F) := ⟨hR.out.1.trans (q1.mono hR.out.1.size), f1⟩
      clear q1 f1 b0 b1 b2 b3
      simp only [Nat.zero_add] at d0 e0 d1 e1 d2 e2 d3 e3
      go_wp2
      go_roundw
      case rel =>
        refine ⟨k + 1, by omega, by go_num, ((((HF.out.1.setCell (Nat.le_refl _) _).setCell (Nat.le_refl _) _).setCell (Nat.le_refl _) _).setCell (Nat.le_refl _) _), ?_⟩
        have hq := ((((HF.out.2.put0 (by omega)).put0 (by omega)).put0 (by omega)).put0 (by omega))
        rwa [show k * 4 + 1 + 1 + 1 + 1 = (k + 1) * 4 by omega] at hq
      case measure => simp [intOf]; omega
    · obtain rfl : k = n := by omega
      go_wp2
      go_ret
      exact ⟨_, rfl, (hR.out.2.row (Nat.le_refl _) _).1, (hR.out.2.row (B := 0) (Nat.zero_le _) _).2, hR.out.1⟩
set_option maxHeartbeats 400000 in
theorem szWriteS_ok (a : Option Addr) (n c : Nat) (left : Int) (w : World) (h : (n : Int) ≤ left) (h2 : left ≤ 1048576) :
    Calls Tryz.prog 110 #[.slice a n c, .int .i64 left] w fun e w' => e = .returned (.int .i64 (left - n)) ∧ w' = w := by
  have d : decide (left - n < 0) = false := decide_eq_false (by omega)
  go_enter Tryz.func110, Tryz.ntmps110
  go_wp2
  go_ret
  exact ⟨rfl, rfl⟩
set_option maxHeartbeats 400000 in
theorem szWriteS_no (a : Option Addr) (n c : Nat) (left : Int) (w : World) (h : left < n) (h0 : 0 ≤ left) (h2 : left ≤ 1048576) (hn : n ≤ 9223372036854775807) :
    Calls Tryz.prog 110 #[.slice a n c, .int .i64 left] w fun e w' => e = .returned (.int .i64 (-1)) ∧ w' = w := by
  have d : decide (left - n < 0) = true := decide_eq_true (by omega)
  go_enter Tryz.func110, Tryz.ntmps110
  go_wp2
  go_ret
  exact ⟨rfl, rfl⟩

end Go.Proofs.YtjkchhcnochjlaaGreatDoor

namespace Go.Proofs.YtjkchhcnochjlaaGreatDoor
open Go.RowKit

set_option maxHeartbeats 400000 in
theorem eqCell_same (x0 x1 x2 : Int) (w : World) :
    Calls Tryz.prog 184 #[.agg #[.int .i64 x0, .int .i64 x1, .int .i64 x2], .agg #[.int .i64 x0, .int .i64 x1, .int .i64 x2]] w fun e w' => e = .returned (.bool true) ∧ Below w.heap.size w w' := by
  go_enter Tryz.func184, Tryz.ntmps184
  go_wp2
  go_ret
  exact ⟨rfl, ((Below.refl _ _).alloc (Nat.le_refl _) _).alloc (by simp) _⟩
def TwoCell (w : World) (g o g' o' k : Nat) (F : Nat → Int) (x : World) : Prop := (x.cell? ⟨g, o + k * 3, none⟩ = some (.int .i64 (F (k * 3))) ∧ x.cell? ⟨g, o + k * 3 + 1, none⟩ = some (.int .i64 (F (k * 3 + 1))) ∧ x.cell? ⟨g, o + k * 3 + 2, none⟩ = some (.int .i64 (F (k * 3 + 2))) ∧ x.cell? ⟨g', o' + k * 3, none⟩ = some (.int .i64 (F (k * 3))) ∧ x.cell? ⟨g', o' + k * 3 + 1, none⟩ = some (.int .i64 (F (k * 3 + 1))) ∧ x.cell? ⟨g', o' + k * 3 + 2, none⟩ = some (.int .i64 (F (k * 3 + 2)))) ∧ Below w.heap.size w x
theorem TwoCell.later {w x x' : World} {g o g' o' k : Nat} {F : Nat → Int} (h : TwoCell w g o g' o' k F x) (hg : g < w.heap.size) (hg' : g' < w.heap.size) (hb : Below x.heap.size x x') : TwoCell w g o g' o' k F x' := by
  obtain ⟨⟨hx0, hx1, hx2, hx3, hx4, hx5⟩, hy⟩ := h
  exact ⟨⟨(hb.cell (Nat.lt_of_lt_of_le hg hy.size)).trans hx0, (hb.cell (Nat.lt_of_lt_of_le hg hy.size)).trans hx1, (hb.cell (Nat.lt_of_lt_of_le hg hy.size)).trans hx2, (hb.cell (Nat.lt_of_lt_of_le hg' hy.size)).trans hx3, (hb.cell (Nat.lt_of_lt_of_le hg' hy.size)).trans hx4, (hb.cell (Nat.lt_of_lt_of_le hg' hy.size)).trans hx5⟩, hy.trans (hb.mono hy.size)⟩
set_option maxRecDepth 100000 in
set_option maxHeartbeats 1000000 in
theorem eqCellS_same (va vb : Value) (Ba Bb n : Nat) (F : Nat → Int) (w : World) (ha : Row w Ba 3 n F va) (hb : Row w Bb 3 n F vb) (hn : n ≤ 1048576) :
    Calls Tryz.prog 151 #[va, vb] w fun e w' => e = .returned (.bool true) ∧ Below w.heap.size w w' := by
  obtain ⟨ao, ca, rfl⟩ := ha.form
  obtain ⟨bo, cb, rfl⟩ := hb.form
  have HA : Hid (Row w Ba 3 n F (.slice ao n ca)) := ha
  have HB : Hid (Row w Bb 3 n F (.slice bo n cb)) := hb
  clear ha hb
  go_enter Tryz.func151, Tryz.ntmps151
  go_wp2
  go_loopw [5] (fun i wr => ∃ k : Nat, k ≤ n ∧ i = .int .i64 k ∧ Below w.heap.size w wr) (fun i _ => n - (intOf i).toNat)
  case atStart => exact ⟨0, Nat.zero_le _, rfl, Below.refl _ _⟩
  case round =>
    obtain ⟨k, hk, rfl, hbw⟩ := hrel
    by_cases hlt : k < n
    · obtain ⟨g, o, rfl, _, hg, c0, c1, c2⟩ := HA.out.at3 hlt
      obtain ⟨g', o', rfl, _, hg', d0, d1, d2⟩ := HB.out.at3 hlt
      have h0 : TwoCell w g o g' o' k F wr.drew := ⟨⟨(hbw.cell (p := ⟨g, o + k * 3, none⟩) hg).trans c0, (hbw.cell (p := ⟨g, o + k * 3 + 1, none⟩) hg).trans c1, (hbw.cell (p := ⟨g, o + k * 3 + 2, none⟩) hg).trans c2, (hbw.cell (p := ⟨g', o' + k * 3, none⟩) hg').trans d0, (hbw.cell (p := ⟨g', o' + k * 3 + 1, none⟩) hg').trans d1, (hbw.cell (p := ⟨g', o' + k * 3 + 2, none⟩) hg').trans d2⟩, hbw.drew⟩
      clear c0 d0 c1 d1 c2 d2 hbw
      go_wp2_with fail
      refine wp_region_held_drew (S := TwoCell w g o g' o' k F) (by kernel_rfl) h0 (fun hS => ?_)
      clear h0
      refine tkH 0 ?_ hS (fun wx hx => ?_) ?_; rotate_left
      · obtain ⟨⟨hx0, hx1, hx2, hx3, hx4, hx5⟩, _⟩ := hx; go_simp; try with_reducible rfl
      refine tkH 1 ?_ hS (fun wx hx => ?_) ?_; rotate_left
      · obtain ⟨⟨hx0, hx1, hx2, hx3, hx4, hx5⟩, _⟩ := hx; go_simp; try with_reducible rfl
      refine tkH 2 ?_ hS (fun wx hx => ?_) ?_; rotate_left
      · obtain ⟨⟨hx0, hx1, hx2, hx3, hx4, hx5⟩, _⟩ := hx; go_simp; try with_reducible rfl
      refine tkH 3 ?_ hS (fun wx hx => ?_) ?_; rotate_left
      · obtain ⟨⟨hx0, hx1, hx2, hx3, hx4, hx5⟩, _⟩ := hx; go_simp; try with_reducible rfl
      refine tkH 4 ?_ hS (fun wx hx => ?_) ?_; rotate_left
      · obtain ⟨⟨hx0, hx1, hx2, hx3, hx4, hx5⟩, _⟩ := hx; go_simp; try with_reducible rfl
      refine tkH 5 ?_ hS (fun wx hx => ?_) ?_; rotate_left
      · obtain ⟨⟨hx0, hx1, hx2, hx3, hx4, hx5⟩, _⟩ := hx; go_simp; try with_reducible rfl
      refine tkH 6 ?_ hS (fun wx hx => ?_) ?_; rotate_left
      · obtain ⟨⟨hx0, hx1, hx2, hx3, hx4, hx5⟩, _⟩ := hx; go_simp; try with_reducible rfl
      refine tkH 7 ?_ hS (fun wx hx => ?_) ?_; rotate_left
      · obtain ⟨⟨hx0, hx1, hx2, hx3, hx4, hx5⟩, _⟩ := hx; go_simp; try with_reducible rfl
      refine rdH 8 (fun K hK => ?_)
      go_simp
      go_wp2_with fail
      refine (eqCell_same _ _ _ _).mono ?_
      rintro e w' ⟨rfl, hb⟩
      go_wp2_with fail
      refine hK.out _ _ (hS.later hg hg' hb) (fun hS => ?_)
      clear hK K
      refine tkH 9 ?_ hS (fun wx hx => ?_) ?_; rotate_left
      · obtain ⟨⟨hx0, hx1, hx2, hx3, hx4, hx5⟩, _⟩ := hx; go_simp; try with_reducible rfl
      refine wpAnyH_done (by kernel_rfl) ?_ _
      go_simp
      go_wp2
      go_roundw
      case rel => exact ⟨k + 1, by omega, by go_num, hS.2⟩
      case measure => simp [intOf]; omega
    · go_wp2
      go_ret
      exact ⟨rfl, hbw⟩
set_option maxHeartbeats 400000 in
theorem eqLock_same (x0 x1 x2 x3 x4 : Int) (w : World) :
    Calls Tryz.prog 185 #[.agg #[.int .i64 x0, .int .i64 x1, .int .i64 x2, .int .i64 x3, .int .i64 x4], .agg #[.int .i64 x0, .int .i64 x1, .int .i64 x2, .int .i64 x3, .int .i64 x4]] w fun e w' => e = .returned (.bool true) ∧ Below w.heap.size w w' := by
  go_enter Tryz.func185, Tryz.ntmps185
  go_wp2
  go_ret
  exact ⟨rfl, ((Below.refl _ _).alloc (Nat.le_refl _) _).alloc (by simp) _⟩
def TwoLock (w : World) (g o g' o' k : Nat) (F : Nat → Int) (x : World) : Prop := (x.cell? ⟨g, o + k * 5, none⟩ = some (.int .i64 (F (k * 5))) ∧ x.cell? ⟨g, o + k * 5 + 1, none⟩ = some (.int .i64 (F (k * 5 + 1))) ∧ x.cell? ⟨g, o + k * 5 + 2, none⟩ = some (.int .i64 (F (k * 5 + 2))) ∧ x.cell? ⟨g, o + k * 5 + 3, none⟩ = some (.int .i64 (F (k * 5 + 3))) ∧ x.cell? ⟨g, o + k * 5 + 4, none⟩ = some (.int .i64 (F (k * 5 + 4))) ∧ x.cell? ⟨g', o' + k * 5, none⟩ = some (.int .i64 (F (k * 5))) ∧ x.cell? ⟨g', o' + k * 5 + 1, none⟩ = some (.int .i64 (F (k * 5 + 1))) ∧ x.cell? ⟨g', o' + k * 5 + 2, none⟩ = some (.int .i64 (F (k * 5 + 2))) ∧ x.cell? ⟨g', o' + k * 5 + 3, none⟩ = some (.int .i64 (F (k * 5 + 3))) ∧ x.cell? ⟨g', o' + k * 5 + 4, none⟩ = some (.int .i64 (F (k * 5 + 4)))) ∧ Below w.heap.size w x
theorem TwoLock.later {w x x' : World} {g o g' o' k : Nat} {F : Nat → Int} (h : TwoLock w g o g' o' k F x) (hg : g < w.heap.size) (hg' : g' < w.heap.size) (hb : Below x.heap.size x x') : TwoLock w g o g' o' k F x' := by
  obtain ⟨⟨hx0, hx1, hx2, hx3, hx4, hx5, hx6, hx7, hx8, hx9⟩, hy⟩ := h
  exact ⟨⟨(hb.cell (Nat.lt_of_lt_of_le hg hy.size)).trans hx0, (hb.cell (Nat.lt_of_lt_of_le hg hy.size)).trans hx1, (hb.cell (Nat.lt_of_lt_of_le hg hy.size)).trans hx2, (hb.cell (Nat.lt_of_lt_of_le hg hy.size)).trans hx3, (hb.cell (Nat.lt_of_lt_of_le hg hy.size)).trans hx4, (hb.cell (Nat.lt_of_lt_of_le hg' hy.size)).trans hx5, (hb.cell (Nat.lt_of_lt_of_le hg' hy.size)).trans hx6, (hb.cell (Nat.lt_of_lt_of_le hg' hy.size)).trans hx7, (hb.cell (Nat.lt_of_lt_of_le hg' hy.size)).trans hx8, (hb.cell (Nat.lt_of_lt_of_le hg' hy.size)).trans hx9⟩, hy.trans (hb.mono hy.size)⟩
set_option maxRecDepth 100000 in
set_option maxHeartbeats 1000000 in
theorem eqLockS_same (va vb : Value) (Ba Bb n : Nat) (F : Nat → Int) (w : World) (ha : Row w Ba 5 n F va) (hb : Row w Bb 5 n F vb) (hn : n ≤ 1048576) :
    Calls Tryz.prog 152 #[va, vb] w fun e w' => e = .returned (.bool true) ∧ Below w.heap.size w w' := by
  obtain ⟨ao, ca, rfl⟩ := ha.form
  obtain ⟨bo, cb, rfl⟩ := hb.form
  have HA : Hid (Row w Ba 5 n F (.slice ao n ca)) := ha
  have HB : Hid (Row w Bb 5 n F (.slice bo n cb)) := hb
  clear ha hb
  go_enter Tryz.func152, Tryz.ntmps152
  go_wp2
  go_loopw [5] (fun i wr => ∃ k : Nat, k ≤ n ∧ i = .int .i64 k ∧ Below w.heap.size w wr) (fun i _ => n - (intOf i).toNat)
  case atStart => exact ⟨0, Nat.zero_le _, rfl, Below.refl _ _⟩
  case round =>
    obtain ⟨k, hk, rfl, hbw⟩ := hrel
    by_cases hlt : k < n
    · obtain ⟨g, o, rfl, _, hg, c0, c1, c2, c3, c4⟩ := HA.out.at5 hlt
      obtain ⟨g', o', rfl, _, hg', d0, d1, d2, d3, d4⟩ := HB.out.at5 hlt
      have h0 : TwoLock w g o g' o' k F wr.drew := ⟨⟨(hbw.cell (p := ⟨g, o + k * 5, none⟩) hg).trans c0, (hbw.cell (p := ⟨g, o + k * 5 + 1, none⟩) hg).trans c1, (hbw.cell (p := ⟨g, o + k * 5 + 2, none⟩) hg).trans c2, (hbw.cell (p := ⟨g, o + k * 5 + 3, none⟩) hg).trans c3, (hbw.cell (p := ⟨g, o + k * 5 + 4, none⟩) hg).trans c4, (hbw.cell (p := ⟨g', o' + k * 5, none⟩) hg').trans d0, (hbw.cell (p := ⟨g', o' + k * 5 + 1, none⟩) hg').trans d1, (hbw.cell (p := ⟨g', o' + k * 5 + 2, none⟩) hg').trans d2, (hbw.cell (p := ⟨g', o' + k * 5 + 3, none⟩) hg').trans d3, (hbw.cell (p := ⟨g', o' + k * 5 + 4, none⟩) hg').trans d4⟩, hbw.drew⟩
      clear c0 d0 c1 d1 c2 d2 c3 d3 c4 d4 hbw
      go_wp2_with fail
      refine wp_region_held_drew (S := TwoLock w g o g' o' k F) (by kernel_rfl) h0 (fun hS => ?_)
      clear h0
      refine tkH 0 ?_ hS (fun wx hx => ?_) ?_; rotate_left
      · obtain ⟨⟨hx0, hx1, hx2, hx3, hx4, hx5, hx6, hx7, hx8, hx9⟩, _⟩ := hx; go_simp; try with_reducible rfl
      refine tkH 1 ?_ hS (fun wx hx => ?_) ?_; rotate_left
      · obtain ⟨⟨hx0, hx1, hx2, hx3, hx4, hx5, hx6, hx7, hx8, hx9⟩, _⟩ := hx; go_simp; try with_reducible rfl
      refine tkH 2 ?_ hS (fun wx hx => ?_) ?_; rotate_left
      · obtain ⟨⟨hx0, hx1, hx2, hx3, hx4, hx5, hx6, hx7, hx8, hx9⟩, _⟩ := hx; go_simp; try with_reducible rfl
      refine tkH 3 ?_ hS (fun wx hx => ?_) ?_; rotate_left
      · obtain ⟨⟨hx0, hx1, hx2, hx3, hx4, hx5, hx6, hx7, hx8, hx9⟩, _⟩ := hx; go_simp; try with_reducible rfl
      refine tkH 4 ?_ hS (fun wx hx => ?_) ?_; rotate_left
      · obtain ⟨⟨hx0, hx1, hx2, hx3, hx4, hx5, hx6, hx7, hx8, hx9⟩, _⟩ := hx; go_simp; try with_reducible rfl
      refine tkH 5 ?_ hS (fun wx hx => ?_) ?_; rotate_left
      · obtain ⟨⟨hx0, hx1, hx2, hx3, hx4, hx5, hx6, hx7, hx8, hx9⟩, _⟩ := hx; go_simp; try with_reducible rfl
      refine tkH 6 ?_ hS (fun wx hx => ?_) ?_; rotate_left
      · obtain ⟨⟨hx0, hx1, hx2, hx3, hx4, hx5, hx6, hx7, hx8, hx9⟩, _⟩ := hx; go_simp; try with_reducible rfl
      refine tkH 7 ?_ hS (fun wx hx => ?_) ?_; rotate_left
      · obtain ⟨⟨hx0, hx1, hx2, hx3, hx4, hx5, hx6, hx7, hx8, hx9⟩, _⟩ := hx; go_simp; try with_reducible rfl
      refine rdH 8 (fun K hK => ?_)
      go_simp
      go_wp2_with fail
      refine (eqLock_same _ _ _ _ _ _).mono ?_
      rintro e w' ⟨rfl, hb⟩
      go_wp2_with fail
      refine hK.out _ _ (hS.later hg hg' hb) (fun hS => ?_)
      clear hK K
      refine tkH 9 ?_ hS (fun wx hx => ?_) ?_; rotate_left
      · obtain ⟨⟨hx0, hx1, hx2, hx3, hx4, hx5, hx6, hx7, hx8, hx9⟩, _⟩ := hx; go_simp; try with_reducible rfl
      refine wpAnyH_done (by kernel_rfl) ?_ _
      go_simp
      go_wp2
      go_roundw
      case rel => exact ⟨k + 1, by omega, by go_num, hS.2⟩
      case measure => simp [intOf]; omega
    · go_wp2
      go_ret
      exact ⟨rfl, hbw⟩
set_option maxHeartbeats 400000 in
theorem eqWrite_same (x0 x1 x2 x3 : Int) (w : World) :
    Calls Tryz.prog 186 #[.agg #[.int .i64 x0, .int .i64 x1, .int .i64 x2, .int .i64 x3], .agg #[.int .i64 x0, .int .i64 x1, .int .i64 x2, .int .i64 x3]] w fun e w' => e = .returned (.bool true) ∧ Below w.heap.size w w' := by
  go_enter Tryz.func186, Tryz.ntmps186
  go_wp2
  go_ret
  exact ⟨rfl, ((Below.refl _ _).alloc (Nat.le_refl _) _).alloc (by simp) _⟩
def TwoWrite (w : World) (g o g' o' k : Nat) (F : Nat → Int) (x : World) : Prop := (x.cell? ⟨g, o + k * 4, none⟩ = some (.int .i64 (F (k * 4))) ∧ x.cell? ⟨g, o + k * 4 + 1, none⟩ = some (.int .i64 (F (k * 4 + 1))) ∧ x.cell? ⟨g, o + k * 4 + 2, none⟩ = some (.int .i64 (F (k * 4 + 2))) ∧ x.cell? ⟨g, o + k * 4 + 3, none⟩ = some (.int .i64 (F (k * 4 + 3))) ∧ x.cell? ⟨g', o' + k * 4, none⟩ = some (.int .i64 (F (k * 4))) ∧ x.cell? ⟨g', o' + k * 4 + 1, none⟩ = some (.int .i64 (F (k * 4 + 1))) ∧ x.cell? ⟨g', o' + k * 4 + 2, none⟩ = some (.int .i64 (F (k * 4 + 2))) ∧ x.cell? ⟨g', o' + k * 4 + 3, none⟩ = some (.int .i64 (F (k * 4 + 3)))) ∧ Below w.heap.size w x
theorem TwoWrite.later {w x x' : World} {g o g' o' k : Nat} {F : Nat → Int} (h : TwoWrite w g o g' o' k F x) (hg : g < w.heap.size) (hg' : g' < w.heap.size) (hb : Below x.heap.size x x') : TwoWrite w g o g' o' k F x' := by
  obtain ⟨⟨hx0, hx1, hx2, hx3, hx4, hx5, hx6, hx7⟩, hy⟩ := h
  exact ⟨⟨(hb.cell (Nat.lt_of_lt_of_le hg hy.size)).trans hx0, (hb.cell (Nat.lt_of_lt_of_le hg hy.size)).trans hx1, (hb.cell (Nat.lt_of_lt_of_le hg hy.size)).trans hx2, (hb.cell (Nat.lt_of_lt_of_le hg hy.size)).trans hx3, (hb.cell (Nat.lt_of_lt_of_le hg' hy.size)).trans hx4, (hb.cell (Nat.lt_of_lt_of_le hg' hy.size)).trans hx5, (hb.cell (Nat.lt_of_lt_of_le hg' hy.size)).trans hx6, (hb.cell (Nat.lt_of_lt_of_le hg' hy.size)).trans hx7⟩, hy.trans (hb.mono hy.size)⟩
set_option maxRecDepth 100000 in
set_option maxHeartbeats 1000000 in
theorem eqWriteS_same (va vb : Value) (Ba Bb n : Nat) (F : Nat → Int) (w : World) (ha : Row w Ba 4 n F va) (hb : Row w Bb 4 n F vb) (hn : n ≤ 1048576) :
    Calls Tryz.prog 153 #[va, vb] w fun e w' => e = .returned (.bool true) ∧ Below w.heap.size w w' := by
  obtain ⟨ao, ca, rfl⟩ := ha.form
  obtain ⟨bo, cb, rfl⟩ := hb.form
  have HA : Hid (Row w Ba 4 n F (.slice ao n ca)) := ha
  have HB : Hid (Row w Bb 4 n F (.slice bo n cb)) := hb
  clear ha hb
  go_enter Tryz.func153, Tryz.ntmps153
  go_wp2
  go_loopw [5] (fun i wr => ∃ k : Nat, k ≤ n ∧ i = .int .i64 k ∧ Below w.heap.size w wr) (fun i _ => n - (intOf i).toNat)
  case atStart => exact ⟨0, Nat.zero_le _, rfl, Below.refl _ _⟩
  case round =>
    obtain ⟨k, hk, rfl, hbw⟩ := hrel
    by_cases hlt : k < n
    · obtain ⟨g, o, rfl, _, hg, c0, c1, c2, c3⟩ := HA.out.at4 hlt
      obtain ⟨g', o', rfl, _, hg', d0, d1, d2, d3⟩ := HB.out.at4 hlt
      have h0 : TwoWrite w g o g' o' k F wr.drew := ⟨⟨(hbw.cell (p := ⟨g, o + k * 4, none⟩) hg).trans c0, (hbw.cell (p := ⟨g, o + k * 4 + 1, none⟩) hg).trans c1, (hbw.cell (p := ⟨g, o + k * 4 + 2, none⟩) hg).trans c2, (hbw.cell (p := ⟨g, o + k * 4 + 3, none⟩) hg).trans c3, (hbw.cell (p := ⟨g', o' + k * 4, none⟩) hg').trans d0, (hbw.cell (p := ⟨g', o' + k * 4 + 1, none⟩) hg').trans d1, (hbw.cell (p := ⟨g', o' + k * 4 + 2, none⟩) hg').trans d2, (hbw.cell (p := ⟨g', o' + k * 4 + 3, none⟩) hg').trans d3⟩, hbw.drew⟩
      clear c0 d0 c1 d1 c2 d2 c3 d3 hbw
      go_wp2_with fail
      refine wp_region_held_drew (S := TwoWrite w g o g' o' k F) (by kernel_rfl) h0 (fun hS => ?_)
      clear h0
      refine tkH 0 ?_ hS (fun wx hx => ?_) ?_; rotate_left
      · obtain ⟨⟨hx0, hx1, hx2, hx3, hx4, hx5, hx6, hx7⟩, _⟩ := hx; go_simp; try with_reducible rfl
      refine tkH 1 ?_ hS (fun wx hx => ?_) ?_; rotate_left
      · obtain ⟨⟨hx0, hx1, hx2, hx3, hx4, hx5, hx6, hx7⟩, _⟩ := hx; go_simp; try with_reducible rfl
      refine tkH 2 ?_ hS (fun wx hx => ?_) ?_; rotate_left
      · obtain ⟨⟨hx0, hx1, hx2, hx3, hx4, hx5, hx6, hx7⟩, _⟩ := hx; go_simp; try with_reducible rfl
      refine tkH 3 ?_ hS (fun wx hx => ?_) ?_; rotate_left
      · obtain ⟨⟨hx0, hx1, hx2, hx3, hx4, hx5, hx6, hx7⟩, _⟩ := hx; go_simp; try with_reducible rfl
      refine tkH 4 ?_ hS (fun wx hx => ?_) ?_; rotate_left
      · obtain ⟨⟨hx0, hx1, hx2, hx3, hx4, hx5, hx6, hx7⟩, _⟩ := hx; go_simp; try with_reducible rfl
      refine tkH 5 ?_ hS (fun wx hx => ?_) ?_; rotate_left
      · obtain ⟨⟨hx0, hx1, hx2, hx3, hx4, hx5, hx6, hx7⟩, _⟩ := hx; go_simp; try with_reducible rfl
      refine tkH 6 ?_ hS (fun wx hx => ?_) ?_; rotate_left
      · obtain ⟨⟨hx0, hx1, hx2, hx3, hx4, hx5, hx6, hx7⟩, _⟩ := hx; go_simp; try with_reducible rfl
      refine tkH 7 ?_ hS (fun wx hx => ?_) ?_; rotate_left
      · obtain ⟨⟨hx0, hx1, hx2, hx3, hx4, hx5, hx6, hx7⟩, _⟩ := hx; go_simp; try with_reducible rfl
      refine rdH 8 (fun K hK => ?_)
      go_simp
      go_wp2_with fail
      refine (eqWrite_same _ _ _ _ _).mono ?_
      rintro e w' ⟨rfl, hb⟩
      go_wp2_with fail
      refine hK.out _ _ (hS.later hg hg' hb) (fun hS => ?_)
      clear hK K
      refine tkH 9 ?_ hS (fun wx hx => ?_) ?_; rotate_left
      · obtain ⟨⟨hx0, hx1, hx2, hx3, hx4, hx5, hx6, hx7⟩, _⟩ := hx; go_simp; try with_reducible rfl
      refine wpAnyH_done (by kernel_rfl) ?_ _
      go_simp
      go_wp2
      go_roundw
      case rel => exact ⟨k + 1, by omega, by go_num, hS.2⟩
      case measure => simp [intOf]; omega
    · go_wp2
      go_ret
      exact ⟨rfl, hbw⟩
end Go.Proofs.YtjkchhcnochjlaaGreatDoor


namespace Go.Proofs.YtjkchhcnochjlaaGreatDoor
open Go.RowKit
set_option linter.unusedVariables false

/-- The three rows of a new store lie one behind the other. -/
def ApartS (S : Sto) (u0 u1 u2 : Value) : Prop := ∃ z1 z2, z1 ≤ z2 ∧ (0 < S.nc → ∀ k, u0.ownBlock = some k → k < z1) ∧ (0 < S.nl → ∀ k, u1.ownBlock = some k → z1 ≤ k ∧ k < z2) ∧ (0 < S.nw → ∀ k, u2.ownBlock = some k → z2 ≤ k)
set_option maxHeartbeats 1000000 in
theorem toStore_any (S : Sto) (v0 v1 v2 : Value) (B : Nat) (w : World) (h : St w B S v0 v1 v2) (hc : S.nc ≤ 1048576) (hl : S.nl ≤ 1048576) (hk : S.nw ≤ 1048576) :
    Calls Tryz.prog 88 #[.agg #[v0, v1, v2]] w fun e w' => ∃ u0 u1 u2, e = .returned (.agg #[u0, u1, u2]) ∧ St w' w.heap.size S u0 u1 u2 ∧ (FreeS w' S u0 u1 u2 ∧ ApartS S u0 u1 u2) ∧ Below w.heap.size w w' := by
  obtain ⟨a0, c0, a1, c1, a2, c2, rfl, rfl, rfl⟩ := h.form
  have H : Hid (St w B S (.slice a0 S.nc c0) (.slice a1 S.nl c1) (.slice a2 S.nw c2)) := h
  clear h
  go_enter Tryz.func88, Tryz.ntmps88
  go_wp2_with fail
  refine (toCellS_any _ B _ _ _ (((H.out.1.alloc _).alloc _).alloc _) hc).mono ?_
  rintro e w1 ⟨u0, rfl, r0, f0, q1⟩
  obtain ⟨b0, d0, rfl⟩ := r0.form
  have k1 := (((Blk3.new w (.slice a0 S.nc c0) (.slice a1 S.nl c1) (.slice a2 S.nw c2) 149).alloc (.cells #[.slice none 0 0, .slice none 0 0, .slice none 0 0] 126)).alloc (.cells #[.slice none 0 0, .slice none 0 0, .slice none 0 0] 126)).later q1
  have k2 := ((Blk3.new (w.alloc (.cells #[.slice a0 S.nc c0, .slice a1 S.nl c1, .slice a2 S.nw c2] 149)) (.slice none 0 0) (.slice none 0 0) (.slice none 0 0) 126).alloc (.cells #[.slice none 0 0, .slice none 0 0, .slice none 0 0] 126)).later q1
  have k3 := (Blk3.new ((w.alloc (.cells #[.slice a0 S.nc c0, .slice a1 S.nl c1, .slice a2 S.nw c2] 149)).alloc (.cells #[.slice none 0 0, .slice none 0 0, .slice none 0 0] 126)) (.slice none 0 0) (.slice none 0 0) (.slice none 0 0) 126).later q1
  simp only [World.size_alloc] at k2 k3 r0 q1
  have B1 : Hid (Below w.heap.size w w1) := (((below_alloc w _).alloc (by simp) _).alloc (by simp; omega) _).trans (q1.mono (by omega))
  have P1 : Hid (Blk3 w1 w.heap.size (.slice a0 S.nc c0) (.slice a1 S.nl c1) (.slice a2 S.nw c2) ∧ Blk3 w1 (w.heap.size + 1) (.slice none 0 0) (.slice none 0 0) (.slice none 0 0) ∧ Blk3 w1 (w.heap.size + 2) (.slice none 0 0) (.slice none 0 0) (.slice none 0 0)) := ⟨k1, k2, k3⟩
  have R1 : Hid (Row w1 (w.heap.size + 3) 3 S.nc S.c (.slice b0 S.nc d0) ∧ Free w1 (S.nc * 3) (.slice b0 S.nc d0)) := ⟨r0, f0⟩
  obtain ⟨⟨_, x1, _⟩, _⟩ := k1
  obtain ⟨⟨y0, _, _⟩, z0, _, _⟩ := k3
  clear k2 r0 f0 q1
  go_wp2_with fail
  have B1' : Hid (Below w.heap.size w (w1.setCell ⟨w.heap.size + 2, 0, none⟩ (.slice b0 S.nc d0))) := B1.out.setCell (by simp) _
  refine (toLockS_any _ B _ _ _ (H.out.2.1.later B1'.out) hl).mono ?_
  rintro e w2 ⟨u1, rfl, r1, f1, q2⟩
  obtain ⟨b1, d1, rfl⟩ := r1.form
  have z1 : w.heap.size + 3 ≤ w1.heap.size := P1.out.2.2.lt
  have sz1 : (w1.setCell ⟨w.heap.size + 2, 0, none⟩ (.slice b0 S.nc d0)).heap.size = w1.heap.size := by simp [World.setCell]
  have k1 := (P1.out.1.setFar (p := ⟨w.heap.size + 2, 0, none⟩) (by simp) (.slice b0 S.nc d0)).later q2
  have k2 := (P1.out.2.1.setFar (p := ⟨w.heap.size + 2, 0, none⟩) (by simp) (.slice b0 S.nc d0)).later q2
  have k3 := (P1.out.2.2.set0 (.slice b0 S.nc d0)).later q2
  have R2 : Hid (Row w2 (w.heap.size + 3) 3 S.nc S.c (.slice b0 S.nc d0) ∧ Free w2 (S.nc * 3) (.slice b0 S.nc d0)) :=
    have e := R1.out.1.far (a := ⟨w.heap.size + 2, 0, none⟩) (Or.inl (by simp)) (.slice b0 S.nc d0)
    ⟨e.later q2, (R1.out.2.far _ _).ofRow e q2⟩
  have T2 : Hid (Row w2 (w.heap.size + 3) 5 S.nl S.l (.slice b1 S.nl d1) ∧ Free w2 (S.nl * 5) (.slice b1 S.nl d1)) := ⟨r1.mono (by omega), f1⟩
  have B2 : Hid (Below w.heap.size w w2) := B1'.out.trans (q2.mono (by have := B1'.out.size; omega))
  have P2 : Hid (Blk3 w2 w.heap.size (.slice a0 S.nc c0) (.slice a1 S.nl c1) (.slice a2 S.nw c2) ∧ Blk3 w2 (w.heap.size + 1) (.slice none 0 0) (.slice none 0 0) (.slice none 0 0) ∧ Blk3 w2 (w.heap.size + 2) (.slice b0 S.nc d0) (.slice none 0 0) (.slice none 0 0)) := ⟨k1, k2, k3⟩
  have A2 : Hid ((0 < S.nc → ∀ k, (Value.slice b0 S.nc d0).ownBlock = some k → k < w1.heap.size) ∧ (0 < S.nl → ∀ k, (Value.slice b1 S.nl d1).ownBlock = some k → w1.heap.size ≤ k ∧ k < w2.heap.size)) := ⟨fun hn k hk => (R1.out.1.lt hn k hk).2, fun hn k hk => by have := r1.lt hn k hk; rw [sz1] at this; exact this⟩
  have zz2 : Hid (w1.heap.size ≤ w2.heap.size) := by have := q2.size; rw [sz1] at this; exact this
  clear x1 y0 z0 q2 r1 f1 B1 B1' P1 R1 k2 z1 sz1
  obtain ⟨⟨_, _, x2⟩, _⟩ := k1
  obtain ⟨⟨_, y1, _⟩, _, z1, _⟩ := k3
  go_wp2_with fail
  have B2' : Hid (Below w.heap.size w (w2.setCell ⟨w.heap.size + 2, 1, none⟩ (.slice b1 S.nl d1))) := B2.out.setCell (by simp) _
  refine (toWriteS_any _ B _ _ _ (H.out.2.2.later B2'.out) hk).mono ?_
  rintro e w3 ⟨u2, rfl, r2, f2, q3⟩
  obtain ⟨b2, d2, rfl⟩ := r2.form
  have z2 : w.heap.size + 3 ≤ w2.heap.size := P2.out.2.2.lt
  have sz2 : (w2.setCell ⟨w.heap.size + 2, 1, none⟩ (.slice b1 S.nl d1)).heap.size = w2.heap.size := by simp [World.setCell]
  have k2 := (P2.out.2.1.setFar (p := ⟨w.heap.size + 2, 1, none⟩) (by simp) (.slice b1 S.nl d1)).later q3
  have k3 := (P2.out.2.2.set1 (.slice b1 S.nl d1)).later q3
  have R3 : Hid (St w3 (w.heap.size + 3) S (.slice b0 S.nc d0) (.slice b1 S.nl d1) (.slice b2 S.nw d2) ∧ FreeS w3 S (.slice b0 S.nc d0) (.slice b1 S.nl d1) (.slice b2 S.nw d2)) :=
    have e := R2.out.1.far (a := ⟨w.heap.size + 2, 1, none⟩) (Or.inl (by simp)) (.slice b1 S.nl d1)
    have e' := T2.out.1.far (a := ⟨w.heap.size + 2, 1, none⟩) (Or.inl (by simp)) (.slice b1 S.nl d1)
    ⟨⟨e.later q3, e'.later q3, r2.mono (by omega)⟩, (R2.out.2.far _ _).ofRow e q3, (T2.out.2.far _ _).ofRow e' q3, f2⟩
  have B3 : Hid (Below w.heap.size w w3) := B2'.out.trans (q3.mono (by have := B2'.out.size; omega))
  have A3 : Hid (ApartS S (.slice b0 S.nc d0) (.slice b1 S.nl d1) (.slice b2 S.nw d2)) := ⟨_, _, zz2.out, A2.out.1, A2.out.2, fun hn k hk => by have := (r2.lt hn k hk).1; rw [sz2] at this; exact this⟩
  clear x2 y1 z1 q3 r2 f2 B2 B2' P2 R2 T2 z2 sz2
  obtain ⟨⟨x0, x1, x2⟩, y0, y1, y2⟩ := k2
  obtain ⟨⟨p0, p1, p2⟩, q0, q1, q2⟩ := k3
  go_wp2
  refine bodyPost_ret (v := .agg #[.slice b0 S.nc d0, .slice b1 S.nl d1, .slice b2 S.nw d2]) (by simp [results, Tryz.results88, go_sem, x0, x1, x2]) rfl ⟨_, _, _, rfl, ?_, ?_, ?_⟩
  · exact ((((R3.out.1.far (by simp) _).far (by simp) _).far (by simp) _).far (by simp) _).mono (by omega)
  · exact ⟨(((R3.out.2.far _ _).far _ _).far _ _).far _ _, A3.out⟩
  · exact (((B3.out.setCell (by simp; omega) _).setCell (by simp) _).setCell (by simp) _).setCell (by simp) _

set_option maxHeartbeats 1000000 in
theorem eqStore_same (S : Sto) (v0 v1 v2 u0 u1 u2 : Value) (B B' : Nat) (w : World) (h : St w B S v0 v1 v2) (h' : St w B' S u0 u1 u2) (hc : S.nc ≤ 1048576) (hl : S.nl ≤ 1048576) (hk : S.nw ≤ 1048576) :
    Calls Tryz.prog 106 #[.agg #[v0, v1, v2], .agg #[u0, u1, u2]] w fun e w' => e = .returned (.bool true) ∧ Below w.heap.size w w' := by
  obtain ⟨a0, c0, a1, c1, a2, c2, rfl, rfl, rfl⟩ := h.form
  obtain ⟨b0, d0, b1, d1, b2, d2, rfl, rfl, rfl⟩ := h'.form
  have H : Hid (St w B S (.slice a0 S.nc c0) (.slice a1 S.nl c1) (.slice a2 S.nw c2)) := h
  have H' : Hid (St w B' S (.slice b0 S.nc d0) (.slice b1 S.nl d1) (.slice b2 S.nw d2)) := h'
  clear h h'
  go_enter Tryz.func106, Tryz.ntmps106
  go_wp2_with fail
  refine (eqCellS_same _ _ B B' _ _ _ ((H.out.1.alloc _).alloc _) ((H'.out.1.alloc _).alloc _) hc).mono ?_
  rintro e w1 ⟨rfl, q1⟩
  have k1 := ((Blk3.new w (.slice a0 S.nc c0) (.slice a1 S.nl c1) (.slice a2 S.nw c2) 126).alloc (.cells #[.slice b0 S.nc d0, .slice b1 S.nl d1, .slice b2 S.nw d2] 126)).later q1
  have k2 := (Blk3.new (w.alloc (.cells #[.slice a0 S.nc c0, .slice a1 S.nl c1, .slice a2 S.nw c2] 126)) (.slice b0 S.nc d0) (.slice b1 S.nl d1) (.slice b2 S.nw d2) 126).later q1
  simp only [World.size_alloc] at k2 q1
  have B1 : Hid (Below w.heap.size w w1) := ((below_alloc w _).alloc (by simp) _).trans (q1.mono (by omega))
  have P1 : Hid (Blk3 w1 w.heap.size (.slice a0 S.nc c0) (.slice a1 S.nl c1) (.slice a2 S.nw c2) ∧ Blk3 w1 (w.heap.size + 1) (.slice b0 S.nc d0) (.slice b1 S.nl d1) (.slice b2 S.nw d2)) := ⟨k1, k2⟩
  obtain ⟨⟨_, x1, _⟩, _⟩ := k1
  obtain ⟨⟨_, y1, _⟩, _⟩ := k2
  clear q1
  go_wp2_with fail
  refine (eqLockS_same _ _ B B' _ _ _ (H.out.2.1.later B1.out) (H'.out.2.1.later B1.out) hl).mono ?_
  rintro e w2 ⟨rfl, q2⟩
  have k1 := P1.out.1.later q2
  have k2 := P1.out.2.later q2
  have B2 : Hid (Below w.heap.size w w2) := B1.out.trans (q2.mono B1.out.size)
  clear q2 x1 y1 B1 P1
  obtain ⟨⟨_, _, x2⟩, _⟩ := k1
  obtain ⟨⟨_, _, y2⟩, _⟩ := k2
  go_wp2_with fail
  refine (eqWriteS_same _ _ B B' _ _ _ (H.out.2.2.later B2.out) (H'.out.2.2.later B2.out) hk).mono ?_
  rintro e w3 ⟨rfl, q3⟩
  have B3 : Hid (Below w.heap.size w w3) := B2.out.trans (q3.mono B2.out.size)
  clear q3 x2 y2 B2
  go_wp2
  go_ret
  exact ⟨rfl, B3.out⟩

set_option maxHeartbeats 400000 in
theorem szStore_ok (left : Int) (a0 a1 a2 : Option Addr) (n0 n1 n2 c0 c1 c2 : Nat) (w : World) (h : (n0 : Int) + n1 + n2 ≤ left) (h0 : 0 ≤ left) (h2 : left ≤ 1048576) (hn0 : n0 ≤ 9223372036854775807) (hn1 : n1 ≤ 9223372036854775807) (hn2 : n2 ≤ 9223372036854775807) :
    Calls Tryz.prog 76 #[.agg #[.slice a0 n0 c0, .slice a1 n1 c1, .slice a2 n2 c2], .int .i64 left] w fun e w' => e = .returned (.int .i64 (left - n0 - n1 - n2)) ∧ Below w.heap.size w w' := by
  go_enter Tryz.func76, Tryz.ntmps76
  go_wp2_with fail
  refine (szCellS_ok _ _ _ _ _ (by omega) (by omega)).mono ?_
  rintro e w1 ⟨rfl, rfl⟩
  go_wp2_with fail
  refine (szLockS_ok _ _ _ _ _ (by omega) (by omega)).mono ?_
  rintro e w1 ⟨rfl, rfl⟩
  go_wp2_with fail
  refine (szWriteS_ok _ _ _ _ _ (by omega) (by omega)).mono ?_
  rintro e w1 ⟨rfl, rfl⟩
  go_wp2
  go_ret
  exact ⟨rfl, below_alloc _ _⟩
set_option maxHeartbeats 400000 in
theorem szStore_no0 (left : Int) (a0 a1 a2 : Option Addr) (n0 n1 n2 c0 c1 c2 : Nat) (w : World) (h : left < n0) (h0 : 0 ≤ left) (h2 : left ≤ 1048576) (hn0 : n0 ≤ 9223372036854775807) (hn1 : n1 ≤ 9223372036854775807) (hn2 : n2 ≤ 9223372036854775807) :
    Calls Tryz.prog 76 #[.agg #[.slice a0 n0 c0, .slice a1 n1 c1, .slice a2 n2 c2], .int .i64 left] w fun e w' => e = .returned (.int .i64 (-1)) ∧ Below w.heap.size w w' := by
  go_enter Tryz.func76, Tryz.ntmps76
  go_wp2_with fail
  refine (szCellS_no _ _ _ _ _ (by omega) (by omega) (by omega) hn0).mono ?_
  rintro e w1 ⟨rfl, rfl⟩
  go_wp2
  go_ret
  exact ⟨rfl, below_alloc _ _⟩
set_option maxHeartbeats 400000 in
theorem szStore_no1 (left : Int) (a0 a1 a2 : Option Addr) (n0 n1 n2 c0 c1 c2 : Nat) (w : World) (h : (n0 : Int) ≤ left ∧ left < n0 + n1) (h0 : 0 ≤ left) (h2 : left ≤ 1048576) (hn0 : n0 ≤ 9223372036854775807) (hn1 : n1 ≤ 9223372036854775807) (hn2 : n2 ≤ 9223372036854775807) :
    Calls Tryz.prog 76 #[.agg #[.slice a0 n0 c0, .slice a1 n1 c1, .slice a2 n2 c2], .int .i64 left] w fun e w' => e = .returned (.int .i64 (-1)) ∧ Below w.heap.size w w' := by
  go_enter Tryz.func76, Tryz.ntmps76
  go_wp2_with fail
  refine (szCellS_ok _ _ _ _ _ (by omega) (by omega)).mono ?_
  rintro e w1 ⟨rfl, rfl⟩
  go_wp2_with fail
  refine (szLockS_no _ _ _ _ _ (by omega) (by omega) (by omega) hn1).mono ?_
  rintro e w1 ⟨rfl, rfl⟩
  go_wp2
  go_ret
  exact ⟨rfl, below_alloc _ _⟩
set_option maxHeartbeats 400000 in
theorem szStore_no2 (left : Int) (a0 a1 a2 : Option Addr) (n0 n1 n2 c0 c1 c2 : Nat) (w : World) (h : (n0 : Int) + n1 ≤ left ∧ left < n0 + n1 + n2) (h0 : 0 ≤ left) (h2 : left ≤ 1048576) (hn0 : n0 ≤ 9223372036854775807) (hn1 : n1 ≤ 9223372036854775807) (hn2 : n2 ≤ 9223372036854775807) :
    Calls Tryz.prog 76 #[.agg #[.slice a0 n0 c0, .slice a1 n1 c1, .slice a2 n2 c2], .int .i64 left] w fun e w' => e = .returned (.int .i64 (-1)) ∧ Below w.heap.size w w' := by
  go_enter Tryz.func76, Tryz.ntmps76
  go_wp2_with fail
  refine (szCellS_ok _ _ _ _ _ (by omega) (by omega)).mono ?_
  rintro e w1 ⟨rfl, rfl⟩
  go_wp2_with fail
  refine (szLockS_ok _ _ _ _ _ (by omega) (by omega)).mono ?_
  rintro e w1 ⟨rfl, rfl⟩
  go_wp2_with fail
  refine (szWriteS_no _ _ _ _ _ (by omega) (by omega) (by omega) hn2).mono ?_
  rintro e w1 ⟨rfl, rfl⟩
  go_wp2
  go_ret
  exact ⟨rfl, below_alloc _ _⟩
theorem szStore_no (left : Int) (a0 a1 a2 : Option Addr) (n0 n1 n2 c0 c1 c2 : Nat) (w : World) (h : left < (n0 : Int) + n1 + n2) (h0 : 0 ≤ left) (h2 : left ≤ 1048576) (hn0 : n0 ≤ 9223372036854775807) (hn1 : n1 ≤ 9223372036854775807) (hn2 : n2 ≤ 9223372036854775807) :
    Calls Tryz.prog 76 #[.agg #[.slice a0 n0 c0, .slice a1 n1 c1, .slice a2 n2 c2], .int .i64 left] w fun e w' => e = .returned (.int .i64 (-1)) ∧ Below w.heap.size w w' := by
  by_cases e0 : left < n0
  · exact szStore_no0 left a0 a1 a2 n0 n1 n2 c0 c1 c2 w e0 h0 h2 hn0 hn1 hn2
  by_cases e1 : left < n0 + n1
  · exact szStore_no1 left a0 a1 a2 n0 n1 n2 c0 c1 c2 w ⟨by omega, e1⟩ h0 h2 hn0 hn1 hn2
  · exact szStore_no2 left a0 a1 a2 n0 n1 n2 c0 c1 c2 w ⟨by omega, h⟩ h0 h2 hn0 hn1 hn2
end Go.Proofs.YtjkchhcnochjlaaGreatDoor

namespace Go.Proofs.YtjkchhcnochjlaaGreatDoor
open Go.RowKit

/-- The box of the law's store, and that nothing old has turned; and one box more. -/
def One (w : World) (v0 v1 v2 : Value) (x : World) : Prop := Below w.heap.size w x ∧ Blk3 x w.heap.size v0 v1 v2
theorem One.later {w x x' : World} {v0 v1 v2 : Value} (h : One w v0 v1 v2 x) (hb : Below x.heap.size x x') : One w v0 v1 v2 x' := ⟨h.1.trans (hb.mono h.1.size), h.2.later hb⟩
theorem One.new (w : World) (v0 v1 v2 : Value) : One w v0 v1 v2 (w.alloc (.cells #[v0, v1, v2] 149)) := ⟨below_alloc _ _, Blk3.new w _ _ _ _⟩
def Two (w : World) (v0 v1 v2 : Value) (g : Nat) (x0 x1 x2 : Value) (x : World) : Prop := One w v0 v1 v2 x ∧ Blk3 x g x0 x1 x2
theorem Two.later {w x x' : World} {v0 v1 v2 : Value} {g : Nat} {x0 x1 x2 : Value} (h : Two w v0 v1 v2 g x0 x1 x2 x) (hb : Below x.heap.size x x') : Two w v0 v1 v2 g x0 x1 x2 x' := ⟨h.1.later hb, h.2.later hb⟩
end Go.Proofs.YtjkchhcnochjlaaGreatDoor

namespace Go.Proofs.YtjkchhcnochjlaaGreatDoor
open Go.RowKit

theorem Row.at2 {w : World} {B n : Nat} {F : Nat → Int} {ao : Option Addr} {cp : Nat} (h : Row w B 2 n F (.slice ao n cp)) {k : Nat} (hk : k < n) :
    ∃ g o, ao = some ⟨g, o, none⟩ ∧ B ≤ g ∧ g < w.heap.size ∧ w.cell? ⟨g, o + k * 2, none⟩ = some (.int .i64 (F (k * 2))) ∧ w.cell? ⟨g, o + k * 2 + 1, none⟩ = some (.int .i64 (F (k * 2 + 1))) := by
  obtain ⟨g, o, ha, hB, hg, hc⟩ := h.at hk
  exact ⟨g, o, ha, hB, hg, hc 0 (by omega), hc 1 (by omega)⟩
theorem Fill.step {w : World} {g o N K : Nat} {F : Nat → Int} (h : Fill w g o N K F) (hK : K < N) {a : Nat} (ha : a = o + K) {x : Int} (hx : x = F K) : Fill (w.setCell ⟨g, a, none⟩ (.int .i64 x)) g o N (K + 1) F := by
  subst ha hx
  exact h.put hK
/-- x' is x but for blocks from B on below E, and new ones. -/
structure Within (B E : Nat) (x x' : World) : Prop where
  os : x'.os = x.os
  tape : x'.tape = x.tape
  output : x'.output = x.output
  size : x.heap.size ≤ x'.heap.size
  block : ∀ k, k < x.heap.size → k < B ∨ E ≤ k → x'.heap[k]? = x.heap[k]?
theorem Within.refl (B E : Nat) (x : World) : Within B E x x := ⟨rfl, rfl, rfl, Nat.le_refl _, fun _ _ _ => rfl⟩
theorem Within.trans {B E : Nat} {a b c : World} (h : Within B E a b) (k : Within B E b c) : Within B E a c :=
  ⟨k.os.trans h.os, k.tape.trans h.tape, k.output.trans h.output, Nat.le_trans h.size k.size, fun i hi hr => (k.block i (Nat.lt_of_lt_of_le hi h.size) hr).trans (h.block i hi hr)⟩
theorem Within.grow {B E : Nat} {x x' : World} (h : Below x.heap.size x x') : Within B E x x' := ⟨h.os, h.tape, h.output, h.size, fun k hk _ => h.block k hk⟩
theorem Within.of {B E : Nat} {x x' : World} {row : Option Nat} (h : x.grownBy x' row) (hr : ∀ b, row = some b → B ≤ b ∧ b < E) : Within B E x x' :=
  ⟨h.os, h.tape, h.output, h.size, fun k hk ho => h.block k hk (fun e => by have := hr k e.symm; omega)⟩
theorem Within.below {B E : Nat} {w x x' : World} (h : Within B E x x') (hw : Below w.heap.size w x) (hB : w.heap.size ≤ B) : Below w.heap.size w x' :=
  ⟨h.os.trans hw.os, h.tape.trans hw.tape, h.output.trans hw.output, Nat.le_trans hw.size h.size, fun k hk => (h.block k (Nat.lt_of_lt_of_le hk hw.size) (Or.inl (by omega))).trans (hw.block k hk)⟩
theorem Within.mono {B E B' E' : Nat} {x x' : World} (h : Within B E x x') (hB : B' ≤ B) (hE : E ≤ E') : Within B' E' x x' := ⟨h.os, h.tape, h.output, h.size, fun k hk ho => h.block k hk (by omega)⟩
theorem Row.within {x x' : World} {C m n B E : Nat} {F : Nat → Int} {v : Value} (h : Row x C m n F v) (hw : Within B E x x') (ho : 0 < n → ∀ k, v.ownBlock = some k → k < B ∨ E ≤ k) : Row x' C m n F v := by
  rcases Nat.eq_zero_or_pos n with e | e
  · subst e
    obtain ⟨ao, cp, rfl, _⟩ := h
    exact ⟨ao, cp, rfl, fun q => absurd q (Nat.lt_irrefl 0)⟩
  · exact h.kept hw.size (fun k hk hlt => hw.block k hlt (ho e k hk))
theorem Free.within {x x' : World} {C m n B E : Nat} {F : Nat → Int} {v : Value} (h : Free x (n * m) v) (hr : Row x C m n F v) (hw : Within B E x x') (ho : 0 < n → ∀ k, v.ownBlock = some k → k < B ∨ E ≤ k) : Free x' (n * m) v := by
  rcases Nat.eq_zero_or_pos n with e | e
  · subst e; rw [Nat.zero_mul]; exact Free.of0 _ _
  · intro g o n' c hv p hp
    rw [World.frozen?_of_block (w := x) (a := ⟨g, o + p, none⟩) (hw.block g (hr.lt e g (by rw [hv]; rfl)).2 (ho e g (by rw [hv]; rfl)))]
    exact h g o n' c hv p hp
theorem Blk3.within {x x' : World} {b B E : Nat} {a0 a1 a2 : Value} (h : Blk3 x b a0 a1 a2) (hw : Within B E x x') (ho : b < B ∨ E ≤ b) : Blk3 x' b a0 a1 a2 := h.kept (hw.block b h.lt ho)
theorem Row.turned {x x' : World} {C m n : Nat} {F : Nat → Int} {v : Value} {row : Option Nat} (h : Row x C m n F v) (hg : x.grownBy x' row) (ho : 0 < n → ∀ k, v.ownBlock = some k → some k ≠ row) : Row x' C m n F v := by
  rcases Nat.eq_zero_or_pos n with e | e
  · subst e
    obtain ⟨ao, cp, rfl, _⟩ := h
    exact ⟨ao, cp, rfl, fun q => absurd q (Nat.lt_irrefl 0)⟩
  · exact h.kept hg.size (fun k hk hlt => hg.block k hlt (ho e k hk))
theorem Free.turned {x x' : World} {C m n : Nat} {F : Nat → Int} {v : Value} {row : Option Nat} (h : Free x (n * m) v) (hr : Row x C m n F v) (hg : x.grownBy x' row) (ho : 0 < n → ∀ k, v.ownBlock = some k → some k ≠ row) : Free x' (n * m) v := by
  rcases Nat.eq_zero_or_pos n with e | e
  · subst e; rw [Nat.zero_mul]; exact Free.of0 _ _
  · intro g o n' c hv p hp
    rw [World.frozen?_of_block (w := x) (a := ⟨g, o + p, none⟩) (hg.block g (hr.lt e g (by rw [hv]; rfl)).2 (ho e g (by rw [hv]; rfl)))]
    exact h g o n' c hv p hp
end Go.Proofs.YtjkchhcnochjlaaGreatDoor

namespace Go.Proofs.YtjkchhcnochjlaaGreatDoor
open Go.RowKit

/-- Block b holds two cells, none frozen. -/
def Blk2 (x : World) (b : Nat) (a0 a1 : Value) : Prop :=
  (x.cell? ⟨b, 0, none⟩ = some a0 ∧ x.cell? ⟨b, 1, none⟩ = some a1) ∧ x.frozen? ⟨b, 0, none⟩ = false ∧ x.frozen? ⟨b, 1, none⟩ = false
theorem Blk2.kept {x x' : World} {b : Nat} {a0 a1 : Value} (h : Blk2 x b a0 a1) (hb : x'.heap[b]? = x.heap[b]?) : Blk2 x' b a0 a1 := by
  obtain ⟨⟨h0, h1⟩, f0, f1⟩ := h
  exact ⟨⟨(World.cell?_of_block (w := x) (a := ⟨b, 0, none⟩) hb).trans h0, (World.cell?_of_block (w := x) (a := ⟨b, 1, none⟩) hb).trans h1⟩,
    (World.frozen?_of_block (w := x) (a := ⟨b, 0, none⟩) hb).trans f0, (World.frozen?_of_block (w := x) (a := ⟨b, 1, none⟩) hb).trans f1⟩
theorem Blk2.lt {x : World} {b : Nat} {a0 a1 : Value} (h : Blk2 x b a0 a1) : b < x.heap.size := World.block_lt_of_cell? x _ h.1.1
theorem Blk2.later {x x' : World} {b : Nat} {a0 a1 : Value} (h : Blk2 x b a0 a1) (hb : Below x.heap.size x x') : Blk2 x' b a0 a1 := h.kept (hb.block b h.lt)
theorem Blk2.alloc {x : World} {b : Nat} {a0 a1 : Value} (h : Blk2 x b a0 a1) (o : Obj) : Blk2 (x.alloc o) b a0 a1 := h.later ((Below.refl _ _).alloc (Nat.le_refl _) o)
theorem Blk2.new (w : World) (a0 a1 : Value) (t : TypeId) : Blk2 (w.alloc (.cells #[a0, a1] t)) w.heap.size a0 a1 := by
  refine ⟨⟨World.cell?_alloc_mark w _ _ _ 0, World.cell?_alloc_mark w _ _ _ 1⟩, ?_, ?_⟩ <;> simp
theorem Blk2.put {x : World} {b : Nat} {a0 a1 : Value} (h : Blk2 x b a0 a1) (c v : Value) : Blk2 ((x.setCell ⟨b, 0, none⟩ c).setCell ⟨b, 1, none⟩ v) b c v := by
  obtain ⟨⟨h0, h1⟩, f0, f1⟩ := h
  refine ⟨⟨(World.cell?_setCell_other _ _ _ _ (by simp)).trans (World.cell?_setCell_same _ _ _ h0), World.cell?_setCell_same _ _ _ ((World.cell?_setCell_other _ _ _ _ (by simp)).trans h1)⟩, by simpa using f0, by simpa using f1⟩
/-- A block of four cells, none frozen. -/
def Blk4 (x : World) (b : Nat) (a0 a1 a2 a3 : Value) : Prop := (x.cell? ⟨b, 0, none⟩ = some a0 ∧ x.cell? ⟨b, 1, none⟩ = some a1 ∧ x.cell? ⟨b, 2, none⟩ = some a2 ∧ x.cell? ⟨b, 3, none⟩ = some a3) ∧ x.frozen? ⟨b, 0, none⟩ = false ∧ x.frozen? ⟨b, 1, none⟩ = false ∧ x.frozen? ⟨b, 2, none⟩ = false ∧ x.frozen? ⟨b, 3, none⟩ = false
theorem Blk4.lt {x : World} {b : Nat} {a0 a1 a2 a3 : Value} (h : Blk4 x b a0 a1 a2 a3) : b < x.heap.size := World.block_lt_of_cell? x _ h.1.1
theorem Blk4.later {x x' : World} {b : Nat} {a0 a1 a2 a3 : Value} (h : Blk4 x b a0 a1 a2 a3) (hb : Below x.heap.size x x') : Blk4 x' b a0 a1 a2 a3 := by
  have hl := h.lt
  obtain ⟨⟨h0, h1, h2, h3⟩, f0, f1, f2, f3⟩ := h
  exact ⟨⟨(hb.cell (p := ⟨b, 0, none⟩) hl).trans h0, (hb.cell (p := ⟨b, 1, none⟩) hl).trans h1, (hb.cell (p := ⟨b, 2, none⟩) hl).trans h2, (hb.cell (p := ⟨b, 3, none⟩) hl).trans h3⟩,
    (hb.frozen (p := ⟨b, 0, none⟩) hl).trans f0, (hb.frozen (p := ⟨b, 1, none⟩) hl).trans f1, (hb.frozen (p := ⟨b, 2, none⟩) hl).trans f2, (hb.frozen (p := ⟨b, 3, none⟩) hl).trans f3⟩
theorem Blk4.alloc {x : World} {b : Nat} {a0 a1 a2 a3 : Value} (h : Blk4 x b a0 a1 a2 a3) (o : Obj) : Blk4 (x.alloc o) b a0 a1 a2 a3 := h.later (below_alloc _ _)
theorem Blk4.new (w : World) (a0 a1 a2 a3 : Value) (t : TypeId) : Blk4 (w.alloc (.cells #[a0, a1, a2, a3] t)) w.heap.size a0 a1 a2 a3 := by
  refine ⟨⟨World.cell?_alloc_mark w _ _ _ 0, World.cell?_alloc_mark w _ _ _ 1, World.cell?_alloc_mark w _ _ _ 2, World.cell?_alloc_mark w _ _ _ 3⟩, ?_, ?_, ?_, ?_⟩ <;> simp
theorem Blk4.put {x : World} {b : Nat} {a0 a1 a2 a3 : Value} (h : Blk4 x b a0 a1 a2 a3) (c0 c1 c2 c3 : Value) : Blk4 ((((x.setCell ⟨b, 0, none⟩ c0).setCell ⟨b, 1, none⟩ c1).setCell ⟨b, 2, none⟩ c2).setCell ⟨b, 3, none⟩ c3) b c0 c1 c2 c3 := by
  obtain ⟨⟨h0, h1, h2, h3⟩, f0, f1, f2, f3⟩ := h
  have o : ∀ {y : World} {i j : Nat} {u v : Value}, i ≠ j → y.cell? ⟨b, i, none⟩ = some u → (y.setCell ⟨b, j, none⟩ v).cell? ⟨b, i, none⟩ = some u := fun hn hu => (World.cell?_setCell_other _ _ _ _ (fun e => hn (congrArg Addr.off e).symm)).trans hu
  refine ⟨⟨?_, ?_, ?_, ?_⟩, by simpa using f0, by simpa using f1, by simpa using f2, by simpa using f3⟩
  · exact o (by decide) (o (by decide) (o (by decide) (World.cell?_setCell_same _ _ _ h0)))
  · exact o (by decide) (o (by decide) (World.cell?_setCell_same _ _ _ (o (by decide) h1)))
  · exact o (by decide) (World.cell?_setCell_same _ _ _ (o (by decide) (o (by decide) h2)))
  · exact World.cell?_setCell_same _ _ _ (o (by decide) (o (by decide) (o (by decide) h3)))
/-- A code, and a new row of n structs of m numbers each. -/
def ResRow (m : Nat) (w : World) (c : Int) (n : Nat) (F : Nat → Int) (e : Ending) (w' : World) : Prop := ∃ ao cp, e = .returned (.agg #[.int .i64 c, .slice ao n cp]) ∧ Row w' w.heap.size m n F (.slice ao n cp) ∧ Free w' (n * m) (.slice ao n cp) ∧ Below w.heap.size w w'
end Go.Proofs.YtjkchhcnochjlaaGreatDoor

namespace Go.Proofs.YtjkchhcnochjlaaGreatDoor
open Go.RowKit

/-- The three rows of a store lie in three blocks. -/
def ApartD (S : Sto) (u0 u1 u2 : Value) : Prop := (0 < S.nc → 0 < S.nl → u0.ownBlock ≠ u1.ownBlock) ∧ (0 < S.nc → 0 < S.nw → u0.ownBlock ≠ u2.ownBlock) ∧ (0 < S.nl → 0 < S.nw → u1.ownBlock ≠ u2.ownBlock)
end Go.Proofs.YtjkchhcnochjlaaGreatDoor

namespace Go.Proofs.YtjkchhcnochjlaaGreatDoor
open Go.RowKit

theorem ApartS.d {w : World} {B : Nat} {S : Sto} {u0 u1 u2 : Value} (h : ApartS S u0 u1 u2) (hs : St w B S u0 u1 u2) : ApartD S u0 u1 u2 := by
  obtain ⟨z1, z2, hz, h0, h1, h2⟩ := h
  have own : ∀ {m n : Nat} {F : Nat → Int} {u : Value}, Row w B m n F u → 0 < n → ∃ k, u.ownBlock = some k := fun hr hn => by
    obtain ⟨ao, cp, rfl, hr⟩ := hr
    obtain ⟨g, o, rfl, _⟩ := hr hn
    exact ⟨g, rfl⟩
  refine ⟨fun ha hb e => ?_, fun ha hb e => ?_, fun ha hb e => ?_⟩
  · obtain ⟨k, hk⟩ := own hs.1 ha
    have := h0 ha k hk; have := h1 hb k (e ▸ hk); omega
  · obtain ⟨k, hk⟩ := own hs.1 ha
    have := h0 ha k hk; have := h2 hb k (e ▸ hk); omega
  · obtain ⟨k, hk⟩ := own hs.2.1 ha
    have := h1 ha k hk; have := h2 hb k (e ▸ hk); omega
theorem Blk4.kept {x x' : World} {b : Nat} {a0 a1 a2 a3 : Value} (h : Blk4 x b a0 a1 a2 a3) (hb : x'.heap[b]? = x.heap[b]?) : Blk4 x' b a0 a1 a2 a3 := by
  obtain ⟨⟨h0, h1, h2, h3⟩, f0, f1, f2, f3⟩ := h
  exact ⟨⟨(World.cell?_of_block (w := x) (a := ⟨b, 0, none⟩) hb).trans h0, (World.cell?_of_block (w := x) (a := ⟨b, 1, none⟩) hb).trans h1, (World.cell?_of_block (w := x) (a := ⟨b, 2, none⟩) hb).trans h2, (World.cell?_of_block (w := x) (a := ⟨b, 3, none⟩) hb).trans h3⟩,
    (World.frozen?_of_block (w := x) (a := ⟨b, 0, none⟩) hb).trans f0, (World.frozen?_of_block (w := x) (a := ⟨b, 1, none⟩) hb).trans f1, (World.frozen?_of_block (w := x) (a := ⟨b, 2, none⟩) hb).trans f2, (World.frozen?_of_block (w := x) (a := ⟨b, 3, none⟩) hb).trans f3⟩
theorem Blk4.within {x x' : World} {b B E : Nat} {a0 a1 a2 a3 : Value} (h : Blk4 x b a0 a1 a2 a3) (hw : Within B E x x') (ho : b < B ∨ E ≤ b) : Blk4 x' b a0 a1 a2 a3 := h.kept (hw.block b h.lt ho)
/-- The blocks of a store's rows that are not empty keep to P. -/
def OwnIn (S : Sto) (u0 u1 u2 : Value) (P : Nat → Prop) : Prop := (0 < S.nc → ∀ k, u0.ownBlock = some k → P k) ∧ (0 < S.nl → ∀ k, u1.ownBlock = some k → P k) ∧ (0 < S.nw → ∀ k, u2.ownBlock = some k → P k)
theorem St.ownIn {w : World} {B : Nat} {S : Sto} {u0 u1 u2 : Value} (h : St w B S u0 u1 u2) : OwnIn S u0 u1 u2 (fun k => B ≤ k ∧ k < w.heap.size) := ⟨fun hn k q => h.1.lt hn k q, fun hn k q => h.2.1.lt hn k q, fun hn k q => h.2.2.lt hn k q⟩
theorem OwnIn.mono {S : Sto} {u0 u1 u2 : Value} {P Q : Nat → Prop} (h : OwnIn S u0 u1 u2 P) (hpq : ∀ k, P k → Q k) : OwnIn S u0 u1 u2 Q := ⟨fun hn k q => hpq k (h.1 hn k q), fun hn k q => hpq k (h.2.1 hn k q), fun hn k q => hpq k (h.2.2 hn k q)⟩
theorem St.within {x x' : World} {C B E : Nat} {S : Sto} {u0 u1 u2 : Value} (h : St x C S u0 u1 u2) (hw : Within B E x x') (ho : OwnIn S u0 u1 u2 (fun k => k < B ∨ E ≤ k)) : St x' C S u0 u1 u2 := ⟨h.1.within hw ho.1, h.2.1.within hw ho.2.1, h.2.2.within hw ho.2.2⟩
theorem FreeS.within {x x' : World} {C B E : Nat} {S : Sto} {u0 u1 u2 : Value} (hf : FreeS x S u0 u1 u2) (h : St x C S u0 u1 u2) (hw : Within B E x x') (ho : OwnIn S u0 u1 u2 (fun k => k < B ∨ E ≤ k)) : FreeS x' S u0 u1 u2 := ⟨hf.1.within h.1 hw ho.1, hf.2.1.within h.2.1 hw ho.2.1, hf.2.2.within h.2.2 hw ho.2.2⟩
end Go.Proofs.YtjkchhcnochjlaaGreatDoor

namespace Go.Proofs.YtjkchhcnochjlaaGreatDoor
open Go.RowKit

theorem make_rowR {P : Program} {t e : TypeId} {z : Value} {size bytes : Nat} (ht : P.underlying t = some (.slice e)) (hinfo : (P.info? e).map (fun i => (i.zero, i.size, i.bytes)) = some (some z, size, bytes)) (n : Nat) (hn : bytes * n ≤ 281474976710656) (hm : n ≤ 9223372036854775807) (w : World) :
    (Instr.makeSlice t (.int .i64 (n : Int)) (.int .i64 (n : Int))).run P w = .ok (.slice (some ⟨w.heap.size, 0, none⟩) n n) (w.alloc (.cells (madeCells z.cells (n * size)) e)) := by
  obtain ⟨i, hi, hz, hs, hb⟩ := info_parts hinfo
  have hb' : (i.bytes : Int) * (n : Int) ≤ 281474976710656 := by
    have h : ((i.bytes * n : Nat) : Int) ≤ 281474976710656 := by rw [hb]; omega
    rwa [Int.natCast_mul] at h
  have hr := run_make (P := P) w t e i z ht hi hz .i64 .i64 n n (by omega) (Int.le_refl _) hb' (by omega)
  simp only [Int.toNat_natCast, hs] at hr
  exact hr

theorem info_Range : (Tryz.prog.info? 155).map (fun i => (i.zero, i.size, i.bytes)) = some (some (.agg #[.int .i64 0, .int .i64 0, .int .i64 0]), 3, 24) := by kernel_rfl
set_option maxHeartbeats 400000 in
theorem toRange_any (x0 x1 x2 : Int) (w : World) :
    Calls Tryz.prog 87 #[.agg #[.int .i64 x0, .int .i64 x1, .int .i64 x2]] w fun e w' => e = .returned (.agg #[.int .i64 x0, .int .i64 x1, .int .i64 x2]) ∧ Below w.heap.size w w' := by
  go_enter Tryz.func87, Tryz.ntmps87
  go_wp2
  exact bodyPost_ret (v := .agg #[.int .i64 x0, .int .i64 x1, .int .i64 x2]) (by simp [results, Tryz.results87, go_sem]) rfl ⟨rfl, (((Below.refl _ _).alloc (Nat.le_refl _) _).alloc (by simp) _).alloc (by simp; omega) _⟩
set_option maxHeartbeats 400000 in
theorem toRangeS_cap (v : Value) (B n : Nat) (F : Nat → Int) (w : World) (h : Row w B 3 n F v) (hn : n ≤ 1048576) :
    Calls Tryz.prog 55 #[v] w fun e w' => ∃ uo, e = .returned (.slice uo n n) ∧ Row w' w.heap.size 3 n F (.slice uo n n) ∧ Free w' (n * 3) (.slice uo n n) ∧ Below w.heap.size w w' := by
  obtain ⟨ao, cp, rfl⟩ := h.form
  have H : Hid (Row w B 3 n F (.slice ao n cp)) := h
  clear h
  have hmk := make_rowR Tryz.underlying39 info_Range n (by omega) (by omega)
  go_enter Tryz.func55, Tryz.ntmps55
  go_wp2
  go_loopw [4] (fun i wr => ∃ k : Nat, k ≤ n ∧ i = .int .i64 k ∧ Hid (Below w.heap.size w wr ∧ Fill wr w.heap.size 0 (n * 3) (k * 3) F)) (fun i _ => n - (intOf i).toNat)
  case atStart => exact ⟨0, Nat.zero_le _, rfl, below_alloc _ _, by rw [Nat.zero_mul]; exact Fill.made _ _ _ _ _⟩
  case round =>
    obtain ⟨k, hk, rfl, hR⟩ := hrel
    by_cases hlt : k < n
    · obtain ⟨g, o, rfl, _, hg, c0, c1, c2⟩ := H.out.at3 hlt
      have b0 := hR.out.1.cell (p := ⟨g, o + k * 3, none⟩) hg
      rw [c0] at b0
      have b1 := hR.out.1.cell (p := ⟨g, o + k * 3 + 1, none⟩) hg
      rw [c1] at b1
      have b2 := hR.out.1.cell (p := ⟨g, o + k * 3 + 2, none⟩) hg
      rw [c2] at b2
      clear c0 c1 c2
      go_wp2_with fail
      refine (toRange_any _ _ _ _).mono ?_
      rintro e w1 ⟨rfl, q1⟩
      have f1 := hR.out.2.later q1
      obtain ⟨v0, d0, e0⟩ := f1.at (p := k * 3) (by omega)
      obtain ⟨v1, d1, e1⟩ := f1.at (p := k * 3 + 1) (by omega)
      obtain ⟨v2, d2, e2⟩ := f1.at (p := k * 3 + 2) (by omega)
      have HF : Hid (Below w.heap.size w w1 ∧ Fill w1 w.heap.size 0 (n * 3) (k * 3) F) := ⟨hR.out.1.trans (q1.mono hR.out.1.size), f1⟩
      clear q1 f1 b0 b1 b2
      simp only [Nat.zero_add] at d0 e0 d1 e1 d2 e2
      go_wp2
      go_roundw
      case rel =>
        refine ⟨k + 1, by omega, by go_num, (((HF.out.1.setCell (Nat.le_refl _) _).setCell (Nat.le_refl _) _).setCell (Nat.le_refl _) _), ?_⟩
        have hq := (((HF.out.2.put0 (by omega)).put0 (by omega)).put0 (by omega))
        rwa [show k * 3 + 1 + 1 + 1 = (k + 1) * 3 by omega] at hq
      case measure => simp [intOf]; omega
    · obtain rfl : k = n := by omega
      go_wp2
      go_ret
      exact ⟨_, rfl, (hR.out.2.row (Nat.le_refl _) _).1, (hR.out.2.row (B := 0) (Nat.zero_le _) _).2, hR.out.1⟩
theorem toRangeS_any (v : Value) (B n : Nat) (F : Nat → Int) (w : World) (h : Row w B 3 n F v) (hn : n ≤ 1048576) :
    Calls Tryz.prog 55 #[v] w fun e w' => ∃ u, e = .returned u ∧ Row w' w.heap.size 3 n F u ∧ Free w' (n * 3) u ∧ Below w.heap.size w w' :=
  (toRangeS_cap v B n F w h hn).mono fun _ _ ⟨uo, h1, h2, h3, h4⟩ => ⟨.slice uo n n, h1, h2, h3, h4⟩
set_option maxHeartbeats 400000 in
theorem szRangeS_ok (a : Option Addr) (n c : Nat) (left : Int) (w : World) (h : (n : Int) ≤ left) (h2 : left ≤ 1048576) :
    Calls Tryz.prog 43 #[.slice a n c, .int .i64 left] w fun e w' => e = .returned (.int .i64 (left - n)) ∧ w' = w := by
  have d : decide (left - n < 0) = false := decide_eq_false (by omega)
  go_enter Tryz.func43, Tryz.ntmps43
  go_wp2
  go_ret
  exact ⟨rfl, rfl⟩
set_option maxHeartbeats 400000 in
theorem szRangeS_no (a : Option Addr) (n c : Nat) (left : Int) (w : World) (h : left < n) (h0 : 0 ≤ left) (h2 : left ≤ 1048576) (hn : n ≤ 9223372036854775807) :
    Calls Tryz.prog 43 #[.slice a n c, .int .i64 left] w fun e w' => e = .returned (.int .i64 (-1)) ∧ w' = w := by
  have d : decide (left - n < 0) = true := decide_eq_true (by omega)
  go_enter Tryz.func43, Tryz.ntmps43
  go_wp2
  go_ret
  exact ⟨rfl, rfl⟩

set_option maxHeartbeats 400000 in
theorem eqRange_same (x0 x1 x2 : Int) (w : World) :
    Calls Tryz.prog 105 #[.agg #[.int .i64 x0, .int .i64 x1, .int .i64 x2], .agg #[.int .i64 x0, .int .i64 x1, .int .i64 x2]] w fun e w' => e = .returned (.bool true) ∧ Below w.heap.size w w' := by
  go_enter Tryz.func105, Tryz.ntmps105
  go_wp2
  go_ret
  exact ⟨rfl, ((Below.refl _ _).alloc (Nat.le_refl _) _).alloc (by simp) _⟩
def TwoRange (w : World) (g o g' o' k : Nat) (F : Nat → Int) (x : World) : Prop := (x.cell? ⟨g, o + k * 3, none⟩ = some (.int .i64 (F (k * 3))) ∧ x.cell? ⟨g, o + k * 3 + 1, none⟩ = some (.int .i64 (F (k * 3 + 1))) ∧ x.cell? ⟨g, o + k * 3 + 2, none⟩ = some (.int .i64 (F (k * 3 + 2))) ∧ x.cell? ⟨g', o' + k * 3, none⟩ = some (.int .i64 (F (k * 3))) ∧ x.cell? ⟨g', o' + k * 3 + 1, none⟩ = some (.int .i64 (F (k * 3 + 1))) ∧ x.cell? ⟨g', o' + k * 3 + 2, none⟩ = some (.int .i64 (F (k * 3 + 2)))) ∧ Below w.heap.size w x
theorem TwoRange.later {w x x' : World} {g o g' o' k : Nat} {F : Nat → Int} (h : TwoRange w g o g' o' k F x) (hg : g < w.heap.size) (hg' : g' < w.heap.size) (hb : Below x.heap.size x x') : TwoRange w g o g' o' k F x' := by
  obtain ⟨⟨hx0, hx1, hx2, hx3, hx4, hx5⟩, hy⟩ := h
  exact ⟨⟨(hb.cell (Nat.lt_of_lt_of_le hg hy.size)).trans hx0, (hb.cell (Nat.lt_of_lt_of_le hg hy.size)).trans hx1, (hb.cell (Nat.lt_of_lt_of_le hg hy.size)).trans hx2, (hb.cell (Nat.lt_of_lt_of_le hg' hy.size)).trans hx3, (hb.cell (Nat.lt_of_lt_of_le hg' hy.size)).trans hx4, (hb.cell (Nat.lt_of_lt_of_le hg' hy.size)).trans hx5⟩, hy.trans (hb.mono hy.size)⟩
set_option maxRecDepth 100000 in
set_option maxHeartbeats 1000000 in
theorem eqRangeS_same (va vb : Value) (Ba Bb n : Nat) (F : Nat → Int) (w : World) (ha : Row w Ba 3 n F va) (hb : Row w Bb 3 n F vb) (hn : n ≤ 1048576) :
    Calls Tryz.prog 72 #[va, vb] w fun e w' => e = .returned (.bool true) ∧ Below w.heap.size w w' := by
  obtain ⟨ao, ca, rfl⟩ := ha.form
  obtain ⟨bo, cb, rfl⟩ := hb.form
  have HA : Hid (Row w Ba 3 n F (.slice ao n ca)) := ha
  have HB : Hid (Row w Bb 3 n F (.slice bo n cb)) := hb
  clear ha hb
  go_enter Tryz.func72, Tryz.ntmps72
  go_wp2
  go_loopw [5] (fun i wr => ∃ k : Nat, k ≤ n ∧ i = .int .i64 k ∧ Below w.heap.size w wr) (fun i _ => n - (intOf i).toNat)
  case atStart => exact ⟨0, Nat.zero_le _, rfl, Below.refl _ _⟩
  case round =>
    obtain ⟨k, hk, rfl, hbw⟩ := hrel
    by_cases hlt : k < n
    · obtain ⟨g, o, rfl, _, hg, c0, c1, c2⟩ := HA.out.at3 hlt
      obtain ⟨g', o', rfl, _, hg', d0, d1, d2⟩ := HB.out.at3 hlt
      have h0 : TwoRange w g o g' o' k F wr.drew := ⟨⟨(hbw.cell (p := ⟨g, o + k * 3, none⟩) hg).trans c0, (hbw.cell (p := ⟨g, o + k * 3 + 1, none⟩) hg).trans c1, (hbw.cell (p := ⟨g, o + k * 3 + 2, none⟩) hg).trans c2, (hbw.cell (p := ⟨g', o' + k * 3, none⟩) hg').trans d0, (hbw.cell (p := ⟨g', o' + k * 3 + 1, none⟩) hg').trans d1, (hbw.cell (p := ⟨g', o' + k * 3 + 2, none⟩) hg').trans d2⟩, hbw.drew⟩
      clear c0 d0 c1 d1 c2 d2 hbw
      go_wp2_with fail
      refine wp_region_held_drew (S := TwoRange w g o g' o' k F) (by kernel_rfl) h0 (fun hS => ?_)
      clear h0
      refine tkH 0 ?_ hS (fun wx hx => ?_) ?_; rotate_left
      · obtain ⟨⟨hx0, hx1, hx2, hx3, hx4, hx5⟩, _⟩ := hx; go_simp; try with_reducible rfl
      refine tkH 1 ?_ hS (fun wx hx => ?_) ?_; rotate_left
      · obtain ⟨⟨hx0, hx1, hx2, hx3, hx4, hx5⟩, _⟩ := hx; go_simp; try with_reducible rfl
      refine tkH 2 ?_ hS (fun wx hx => ?_) ?_; rotate_left
      · obtain ⟨⟨hx0, hx1, hx2, hx3, hx4, hx5⟩, _⟩ := hx; go_simp; try with_reducible rfl
      refine tkH 3 ?_ hS (fun wx hx => ?_) ?_; rotate_left
      · obtain ⟨⟨hx0, hx1, hx2, hx3, hx4, hx5⟩, _⟩ := hx; go_simp; try with_reducible rfl
      refine tkH 4 ?_ hS (fun wx hx => ?_) ?_; rotate_left
      · obtain ⟨⟨hx0, hx1, hx2, hx3, hx4, hx5⟩, _⟩ := hx; go_simp; try with_reducible rfl
      refine tkH 5 ?_ hS (fun wx hx => ?_) ?_; rotate_left
      · obtain ⟨⟨hx0, hx1, hx2, hx3, hx4, hx5⟩, _⟩ := hx; go_simp; try with_reducible rfl
      refine tkH 6 ?_ hS (fun wx hx => ?_) ?_; rotate_left
      · obtain ⟨⟨hx0, hx1, hx2, hx3, hx4, hx5⟩, _⟩ := hx; go_simp; try with_reducible rfl
      refine tkH 7 ?_ hS (fun wx hx => ?_) ?_; rotate_left
      · obtain ⟨⟨hx0, hx1, hx2, hx3, hx4, hx5⟩, _⟩ := hx; go_simp; try with_reducible rfl
      refine rdH 8 (fun K hK => ?_)
      go_simp
      go_wp2_with fail
      refine (eqRange_same _ _ _ _).mono ?_
      rintro e w' ⟨rfl, hb⟩
      go_wp2_with fail
      refine hK.out _ _ (hS.later hg hg' hb) (fun hS => ?_)
      clear hK K
      refine tkH 9 ?_ hS (fun wx hx => ?_) ?_; rotate_left
      · obtain ⟨⟨hx0, hx1, hx2, hx3, hx4, hx5⟩, _⟩ := hx; go_simp; try with_reducible rfl
      refine wpAnyH_done (by kernel_rfl) ?_ _
      go_simp
      go_wp2
      go_roundw
      case rel => exact ⟨k + 1, by omega, by go_num, hS.2⟩
      case measure => simp [intOf]; omega
    · go_wp2
      go_ret
      exact ⟨rfl, hbw⟩
end Go.Proofs.YtjkchhcnochjlaaGreatDoor

namespace Go.Proofs.YtjkchhcnochjlaaGreatDoor
open Go.RowKit

/-- A row of n stores from block B on: number i is S i, its lists are V i 0, V i 1, V i 2. -/
def Stos (w : World) (B n : Nat) (S : Nat → Sto) (V : Nat → Nat → Value) (v : Value) : Prop :=
  (∃ ao cp, v = .slice ao n cp ∧ (0 < n → ∃ g o, ao = some ⟨g, o, none⟩ ∧ B ≤ g ∧ g < w.heap.size ∧ ∀ i, i < n → w.cell? ⟨g, o + i * 3, none⟩ = some (V i 0) ∧ w.cell? ⟨g, o + i * 3 + 1, none⟩ = some (V i 1) ∧ w.cell? ⟨g, o + i * 3 + 2, none⟩ = some (V i 2))) ∧ ∀ i, i < n → St w B (S i) (V i 0) (V i 1) (V i 2)
theorem Stos.form {w : World} {B n : Nat} {S : Nat → Sto} {V : Nat → Nat → Value} {v : Value} (h : Stos w B n S V v) : ∃ ao cp, v = .slice ao n cp := by
  obtain ⟨⟨ao, cp, rfl, _⟩, _⟩ := h; exact ⟨ao, cp, rfl⟩
theorem Stos.later {w w' : World} {B n : Nat} {S : Nat → Sto} {V : Nat → Nat → Value} {v : Value} (h : Stos w B n S V v) (hb : Below w.heap.size w w') : Stos w' B n S V v := by
  obtain ⟨⟨ao, cp, rfl, h1⟩, h2⟩ := h
  refine ⟨⟨ao, cp, rfl, fun hn => ?_⟩, fun i hi => (h2 i hi).later hb⟩
  obtain ⟨g, o, rfl, hB, hg, hc⟩ := h1 hn
  refine ⟨g, o, rfl, hB, Nat.lt_of_lt_of_le hg hb.size, fun i hi => ?_⟩
  obtain ⟨c0, c1, c2⟩ := hc i hi
  exact ⟨(hb.cell (p := ⟨g, o + i * 3, none⟩) hg).trans c0, (hb.cell (p := ⟨g, o + i * 3 + 1, none⟩) hg).trans c1, (hb.cell (p := ⟨g, o + i * 3 + 2, none⟩) hg).trans c2⟩
theorem Stos.alloc {w : World} {B n : Nat} {S : Nat → Sto} {V : Nat → Nat → Value} {v : Value} (h : Stos w B n S V v) (o : Obj) : Stos (w.alloc o) B n S V v := h.later (below_alloc _ _)
theorem Stos.mono {w : World} {B B' n : Nat} {S : Nat → Sto} {V : Nat → Nat → Value} {v : Value} (h : Stos w B n S V v) (hB : B' ≤ B) : Stos w B' n S V v := by
  obtain ⟨⟨ao, cp, rfl, h1⟩, h2⟩ := h
  refine ⟨⟨ao, cp, rfl, fun hn => ?_⟩, fun i hi => (h2 i hi).mono hB⟩
  obtain ⟨g, o, rfl, hb, hg, hc⟩ := h1 hn
  exact ⟨g, o, rfl, by omega, hg, hc⟩
theorem Stos.at {w : World} {B n : Nat} {S : Nat → Sto} {V : Nat → Nat → Value} {ao : Option Addr} {cp : Nat} (h : Stos w B n S V (.slice ao n cp)) {i : Nat} (hi : i < n) :
    ∃ g o, ao = some ⟨g, o, none⟩ ∧ B ≤ g ∧ g < w.heap.size ∧ (w.cell? ⟨g, o + i * 3, none⟩ = some (V i 0) ∧ w.cell? ⟨g, o + i * 3 + 1, none⟩ = some (V i 1) ∧ w.cell? ⟨g, o + i * 3 + 2, none⟩ = some (V i 2)) ∧ St w B (S i) (V i 0) (V i 1) (V i 2) := by
  obtain ⟨⟨ao', cp', hv, h1⟩, h2⟩ := h
  simp only [Value.slice.injEq] at hv
  obtain ⟨rfl, _, rfl⟩ := hv
  obtain ⟨g, o, ha, hB, hg, hc⟩ := h1 (by omega)
  exact ⟨g, o, ha, hB, hg, hc i hi, h2 i hi⟩
theorem Stos.far {w : World} {B n : Nat} {S : Nat → Sto} {V : Nat → Nat → Value} {v : Value} (h : Stos w B n S V v) {a : Addr} (ha : a.block < B) (u : Value) : Stos (w.setCell a u) B n S V v := by
  obtain ⟨⟨ao, cp, rfl, h1⟩, h2⟩ := h
  refine ⟨⟨ao, cp, rfl, fun hn => ?_⟩, fun i hi => (h2 i hi).far ha u⟩
  obtain ⟨g, o, rfl, hB, hg, hc⟩ := h1 hn
  have hk : ∀ p, (w.setCell a u).cell? ⟨g, p, none⟩ = w.cell? ⟨g, p, none⟩ := fun p => World.cell?_of_block (Below.heap_setCell w a u g (by omega))
  refine ⟨g, o, rfl, hB, by simpa [World.setCell] using hg, fun i hi => ?_⟩
  obtain ⟨c0, c1, c2⟩ := hc i hi
  exact ⟨(hk _).trans c0, (hk _).trans c1, (hk _).trans c2⟩

/-- The stores' own lists: each may be written, and they lie one behind the other: those of number i from block z i on, below z (i + 1). -/
def Fine (w : World) (z : Nat → Nat) (n : Nat) (S : Nat → Sto) (U : Nat → Nat → Value) : Prop :=
  ∀ i, i < n → (St w (z i) (S i) (U i 0) (U i 1) (U i 2) ∧ FreeS w (S i) (U i 0) (U i 1) (U i 2) ∧ ApartD (S i) (U i 0) (U i 1) (U i 2)) ∧ OwnIn (S i) (U i 0) (U i 1) (U i 2) (fun k => z i ≤ k ∧ k < z (i + 1)) ∧ z i ≤ z (i + 1)
theorem Fine.later {w w' : World} {z : Nat → Nat} {n : Nat} {S : Nat → Sto} {U : Nat → Nat → Value} (h : Fine w z n S U) (hb : Below w.heap.size w w') : Fine w' z n S U := fun i hi => by
  obtain ⟨⟨h1, h2, h3⟩, h4⟩ := h i hi
  exact ⟨⟨h1.later hb, h2.later h1 hb, h3⟩, h4⟩
theorem Fine.far {w : World} {z : Nat → Nat} {n : Nat} {S : Nat → Sto} {U : Nat → Nat → Value} (h : Fine w z n S U) {a : Addr} (ha : ∀ i, i < n → a.block < z i) (u : Value) : Fine (w.setCell a u) z n S U := fun i hi => by
  obtain ⟨⟨h1, h2, h3⟩, h4⟩ := h i hi
  exact ⟨⟨h1.far (ha i hi) u, h2.far _ _, h3⟩, h4⟩

/-- A block of stores that is filled: of its n stores the first k are laid. -/
def FillS (w : World) (g n k : Nat) (U : Nat → Nat → Value) : Prop :=
  g < w.heap.size ∧ (∀ p, p < n * 3 → (∃ u, w.cell? ⟨g, p, none⟩ = some u) ∧ w.frozen? ⟨g, p, none⟩ = false) ∧ ∀ i, i < k → w.cell? ⟨g, i * 3, none⟩ = some (U i 0) ∧ w.cell? ⟨g, i * 3 + 1, none⟩ = some (U i 1) ∧ w.cell? ⟨g, i * 3 + 2, none⟩ = some (U i 2)
theorem FillS.later {w w' : World} {g n k : Nat} {U : Nat → Nat → Value} (h : FillS w g n k U) (hb : Below w.heap.size w w') : FillS w' g n k U := by
  obtain ⟨h1, h2, h3⟩ := h
  refine ⟨Nat.lt_of_lt_of_le h1 hb.size, fun p hp => ⟨?_, (hb.frozen (p := ⟨g, p, none⟩) h1).trans (h2 p hp).2⟩, fun i hi => ?_⟩
  · obtain ⟨u, hu⟩ := (h2 p hp).1
    exact ⟨u, (hb.cell (p := ⟨g, p, none⟩) h1).trans hu⟩
  · obtain ⟨c0, c1, c2⟩ := h3 i hi
    exact ⟨(hb.cell (p := ⟨g, i * 3, none⟩) h1).trans c0, (hb.cell (p := ⟨g, i * 3 + 1, none⟩) h1).trans c1, (hb.cell (p := ⟨g, i * 3 + 2, none⟩) h1).trans c2⟩
theorem FillS.at {w : World} {g n k : Nat} {U : Nat → Nat → Value} (h : FillS w g n k U) {p : Nat} (hp : p < n * 3) : ∃ u, w.cell? ⟨g, p, none⟩ = some u ∧ w.frozen? ⟨g, p, none⟩ = false := by
  obtain ⟨⟨u, hu⟩, hf⟩ := h.2.1 p hp
  exact ⟨u, hu, hf⟩
theorem FillS.made (w : World) (z : Array Value) (n : Nat) (e : TypeId) (U : Nat → Nat → Value) : FillS (w.alloc (.cells (madeCells z (n * 3)) e)) w.heap.size n 0 U := by
  refine ⟨by simp, fun p hp => ⟨⟨(madeCells z (n * 3))[p]'(by rw [size_madeCells]; exact hp), ?_⟩, by simp⟩, fun p hp => absurd hp (Nat.not_lt_zero p)⟩
  rw [World.cell?_alloc_mark]
  simp
/-- The lists of a further store. -/
def putU (U : Nat → Nat → Value) (k : Nat) (u0 u1 u2 : Value) (i j : Nat) : Value := if i = k then (if j = 0 then u0 else if j = 1 then u1 else u2) else U i j
theorem FillS.put {w : World} {g n k : Nat} {U : Nat → Nat → Value} (h : FillS w g n k U) (hk : k < n) (u0 u1 u2 : Value) : FillS (((w.setCell ⟨g, k * 3, none⟩ u0).setCell ⟨g, k * 3 + 1, none⟩ u1).setCell ⟨g, k * 3 + 2, none⟩ u2) g n (k + 1) (putU U k u0 u1 u2) := by
  obtain ⟨h1, h2, h3⟩ := h
  obtain ⟨⟨a0, b0⟩, _⟩ := h2 (k * 3) (by omega)
  obtain ⟨⟨a1, b1⟩, _⟩ := h2 (k * 3 + 1) (by omega)
  obtain ⟨⟨a2, b2⟩, _⟩ := h2 (k * 3 + 2) (by omega)
  have c1 : (w.setCell ⟨g, k * 3, none⟩ u0).cell? ⟨g, k * 3 + 1, none⟩ = some a1 := (World.cell?_setCell_other _ _ _ _ (by intro q; simp at q)).trans b1
  have c2 : ((w.setCell ⟨g, k * 3, none⟩ u0).setCell ⟨g, k * 3 + 1, none⟩ u1).cell? ⟨g, k * 3 + 2, none⟩ = some a2 := (World.cell?_setCell_other _ _ _ _ (by intro q; simp at q)).trans ((World.cell?_setCell_other _ _ _ _ (by intro q; simp at q)).trans b2)
  have other : ∀ p, p ≠ k * 3 → p ≠ k * 3 + 1 → p ≠ k * 3 + 2 → (((w.setCell ⟨g, k * 3, none⟩ u0).setCell ⟨g, k * 3 + 1, none⟩ u1).setCell ⟨g, k * 3 + 2, none⟩ u2).cell? ⟨g, p, none⟩ = w.cell? ⟨g, p, none⟩ := fun p q0 q1 q2 =>
    (World.cell?_setCell_other _ _ _ _ (by intro q; simp at q; try omega)).trans ((World.cell?_setCell_other _ _ _ _ (by intro q; simp at q; try omega)).trans (World.cell?_setCell_other _ _ _ _ (by intro q; simp at q; try omega)))
  have s0 : (((w.setCell ⟨g, k * 3, none⟩ u0).setCell ⟨g, k * 3 + 1, none⟩ u1).setCell ⟨g, k * 3 + 2, none⟩ u2).cell? ⟨g, k * 3, none⟩ = some u0 := (World.cell?_setCell_other _ _ _ _ (by intro q; simp at q)).trans ((World.cell?_setCell_other _ _ _ _ (by intro q; simp at q)).trans (World.cell?_setCell_same _ _ _ b0))
  have s1 : (((w.setCell ⟨g, k * 3, none⟩ u0).setCell ⟨g, k * 3 + 1, none⟩ u1).setCell ⟨g, k * 3 + 2, none⟩ u2).cell? ⟨g, k * 3 + 1, none⟩ = some u1 := (World.cell?_setCell_other _ _ _ _ (by intro q; simp at q)).trans (World.cell?_setCell_same _ _ _ c1)
  have s2 : (((w.setCell ⟨g, k * 3, none⟩ u0).setCell ⟨g, k * 3 + 1, none⟩ u1).setCell ⟨g, k * 3 + 2, none⟩ u2).cell? ⟨g, k * 3 + 2, none⟩ = some u2 := World.cell?_setCell_same _ _ _ c2
  refine ⟨by simpa [World.setCell] using h1, fun p hp => ⟨?_, by simp only [World.frozen?_setCell]; exact (h2 p hp).2⟩, fun i hi => ?_⟩
  · by_cases q0 : p = k * 3
    · subst q0; exact ⟨_, s0⟩
    by_cases q1 : p = k * 3 + 1
    · subst q1; exact ⟨_, s1⟩
    by_cases q2 : p = k * 3 + 2
    · subst q2; exact ⟨_, s2⟩
    obtain ⟨u, hu⟩ := (h2 p hp).1
    exact ⟨u, (other p q0 q1 q2).trans hu⟩
  · unfold putU
    by_cases q : i = k
    · subst q
      simp only [if_true]
      exact ⟨s0, s1, s2⟩
    · rw [if_neg q, if_neg q, if_neg q]
      obtain ⟨d0, d1, d2⟩ := h3 i (by omega)
      exact ⟨(other _ (by omega) (by omega) (by omega)).trans d0, (other _ (by omega) (by omega) (by omega)).trans d1, (other _ (by omega) (by omega) (by omega)).trans d2⟩
theorem Fine.put {w : World} {z : Nat → Nat} {k : Nat} {S : Nat → Sto} {U : Nat → Nat → Value} (h : Fine w z k S U) {u0 u1 u2 : Value} {a b : Nat} (hz : z k = a) (hs : St w a (S k) u0 u1 u2 ∧ FreeS w (S k) u0 u1 u2 ∧ ApartD (S k) u0 u1 u2) (ho : OwnIn (S k) u0 u1 u2 (fun q => a ≤ q ∧ q < b)) (hab : a ≤ b) : Fine w (fun i => if i = k + 1 then b else z i) (k + 1) S (putU U k u0 u1 u2) := fun i hi => by
  by_cases q : i = k
  · subst q
    simp only [putU, if_true, if_neg (show ¬ (i = i + 1) by omega), hz]
    exact ⟨hs, ho, hab⟩
  · have := h i (by omega)
    simp only [putU, if_neg q, if_neg (show ¬ (i = k + 1) by omega), if_neg (show ¬ (i + 1 = k + 1) by omega)]
    exact this

theorem info_Store : (Tryz.prog.info? 126).map (fun i => (i.zero, i.size, i.bytes)) = some (some (.agg #[.slice none 0 0, .slice none 0 0, .slice none 0 0]), 3, 72) := by kernel_rfl
/-- What toStoreS answers. -/
def MadeS (w : World) (n : Nat) (S : Nat → Sto) (e : Ending) (w' : World) : Prop :=
  ∃ g U z, e = .returned (.slice (some ⟨g, 0, none⟩) n n) ∧ (w.heap.size ≤ g ∧ g < w'.heap.size) ∧ FillS w' g n n U ∧ (Fine w' z n S U ∧ z 0 = g + 1 ∧ (∀ i, i ≤ n → g < z i) ∧ z n ≤ w'.heap.size) ∧ Below w.heap.size w w'
theorem MadeS.stos {w' : World} {n : Nat} {S : Nat → Sto} {g B : Nat} {U : Nat → Nat → Value} {z : Nat → Nat} (hB : B ≤ g) (h : FillS w' g n n U) (hf : Fine w' z n S U) (hz : ∀ i, i ≤ n → g < z i) : Stos w' B n S U (.slice (some ⟨g, 0, none⟩) n n) :=
  ⟨⟨_, _, rfl, fun _ => ⟨g, 0, rfl, hB, h.1, fun i hi => by
    obtain ⟨c0, c1, c2⟩ := h.2.2 i hi
    simp only [Nat.zero_add]
    exact ⟨c0, c1, c2⟩⟩⟩, fun i hi => (hf i hi).1.1.mono (by have := hz i (by omega); omega)⟩
set_option maxRecDepth 10000 in
set_option maxHeartbeats 2000000 in
theorem toStoreS_any (n : Nat) (S : Nat → Sto) (V : Nat → Nat → Value) (v : Value) (B : Nat) (w : World) (h : Stos w B n S V v) (hn : n ≤ 1048576) (hs : ∀ i, i < n → (S i).nc ≤ 1048576 ∧ (S i).nl ≤ 1048576 ∧ (S i).nw ≤ 1048576) :
    Calls Tryz.prog 56 #[v] w (MadeS w n S) := by
  obtain ⟨ao, cp, rfl⟩ := h.form
  have H : Hid (Stos w B n S V (.slice ao n cp)) := h
  have HN : Hid (∀ i, i < n → (S i).nc ≤ 1048576 ∧ (S i).nl ≤ 1048576 ∧ (S i).nw ≤ 1048576) := hs
  clear h hs
  have hmk := make_row Tryz.underlying40 info_Store n (by omega) (by omega)
  go_enter Tryz.func56, Tryz.ntmps56
  go_wp2
  go_loopw [4] (fun i wr => ∃ k : Nat, k ≤ n ∧ i = .int .i64 k ∧ Hid (Below w.heap.size w wr ∧ ∃ U z, FillS wr w.heap.size n k U ∧ Fine wr z k S U ∧ z 0 = w.heap.size + 1 ∧ (∀ i, i ≤ k → w.heap.size < z i) ∧ z k ≤ wr.heap.size)) (fun i _ => n - (intOf i).toNat)
  case atStart => exact ⟨0, Nat.zero_le _, rfl, below_alloc _ _, fun _ _ => .bool true, fun _ => w.heap.size + 1, FillS.made _ _ _ _ _, fun i hi => absurd hi (Nat.not_lt_zero i), rfl, fun _ _ => Nat.lt_succ_self _, by simp⟩
  case round =>
    obtain ⟨k, hk, rfl, hR⟩ := hrel
    by_cases hlt : k < n
    · obtain ⟨g, o, rfl, _, hg, ⟨c0, c1, c2⟩, sk⟩ := H.out.at hlt
      have b0 := hR.out.1.cell (p := ⟨g, o + k * 3, none⟩) hg
      rw [c0] at b0
      have b1 := hR.out.1.cell (p := ⟨g, o + k * 3 + 1, none⟩) hg
      rw [c1] at b1
      have b2 := hR.out.1.cell (p := ⟨g, o + k * 3 + 2, none⟩) hg
      rw [c2] at b2
      clear c0 c1 c2
      obtain ⟨a0, d0, a1, d1, a2, d2, e0, e1, e2⟩ := sk.form
      rw [e0] at b0
      rw [e1] at b1
      rw [e2] at b2
      have SK : Hid (St wr B (S k) (.slice a0 (S k).nc d0) (.slice a1 (S k).nl d1) (.slice a2 (S k).nw d2)) := by
        rw [e0, e1, e2] at sk
        exact sk.later hR.out.1
      clear sk e0 e1 e2
      have hN := HN.out k hlt
      obtain ⟨n0, hn0⟩ : ∃ x, (S k).nc = x := ⟨_, rfl⟩
      obtain ⟨n1, hn1⟩ : ∃ x, (S k).nl = x := ⟨_, rfl⟩
      obtain ⟨n2, hn2⟩ : ∃ x, (S k).nw = x := ⟨_, rfl⟩
      rw [hn0] at b0
      rw [hn1] at b1
      rw [hn2] at b2
      have SK' : Hid (St wr B (S k) (.slice a0 n0 d0) (.slice a1 n1 d1) (.slice a2 n2 d2)) := by rw [← hn0, ← hn1, ← hn2]; exact SK.out
      have hN' : Hid ((S k).nc ≤ 1048576 ∧ (S k).nl ≤ 1048576 ∧ (S k).nw ≤ 1048576) := hN
      clear hN SK hn0 hn1 hn2
      go_wp2_with fail
      refine (toStore_any (S k) _ _ _ B _ SK'.out hN'.out.1 hN'.out.2.1 hN'.out.2.2).mono ?_
      rintro e w1 ⟨u0, u1, u2, rfl, s1, ⟨f1, a1'⟩, q1⟩
      obtain ⟨i0, j0, i1, j1, i2, j2, rfl, rfl, rfl⟩ := s1.form
      obtain ⟨U, z, F, hf, hz0, hz, hzk⟩ := hR.out.2
      have HF : Hid (((Below w.heap.size w w1 ∧ FillS w1 w.heap.size n k U) ∧ Fine w1 z k S U ∧ z 0 = w.heap.size + 1 ∧ (∀ i, i ≤ k → w.heap.size < z i) ∧ z k ≤ wr.heap.size) ∧ (St w1 wr.heap.size (S k) (.slice i0 (S k).nc j0) (.slice i1 (S k).nl j1) (.slice i2 (S k).nw j2) ∧ FreeS w1 (S k) (.slice i0 (S k).nc j0) (.slice i1 (S k).nl j1) (.slice i2 (S k).nw j2) ∧ ApartD (S k) (.slice i0 (S k).nc j0) (.slice i1 (S k).nl j1) (.slice i2 (S k).nw j2)) ∧ wr.heap.size ≤ w1.heap.size) := ⟨⟨⟨hR.out.1.trans (q1.mono hR.out.1.size), F.later q1⟩, hf.later q1, hz0, hz, hzk⟩, ⟨s1, f1, a1'.d s1⟩, q1.size⟩
      obtain ⟨x0, y0, z0⟩ := HF.out.1.1.2.at (p := k * 3) (by omega)
      obtain ⟨x1, y1, z1⟩ := HF.out.1.1.2.at (p := k * 3 + 1) (by omega)
      obtain ⟨x2, y2, z2⟩ := HF.out.1.1.2.at (p := k * 3 + 2) (by omega)
      clear q1 F hf hz0 hz hzk s1 f1 a1' b0 b1 b2 hR
      go_wp2
      go_roundw
      case rel =>
        obtain ⟨⟨⟨hB, hF⟩, hf, hz0, hz, hzk⟩, ⟨s1, f1, a1'⟩, hsz⟩ := HF.out
        refine ⟨k + 1, by omega, by go_num, ((hB.setCell (Nat.le_refl _) _).setCell (Nat.le_refl _) _).setCell (Nat.le_refl _) _, putU U k (.slice i0 (S k).nc j0) (.slice i1 (S k).nl j1) (.slice i2 (S k).nw j2), fun i => if i = k + 1 then w1.heap.size else z i, hF.put hlt (.slice i0 (S k).nc j0) (.slice i1 (S k).nl j1) (.slice i2 (S k).nw j2), ?_, ?_, ?_, ?_⟩
        · have h1 : Fine w1 (fun i => if i = k + 1 then w1.heap.size else z i) (k + 1) S (putU U k (.slice i0 (S k).nc j0) (.slice i1 (S k).nl j1) (.slice i2 (S k).nw j2)) := hf.put rfl ⟨s1.mono hzk, f1, a1'⟩ (s1.ownIn.mono (fun q hq => ⟨Nat.le_trans hzk hq.1, hq.2⟩)) (Nat.le_trans hzk hsz)
          have hlo : ∀ i, i < k + 1 → w.heap.size < (if i = k + 1 then w1.heap.size else z i) := fun i hi => by rw [if_neg (by omega)]; exact hz i (by omega)
          exact ((h1.far hlo _).far hlo _).far hlo _
        · show (if 0 = k + 1 then w1.heap.size else z 0) = _
          rw [if_neg (by omega)]; exact hz0
        · intro i hi
          show w.heap.size < (if i = k + 1 then w1.heap.size else z i)
          by_cases q : i = k + 1
          · rw [if_pos q]; have := hF.1; omega
          · rw [if_neg q]; exact hz i (by omega)
        · show (if k + 1 = k + 1 then w1.heap.size else z (k + 1)) ≤ _
          rw [if_pos rfl]; simp [World.setCell]
      case measure => simp [intOf]; omega
    · obtain rfl : k = n := by omega
      go_wp2
      go_ret
      obtain ⟨hB, U, z, F, hf, hz0, hz, hzk⟩ := hR.out
      exact ⟨w.heap.size, U, z, rfl, ⟨Nat.le_refl _, F.1⟩, F, ⟨hf, hz0, hz, hzk⟩, hB⟩
end Go.Proofs.YtjkchhcnochjlaaGreatDoor

namespace Go.Proofs.YtjkchhcnochjlaaGreatDoor
open Go.RowKit

theorem fl_back_fin : ∀ n : Fin 200, floatToIntVal .f64 (floatOfInt .f64 (n.val : Int)) .i64 = some (n.val : Int) := by decide +kernel
theorem fl_back (n : Int) (h0 : 0 ≤ n) (h1 : n ≤ 199) : floatToIntVal .f64 (floatOfInt .f64 n) .i64 = some n := by
  have := fl_back_fin ⟨n.toNat, by omega⟩
  simpa [Int.toNat_of_nonneg h0] using this
/-- A small number comes back out of its float. -/
theorem run_to_int (n : Int) (h0 : 0 ≤ n) (h1 : n ≤ 199) (w : World) : (convert 300 2 (.float .f64 (floatOfInt .f64 n))).run Tryz.prog w = .ok (.int .i64 n) w :=
  run_convert_float_int w _ _ _ _ _ _ (by rw [Tryz.underlying300]; rfl) Tryz.underlying2 (fl_back n h0 h1)

/-- What is told of a key: 0 it stands for something, 1 for nothing, 3 it leaves its bounds. -/
def faultOf (key : Int) : Int :=
  if key < 0 ∨ 199 < key then 3
  else if key = 0 ∨ (10 ≤ key ∧ key ≤ 19) ∨ (180 ≤ key ∧ key ≤ 189) ∨ (20 ≤ key ∧ key ≤ 119 ∧ key % 10 ≤ 5) then 0 else 1
theorem faultOf_range {key : Int} (h : key < 0 ∨ 199 < key) : faultOf key = 3 := by unfold faultOf; rw [if_pos h]
theorem faultOf_ok {key : Int} (h : key = 0 ∨ (10 ≤ key ∧ key ≤ 19) ∨ (180 ≤ key ∧ key ≤ 189) ∨ (20 ≤ key ∧ key ≤ 119 ∧ key % 10 ≤ 5)) : faultOf key = 0 := by
  unfold faultOf; rw [if_neg (by omega), if_pos h]
theorem faultOf_form {key : Int} (h0 : 0 ≤ key) (h1 : key ≤ 199) (h : ¬ (key = 0 ∨ (10 ≤ key ∧ key ≤ 19) ∨ (180 ≤ key ∧ key ≤ 189) ∨ (20 ≤ key ∧ key ≤ 119 ∧ key % 10 ≤ 5))) : faultOf key = 1 := by
  unfold faultOf; rw [if_neg (by omega), if_neg h]
set_option maxHeartbeats 400000 in
theorem l1Fault_any (key : Int) (w : World) :
    Calls Tryz.prog 118 #[.int .i64 key] w fun e w' => e = .returned (.int .i64 (faultOf key)) ∧ w' = w := by
  by_cases hlo : key < 0
  · rw [faultOf_range (Or.inl hlo)]
    go_enter Tryz.func118, Tryz.ntmps118
    go_wp2
    go_ret
    exact ⟨rfl, rfl⟩
  by_cases hhi : 199 < key
  · rw [faultOf_range (Or.inr hhi)]
    have d1 : decide (key ≤ 199) = false := decide_eq_false (by omega)
    go_enter Tryz.func118, Tryz.ntmps118
    go_wp2
    go_ret
    exact ⟨rfl, rfl⟩
  have d1 : decide (key ≤ 199) = true := decide_eq_true (by omega)
  by_cases hz : key = 0
  · subst hz
    rw [faultOf_ok (Or.inl rfl)]
    go_enter Tryz.func118, Tryz.ntmps118
    go_wp2
    go_ret
    exact ⟨rfl, rfl⟩
  have d0 : (key == 0) = false := beq_eq_false_iff_ne.2 hz
  by_cases h9 : key < 10
  · rw [faultOf_form (by omega) (by omega) (by omega)]
    go_enter Tryz.func118, Tryz.ntmps118
    go_wp2
    go_ret
    exact ⟨rfl, rfl⟩
  by_cases h19 : key < 20
  · rw [faultOf_ok (by omega)]
    have d2 : decide (key ≤ 19) = true := decide_eq_true (by omega)
    go_enter Tryz.func118, Tryz.ntmps118
    go_wp2
    go_ret
    exact ⟨rfl, rfl⟩
  have d2 : decide (key ≤ 19) = false := decide_eq_false (by omega)
  by_cases h119 : key < 120
  · have d4 : decide (key ≤ 119) = true := decide_eq_true (by omega)
    by_cases h5 : key % 10 ≤ 5
    · rw [faultOf_ok (by omega)]
      have d5 : decide (key % 10 ≤ 5) = true := decide_eq_true h5
      go_enter Tryz.func118, Tryz.ntmps118
      go_wp2
      go_ret
      exact ⟨rfl, rfl⟩
    · rw [faultOf_form (by omega) (by omega) (by omega)]
      have d5 : decide (key % 10 ≤ 5) = false := decide_eq_false h5
      go_enter Tryz.func118, Tryz.ntmps118
      go_wp2
      go_ret
      exact ⟨rfl, rfl⟩
  have d4 : decide (key ≤ 119) = false := decide_eq_false (by omega)
  by_cases h179 : key < 180
  · rw [faultOf_form (by omega) (by omega) (by omega)]
    go_enter Tryz.func118, Tryz.ntmps118
    go_wp2
    go_ret
    exact ⟨rfl, rfl⟩
  by_cases h189 : key < 190
  · rw [faultOf_ok (by omega)]
    have d6 : decide (key ≤ 189) = true := decide_eq_true (by omega)
    go_enter Tryz.func118, Tryz.ntmps118
    go_wp2
    go_ret
    exact ⟨rfl, rfl⟩
  have d6 : decide (key ≤ 189) = false := decide_eq_false (by omega)
  rw [faultOf_form (by omega) (by omega) (by omega)]
  go_enter Tryz.func118, Tryz.ntmps118
  go_wp2
  go_ret
  exact ⟨rfl, rfl⟩
end Go.Proofs.YtjkchhcnochjlaaGreatDoor

namespace Go.Proofs.YtjkchhcnochjlaaGreatDoor
open Go.RowKit

/-- Of g 0, g 1 .. below n the first that is not 0; 0 where there is none. -/
def scan (g : Nat → Int) : Nat → Int
  | 0 => 0
  | n + 1 => if scan g n = 0 then g n else scan g n
theorem scan_go {g : Nat → Int} {k : Nat} (h : scan g k = 0) (h2 : g k = 0) : scan g (k + 1) = 0 := by rw [scan, if_pos h, h2]
theorem scan_stop {g : Nat → Int} {k : Nat} (h : scan g k = 0) (h2 : g k ≠ 0) : ∀ {n : Nat}, k < n → scan g n = g k
  | 0, hn => by omega
  | n + 1, hn => by
    rcases Nat.lt_or_ge k n with h3 | h3
    · have := scan_stop h h2 h3
      rw [scan, this, if_neg h2]
    · obtain rfl : k = n := by omega
      rw [scan, if_pos h]

def cellF (c : Nat → Int) (i : Nat) : Int :=
  if faultOf (c (i * 3)) ≠ 0 then faultOf (c (i * 3))
  else if ¬ (1 ≤ c (i * 3 + 1) ∧ c (i * 3 + 1) ≤ 100000 ∧ 0 ≤ c (i * 3 + 2) ∧ c (i * 3 + 2) ≤ 9999) then 3
  else if 0 < i ∧ ¬ (c ((i - 1) * 3) < c (i * 3) ∨ c ((i - 1) * 3) = c (i * 3) ∧ c ((i - 1) * 3 + 1) < c (i * 3 + 1)) then 1 else 0
def lockF (l : Nat → Int) (i : Nat) : Int :=
  if faultOf (l (i * 5)) ≠ 0 then faultOf (l (i * 5))
  else if faultOf (l (i * 5 + 3)) ≠ 0 then faultOf (l (i * 5 + 3))
  else if ¬ (1 ≤ l (i * 5 + 1) ∧ l (i * 5 + 1) ≤ 100000 ∧ 1 ≤ l (i * 5 + 2) ∧ l (i * 5 + 2) ≤ 3 ∧ 0 ≤ l (i * 5 + 4) ∧ l (i * 5 + 4) ≤ 100000) then 3
  else if 0 < i ∧ ¬ (l ((i - 1) * 5) < l (i * 5)) then 1 else 0
def fits (k : Nat → Int) (i : Nat) : Prop := (k (i * 4 + 3) = 4 → k (i * 4 + 1) = k (i * 4 + 2)) ∧ (k (i * 4 + 3) ≠ 4 → k (i * 4 + 2) < k (i * 4 + 1))
instance (k : Nat → Int) (i : Nat) : Decidable (fits k i) := by unfold fits; exact inferInstance
def writeF (k : Nat → Int) (i : Nat) : Int :=
  if faultOf (k (i * 4)) ≠ 0 then faultOf (k (i * 4))
  else if ¬ (1 ≤ k (i * 4 + 1) ∧ k (i * 4 + 1) ≤ 100000 ∧ 1 ≤ k (i * 4 + 2) ∧ k (i * 4 + 2) ≤ 100000 ∧ 1 ≤ k (i * 4 + 3) ∧ k (i * 4 + 3) ≤ 4) then 3
  else if (0 < i ∧ ¬ (k ((i - 1) * 4) < k (i * 4) ∨ k ((i - 1) * 4) = k (i * 4) ∧ k ((i - 1) * 4 + 1) < k (i * 4 + 1))) ∨ ¬ fits k i then 1 else 0
/-- Cell i is of this key and start; write i is. -/
def cellIs (c : Nat → Int) (a b : Int) (i : Nat) : Prop := c (i * 3) = a ∧ c (i * 3 + 1) = b
def writeIs (k : Nat → Int) (a b : Int) (i : Nat) : Prop := k (i * 4) = a ∧ k (i * 4 + 2) = b
instance (c : Nat → Int) (a b : Int) (i : Nat) : Decidable (cellIs c a b i) := by unfold cellIs; exact inferInstance
instance (c : Nat → Int) (a b : Int) (i : Nat) : Decidable (writeIs c a b i) := by unfold writeIs; exact inferInstance
def hasCell (S : Sto) (n : Nat) (a b : Int) : Prop := ∃ i, i < n ∧ cellIs S.c a b i
def hasWrite (S : Sto) (n : Nat) (a b : Int) : Prop := ∃ i, i < n ∧ writeIs S.k a b i
def putW (S : Sto) (i : Nat) : Prop := S.k (i * 4 + 3) = 1 → hasCell S S.nc (S.k (i * 4)) (S.k (i * 4 + 2))
def putL (S : Sto) (i : Nat) : Prop := S.l (i * 5 + 2) = 1 → hasCell S S.nc (S.l (i * 5)) (S.l (i * 5 + 1))
def onceW (S : Sto) (i : Nat) : Prop := ¬ hasWrite S i (S.k (i * 4)) (S.k (i * 4 + 2))
def onceL (S : Sto) (i : Nat) : Prop := ¬ hasWrite S S.nw (S.l (i * 5)) (S.l (i * 5 + 1))
def needs (S : Sto) : Prop := (∀ i, i < S.nw → putW S i) ∧ ∀ i, i < S.nl → putL S i
def once (S : Sto) : Prop := (∀ i, i < S.nw → onceW S i) ∧ ∀ i, i < S.nl → onceL S i
open Classical in
noncomputable def storeF (S : Sto) : Int :=
  if 200 < S.nc ∨ 200 < S.nl ∨ 200 < S.nw then 2
  else if scan (cellF S.c) S.nc ≠ 0 then scan (cellF S.c) S.nc
  else if scan (lockF S.l) S.nl ≠ 0 then scan (lockF S.l) S.nl
  else if scan (writeF S.k) S.nw ≠ 0 then scan (writeF S.k) S.nw
  else if ¬ needs S then 4 else if ¬ once S then 6 else 0
end Go.Proofs.YtjkchhcnochjlaaGreatDoor

namespace Go.Proofs.YtjkchhcnochjlaaGreatDoor
open Go.RowKit

/-- From place oo of block b on lies a store: its three lists, and all their numbers. -/
def LiesO (w : World) (b oo : Nat) (S : Sto) (v0 v1 v2 : Value) : Prop := (w.cell? ⟨b, oo, none⟩ = some v0 ∧ w.cell? ⟨b, oo + 1, none⟩ = some v1 ∧ w.cell? ⟨b, oo + 2, none⟩ = some v2) ∧ St w 0 S v0 v1 v2
theorem LiesO.lt {w : World} {b oo : Nat} {S : Sto} {v0 v1 v2 : Value} (h : LiesO w b oo S v0 v1 v2) : b < w.heap.size := World.block_lt_of_cell? w ⟨b, oo, none⟩ h.1.1
theorem LiesO.later {w w' : World} {b oo : Nat} {S : Sto} {v0 v1 v2 : Value} (h : LiesO w b oo S v0 v1 v2) (hb : Below w.heap.size w w') : LiesO w' b oo S v0 v1 v2 :=
  ⟨⟨(hb.cell (p := ⟨b, oo, none⟩) h.lt).trans h.1.1, (hb.cell (p := ⟨b, oo + 1, none⟩) h.lt).trans h.1.2.1, (hb.cell (p := ⟨b, oo + 2, none⟩) h.lt).trans h.1.2.2⟩, h.2.later hb⟩
theorem l1In_is (v lo hi : Int) (r : Bool) (hr : decide (lo ≤ v ∧ v ≤ hi) = r) (w : World) :
    Calls Tryz.prog 13 #[.int .i64 v, .int .i64 lo, .int .i64 hi] w fun e w' => e = .returned (.bool r) ∧ w' = w := by
  by_cases h1 : lo ≤ v
  · by_cases h2 : v ≤ hi
    · have d : decide (v ≤ hi) = true := decide_eq_true h2
      rw [decide_eq_true (show lo ≤ v ∧ v ≤ hi from ⟨h1, h2⟩)] at hr
      subst hr
      go_enter Tryz.func13, Tryz.ntmps13
      go_wp2
      go_ret
      exact ⟨rfl, rfl⟩
    · have d : decide (v ≤ hi) = false := decide_eq_false h2
      rw [decide_eq_false (show ¬ (lo ≤ v ∧ v ≤ hi) from fun h => h2 h.2)] at hr
      subst hr
      go_enter Tryz.func13, Tryz.ntmps13
      go_wp2
      go_ret
      exact ⟨rfl, rfl⟩
  · have d : decide (lo ≤ v) = false := decide_eq_false h1
    rw [decide_eq_false (show ¬ (lo ≤ v ∧ v ≤ hi) from fun h => h1 h.1)] at hr
    subst hr
    go_enter Tryz.func13, Tryz.ntmps13
    go_wp2
    go_ret
    exact ⟨rfl, rfl⟩
theorem l2Ts_is (t : Int) (r : Bool) (hr : decide (1 ≤ t ∧ t ≤ 100000) = r) (w : World) :
    Calls Tryz.prog 78 #[.int .i64 t] w fun e w' => e = .returned (.bool r) ∧ w' = w := by
  have H : Hid (decide (1 ≤ t ∧ t ≤ 100000) = r) := hr
  clear hr
  go_enter Tryz.func78, Tryz.ntmps78
  go_wp2_with fail
  refine (l1In_is _ _ _ r H.out _).mono ?_
  rintro e w' ⟨rfl, rfl⟩
  go_wp2
  go_ret
  exact ⟨rfl, rfl⟩

theorem below_dr {B : Nat} {a w : World} (h : Below B a w) (q : Nat) : Below B a (w.drewN q) := ⟨h.os, h.tape, h.output, h.size, h.block⟩
set_option maxRecDepth 10000 in
set_option maxHeartbeats 4000000 in
theorem l2Cells_anyO (S : Sto) (b oo : Nat) (v0 v1 v2 : Value) (w : World) (h : LiesO w b oo S v0 v1 v2) (hn : S.nc ≤ 200) :
    Calls Tryz.prog 112 #[.pointer (some ⟨b, oo, none⟩)] w fun e w' => e = .returned (.int .i64 (scan (cellF S.c) S.nc)) ∧ Below w.heap.size w w' := by
  obtain ⟨a0, c0, a1, c1, a2, c2, rfl, rfl, rfl⟩ := h.2.form
  have H : Hid (LiesO w b oo S (.slice a0 S.nc c0) (.slice a1 S.nl c1) (.slice a2 S.nw c2)) := h
  have p0 := h.1.1
  have hb := h.lt
  clear h
  go_enter Tryz.func112, Tryz.ntmps112
  go_wp2
  go_loopw [3] (fun i wr => ∃ k : Nat, k ≤ S.nc ∧ i = .int .i64 k ∧ Hid (scan (cellF S.c) k = 0) ∧ Below w.heap.size w wr) (fun i _ => S.nc - (intOf i).toNat)
  case atStart => exact ⟨0, Nat.zero_le _, rfl, rfl, Below.refl _ _⟩
  case round =>
    obtain ⟨k, hk, rfl, HS, hbw⟩ := hrel
    have e0 := (hbw.cell (p := ⟨b, oo, none⟩) hb).trans p0
    have hbr : b < wr.heap.size := Nat.lt_of_lt_of_le hb hbw.size
    by_cases hlt : k < S.nc
    case neg =>
      have en : k = S.nc := by omega
      have E : Hid (scan (cellF S.c) S.nc = 0) := en ▸ HS.out
      clear HS
      go_wp2
      go_ret
      exact ⟨by rw [E.out]; rfl, hbw⟩
    obtain ⟨g, o, rfl, _, hg, x0, x1, x2⟩ := (H.out.2.1.later hbw).at3 hlt
    obtain ⟨n0, N0⟩ : ∃ x, S.c (k * 3) = x := ⟨_, rfl⟩
    rw [N0] at x0
    obtain ⟨n1, N1⟩ : ∃ x, S.c (k * 3 + 1) = x := ⟨_, rfl⟩
    rw [N1] at x1
    obtain ⟨n2, N2⟩ : ∃ x, S.c (k * 3 + 2) = x := ⟨_, rfl⟩
    rw [N2] at x2
    have NN : Hid (S.c (k * 3) = n0 ∧ S.c (k * 3 + 1) = n1 ∧ S.c (k * 3 + 2) = n2) := ⟨N0, N1, N2⟩
    clear N0 N1 N2
    by_cases h0 : faultOf n0 = 0
    case neg =>
      obtain ⟨f, hff⟩ : ∃ f, faultOf n0 = f := ⟨_, rfl⟩
      have L0 : Hid (∀ w, Calls Tryz.prog 118 #[.int .i64 n0] w fun e w' => e = .returned (.int .i64 f) ∧ w' = w) := fun w => hff ▸ l1Fault_any n0 w
      have E : Hid (scan (cellF S.c) S.nc = f) := by
        have : cellF S.c k = f := by
          unfold cellF
          rw [NN.out.1, NN.out.2.1, NN.out.2.2]
          rw [if_pos h0]; exact hff
        exact (scan_stop HS.out (by rw [this, ← hff]; exact h0) hlt).trans this
      have hfn : (f == 0) = false := beq_eq_false_iff_ne.2 (by rw [← hff]; exact h0)
      clear hff h0 HS NN
      go_wp2_with fail
      refine (L0.out _).mono ?_
      rintro e w1 ⟨rfl, rfl⟩
      go_wp2
      go_ret
      exact ⟨by rw [E.out]; rfl, by first | exact hbw.alloc hbw.size _ | exact below_dr (hbw.alloc hbw.size _) _ | exact below_dr (below_dr (hbw.alloc hbw.size _) _) _⟩
    have L0 : Hid (∀ w, Calls Tryz.prog 118 #[.int .i64 n0] w fun e w' => e = .returned (.int .i64 0) ∧ w' = w) := fun w => h0 ▸ l1Fault_any n0 w
    have G0 : Hid (faultOf n0 = 0) := h0
    clear h0
    by_cases h1 : 1 ≤ n1 ∧ n1 ≤ 100000
    case neg =>
      have L1 : Hid (decide (1 ≤ n1 ∧ n1 ≤ 100000) = false) := decide_eq_false h1
      have E : Hid (scan (cellF S.c) S.nc = 3) := by
        have : cellF S.c k = 3 := by
          unfold cellF
          rw [NN.out.1, NN.out.2.1, NN.out.2.2]
          rw [if_neg (fun h => h G0.out)]
          rw [if_pos (by omega)]
        exact (scan_stop HS.out (by rw [this]; decide) hlt).trans this
      clear h1 HS NN G0
      go_wp2_with fail
      refine (L0.out _).mono ?_
      rintro e w1 ⟨rfl, rfl⟩
      go_wp2_with fail
      refine (l2Ts_is _ false L1.out _).mono ?_
      rintro e w1 ⟨rfl, rfl⟩
      go_wp2
      go_ret
      exact ⟨by rw [E.out]; rfl, by first | exact hbw.alloc hbw.size _ | exact below_dr (hbw.alloc hbw.size _) _ | exact below_dr (below_dr (hbw.alloc hbw.size _) _) _⟩
    have L1 : Hid (decide (1 ≤ n1 ∧ n1 ≤ 100000) = true) := decide_eq_true h1
    have G1 : Hid (1 ≤ n1 ∧ n1 ≤ 100000) := h1
    clear h1
    by_cases h2 : 0 ≤ n2 ∧ n2 ≤ 9999
    case neg =>
      have L2 : Hid (decide (0 ≤ n2 ∧ n2 ≤ 9999) = false) := decide_eq_false h2
      have E : Hid (scan (cellF S.c) S.nc = 3) := by
        have : cellF S.c k = 3 := by
          unfold cellF
          rw [NN.out.1, NN.out.2.1, NN.out.2.2]
          rw [if_neg (fun h => h G0.out)]
          rw [if_pos (by omega)]
        exact (scan_stop HS.out (by rw [this]; decide) hlt).trans this
      clear h2 HS NN G0 G1
      go_wp2_with fail
      refine (L0.out _).mono ?_
      rintro e w1 ⟨rfl, rfl⟩
      go_wp2_with fail
      refine (l2Ts_is _ true L1.out _).mono ?_
      rintro e w1 ⟨rfl, rfl⟩
      go_wp2_with fail
      refine (l1In_is _ _ _ false L2.out _).mono ?_
      rintro e w1 ⟨rfl, rfl⟩
      go_wp2
      go_ret
      exact ⟨by rw [E.out]; rfl, by first | exact hbw.alloc hbw.size _ | exact below_dr (hbw.alloc hbw.size _) _ | exact below_dr (below_dr (hbw.alloc hbw.size _) _) _⟩
    have L2 : Hid (decide (0 ≤ n2 ∧ n2 ≤ 9999) = true) := decide_eq_true h2
    have G2 : Hid (0 ≤ n2 ∧ n2 ≤ 9999) := h2
    clear h2
    rcases Nat.eq_zero_or_pos k with hk0 | hk0
    · have E : Hid (scan (cellF S.c) (k + 1) = 0) := by
        have : cellF S.c k = 0 := by
          unfold cellF
          rw [NN.out.1, NN.out.2.1, NN.out.2.2]
          rw [if_neg (fun h => h G0.out)]
          have g1 := G1.out; have g2 := G2.out; rw [if_neg (by omega)]
          rw [if_neg (by omega)]
        exact scan_go HS.out this
      have dk : decide (0 < k) = false := decide_eq_false (by omega)
      clear HS NN G0 G1 G2 hk0
      go_wp2_with fail
      refine (L0.out _).mono ?_
      rintro e w1 ⟨rfl, rfl⟩
      go_wp2_with fail
      refine (l2Ts_is _ true L1.out _).mono ?_
      rintro e w1 ⟨rfl, rfl⟩
      go_wp2_with fail
      refine (l1In_is _ _ _ true L2.out _).mono ?_
      rintro e w1 ⟨rfl, rfl⟩
      go_wp2_with fail
      go_quiet (fail)
      go_wp2
      go_roundw
      case rel => exact ⟨k + 1, by omega, by go_num, E, by first | exact hbw.alloc hbw.size _ | exact below_dr (hbw.alloc hbw.size _) _ | exact below_dr (below_dr (hbw.alloc hbw.size _) _) _⟩
      case measure => simp [intOf]; omega
    obtain ⟨g', o', he, _, _, y0, y1, _⟩ := (H.out.2.1.later hbw).at3 (k := k - 1) (by omega)
    simp only [Option.some.injEq, Addr.mk.injEq, and_true] at he
    obtain ⟨rfl, rfl⟩ := he
    obtain ⟨m0, M0⟩ : ∃ x, S.c ((k - 1) * 3) = x := ⟨_, rfl⟩
    rw [M0] at y0
    obtain ⟨m1, M1⟩ : ∃ x, S.c ((k - 1) * 3 + 1) = x := ⟨_, rfl⟩
    rw [M1] at y1
    have MM : Hid (S.c ((k - 1) * 3) = m0 ∧ S.c ((k - 1) * 3 + 1) = m1) := ⟨M0, M1⟩
    clear M0 M1
    have dk : decide (0 < k) = true := decide_eq_true hk0
    by_cases r1 : n0 < m0
    · have E : Hid (scan (cellF S.c) S.nc = 1) := by
        have : cellF S.c k = 1 := by
          unfold cellF
          rw [NN.out.1, NN.out.2.1, NN.out.2.2]
          rw [if_neg (fun h => h G0.out)]
          have g1 := G1.out; have g2 := G2.out; rw [if_neg (by omega)]
          rw [MM.out.1, MM.out.2]
          rw [if_pos (by omega)]
        exact (scan_stop HS.out (by rw [this]; decide) hlt).trans this
      clear HS NN G0 G1 G2 MM
      go_wp2_with fail
      refine (L0.out _).mono ?_
      rintro e w1 ⟨rfl, rfl⟩
      go_wp2_with fail
      refine (l2Ts_is _ true L1.out _).mono ?_
      rintro e w1 ⟨rfl, rfl⟩
      go_wp2_with fail
      refine (l1In_is _ _ _ true L2.out _).mono ?_
      rintro e w1 ⟨rfl, rfl⟩
      go_wp2_with fail
      go_quiet (fail)
      go_wp2
      go_ret
      exact ⟨by rw [E.out]; rfl, by first | exact hbw.alloc hbw.size _ | exact below_dr (hbw.alloc hbw.size _) _ | exact below_dr (below_dr (hbw.alloc hbw.size _) _) _⟩
    by_cases r2 : n0 = m0
    · by_cases r3 : n1 ≤ m1
      · have E : Hid (scan (cellF S.c) S.nc = 1) := by
          have : cellF S.c k = 1 := by
            unfold cellF
            rw [NN.out.1, NN.out.2.1, NN.out.2.2]
            rw [if_neg (fun h => h G0.out)]
            have g1 := G1.out; have g2 := G2.out; rw [if_neg (by omega)]
            rw [MM.out.1, MM.out.2]
            rw [if_pos (by omega)]
          exact (scan_stop HS.out (by rw [this]; decide) hlt).trans this
        have s1 : decide (n0 < m0) = false := decide_eq_false r1
        have s2 : (n0 == m0) = true := beq_iff_eq.2 r2
        have s3 : decide (n1 ≤ m1) = true := decide_eq_true r3
        clear HS NN G0 G1 G2 MM r1 r2
        go_wp2_with fail
        refine (L0.out _).mono ?_
        rintro e w1 ⟨rfl, rfl⟩
        go_wp2_with fail
        refine (l2Ts_is _ true L1.out _).mono ?_
        rintro e w1 ⟨rfl, rfl⟩
        go_wp2_with fail
        refine (l1In_is _ _ _ true L2.out _).mono ?_
        rintro e w1 ⟨rfl, rfl⟩
        go_wp2_with fail
        go_quiet (fail)
        go_wp2
        go_ret
        exact ⟨by rw [E.out]; rfl, by first | exact hbw.alloc hbw.size _ | exact below_dr (hbw.alloc hbw.size _) _ | exact below_dr (below_dr (hbw.alloc hbw.size _) _) _⟩
      · have E : Hid (scan (cellF S.c) (k + 1) = 0) := by
          have : cellF S.c k = 0 := by
            unfold cellF
            rw [NN.out.1, NN.out.2.1, NN.out.2.2]
            rw [if_neg (fun h => h G0.out)]
            have g1 := G1.out; have g2 := G2.out; rw [if_neg (by omega)]
            rw [MM.out.1, MM.out.2]
            rw [if_neg (by omega)]
          exact scan_go HS.out this
        have s1 : decide (n0 < m0) = false := decide_eq_false r1
        have s2 : (n0 == m0) = true := beq_iff_eq.2 r2
        have s3 : decide (n1 ≤ m1) = false := decide_eq_false r3
        clear HS NN G0 G1 G2 MM r1 r2 r3
        go_wp2_with fail
        refine (L0.out _).mono ?_
        rintro e w1 ⟨rfl, rfl⟩
        go_wp2_with fail
        refine (l2Ts_is _ true L1.out _).mono ?_
        rintro e w1 ⟨rfl, rfl⟩
        go_wp2_with fail
        refine (l1In_is _ _ _ true L2.out _).mono ?_
        rintro e w1 ⟨rfl, rfl⟩
        go_wp2_with fail
        go_quiet (fail)
        go_wp2
        go_roundw
        case rel => exact ⟨k + 1, by omega, by go_num, E, by first | exact hbw.alloc hbw.size _ | exact below_dr (hbw.alloc hbw.size _) _ | exact below_dr (below_dr (hbw.alloc hbw.size _) _) _⟩
        case measure => simp [intOf]; omega
    · have E : Hid (scan (cellF S.c) (k + 1) = 0) := by
        have : cellF S.c k = 0 := by
          unfold cellF
          rw [NN.out.1, NN.out.2.1, NN.out.2.2]
          rw [if_neg (fun h => h G0.out)]
          have g1 := G1.out; have g2 := G2.out; rw [if_neg (by omega)]
          rw [MM.out.1, MM.out.2]
          rw [if_neg (by omega)]
        exact scan_go HS.out this
      have s1 : decide (n0 < m0) = false := decide_eq_false r1
      have s2 : (n0 == m0) = false := beq_eq_false_iff_ne.2 r2
      clear HS NN G0 G1 G2 MM r1 r2
      go_wp2_with fail
      refine (L0.out _).mono ?_
      rintro e w1 ⟨rfl, rfl⟩
      go_wp2_with fail
      refine (l2Ts_is _ true L1.out _).mono ?_
      rintro e w1 ⟨rfl, rfl⟩
      go_wp2_with fail
      refine (l1In_is _ _ _ true L2.out _).mono ?_
      rintro e w1 ⟨rfl, rfl⟩
      go_wp2_with fail
      go_quiet (fail)
      go_wp2
      go_roundw
      case rel => exact ⟨k + 1, by omega, by go_num, E, by first | exact hbw.alloc hbw.size _ | exact below_dr (hbw.alloc hbw.size _) _ | exact below_dr (below_dr (hbw.alloc hbw.size _) _) _⟩
      case measure => simp [intOf]; omega

set_option maxRecDepth 10000 in
set_option maxHeartbeats 4000000 in
theorem l2Locks_anyO (S : Sto) (b oo : Nat) (v0 v1 v2 : Value) (w : World) (h : LiesO w b oo S v0 v1 v2) (hn : S.nl ≤ 200) :
    Calls Tryz.prog 113 #[.pointer (some ⟨b, oo, none⟩)] w fun e w' => e = .returned (.int .i64 (scan (lockF S.l) S.nl)) ∧ Below w.heap.size w w' := by
  obtain ⟨a0, c0, a1, c1, a2, c2, rfl, rfl, rfl⟩ := h.2.form
  have H : Hid (LiesO w b oo S (.slice a0 S.nc c0) (.slice a1 S.nl c1) (.slice a2 S.nw c2)) := h
  have p0 := h.1.2.1
  have hb := h.lt
  clear h
  go_enter Tryz.func113, Tryz.ntmps113
  go_wp2
  go_loopw [3] (fun i wr => ∃ k : Nat, k ≤ S.nl ∧ i = .int .i64 k ∧ Hid (scan (lockF S.l) k = 0) ∧ Below w.heap.size w wr) (fun i _ => S.nl - (intOf i).toNat)
  case atStart => exact ⟨0, Nat.zero_le _, rfl, rfl, Below.refl _ _⟩
  case round =>
    obtain ⟨k, hk, rfl, HS, hbw⟩ := hrel
    have e0 := (hbw.cell (p := ⟨b, oo + 1, none⟩) hb).trans p0
    have hbr : b < wr.heap.size := Nat.lt_of_lt_of_le hb hbw.size
    by_cases hlt : k < S.nl
    case neg =>
      have en : k = S.nl := by omega
      have E : Hid (scan (lockF S.l) S.nl = 0) := en ▸ HS.out
      clear HS
      go_wp2
      go_ret
      exact ⟨by rw [E.out]; rfl, hbw⟩
    obtain ⟨g, o, rfl, _, hg, x0, x1, x2, x3, x4⟩ := (H.out.2.2.1.later hbw).at5 hlt
    obtain ⟨n0, N0⟩ : ∃ x, S.l (k * 5) = x := ⟨_, rfl⟩
    rw [N0] at x0
    obtain ⟨n1, N1⟩ : ∃ x, S.l (k * 5 + 1) = x := ⟨_, rfl⟩
    rw [N1] at x1
    obtain ⟨n2, N2⟩ : ∃ x, S.l (k * 5 + 2) = x := ⟨_, rfl⟩
    rw [N2] at x2
    obtain ⟨n3, N3⟩ : ∃ x, S.l (k * 5 + 3) = x := ⟨_, rfl⟩
    rw [N3] at x3
    obtain ⟨n4, N4⟩ : ∃ x, S.l (k * 5 + 4) = x := ⟨_, rfl⟩
    rw [N4] at x4
    have NN : Hid (S.l (k * 5) = n0 ∧ S.l (k * 5 + 1) = n1 ∧ S.l (k * 5 + 2) = n2 ∧ S.l (k * 5 + 3) = n3 ∧ S.l (k * 5 + 4) = n4) := ⟨N0, N1, N2, N3, N4⟩
    clear N0 N1 N2 N3 N4
    by_cases h0 : faultOf n0 = 0
    case neg =>
      obtain ⟨f, hff⟩ : ∃ f, faultOf n0 = f := ⟨_, rfl⟩
      have L0 : Hid (∀ w, Calls Tryz.prog 118 #[.int .i64 n0] w fun e w' => e = .returned (.int .i64 f) ∧ w' = w) := fun w => hff ▸ l1Fault_any n0 w
      have E : Hid (scan (lockF S.l) S.nl = f) := by
        have : lockF S.l k = f := by
          unfold lockF
          rw [NN.out.1, NN.out.2.1, NN.out.2.2.1, NN.out.2.2.2.1, NN.out.2.2.2.2]
          rw [if_pos h0]; exact hff
        exact (scan_stop HS.out (by rw [this, ← hff]; exact h0) hlt).trans this
      have hfn : (f == 0) = false := beq_eq_false_iff_ne.2 (by rw [← hff]; exact h0)
      clear hff h0 HS NN
      go_wp2_with fail
      refine (L0.out _).mono ?_
      rintro e w1 ⟨rfl, rfl⟩
      go_wp2
      go_ret
      exact ⟨by rw [E.out]; rfl, by first | exact hbw.alloc hbw.size _ | exact below_dr (hbw.alloc hbw.size _) _ | exact below_dr (below_dr (hbw.alloc hbw.size _) _) _⟩
    have L0 : Hid (∀ w, Calls Tryz.prog 118 #[.int .i64 n0] w fun e w' => e = .returned (.int .i64 0) ∧ w' = w) := fun w => h0 ▸ l1Fault_any n0 w
    have G0 : Hid (faultOf n0 = 0) := h0
    clear h0
    by_cases h1 : faultOf n3 = 0
    case neg =>
      obtain ⟨f, hff⟩ : ∃ f, faultOf n3 = f := ⟨_, rfl⟩
      have L1 : Hid (∀ w, Calls Tryz.prog 118 #[.int .i64 n3] w fun e w' => e = .returned (.int .i64 f) ∧ w' = w) := fun w => hff ▸ l1Fault_any n3 w
      have E : Hid (scan (lockF S.l) S.nl = f) := by
        have : lockF S.l k = f := by
          unfold lockF
          rw [NN.out.1, NN.out.2.1, NN.out.2.2.1, NN.out.2.2.2.1, NN.out.2.2.2.2]
          rw [if_neg (fun h => h G0.out)]
          rw [if_pos h1]; exact hff
        exact (scan_stop HS.out (by rw [this, ← hff]; exact h1) hlt).trans this
      have hfn : (f == 0) = false := beq_eq_false_iff_ne.2 (by rw [← hff]; exact h1)
      clear hff h1 HS NN G0
      go_wp2_with fail
      refine (L0.out _).mono ?_
      rintro e w1 ⟨rfl, rfl⟩
      go_wp2_with fail
      refine (L1.out _).mono ?_
      rintro e w1 ⟨rfl, rfl⟩
      go_wp2
      go_ret
      exact ⟨by rw [E.out]; rfl, by first | exact hbw.alloc hbw.size _ | exact below_dr (hbw.alloc hbw.size _) _ | exact below_dr (below_dr (hbw.alloc hbw.size _) _) _⟩
    have L1 : Hid (∀ w, Calls Tryz.prog 118 #[.int .i64 n3] w fun e w' => e = .returned (.int .i64 0) ∧ w' = w) := fun w => h1 ▸ l1Fault_any n3 w
    have G1 : Hid (faultOf n3 = 0) := h1
    clear h1
    by_cases h2 : 1 ≤ n1 ∧ n1 ≤ 100000
    case neg =>
      have L2 : Hid (decide (1 ≤ n1 ∧ n1 ≤ 100000) = false) := decide_eq_false h2
      have E : Hid (scan (lockF S.l) S.nl = 3) := by
        have : lockF S.l k = 3 := by
          unfold lockF
          rw [NN.out.1, NN.out.2.1, NN.out.2.2.1, NN.out.2.2.2.1, NN.out.2.2.2.2]
          rw [if_neg (fun h => h G0.out)]
          rw [if_neg (fun h => h G1.out)]
          rw [if_pos (by omega)]
        exact (scan_stop HS.out (by rw [this]; decide) hlt).trans this
      clear h2 HS NN G0 G1
      go_wp2_with fail
      refine (L0.out _).mono ?_
      rintro e w1 ⟨rfl, rfl⟩
      go_wp2_with fail
      refine (L1.out _).mono ?_
      rintro e w1 ⟨rfl, rfl⟩
      go_wp2_with fail
      refine (l2Ts_is _ false L2.out _).mono ?_
      rintro e w1 ⟨rfl, rfl⟩
      go_wp2
      go_ret
      exact ⟨by rw [E.out]; rfl, by first | exact hbw.alloc hbw.size _ | exact below_dr (hbw.alloc hbw.size _) _ | exact below_dr (below_dr (hbw.alloc hbw.size _) _) _⟩
    have L2 : Hid (decide (1 ≤ n1 ∧ n1 ≤ 100000) = true) := decide_eq_true h2
    have G2 : Hid (1 ≤ n1 ∧ n1 ≤ 100000) := h2
    clear h2
    by_cases h3 : 1 ≤ n2 ∧ n2 ≤ 3
    case neg =>
      have L3 : Hid (decide (1 ≤ n2 ∧ n2 ≤ 3) = false) := decide_eq_false h3
      have E : Hid (scan (lockF S.l) S.nl = 3) := by
        have : lockF S.l k = 3 := by
          unfold lockF
          rw [NN.out.1, NN.out.2.1, NN.out.2.2.1, NN.out.2.2.2.1, NN.out.2.2.2.2]
          rw [if_neg (fun h => h G0.out)]
          rw [if_neg (fun h => h G1.out)]
          rw [if_pos (by omega)]
        exact (scan_stop HS.out (by rw [this]; decide) hlt).trans this
      clear h3 HS NN G0 G1 G2
      go_wp2_with fail
      refine (L0.out _).mono ?_
      rintro e w1 ⟨rfl, rfl⟩
      go_wp2_with fail
      refine (L1.out _).mono ?_
      rintro e w1 ⟨rfl, rfl⟩
      go_wp2_with fail
      refine (l2Ts_is _ true L2.out _).mono ?_
      rintro e w1 ⟨rfl, rfl⟩
      go_wp2_with fail
      refine (l1In_is _ _ _ false L3.out _).mono ?_
      rintro e w1 ⟨rfl, rfl⟩
      go_wp2
      go_ret
      exact ⟨by rw [E.out]; rfl, by first | exact hbw.alloc hbw.size _ | exact below_dr (hbw.alloc hbw.size _) _ | exact below_dr (below_dr (hbw.alloc hbw.size _) _) _⟩
    have L3 : Hid (decide (1 ≤ n2 ∧ n2 ≤ 3) = true) := decide_eq_true h3
    have G3 : Hid (1 ≤ n2 ∧ n2 ≤ 3) := h3
    clear h3
    by_cases h4 : 0 ≤ n4 ∧ n4 ≤ 100000
    case neg =>
      have L4 : Hid (decide (0 ≤ n4 ∧ n4 ≤ 100000) = false) := decide_eq_false h4
      have E : Hid (scan (lockF S.l) S.nl = 3) := by
        have : lockF S.l k = 3 := by
          unfold lockF
          rw [NN.out.1, NN.out.2.1, NN.out.2.2.1, NN.out.2.2.2.1, NN.out.2.2.2.2]
          rw [if_neg (fun h => h G0.out)]
          rw [if_neg (fun h => h G1.out)]
          rw [if_pos (by omega)]
        exact (scan_stop HS.out (by rw [this]; decide) hlt).trans this
      clear h4 HS NN G0 G1 G2 G3
      go_wp2_with fail
      refine (L0.out _).mono ?_
      rintro e w1 ⟨rfl, rfl⟩
      go_wp2_with fail
      refine (L1.out _).mono ?_
      rintro e w1 ⟨rfl, rfl⟩
      go_wp2_with fail
      refine (l2Ts_is _ true L2.out _).mono ?_
      rintro e w1 ⟨rfl, rfl⟩
      go_wp2_with fail
      refine (l1In_is _ _ _ true L3.out _).mono ?_
      rintro e w1 ⟨rfl, rfl⟩
      go_wp2_with fail
      refine (l1In_is _ _ _ false L4.out _).mono ?_
      rintro e w1 ⟨rfl, rfl⟩
      go_wp2
      go_ret
      exact ⟨by rw [E.out]; rfl, by first | exact hbw.alloc hbw.size _ | exact below_dr (hbw.alloc hbw.size _) _ | exact below_dr (below_dr (hbw.alloc hbw.size _) _) _⟩
    have L4 : Hid (decide (0 ≤ n4 ∧ n4 ≤ 100000) = true) := decide_eq_true h4
    have G4 : Hid (0 ≤ n4 ∧ n4 ≤ 100000) := h4
    clear h4
    rcases Nat.eq_zero_or_pos k with hk0 | hk0
    · have E : Hid (scan (lockF S.l) (k + 1) = 0) := by
        have : lockF S.l k = 0 := by
          unfold lockF
          rw [NN.out.1, NN.out.2.1, NN.out.2.2.1, NN.out.2.2.2.1, NN.out.2.2.2.2]
          rw [if_neg (fun h => h G0.out)]
          rw [if_neg (fun h => h G1.out)]
          have g2 := G2.out; have g3 := G3.out; have g4 := G4.out; rw [if_neg (by omega)]
          rw [if_neg (by omega)]
        exact scan_go HS.out this
      have dk : decide (0 < k) = false := decide_eq_false (by omega)
      clear HS NN G0 G1 G2 G3 G4 hk0
      go_wp2_with fail
      refine (L0.out _).mono ?_
      rintro e w1 ⟨rfl, rfl⟩
      go_wp2_with fail
      refine (L1.out _).mono ?_
      rintro e w1 ⟨rfl, rfl⟩
      go_wp2_with fail
      refine (l2Ts_is _ true L2.out _).mono ?_
      rintro e w1 ⟨rfl, rfl⟩
      go_wp2_with fail
      refine (l1In_is _ _ _ true L3.out _).mono ?_
      rintro e w1 ⟨rfl, rfl⟩
      go_wp2_with fail
      refine (l1In_is _ _ _ true L4.out _).mono ?_
      rintro e w1 ⟨rfl, rfl⟩
      go_wp2_with fail
      go_quiet (fail)
      go_wp2
      go_roundw
      case rel => exact ⟨k + 1, by omega, by go_num, E, by first | exact hbw.alloc hbw.size _ | exact below_dr (hbw.alloc hbw.size _) _ | exact below_dr (below_dr (hbw.alloc hbw.size _) _) _⟩
      case measure => simp [intOf]; omega
    obtain ⟨g', o', he, _, _, y0, y1, _, _, _⟩ := (H.out.2.2.1.later hbw).at5 (k := k - 1) (by omega)
    simp only [Option.some.injEq, Addr.mk.injEq, and_true] at he
    obtain ⟨rfl, rfl⟩ := he
    obtain ⟨m0, M0⟩ : ∃ x, S.l ((k - 1) * 5) = x := ⟨_, rfl⟩
    rw [M0] at y0
    have MM : Hid (S.l ((k - 1) * 5) = m0) := M0
    clear M0
    have dk : decide (0 < k) = true := decide_eq_true hk0
    by_cases r1 : n0 ≤ m0
    · have E : Hid (scan (lockF S.l) S.nl = 1) := by
        have : lockF S.l k = 1 := by
          unfold lockF
          rw [NN.out.1, NN.out.2.1, NN.out.2.2.1, NN.out.2.2.2.1, NN.out.2.2.2.2]
          rw [if_neg (fun h => h G0.out)]
          rw [if_neg (fun h => h G1.out)]
          have g2 := G2.out; have g3 := G3.out; have g4 := G4.out; rw [if_neg (by omega)]
          rw [MM.out]
          rw [if_pos (by omega)]
        exact (scan_stop HS.out (by rw [this]; decide) hlt).trans this
      have s1 : decide (n0 ≤ m0) = true := decide_eq_true r1
      clear HS NN G0 G1 G2 G3 G4 MM
      go_wp2_with fail
      refine (L0.out _).mono ?_
      rintro e w1 ⟨rfl, rfl⟩
      go_wp2_with fail
      refine (L1.out _).mono ?_
      rintro e w1 ⟨rfl, rfl⟩
      go_wp2_with fail
      refine (l2Ts_is _ true L2.out _).mono ?_
      rintro e w1 ⟨rfl, rfl⟩
      go_wp2_with fail
      refine (l1In_is _ _ _ true L3.out _).mono ?_
      rintro e w1 ⟨rfl, rfl⟩
      go_wp2_with fail
      refine (l1In_is _ _ _ true L4.out _).mono ?_
      rintro e w1 ⟨rfl, rfl⟩
      go_wp2_with fail
      go_quiet (fail)
      go_wp2
      go_ret
      exact ⟨by rw [E.out]; rfl, by first | exact hbw.alloc hbw.size _ | exact below_dr (hbw.alloc hbw.size _) _ | exact below_dr (below_dr (hbw.alloc hbw.size _) _) _⟩
    · have E : Hid (scan (lockF S.l) (k + 1) = 0) := by
        have : lockF S.l k = 0 := by
          unfold lockF
          rw [NN.out.1, NN.out.2.1, NN.out.2.2.1, NN.out.2.2.2.1, NN.out.2.2.2.2]
          rw [if_neg (fun h => h G0.out)]
          rw [if_neg (fun h => h G1.out)]
          have g2 := G2.out; have g3 := G3.out; have g4 := G4.out; rw [if_neg (by omega)]
          rw [MM.out]
          rw [if_neg (by omega)]
        exact scan_go HS.out this
      have s1 : decide (n0 ≤ m0) = false := decide_eq_false r1
      clear HS NN G0 G1 G2 G3 G4 MM r1
      go_wp2_with fail
      refine (L0.out _).mono ?_
      rintro e w1 ⟨rfl, rfl⟩
      go_wp2_with fail
      refine (L1.out _).mono ?_
      rintro e w1 ⟨rfl, rfl⟩
      go_wp2_with fail
      refine (l2Ts_is _ true L2.out _).mono ?_
      rintro e w1 ⟨rfl, rfl⟩
      go_wp2_with fail
      refine (l1In_is _ _ _ true L3.out _).mono ?_
      rintro e w1 ⟨rfl, rfl⟩
      go_wp2_with fail
      refine (l1In_is _ _ _ true L4.out _).mono ?_
      rintro e w1 ⟨rfl, rfl⟩
      go_wp2_with fail
      go_quiet (fail)
      go_wp2
      go_roundw
      case rel => exact ⟨k + 1, by omega, by go_num, E, by first | exact hbw.alloc hbw.size _ | exact below_dr (hbw.alloc hbw.size _) _ | exact below_dr (below_dr (hbw.alloc hbw.size _) _) _⟩
      case measure => simp [intOf]; omega

end Go.Proofs.YtjkchhcnochjlaaGreatDoor

