/-
  Own text, merged of RegT, ColsA, ColsZ, LawE, MarkA, StorQ, AppR, KeysA, ColsM, KeysB, ColsN, ColsR, DelB, StorA, CopyA, CmtD, InsV, InsP, DelP, TxnB, TxnD, PaiB, PaiC, PaiD, PaiE.
-/
import Derived.Test.YtdbcmckoiacemaaRows
import Derived.Deep.RegionHeld
import Derived.WalkKit
import Derived.RowKitTokens
import Derived.WalkLawsBesides
import Derived.ProofKit
import Derived.OpenShut
import Derived.Handy
import Derived.BigQuiet
import Derived.Deep.QuietTactic
import Derived.Deep.Slices
import Derived.Lib.SmallJoins
import Derived.OwnWalk
import Derived.Laws.AppendOwn
import Derived.Laws.OwnMore
import Derived.Deep.Onto
import Derived.Deep.AppendLies
import Derived.Laws.AppendOwnNone
import Derived.Maps.OwnSet
import Derived.DeepKeys4
import Derived.Lib.SliceRun
import Derived.Deep.DeepCutAuto
import Derived.Laws.IdiomCopy
import Derived.Laws.Externs
import Derived.Lib.Overlaps
import Derived.Lib.AppendZerosOnto
import Derived.Deep.RegionLaw
import Derived.ArgAppend
import Derived.Deep.AppendSrc
import Derived.Laws.StructEq
import Derived.ShutString
import Derived.ChangeOld
import Derived.Below
namespace Go.Proofs.Ytdbcmckoiacemaa
open Go.RowKit
theorem tkH {P : Program} {ops : Array Oper} {Q : Exit → Act → World → Prop} {md : Region.Mode} {S : World → Prop} (i : Nat) {oi : Oper} (v : Value) {fuel : Nat} {listed : Array Bool} {a : Act} {w : World} (hS : S w) (hy : ∀ w, S w → (execOp a.eval oi).run P w = .ok (.value v) w) (h : wpAnyH P md ops Q S fuel (listed.setIfInBounds i true) (a.put oi.dst v) w) (hi : ops[i]? = some oi := by exact rfl) (hs : Region.noSelect ops = true := by as_aux_lemma => kernel_rfl) (hf : Region.free md ops listed i = true := by as_aux_lemma => kernel_rfl) (hr : (Region.ready md ops listed).contains i = true := by as_aux_lemma => kernel_rfl) (hQ : ∀ c a w, Q (.panic c) (a.put oi.dst v) w → Q (.panic c) a w := by exact fun _ _ _ h => h) (hw : Region.wanted oi (yielded ops a.tmps) = true := by kernel_rfl) : wpAnyH P md ops Q S (fuel + 1) listed a w :=
  wpAnyH_take hi hs hf hr hQ (Or.inl ⟨hw, hy⟩) hS h
theorem noH {P : Program} {ops : Array Oper} {Q : Exit → Act → World → Prop} {md : Region.Mode} {S : World → Prop} (i : Nat) {oi : Oper} {fuel : Nat} {listed : Array Bool} {a : Act} {w : World} (hS : S w) (h : wpAnyH P md ops Q S fuel (listed.setIfInBounds i true) (a.put oi.dst undef) w) (hi : ops[i]? = some oi := by exact rfl) (hs : Region.noSelect ops = true := by as_aux_lemma => kernel_rfl) (hf : Region.free md ops listed i = true := by as_aux_lemma => kernel_rfl) (hr : (Region.ready md ops listed).contains i = true := by as_aux_lemma => kernel_rfl) (hQ : ∀ c a w, Q (.panic c) (a.put oi.dst undef) w → Q (.panic c) a w := by exact fun _ _ _ h => h) (hw : Region.wanted oi (yielded ops a.tmps) = false := by kernel_rfl) : wpAnyH P md ops Q S (fuel + 1) listed a w :=
  wpAnyH_take hi hs hf hr hQ (Or.inr ⟨hw, rfl⟩) hS h
theorem rdH {P : Program} {ops : Array Oper} {Q : Exit → Act → World → Prop} {md : Region.Mode} {S : World → Prop} (i : Nat) {o : Oper} {fuel : Nat} {listed : Array Bool} {a : Act} {w : World} (h : ∀ K' : Act → World → Prop, Shut (∀ a w, S w → (S w → wpAnyH P md ops Q S fuel (listed.setIfInBounds i true) a w) → K' a w) → if Region.wanted o (yielded ops a.tmps) = true then Oper.wp P o a w K' Q else K' (a.put o.dst undef) w) (ho : ops[i]? = some o := by exact rfl) (hr : Region.ready md ops listed = [i] := by as_aux_lemma => kernel_rfl) : wpAnyH P md ops Q S (fuel + 1) listed a w :=
  wpAnyH_ready hr (List.cons_ne_nil _ _) (AllReadyH.cons ho h AllReadyH.nil)
end Go.Proofs.Ytdbcmckoiacemaa

namespace Go.Proofs.Ytdbcmckoiacemaa
open Go.RowKit

/-- n elements of m whole numbers each, from block B on; number p of all of them is F p. -/
def Row (w : World) (B m n : Nat) (F : Nat → Int) (v : Value) : Prop :=
  ∃ ao cp, v = .slice ao n cp ∧ (0 < n → ∃ g o, ao = some ⟨g, o, none⟩ ∧ B ≤ g ∧ g < w.heap.size ∧ ∀ p, p < n * m → w.cell? ⟨g, o + p, none⟩ = some (.int .i64 (F p)))
/-- None of the first N places of the slice is frozen. -/
def Free (w : World) (N : Nat) (v : Value) : Prop := ∀ g o n c, v = .slice (some ⟨g, o, none⟩) n c → ∀ p, p < N → w.frozen? ⟨g, o + p, none⟩ = false

theorem Row.form {w : World} {B m n : Nat} {F : Nat → Int} {v : Value} (h : Row w B m n F v) : ∃ ao cp, v = .slice ao n cp := by
  obtain ⟨ao, cp, rfl, _⟩ := h; exact ⟨ao, cp, rfl⟩
theorem Row.at {w : World} {B m n : Nat} {F : Nat → Int} {ao : Option Addr} {cp : Nat} (h : Row w B m n F (.slice ao n cp)) {k : Nat} (hk : k < n) :
    ∃ g o, ao = some ⟨g, o, none⟩ ∧ B ≤ g ∧ g < w.heap.size ∧ ∀ j, j < m → w.cell? ⟨g, o + k * m + j, none⟩ = some (.int .i64 (F (k * m + j))) := by
  obtain ⟨ao', cp', hv, h⟩ := h
  simp only [Value.slice.injEq] at hv
  obtain ⟨rfl, _, rfl⟩ := hv
  obtain ⟨g, o, ha, hB, hg, hc⟩ := h (by omega)
  refine ⟨g, o, ha, hB, hg, fun j hj => ?_⟩
  rw [Nat.add_assoc]
  refine hc _ ?_
  calc k * m + j < k * m + m := by omega
    _ = (k + 1) * m := by rw [Nat.succ_mul]
    _ ≤ n * m := Nat.mul_le_mul_right m hk
theorem Row.kept {w w' : World} {B m n : Nat} {F : Nat → Int} {v : Value} (h : Row w B m n F v) (hs : w.heap.size ≤ w'.heap.size) (hb : ∀ k, v.ownBlock = some k → k < w.heap.size → w'.heap[k]? = w.heap[k]?) : Row w' B m n F v := by
  obtain ⟨ao, cp, rfl, h⟩ := h
  refine ⟨ao, cp, rfl, fun hn => ?_⟩
  obtain ⟨g, o, rfl, hB, hg, hc⟩ := h hn
  exact ⟨g, o, rfl, hB, Nat.lt_of_lt_of_le hg hs, fun p hp => (World.cell?_of_block (w := w) (hb g rfl hg)).trans (hc p hp)⟩
theorem Row.lt {w : World} {B m n : Nat} {F : Nat → Int} {v : Value} (h : Row w B m n F v) (hn : 0 < n) : ∀ k, v.ownBlock = some k → B ≤ k ∧ k < w.heap.size := by
  intro k hk
  obtain ⟨ao, cp, rfl, h⟩ := h
  obtain ⟨g, o, rfl, hB, hg, hc⟩ := h hn
  simp [Value.ownBlock] at hk
  subst hk
  exact ⟨hB, hg⟩
theorem Row.later {w w' : World} {B m n : Nat} {F : Nat → Int} {v : Value} (h : Row w B m n F v) (hb : Below w.heap.size w w') : Row w' B m n F v :=
  h.kept hb.size (fun k _ hk => hb.block k hk)
theorem Row.alloc {w : World} {B m n : Nat} {F : Nat → Int} {v : Value} (h : Row w B m n F v) (o : Obj) : Row (w.alloc o) B m n F v := h.later ((Below.refl _ _).alloc (Nat.le_refl _) o)
theorem Row.drewN {w : World} {B m n : Nat} {F : Nat → Int} {v : Value} (h : Row w B m n F v) (k : Nat) : Row (w.drewN k) B m n F v := h
theorem Row.mono {w : World} {B B' m n : Nat} {F : Nat → Int} {v : Value} (h : Row w B m n F v) (hB : B' ≤ B) : Row w B' m n F v := by
  obtain ⟨ao, cp, rfl, h⟩ := h
  refine ⟨ao, cp, rfl, fun hn => ?_⟩
  obtain ⟨g, o, rfl, hb, hg, hc⟩ := h hn
  exact ⟨g, o, rfl, by omega, hg, hc⟩
theorem Row.setCell {w : World} {B m n : Nat} {F : Nat → Int} {v : Value} (h : Row w B m n F v) {a : Addr} (ha : v.ownBlock ≠ some a.block) (u : Value) : Row (w.setCell a u) B m n F v :=
  h.kept (by simp [World.setCell]) (fun k hk _ => Below.heap_setCell w a u k (fun e => ha (by rw [hk, e])))
theorem Row.congr {w : World} {B m n : Nat} {F G : Nat → Int} {v : Value} (h : Row w B m n F v) (e : ∀ p, p < n * m → F p = G p) : Row w B m n G v := by
  obtain ⟨ao, cp, rfl, h⟩ := h
  refine ⟨ao, cp, rfl, fun hn => ?_⟩
  obtain ⟨g, o, rfl, hb, hg, hc⟩ := h hn
  exact ⟨g, o, rfl, hb, hg, fun p hp => by rw [← e p hp]; exact hc p hp⟩
theorem Row.at3 {w : World} {B n : Nat} {F : Nat → Int} {ao : Option Addr} {cp : Nat} (h : Row w B 3 n F (.slice ao n cp)) {k : Nat} (hk : k < n) :
    ∃ g o, ao = some ⟨g, o, none⟩ ∧ B ≤ g ∧ g < w.heap.size ∧ w.cell? ⟨g, o + k * 3, none⟩ = some (.int .i64 (F (k * 3))) ∧ w.cell? ⟨g, o + k * 3 + 1, none⟩ = some (.int .i64 (F (k * 3 + 1))) ∧ w.cell? ⟨g, o + k * 3 + 2, none⟩ = some (.int .i64 (F (k * 3 + 2))) := by
  obtain ⟨g, o, ha, hB, hg, hc⟩ := h.at hk
  exact ⟨g, o, ha, hB, hg, hc 0 (by omega), hc 1 (by omega), hc 2 (by omega)⟩
theorem Free.later {w w' : World} {N : Nat} {v : Value} (h : Free w N v) (hl : ∀ k, v.ownBlock = some k → k < w.heap.size) (hb : Below w.heap.size w w') : Free w' N v := by
  intro g o n c hv p hp
  rw [hb.frozen (hl g (by rw [hv]; rfl))]
  exact h g o n c hv p hp

/-- Block b holds three cells, none frozen. -/
def Blk3 (x : World) (b : Nat) (a0 a1 a2 : Value) : Prop :=
  (x.cell? ⟨b, 0, none⟩ = some a0 ∧ x.cell? ⟨b, 1, none⟩ = some a1 ∧ x.cell? ⟨b, 2, none⟩ = some a2) ∧ x.frozen? ⟨b, 0, none⟩ = false ∧ x.frozen? ⟨b, 1, none⟩ = false ∧ x.frozen? ⟨b, 2, none⟩ = false
theorem Blk3.kept {x x' : World} {b : Nat} {a0 a1 a2 : Value} (h : Blk3 x b a0 a1 a2) (hb : x'.heap[b]? = x.heap[b]?) : Blk3 x' b a0 a1 a2 := by
  obtain ⟨⟨h0, h1, h2⟩, f0, f1, f2⟩ := h
  exact ⟨⟨(World.cell?_of_block (w := x) (a := ⟨b, 0, none⟩) hb).trans h0, (World.cell?_of_block (w := x) (a := ⟨b, 1, none⟩) hb).trans h1, (World.cell?_of_block (w := x) (a := ⟨b, 2, none⟩) hb).trans h2⟩,
    (World.frozen?_of_block (w := x) (a := ⟨b, 0, none⟩) hb).trans f0, (World.frozen?_of_block (w := x) (a := ⟨b, 1, none⟩) hb).trans f1, (World.frozen?_of_block (w := x) (a := ⟨b, 2, none⟩) hb).trans f2⟩
theorem Blk3.lt {x : World} {b : Nat} {a0 a1 a2 : Value} (h : Blk3 x b a0 a1 a2) : b < x.heap.size := World.block_lt_of_cell? x _ h.1.1
theorem Blk3.later {x x' : World} {b : Nat} {a0 a1 a2 : Value} (h : Blk3 x b a0 a1 a2) (hb : Below x.heap.size x x') : Blk3 x' b a0 a1 a2 := h.kept (hb.block b h.lt)
theorem Blk3.alloc {x : World} {b : Nat} {a0 a1 a2 : Value} (h : Blk3 x b a0 a1 a2) (o : Obj) : Blk3 (x.alloc o) b a0 a1 a2 := h.later ((Below.refl _ _).alloc (Nat.le_refl _) o)
theorem Blk3.new (w : World) (a0 a1 a2 : Value) (t : TypeId) : Blk3 (w.alloc (.cells #[a0, a1, a2] t)) w.heap.size a0 a1 a2 := by
  refine ⟨⟨World.cell?_alloc_mark w _ _ _ 0, World.cell?_alloc_mark w _ _ _ 1, World.cell?_alloc_mark w _ _ _ 2⟩, ?_, ?_, ?_⟩ <;> simp
theorem Blk3.set0 {x : World} {b : Nat} {a0 a1 a2 : Value} (h : Blk3 x b a0 a1 a2) (u : Value) : Blk3 (x.setCell ⟨b, 0, none⟩ u) b u a1 a2 := by
  obtain ⟨⟨h0, h1, h2⟩, f0, f1, f2⟩ := h
  exact ⟨⟨World.cell?_setCell_same _ _ _ h0, (World.cell?_setCell_other _ _ _ _ (by simp)).trans h1, (World.cell?_setCell_other _ _ _ _ (by simp)).trans h2⟩, by simpa using f0, by simpa using f1, by simpa using f2⟩
theorem Blk3.set1 {x : World} {b : Nat} {a0 a1 a2 : Value} (h : Blk3 x b a0 a1 a2) (u : Value) : Blk3 (x.setCell ⟨b, 1, none⟩ u) b a0 u a2 := by
  obtain ⟨⟨h0, h1, h2⟩, f0, f1, f2⟩ := h
  exact ⟨⟨(World.cell?_setCell_other _ _ _ _ (by simp)).trans h0, World.cell?_setCell_same _ _ _ h1, (World.cell?_setCell_other _ _ _ _ (by simp)).trans h2⟩, by simpa using f0, by simpa using f1, by simpa using f2⟩
theorem Blk3.set2 {x : World} {b : Nat} {a0 a1 a2 : Value} (h : Blk3 x b a0 a1 a2) (u : Value) : Blk3 (x.setCell ⟨b, 2, none⟩ u) b a0 a1 u := by
  obtain ⟨⟨h0, h1, h2⟩, f0, f1, f2⟩ := h
  exact ⟨⟨(World.cell?_setCell_other _ _ _ _ (by simp)).trans h0, (World.cell?_setCell_other _ _ _ _ (by simp)).trans h1, World.cell?_setCell_same _ _ _ h2⟩, by simpa using f0, by simpa using f1, by simpa using f2⟩
theorem Row.far {w : World} {B m n : Nat} {F : Nat → Int} {v : Value} (h : Row w B m n F v) {a : Addr} (ha : a.block < B ∨ w.heap.size ≤ a.block) (u : Value) : Row (w.setCell a u) B m n F v := by
  obtain ⟨ao, cp, rfl, h⟩ := h
  refine ⟨ao, cp, rfl, fun hn => ?_⟩
  obtain ⟨g, o, rfl, hB, hg, hc⟩ := h hn
  refine ⟨g, o, rfl, hB, by simpa [World.setCell] using hg, fun p hp => ?_⟩
  rw [← hc p hp]
  exact World.cell?_of_block (Below.heap_setCell w a u g (by omega))
theorem Free.far {w : World} {N : Nat} {v : Value} (h : Free w N v) (a : Addr) (u : Value) : Free (w.setCell a u) N v := by
  intro g o n c hv p hp
  rw [World.frozen?_setCell]
  exact h g o n c hv p hp
theorem Free.of0 (w : World) (v : Value) : Free w 0 v := fun _ _ _ _ _ _ hp => absurd hp (Nat.not_lt_zero _)
theorem below_alloc (w : World) (o : Obj) : Below w.heap.size w (w.alloc o) := (Below.refl _ _).alloc (Nat.le_refl _) o
end Go.Proofs.Ytdbcmckoiacemaa

namespace Go.Proofs.Ytdbcmckoiacemaa
open Go.RowKit

def vals (F : Nat → Int) (N : Nat) : List Value := (List.range N).map fun p => .int .i64 (F p)
theorem vals_length (F : Nat → Int) (N : Nat) : (vals F N).length = N := by simp [vals]
theorem vals_at (F : Nat → Int) (N p : Nat) (h : p < N) : (vals F N)[p]? = some (.int .i64 (F p)) := by simp [vals, h]
theorem vals_one (F : Nat → Int) (N : Nat) : ∀ u ∈ vals F N, u.oneCell' = true := by
  intro u hu
  simp only [vals, List.mem_map] at hu
  obtain ⟨p, _, rfl⟩ := hu
  rfl
theorem vals_inv {F : Nat → Int} {N p : Nat} {u : Value} (h : (vals F N)[p]? = some u) : p < N ∧ u = .int .i64 (F p) := by
  have hp : p < N := by
    have := (List.getElem?_eq_some_iff.1 h).1
    rwa [vals_length] at this
  rw [vals_at F N p hp] at h
  exact ⟨hp, (Option.some.inj h).symm⟩
/-- A row that a call has made, n elements of m numbers each, with room behind them. -/
def Own (w : World) (B : Nat) (e : TypeId) (m n : Nat) (F : Nat → Int) (v : Value) : Prop := w.ownsRow B e m v n (vals F (n * m))
theorem Own.row {w : World} {B : Nat} {e : TypeId} {m n : Nat} {F : Nat → Int} {v : Value} (h : Own w B e m n F v) : Row w B m n F v ∧ Free w (n * m) v := by
  have h0 : w.ownsRow B e m v n (vals F (n * m)) := h
  rcases h.2 with ⟨rfl, rfl⟩ | ⟨g, cap, cur, rfl, hg, hw, _⟩
  · refine ⟨⟨_, _, rfl, fun q => absurd q (Nat.lt_irrefl 0)⟩, ?_⟩
    rw [Nat.zero_mul]
    exact Free.of0 _ _
  · have hgs : g < w.heap.size := (Array.getElem?_eq_some_iff.1 hw).1
    refine ⟨⟨_, _, rfl, fun _ => ⟨g, 0, rfl, hg, hgs, fun p hp => ?_⟩⟩, ?_⟩
    · rw [Nat.zero_add, World.ownsRow.cellAt h0 p hp, vals_at _ _ _ hp]
    · intro g' o' n' c' hv p hp
      simp only [Value.slice.injEq, Option.some.injEq, Addr.mk.injEq] at hv
      obtain ⟨⟨rfl, rfl, _⟩, _, _⟩ := hv
      rw [Nat.zero_add]
      exact World.ownsRow.frozenAt h0 p
theorem Own.nil (w : World) (B : Nat) (e : TypeId) (m : Nat) (F : Nat → Int) : Own w B e m 0 F (.slice none 0 0) := ⟨by rw [vals_length], Or.inl ⟨rfl, rfl⟩⟩
theorem Own.later {w w' : World} {B : Nat} {e : TypeId} {m n : Nat} {F : Nat → Int} {v : Value} (h : Own w B e m n F v) (hb : Below w.heap.size w w') : Own w' B e m n F v := by
  refine ⟨h.1, ?_⟩
  rcases h.2 with q | ⟨g, cap, cur, rfl, hg, hw, r⟩
  · exact Or.inl q
  · exact Or.inr ⟨g, cap, cur, rfl, hg, (hb.block g (Array.getElem?_eq_some_iff.1 hw).1).trans hw, r⟩
theorem Own.alloc {w : World} {B : Nat} {e : TypeId} {m n : Nat} {F : Nat → Int} {v : Value} (h : Own w B e m n F v) (o : Obj) : Own (w.alloc o) B e m n F v := h.later (below_alloc _ _)
theorem Own.mono {w : World} {B B' : Nat} {e : TypeId} {m n : Nat} {F : Nat → Int} {v : Value} (h : Own w B e m n F v) (hB : B' ≤ B) : Own w B' e m n F v := World.ownsRow.mono h hB
theorem Own.form {w : World} {B : Nat} {e : TypeId} {m n : Nat} {F : Nat → Int} {v : Value} (h : Own w B e m n F v) : ∃ ao cp, v = .slice ao n cp := h.row.1.form
theorem row_cells {w : World} {B m n : Nat} {F : Nat → Int} {a : Addr} {cp : Nat} (h : Row w B m n F (.slice (some a) n cp)) : ∀ j u, (vals F (n * m))[j]? = some u → w.cell? (a.add j) = some u := by
  intro j u hu
  obtain ⟨hj, rfl⟩ := vals_inv hu
  obtain ⟨ao, cp', hv, h⟩ := h
  have hn : 0 < n := Nat.pos_of_ne_zero (fun e => by rw [e, Nat.zero_mul] at hj; omega)
  obtain ⟨g, o, rfl, _, _, hc⟩ := h hn
  simp only [Value.slice.injEq, Option.some.injEq] at hv
  obtain ⟨rfl, _⟩ := hv
  rw [WideShapes.add_plain]
  exact hc j hj
/-- A row of structs of m numbers that a call has made, as a list of numbers. -/
def OwnM (w : World) (B : Nat) (e : TypeId) (m : Nat) (v : Value) (n : Nat) (L : List Int) : Prop := w.ownsRow B e m v n (L.map (Value.int .i64))
theorem vals_listM (L : List Int) : vals (fun p => L.getD p 0) L.length = L.map (Value.int .i64) := by
  apply List.ext_getElem?
  intro p
  rcases Nat.lt_or_ge p L.length with h | h
  · rw [vals_at _ _ _ h]
    simp [h]
  · rw [List.getElem?_eq_none (by rw [vals_length]; exact h), List.getElem?_eq_none (by simpa using h)]
theorem OwnM.own {w : World} {B : Nat} {e : TypeId} {m : Nat} {v : Value} {n : Nat} {L : List Int} (h : OwnM w B e m v n L) (hl : L.length = n * m) : Own w B e m n (fun p => L.getD p 0) v := by
  unfold Own
  rw [← hl, vals_listM]
  exact h
theorem OwnM.kept {w w' : World} {B : Nat} {e : TypeId} {m : Nat} {v : Value} {n : Nat} {L : List Int} (h : OwnM w B e m v n L) (hb : ∀ g, B ≤ g → g < w.heap.size → w'.heap[g]? = w.heap[g]?) : OwnM w' B e m v n L := by
  refine ⟨h.1, ?_⟩
  rcases h.2 with q | ⟨g, cap, cur, rfl, hg, hw, r⟩
  · exact Or.inl q
  · exact Or.inr ⟨g, cap, cur, rfl, hg, (hb g hg (Array.getElem?_eq_some_iff.1 hw).1).trans hw, r⟩
theorem OwnM.later {w w' : World} {B : Nat} {e : TypeId} {m : Nat} {v : Value} {n : Nat} {L : List Int} (h : OwnM w B e m v n L) (hb : Below w.heap.size w w') : OwnM w' B e m v n L := h.kept (fun g _ hg => hb.block g hg)
theorem OwnM.far {w : World} {B : Nat} {e : TypeId} {m : Nat} {v : Value} {n : Nat} {L : List Int} (h : OwnM w B e m v n L) {a : Addr} (ha : a.block < B) (u : Value) : OwnM (w.setCell a u) B e m v n L := h.kept (fun g hg _ => Below.heap_setCell w a u g (by omega))
theorem OwnM.nil (w : World) (B : Nat) (e : TypeId) (m : Nat) : OwnM w B e m (.slice none 0 0) 0 [] := ⟨by simp, Or.inl ⟨rfl, rfl⟩⟩
theorem OwnM.form {w : World} {B : Nat} {e : TypeId} {m : Nat} {v : Value} {n : Nat} {L : List Int} (h : OwnM w B e m v n L) : ∃ ao cp, v = .slice ao n cp := by
  rcases h.2 with ⟨rfl, rfl⟩ | ⟨g, cap, cur, rfl, _⟩
  · exact ⟨_, _, rfl⟩
  · exact ⟨_, _, rfl⟩
theorem OwnM.block {w : World} {B : Nat} {e : TypeId} {m : Nat} {v : Value} {n : Nat} {L : List Int} (h : OwnM w B e m v n L) : ∀ k, v.ownBlock = some k → B ≤ k ∧ k < w.heap.size := by
  intro k hk
  rcases h.2 with ⟨rfl, _⟩ | ⟨g, cap, cur, rfl, hg, hw, _⟩
  · simp [Value.ownBlock] at hk
  · simp [Value.ownBlock] at hk
    subst hk
    exact ⟨hg, (Array.getElem?_eq_some_iff.1 hw).1⟩
end Go.Proofs.Ytdbcmckoiacemaa

namespace Go.Proofs.Ytdbcmckoiacemaa
open Go.RowKit

/-- The box of the law's store, and that nothing old has turned; and one box more. -/
def One (w : World) (v0 v1 v2 : Value) (x : World) : Prop := Below w.heap.size w x ∧ Blk3 x w.heap.size v0 v1 v2
theorem One.later {w x x' : World} {v0 v1 v2 : Value} (h : One w v0 v1 v2 x) (hb : Below x.heap.size x x') : One w v0 v1 v2 x' := ⟨h.1.trans (hb.mono h.1.size), h.2.later hb⟩
def Two (w : World) (v0 v1 v2 : Value) (g : Nat) (x0 x1 x2 : Value) (x : World) : Prop := One w v0 v1 v2 x ∧ Blk3 x g x0 x1 x2
theorem Two.later {w x x' : World} {v0 v1 v2 : Value} {g : Nat} {x0 x1 x2 : Value} (h : Two w v0 v1 v2 g x0 x1 x2 x) (hb : Below x.heap.size x x') : Two w v0 v1 v2 g x0 x1 x2 x' := ⟨h.1.later hb, h.2.later hb⟩
end Go.Proofs.Ytdbcmckoiacemaa

namespace Go.Proofs.Ytdbcmckoiacemaa
open Go.RowKit

theorem Row.at2 {w : World} {B n : Nat} {F : Nat → Int} {ao : Option Addr} {cp : Nat} (h : Row w B 2 n F (.slice ao n cp)) {k : Nat} (hk : k < n) :
    ∃ g o, ao = some ⟨g, o, none⟩ ∧ B ≤ g ∧ g < w.heap.size ∧ w.cell? ⟨g, o + k * 2, none⟩ = some (.int .i64 (F (k * 2))) ∧ w.cell? ⟨g, o + k * 2 + 1, none⟩ = some (.int .i64 (F (k * 2 + 1))) := by
  obtain ⟨g, o, ha, hB, hg, hc⟩ := h.at hk
  exact ⟨g, o, ha, hB, hg, hc 0 (by omega), hc 1 (by omega)⟩
theorem Row.turned {x x' : World} {C m n : Nat} {F : Nat → Int} {v : Value} {row : Option Nat} (h : Row x C m n F v) (hg : x.grownBy x' row) (ho : 0 < n → ∀ k, v.ownBlock = some k → some k ≠ row) : Row x' C m n F v := by
  rcases Nat.eq_zero_or_pos n with e | e
  · subst e
    obtain ⟨ao, cp, rfl, _⟩ := h
    exact ⟨ao, cp, rfl, fun q => absurd q (Nat.lt_irrefl 0)⟩
  · exact h.kept hg.size (fun k hk hlt => hg.block k hlt (ho e k hk))
theorem Free.turned {x x' : World} {C m n : Nat} {F : Nat → Int} {v : Value} {row : Option Nat} (h : Free x (n * m) v) (hr : Row x C m n F v) (hg : x.grownBy x' row) (ho : 0 < n → ∀ k, v.ownBlock = some k → some k ≠ row) : Free x' (n * m) v := by
  rcases Nat.eq_zero_or_pos n with e | e
  · subst e; rw [Nat.zero_mul]; exact Free.of0 _ _
  · intro g o n' c hv p hp
    rw [World.frozen?_of_block (w := x) (a := ⟨g, o + p, none⟩) (hg.block g (hr.lt e g (by rw [hv]; rfl)).2 (ho e g (by rw [hv]; rfl)))]
    exact h g o n' c hv p hp
end Go.Proofs.Ytdbcmckoiacemaa

namespace Go.Proofs.Ytdbcmckoiacemaa
open Go.RowKit

/-- Block b holds two cells, none frozen. -/
def Blk2 (x : World) (b : Nat) (a0 a1 : Value) : Prop :=
  (x.cell? ⟨b, 0, none⟩ = some a0 ∧ x.cell? ⟨b, 1, none⟩ = some a1) ∧ x.frozen? ⟨b, 0, none⟩ = false ∧ x.frozen? ⟨b, 1, none⟩ = false
theorem Blk2.kept {x x' : World} {b : Nat} {a0 a1 : Value} (h : Blk2 x b a0 a1) (hb : x'.heap[b]? = x.heap[b]?) : Blk2 x' b a0 a1 := by
  obtain ⟨⟨h0, h1⟩, f0, f1⟩ := h
  exact ⟨⟨(World.cell?_of_block (w := x) (a := ⟨b, 0, none⟩) hb).trans h0, (World.cell?_of_block (w := x) (a := ⟨b, 1, none⟩) hb).trans h1⟩,
    (World.frozen?_of_block (w := x) (a := ⟨b, 0, none⟩) hb).trans f0, (World.frozen?_of_block (w := x) (a := ⟨b, 1, none⟩) hb).trans f1⟩
theorem Blk2.lt {x : World} {b : Nat} {a0 a1 : Value} (h : Blk2 x b a0 a1) : b < x.heap.size := World.block_lt_of_cell? x _ h.1.1
theorem Blk2.later {x x' : World} {b : Nat} {a0 a1 : Value} (h : Blk2 x b a0 a1) (hb : Below x.heap.size x x') : Blk2 x' b a0 a1 := h.kept (hb.block b h.lt)
theorem Blk2.alloc {x : World} {b : Nat} {a0 a1 : Value} (h : Blk2 x b a0 a1) (o : Obj) : Blk2 (x.alloc o) b a0 a1 := h.later ((Below.refl _ _).alloc (Nat.le_refl _) o)
theorem Blk2.new (w : World) (a0 a1 : Value) (t : TypeId) : Blk2 (w.alloc (.cells #[a0, a1] t)) w.heap.size a0 a1 := by
  refine ⟨⟨World.cell?_alloc_mark w _ _ _ 0, World.cell?_alloc_mark w _ _ _ 1⟩, ?_, ?_⟩ <;> simp
theorem Blk2.put {x : World} {b : Nat} {a0 a1 : Value} (h : Blk2 x b a0 a1) (c v : Value) : Blk2 ((x.setCell ⟨b, 0, none⟩ c).setCell ⟨b, 1, none⟩ v) b c v := by
  obtain ⟨⟨h0, h1⟩, f0, f1⟩ := h
  refine ⟨⟨(World.cell?_setCell_other _ _ _ _ (by simp)).trans (World.cell?_setCell_same _ _ _ h0), World.cell?_setCell_same _ _ _ ((World.cell?_setCell_other _ _ _ _ (by simp)).trans h1)⟩, by simpa using f0, by simpa using f1⟩
/-- A code, and a new row of n structs of m numbers each. -/
def ResRow (m : Nat) (w : World) (c : Int) (n : Nat) (F : Nat → Int) (e : Ending) (w' : World) : Prop := ∃ ao cp, e = .returned (.agg #[.int .i64 c, .slice ao n cp]) ∧ Row w' w.heap.size m n F (.slice ao n cp) ∧ Free w' (n * m) (.slice ao n cp) ∧ Below w.heap.size w w'
end Go.Proofs.Ytdbcmckoiacemaa

namespace Go.Proofs.Ytdbcmckoiacemaa
section
open Go.RowKit
/-- The first N numbers. -/
def nums (F : Nat → Int) (N : Nat) : List Int := (List.range N).map F
theorem nums_length (F : Nat → Int) (N : Nat) : (nums F N).length = N := by simp [nums]
theorem nums_vals (F : Nat → Int) (N : Nat) : (nums F N).map (Value.int .i64) = vals F N := by simp [nums, vals]
theorem run_app (t ty e : TypeId) (i : TypeInfo) (z : Value) (m bytes : Nat) (ht : Try.prog.underlying t = some (.slice e)) (hi : Try.prog.info? e = some i) (hz : i.zero = some z) (hsize : i.size = m) (hby : i.bytes = bytes) (hzs : z.cells.size = m) (hm : 0 < m) (hb5 : bytes ≤ 1000)
    (w : World) (base n0 : Nat) (L : List Int) (v : Value) (hown : OwnM w base e m v n0 L) (B n : Nat) (F : Nat → Int) (x : Value) (h : Row w B m n F x) (hn : n0 + n ≤ 1048576) (hbase : base ≤ w.heap.size) :
    ∃ ao cp w', (Builtin.append_ #[t, t] ty #[v, x]).run Try.prog w = .ok (.slice ao (n0 + n) cp) w' ∧ OwnM w' base e m (.slice ao (n0 + n) cp) (n0 + n) (L ++ nums F (n * m)) ∧ w.grownBy w' v.ownBlock := by
  have hbb : (n0 + n) * bytes ≤ 1048576 * 1000 := Nat.mul_le_mul hn hb5
  obtain ⟨ao, cp, rfl⟩ := h.form
  cases ao with
  | none =>
    have e0 : n = 0 := by
      rcases Nat.eq_zero_or_pos n with q | q
      · exact q
      · obtain ⟨g, o, hg, _⟩ := h.at q
        cases hg
    subst e0
    obtain ⟨av, cv, rfl⟩ := hown.form
    refine ⟨av, cv, w, ?_, ?_, ⟨rfl, rfl, rfl, Nat.le_refl _, fun _ _ _ => rfl⟩⟩
    · rcases hown.2 with ⟨q, _⟩ | ⟨g, cap, cur, q, _, _, hnc, _⟩
      · cases q
        simp [Builtin.append_, run_underlying ht, sizeOf, typeInfo, hi, Builtin.lenOf, Builtin.firstCells]
      · cases q
        simp [Builtin.append_, run_underlying ht, sizeOf, typeInfo, hi, Builtin.lenOf, Builtin.firstCells, hnc, storeCells]
    · simpa [nums] using hown
  | some a =>
    obtain ⟨v', w', h1, h2, h3, _⟩ := run_append_own (P := Try.prog) w base t ty e i z m bytes ht hi hz hsize hby hzs hm v n0 _ hown a n cp (vals F (n * m)) (vals_length _ _) (row_cells h) (vals_one _ _) (by unfold maxLen; omega) (by omega) hbase
    have h2' : OwnM w' base e m v' (n0 + n) (L ++ nums F (n * m)) := by
      unfold OwnM
      rw [List.map_append, nums_vals]
      exact h2
    obtain ⟨ao', cp', rfl⟩ := h2'.form
    exact ⟨ao', cp', w', h1, h2', h3⟩
/-- The law for the walk. -/
theorem wpList_app (e : TypeId) (i : TypeInfo) (z : Value) (m bytes : Nat) {ops : Array Oper} {rest : List Oper} {o : Oper} {a : Act} {Q : Exit → Act → World → Prop} (hgd : o.guard = none) (s x : Operand) (t : TypeId) (ho : o.op = .call { callee := .builtin .append, args := #[s, x], argTypes := #[t, t] })
    (ht : Try.prog.underlying t = some (.slice e)) (hi : Try.prog.info? e = some i) (hz : i.zero = some z) (hsize : i.size = m) (hby : i.bytes = bytes) (hzs : z.cells.size = m) (hm : 0 < m) (hb5 : bytes ≤ 1000)
    (w : World) (base n0 : Nat) (L : List Int) (v : Value) (hs : a.eval s = v) (hown : OwnM w base e m v n0 L) (B n : Nat) (F : Nat → Int) (u : Value) (hx : a.eval x = u) (h : Row w B m n F u) (hn : n0 + n ≤ 1048576) (hbase : base ≤ w.heap.size)
    (hK : ∀ ao cp w', OwnM w' base e m (.slice ao (n0 + n) cp) (n0 + n) (L ++ nums F (n * m)) → w.grownBy w' v.ownBlock → wpList Try.prog ops Q rest (a.put o.dst (.slice ao (n0 + n) cp)) w') : wpList Try.prog ops Q (o :: rest) a w := by
  refine wpList_plain hgd fun K hK' => ?_
  obtain ⟨ao, cp, w', hr, h2, h3⟩ := run_app t o.type e i z m bytes ht hi hz hsize hby hzs hm hb5 w base n0 L v hown B n F u h hn hbase
  unfold Oper.wp execOp
  simp only [ho, resolve, invoke, builtin, Sem.run_bind, Sem.run_pure, Result.andThen_ok, List.map_toArray, List.map_cons, List.map_nil, hs, hx, hr]
  exact hK' _ _ (hK ao cp w' h2 h3)
theorem OwnM.lit0 (Y : World) (b : Nat) (e : TypeId) (m : Nat) (hb : Y.heap.size = b) : OwnM (Y.alloc (.cells #[] e)) b e m (.slice (some ⟨b, 0, none⟩) 0 0) 0 [] := by
  subst hb
  exact World.ownsRow_lit Y #[] 0 (Nat.le_refl _) (Nat.zero_le _) (by simp)
theorem OwnM.keptB {w w' : World} {B : Nat} {e : TypeId} {m : Nat} {v : Value} {n : Nat} {L : List Int} (h : OwnM w B e m v n L) (hb : ∀ k, v.ownBlock = some k → w'.heap[k]? = w.heap[k]?) : OwnM w' B e m v n L := by
  obtain ⟨h1, h2⟩ := h
  refine ⟨h1, ?_⟩
  rcases h2 with q | ⟨g, cap, cur, rfl, q1, q2, q3⟩
  · exact Or.inl q
  · exact Or.inr ⟨g, cap, cur, rfl, q1, (hb g rfl).trans q2, q3⟩
theorem OwnM.set {w : World} {B : Nat} {e : TypeId} {m : Nat} {v : Value} {n : Nat} {L : List Int} (h : OwnM w B e m v n L) {c : Nat} (hc : ∀ k, v.ownBlock = some k → k ≠ c) (j : Nat) (u : Value) : OwnM (w.setCell ⟨c, j, none⟩ u) B e m v n L :=
  h.keptB (fun k hk => Below.heap_setCell w _ u k (hc k hk))
end
end Go.Proofs.Ytdbcmckoiacemaa

namespace Go.Proofs.Ytdbcmckoiacemaa
open Go.RowKit

theorem fl_back_fin : ∀ n : Fin 200, floatToIntVal .f64 (floatOfInt .f64 (n.val : Int)) .i64 = some (n.val : Int) := by decide +kernel
theorem fl_back (n : Int) (h0 : 0 ≤ n) (h1 : n ≤ 199) : floatToIntVal .f64 (floatOfInt .f64 n) .i64 = some n := by
  have := fl_back_fin ⟨n.toNat, by omega⟩
  simpa [Int.toNat_of_nonneg h0] using this
/-- A small number comes back out of its float. -/
theorem run_to_int (n : Int) (h0 : 0 ≤ n) (h1 : n ≤ 199) (w : World) : (convert 95 2 (.float .f64 (floatOfInt .f64 n))).run Try.prog w = .ok (.int .i64 n) w :=
  run_convert_float_int w _ _ _ _ _ _ (by rw [Try.underlying95]; rfl) Try.underlying2 (fl_back n h0 h1)

/-- What is told of a key: 0 it stands for something, 1 for nothing, 3 it leaves its bounds. -/
def faultOf (key : Int) : Int :=
  if key < 0 ∨ 199 < key then 3
  else if key = 0 ∨ (10 ≤ key ∧ key ≤ 19) ∨ (180 ≤ key ∧ key ≤ 189) ∨ (20 ≤ key ∧ key ≤ 119 ∧ key % 10 ≤ 5) then 0 else 1
theorem faultOf_range {key : Int} (h : key < 0 ∨ 199 < key) : faultOf key = 3 := by unfold faultOf; rw [if_pos h]
theorem faultOf_ok {key : Int} (h : key = 0 ∨ (10 ≤ key ∧ key ≤ 19) ∨ (180 ≤ key ∧ key ≤ 189) ∨ (20 ≤ key ∧ key ≤ 119 ∧ key % 10 ≤ 5)) : faultOf key = 0 := by
  unfold faultOf; rw [if_neg (by omega), if_pos h]
theorem faultOf_form {key : Int} (h0 : 0 ≤ key) (h1 : key ≤ 199) (h : ¬ (key = 0 ∨ (10 ≤ key ∧ key ≤ 19) ∨ (180 ≤ key ∧ key ≤ 189) ∨ (20 ≤ key ∧ key ≤ 119 ∧ key % 10 ≤ 5))) : faultOf key = 1 := by
  unfold faultOf; rw [if_neg (by omega), if_neg h]
set_option maxHeartbeats 400000 in
theorem l1Fault_any (key : Int) (w : World) :
    Calls Try.prog 39 #[.int .i64 key] w fun e w' => e = .returned (.int .i64 (faultOf key)) ∧ w' = w := by
  by_cases hlo : key < 0
  · rw [faultOf_range (Or.inl hlo)]
    go_enter Try.func39, Try.ntmps39
    go_wp2
    go_ret
    exact ⟨rfl, rfl⟩
  by_cases hhi : 199 < key
  · rw [faultOf_range (Or.inr hhi)]
    have d1 : decide (key ≤ 199) = false := decide_eq_false (by omega)
    go_enter Try.func39, Try.ntmps39
    go_wp2
    go_ret
    exact ⟨rfl, rfl⟩
  have d1 : decide (key ≤ 199) = true := decide_eq_true (by omega)
  by_cases hz : key = 0
  · subst hz
    rw [faultOf_ok (Or.inl rfl)]
    go_enter Try.func39, Try.ntmps39
    go_wp2
    go_ret
    exact ⟨rfl, rfl⟩
  have d0 : (key == 0) = false := beq_eq_false_iff_ne.2 hz
  by_cases h9 : key < 10
  · rw [faultOf_form (by omega) (by omega) (by omega)]
    go_enter Try.func39, Try.ntmps39
    go_wp2
    go_ret
    exact ⟨rfl, rfl⟩
  by_cases h19 : key < 20
  · rw [faultOf_ok (by omega)]
    have d2 : decide (key ≤ 19) = true := decide_eq_true (by omega)
    go_enter Try.func39, Try.ntmps39
    go_wp2
    go_ret
    exact ⟨rfl, rfl⟩
  have d2 : decide (key ≤ 19) = false := decide_eq_false (by omega)
  by_cases h119 : key < 120
  · have d4 : decide (key ≤ 119) = true := decide_eq_true (by omega)
    by_cases h5 : key % 10 ≤ 5
    · rw [faultOf_ok (by omega)]
      have d5 : decide (key % 10 ≤ 5) = true := decide_eq_true h5
      go_enter Try.func39, Try.ntmps39
      go_wp2
      go_ret
      exact ⟨rfl, rfl⟩
    · rw [faultOf_form (by omega) (by omega) (by omega)]
      have d5 : decide (key % 10 ≤ 5) = false := decide_eq_false h5
      go_enter Try.func39, Try.ntmps39
      go_wp2
      go_ret
      exact ⟨rfl, rfl⟩
  have d4 : decide (key ≤ 119) = false := decide_eq_false (by omega)
  by_cases h179 : key < 180
  · rw [faultOf_form (by omega) (by omega) (by omega)]
    go_enter Try.func39, Try.ntmps39
    go_wp2
    go_ret
    exact ⟨rfl, rfl⟩
  by_cases h189 : key < 190
  · rw [faultOf_ok (by omega)]
    have d6 : decide (key ≤ 189) = true := decide_eq_true (by omega)
    go_enter Try.func39, Try.ntmps39
    go_wp2
    go_ret
    exact ⟨rfl, rfl⟩
  have d6 : decide (key ≤ 189) = false := decide_eq_false (by omega)
  rw [faultOf_form (by omega) (by omega) (by omega)]
  go_enter Try.func39, Try.ntmps39
  go_wp2
  go_ret
  exact ⟨rfl, rfl⟩
end Go.Proofs.Ytdbcmckoiacemaa

namespace Go.Proofs.Ytdbcmckoiacemaa
open Go.RowKit

theorem isLockKind_is (v : Int) (r : Bool) (hr : decide (1 ≤ v ∧ v ≤ 3) = r) (w : World) :
    Calls Try.prog 58 #[.int .i64 v] w fun e w' => e = .returned (.bool r) ∧ w' = w := by
  by_cases h1 : 1 ≤ v
  · by_cases h2 : v ≤ 3
    · have d : decide (v ≤ 3) = true := decide_eq_true h2
      rw [decide_eq_true (show 1 ≤ v ∧ v ≤ 3 from ⟨h1, h2⟩)] at hr
      subst hr
      go_enter Try.func58, Try.ntmps58
      go_wp2
      go_ret
      exact ⟨rfl, rfl⟩
    · have d : decide (v ≤ 3) = false := decide_eq_false h2
      rw [decide_eq_false (show ¬ (1 ≤ v ∧ v ≤ 3) from fun h => h2 h.2)] at hr
      subst hr
      go_enter Try.func58, Try.ntmps58
      go_wp2
      go_ret
      exact ⟨rfl, rfl⟩
  · have d : decide (1 ≤ v) = false := decide_eq_false h1
    rw [decide_eq_false (show ¬ (1 ≤ v ∧ v ≤ 3) from fun h => h1 h.1)] at hr
    subst hr
    go_enter Try.func58, Try.ntmps58
    go_wp2
    go_ret
    exact ⟨rfl, rfl⟩

/-- How two numbers stand to each other: -1, 0 or 1. -/
def cmpOf (a b : Int) : Int := if a < b then -1 else if b < a then 1 else 0
theorem compare_is (a b r : Int) (hr : cmpOf a b = r) (w : World) :
    Calls Try.prog 60 #[.int .i64 a, .int .i64 b] w fun e w' => e = .returned (.int .i64 r) ∧ w' = w := by
  unfold cmpOf at hr
  by_cases h1 : a < b
  · rw [if_pos h1] at hr
    subst hr
    go_enter Try.func60, Try.ntmps60
    go_wp2
    go_ret
    exact ⟨rfl, rfl⟩
  · rw [if_neg h1] at hr
    have d1 : decide (a < b) = false := decide_eq_false h1
    by_cases h2 : b < a
    · rw [if_pos h2] at hr
      subst hr
      clear h1
      go_enter Try.func60, Try.ntmps60
      go_wp2
      go_ret
      exact ⟨rfl, rfl⟩
    · rw [if_neg h2] at hr
      subst hr
      have d2 : decide (b < a) = false := decide_eq_false h2
      clear h1 h2
      go_enter Try.func60, Try.ntmps60
      go_wp2
      go_ret
      exact ⟨rfl, rfl⟩
end Go.Proofs.Ytdbcmckoiacemaa

namespace Go.Proofs.Ytdbcmckoiacemaa
open Go.RowKit

/-- The kind of a key from 0 to 199, and where its kind begins. -/
def kindAt (key : Int) : Int := if key < 10 then 0 else if key < 20 then 1 else if key < 180 then 2 else 3
def firstAt (key : Int) : Int := if key < 10 then 0 else if key < 20 then 10 else if key < 180 then 20 else 180

set_option maxHeartbeats 400000 in
theorem tellKey_any (key : Int) (w : World) (h0 : 0 ≤ key) (h1 : key ≤ 199) :
    Calls Try.prog 43 #[.int .i64 key] w fun e w' => e = .returned (.complex .f64 (floatOfInt .f64 (kindAt key)) (floatOfInt .f64 (key - firstAt key))) ∧ w' = w := by
  by_cases h180 : 180 ≤ key
  · have e1 : kindAt key = 3 := by unfold kindAt; repeat rw [if_neg (by omega)]
    have e2 : firstAt key = 180 := by unfold firstAt; repeat rw [if_neg (by omega)]
    rw [e1, e2]; clear e1 e2
    go_enter Try.func43, Try.ntmps43
    go_wp2
    go_rounds 1
    go_ret
    exact ⟨rfl, rfl⟩
  by_cases h20 : 20 ≤ key
  · have e1 : kindAt key = 2 := by unfold kindAt; rw [if_neg (by omega), if_neg (by omega), if_pos (by omega)]
    have e2 : firstAt key = 20 := by unfold firstAt; rw [if_neg (by omega), if_neg (by omega), if_pos (by omega)]
    rw [e1, e2]; clear e1 e2
    go_enter Try.func43, Try.ntmps43
    go_wp2
    go_rounds 2
    go_ret
    exact ⟨rfl, rfl⟩
  by_cases h10 : 10 ≤ key
  · have e1 : kindAt key = 1 := by unfold kindAt; rw [if_neg (by omega), if_pos (by omega)]
    have e2 : firstAt key = 10 := by unfold firstAt; rw [if_neg (by omega), if_pos (by omega)]
    rw [e1, e2]; clear e1 e2
    go_enter Try.func43, Try.ntmps43
    go_wp2
    go_rounds 3
    go_ret
    exact ⟨rfl, rfl⟩
  · have e1 : kindAt key = 0 := by unfold kindAt; rw [if_pos (by omega)]
    have e2 : firstAt key = 0 := by unfold firstAt; rw [if_pos (by omega)]
    rw [e1, e2]; clear e1 e2
    go_enter Try.func43, Try.ntmps43
    go_wp2
    go_rounds 4
    go_ret
    exact ⟨by simp, rfl⟩

theorem kindAt_0 {key : Int} (h : key < 10) : kindAt key = 0 ∧ firstAt key = 0 := by unfold kindAt firstAt; rw [if_pos h, if_pos h]; exact ⟨rfl, rfl⟩
theorem kindAt_1 {key : Int} (h : 10 ≤ key) (h' : key < 20) : kindAt key = 1 ∧ firstAt key = 10 := by
  unfold kindAt firstAt; rw [if_neg (by omega), if_pos h', if_neg (by omega), if_pos h']; exact ⟨rfl, rfl⟩
theorem kindAt_2 {key : Int} (h : 20 ≤ key) (h' : key < 180) : kindAt key = 2 ∧ firstAt key = 20 := by
  unfold kindAt firstAt; rw [if_neg (by omega), if_neg (by omega), if_pos h', if_neg (by omega), if_neg (by omega), if_pos h']; exact ⟨rfl, rfl⟩
theorem kindAt_3 {key : Int} (h : 180 ≤ key) : kindAt key = 3 ∧ firstAt key = 180 := by
  unfold kindAt firstAt; rw [if_neg (by omega), if_neg (by omega), if_neg (by omega), if_neg (by omega), if_neg (by omega), if_neg (by omega)]; exact ⟨rfl, rfl⟩

set_option maxHeartbeats 400000 in
theorem partsTold_entry (r : Int) (w : World) (h0 : 0 ≤ r) (h1 : r ≤ 199) :
    Calls Try.prog 42 #[.complex .f64 (floatOfInt .f64 2) (floatOfInt .f64 r)] w fun e w' => e = .returned (.tuple #[.int .i64 2, .int .i64 (r / 10), .int .i64 (r % 10)]) ∧ w' = w := by
  have k2 := fun w => run_to_int 2 (by omega) (by omega) w
  have kr := fun w => run_to_int r h0 h1 w
  go_enter Try.func42, Try.ntmps42
  go_wp2
  go_ret3
  exact ⟨rfl, rfl⟩
set_option maxHeartbeats 400000 in
theorem partsTold_other (k r : Int) (w : World) (hk0 : 0 ≤ k) (hk3 : k ≤ 3) (hk : (k == 2) = false) (h0 : 0 ≤ r) (h1 : r ≤ 199) :
    Calls Try.prog 42 #[.complex .f64 (floatOfInt .f64 k) (floatOfInt .f64 r)] w fun e w' => e = .returned (.tuple #[.int .i64 k, .int .i64 r, .int .i64 0]) ∧ w' = w := by
  have k2 := fun w => run_to_int k hk0 (by omega) w
  have kr := fun w => run_to_int r h0 h1 w
  go_enter Try.func42, Try.ntmps42
  go_wp2
  go_ret3
  exact ⟨rfl, rfl⟩

set_option maxHeartbeats 1000000 in
theorem keyFault_any (key : Int) (w : World) :
    Calls Try.prog 11 #[.int .i64 key] w fun e w' => e = .returned (.int .i64 (faultOf key)) ∧ w' = w := by
  by_cases hlo : key < 0
  · rw [faultOf_range (Or.inl hlo)]
    go_enter Try.func11, Try.ntmps11
    go_wp2
    go_ret
    exact ⟨rfl, rfl⟩
  by_cases hhi : 199 < key
  · rw [faultOf_range (Or.inr hhi)]
    go_enter Try.func11, Try.ntmps11
    go_wp2
    go_ret
    exact ⟨rfl, rfl⟩
  by_cases h10 : key < 10
  · have HE := kindAt_0 h10
    by_cases hz : key = 0
    · subst hz
      rw [faultOf_ok (Or.inl rfl)]
      go_enter Try.func11, Try.ntmps11
      go_wp2_with fail
      refine (tellKey_any _ _ (by omega) (by omega)).mono ?_
      rintro e w' ⟨rfl, rfl⟩
      rw [HE.1, HE.2]; clear HE
      go_wp2_with fail
      refine (partsTold_other _ _ _ (by omega) (by omega) rfl (by omega) (by omega)).mono ?_
      rintro e w' ⟨rfl, rfl⟩
      go_wp2
      go_ret
      exact ⟨rfl, rfl⟩
    · rw [faultOf_form (by omega) (by omega) (by omega)]
      have d0 : (key == 0) = false := beq_eq_false_iff_ne.2 hz
      go_enter Try.func11, Try.ntmps11
      go_wp2_with fail
      refine (tellKey_any _ _ (by omega) (by omega)).mono ?_
      rintro e w' ⟨rfl, rfl⟩
      rw [HE.1, HE.2]; clear HE
      go_wp2_with fail
      refine (partsTold_other _ _ _ (by omega) (by omega) rfl (by omega) (by omega)).mono ?_
      rintro e w' ⟨rfl, rfl⟩
      go_wp2
      go_ret
      exact ⟨rfl, rfl⟩
  by_cases h20 : key < 20
  · have HE := kindAt_1 (by omega) h20
    rw [faultOf_ok (by omega)]
    go_enter Try.func11, Try.ntmps11
    go_wp2_with fail
    refine (tellKey_any _ _ (by omega) (by omega)).mono ?_
    rintro e w' ⟨rfl, rfl⟩
    rw [HE.1, HE.2]; clear HE
    go_wp2_with fail
    refine (partsTold_other _ _ _ (by omega) (by omega) rfl (by omega) (by omega)).mono ?_
    rintro e w' ⟨rfl, rfl⟩
    go_wp2
    go_ret
    exact ⟨rfl, rfl⟩
  by_cases h180 : key < 180
  · have HE := kindAt_2 (by omega) h180
    by_cases hok : key < 120 ∧ key % 10 ≤ 5
    · rw [faultOf_ok (by omega)]
      have b1 : (key - 20) / 10 ≤ 9 := by omega
      have b2 : 0 ≤ (key - 20) / 10 := by omega
      have b3 : (key - 20) % 10 ≤ 5 := by omega
      have b4 : 0 ≤ (key - 20) % 10 := by omega
      clear hok
      go_enter Try.func11, Try.ntmps11
      go_wp2_with fail
      refine (tellKey_any _ _ (by omega) (by omega)).mono ?_
      rintro e w' ⟨rfl, rfl⟩
      rw [HE.1, HE.2]; clear HE
      go_wp2_with fail
      refine (partsTold_entry _ _ (by omega) (by omega)).mono ?_
      rintro e w' ⟨rfl, rfl⟩
      go_wp2
      go_ret
      exact ⟨rfl, rfl⟩
    · rw [faultOf_form (by omega) (by omega) (by omega)]
      have b2 : 0 ≤ (key - 20) / 10 := by omega
      have b4 : 0 ≤ (key - 20) % 10 := by omega
      by_cases b1 : (key - 20) / 10 ≤ 9
      · have b3 : 5 < (key - 20) % 10 := by omega
        have d3 : decide (5 < (key - 20) % 10) = true := decide_eq_true b3
        clear hok
        go_enter Try.func11, Try.ntmps11
        go_wp2_with fail
        refine (tellKey_any _ _ (by omega) (by omega)).mono ?_
        rintro e w' ⟨rfl, rfl⟩
        rw [HE.1, HE.2]; clear HE
        go_wp2_with fail
        refine (partsTold_entry _ _ (by omega) (by omega)).mono ?_
        rintro e w' ⟨rfl, rfl⟩
        go_wp2
        go_ret
        exact ⟨rfl, rfl⟩
      · have b3 : 9 < (key - 20) / 10 := by omega
        have d3 : decide (9 < (key - 20) / 10) = true := decide_eq_true b3
        clear hok b1
        go_enter Try.func11, Try.ntmps11
        go_wp2_with fail
        refine (tellKey_any _ _ (by omega) (by omega)).mono ?_
        rintro e w' ⟨rfl, rfl⟩
        rw [HE.1, HE.2]; clear HE
        go_wp2_with fail
        refine (partsTold_entry _ _ (by omega) (by omega)).mono ?_
        rintro e w' ⟨rfl, rfl⟩
        go_wp2
        go_ret
        exact ⟨rfl, rfl⟩
  · have HE := kindAt_3 (key := key) (by omega)
    by_cases hok : key < 190
    focus
      rw [faultOf_ok (by omega)]
    rotate_left
    focus
      rw [faultOf_form (by omega) (by omega) (by omega)]
      have d3 : decide (9 < key - 180) = true := decide_eq_true (by omega)
    rotate_left
    all_goals
      go_enter Try.func11, Try.ntmps11
      go_wp2_with fail
      refine (tellKey_any _ _ (by omega) (by omega)).mono ?_
      rintro e w' ⟨rfl, rfl⟩
      rw [HE.1, HE.2]; clear HE
      go_wp2_with fail
      refine (partsTold_other _ _ _ (by omega) (by omega) rfl (by omega) (by omega)).mono ?_
      rintro e w' ⟨rfl, rfl⟩
      go_wp2
      go_ret
      exact ⟨rfl, rfl⟩
end Go.Proofs.Ytdbcmckoiacemaa

namespace Go.Proofs.Ytdbcmckoiacemaa
open Go.RowKit

theorem below_dn {B : Nat} {a w : World} (h : Below B a w) (q : Nat) : Below B a (w.drewN q) := ⟨h.os, h.tape, h.output, h.size, h.block⟩
end Go.Proofs.Ytdbcmckoiacemaa

namespace Go.Proofs.Ytdbcmckoiacemaa
open Go.RowKit Go.Maps

def place (a b : Int) : Value := .agg #[.int .i64 a, .int .i64 b]
end Go.Proofs.Ytdbcmckoiacemaa

namespace Go.Proofs.Ytdbcmckoiacemaa
section
open Go.RowKit Go.Lib
/-- Block g is a row of N cells of type e. -/
def Blkk (x : World) (g : Nat) (e : TypeId) (N : Nat) : Prop := ∃ cur, x.heap[g]? = some (.cells cur e) ∧ cur.size = N
theorem Blkk.kept {x x' : World} {g : Nat} {e : TypeId} {N : Nat} (h : Blkk x g e N) (hb : x'.heap[g]? = x.heap[g]?) : Blkk x' g e N := by
  obtain ⟨cur, h1, h2⟩ := h
  exact ⟨cur, hb.trans h1, h2⟩
theorem Blkk.lt {x : World} {g : Nat} {e : TypeId} {N : Nat} (h : Blkk x g e N) : g < x.heap.size := by
  obtain ⟨cur, h1, _⟩ := h
  exact (Array.getElem?_eq_some_iff.1 h1).1
theorem Blkk.set {x : World} {g : Nat} {e : TypeId} {N : Nat} (h : Blkk x g e N) (o : Nat) (u : Value) : Blkk (x.setCell ⟨g, o, none⟩ u) g e N := by
  obtain ⟨cur, h1, h2⟩ := h
  refine ⟨cur.setIfInBounds o u, ?_, by simpa using h2⟩
  simp [World.setCell, Array.getElem?_modify, h1]
theorem Blkk.sets {g : Nat} {e : TypeId} {N : Nat} : ∀ (vs : List Value) (o : Nat) (x : World), Blkk x g e N → Blkk (x.setCells g o vs) g e N
  | [], _, _, h => h
  | v :: r, o, _, h => Blkk.sets r (o + 1) _ (h.set o v)
theorem Blkk.cell {x : World} {g : Nat} {e : TypeId} {N : Nat} (h : Blkk x g e N) {p : Nat} (hp : p < N) : (∃ u, x.cell? ⟨g, p, none⟩ = some u) ∧ x.frozen? ⟨g, p, none⟩ = false := by
  obtain ⟨cur, h1, h2⟩ := h
  refine ⟨⟨cur[p]'(by omega), ?_⟩, ?_⟩
  · simp [World.cell?, h1]
  · simp [World.frozen?, h1]
theorem own_of {x : World} {B g : Nat} {e : TypeId} {m n cap : Nat} {F : Nat → Int} (h : Blkk x g e (cap * m)) (hB : B ≤ g) (hn : n ≤ cap) (hc : cap ≤ maxLen) (hF : ∀ p, p < n * m → x.cell? ⟨g, p, none⟩ = some (.int .i64 (F p))) : Own x B e m n F (.slice (some ⟨g, 0, none⟩) n cap) := by
  obtain ⟨cur, h1, h2⟩ := h
  refine ⟨vals_length _ _, Or.inr ⟨g, cap, cur, rfl, hB, h1, hn, hc, h2, ?_⟩⟩
  apply List.ext_getElem?
  intro p
  rcases Nat.lt_or_ge p (n * m) with hp | hp
  · rw [vals_at F _ p hp]
    have hle : n * m ≤ cap * m := Nat.mul_le_mul_right m hn
    have := hF p hp
    have hps : p < cur.size := by omega
    simp [World.cell?, h1, hps] at this
    rw [List.getElem?_take, if_pos hp]
    simp [hps, this]
  · rw [List.getElem?_eq_none (by rw [List.length_take]; omega), List.getElem?_eq_none (by rw [vals_length]; exact hp)]
theorem Own.parts {x : World} {B : Nat} {e : TypeId} {m n : Nat} {F : Nat → Int} {v : Value} (h : Own x B e m n F v) : (v = .slice none 0 0 ∧ n = 0) ∨ ∃ g cap, v = .slice (some ⟨g, 0, none⟩) n cap ∧ B ≤ g ∧ n ≤ cap ∧ cap ≤ maxLen ∧ Blkk x g e (cap * m) ∧ ∀ p, p < n * m → x.cell? ⟨g, p, none⟩ = some (.int .i64 (F p)) := by
  have hr := h.row.1
  rcases h.2 with q | ⟨g, cap, cur, rfl, hg, hw, h1, h2, h3, _⟩
  · exact Or.inl q
  · refine Or.inr ⟨g, cap, rfl, hg, h1, h2, ⟨cur, hw, h3⟩, fun p hp => ?_⟩
    have hn : 0 < n := Nat.pos_of_ne_zero (fun e => by subst e; simp at hp)
    obtain ⟨ao, cp, hv, hr⟩ := hr
    obtain ⟨g', o', e, _, _, hc⟩ := hr hn
    simp at hv
    obtain ⟨rfl, rfl⟩ := hv
    simp at e
    obtain ⟨rfl, rfl⟩ := e
    have := hc p hp
    rwa [Nat.zero_add] at this
theorem grown_sets (g : Nat) : ∀ (vs : List Value) (o : Nat) (w : World), w.grownBy (w.setCells g o vs) (some g)
  | [], _, _ => ⟨rfl, rfl, rfl, Nat.le_refl _, fun _ _ _ => rfl⟩
  | v :: r, o, w => by
    have ih := grown_sets g r (o + 1) (w.setCell ⟨g, o, none⟩ v)
    refine ⟨ih.os, ih.tape, ih.output, Nat.le_trans (by simp) ih.size, fun i hi hne => (ih.block i (by simpa using hi) hne).trans (Below.heap_setCell w _ _ i (fun e => hne (by rw [e])))⟩
/-- 'clear(s[i:])' at a slice of structs. -/
theorem run_clear_row (t e : TypeId) (z : Value) (m : Nat) (ht : Try.prog.underlying t = some (.slice e)) (hv : ∀ w, (zeroValue e).run Try.prog w = .ok z w) (hz : z.cells.size = m) (h1 : ∀ v ∈ z.cells.toList, v.oneCell' = true) (w : World) (g a k c N : Nat) (hb : Blkk w g e N) (hN : a + k * m ≤ N) (hk : 0 < k) (hm : 0 < m) :
    ∃ w', (∀ ty, (Builtin.clear_ #[t] ty #[.slice (some ⟨g, a, none⟩) k c]).run Try.prog w = .ok (.tuple #[]) w') ∧ (Blkk w' g e N ∧ ∀ p, p < a → w'.cell? ⟨g, p, none⟩ = w.cell? ⟨g, p, none⟩) ∧ w.grownBy w' (some g) := by
  have hzl : (Builtin.zeroCells z.cells k).toList.length = k * m := by simp [Builtin.zeroCells, hz]
  refine ⟨w.setCells g a (Builtin.zeroCells z.cells k).toList, fun ty => ?_, ⟨hb.sets _ _ _, fun p hp => World.cell?_setCells_out g _ a w _ (fun _ _ => Or.inl hp)⟩, ?_⟩
  · have hst := run_storeCells_cells (P := Try.prog) g a (Builtin.zeroCells z.cells k).toList 0 w (fun j hj => by rw [Nat.add_zero]; obtain ⟨u, hu⟩ := (hb.cell (p := a + j) (by omega)).1; rw [hu]; rfl) (fun j hj => by rw [Nat.add_zero]; exact (hb.cell (p := a + j) (by omega)).2) (fun v hv' => by
      simp only [Builtin.zeroCells, Array.toList_map, List.mem_map] at hv'
      obtain ⟨i, _, rfl⟩ := hv'
      have hi : i % z.cells.size < z.cells.size := Nat.mod_lt _ (by omega)
      rw [getElem!_pos z.cells _ hi]
      exact h1 _ (Array.getElem_mem_toList hi))
    simp only [Nat.add_zero] at hst
    obtain ⟨q, rfl⟩ : ∃ q, k = q + 1 := ⟨k - 1, by omega⟩
    simp [Builtin.clear_, run_underlying ht, hv, hst]
  · exact grown_sets g _ a w
end

section
open Go.RowKit Go.Lib
theorem Own.congr {x : World} {B : Nat} {e : TypeId} {m n : Nat} {F G : Nat → Int} {v : Value} (h : Own x B e m n F v) (hF : ∀ p, p < n * m → F p = G p) : Own x B e m n G v := by
  have hv : vals F (n * m) = vals G (n * m) := by
    unfold vals
    refine List.map_congr_left (fun p hp => ?_)
    rw [hF p (List.mem_range.1 hp)]
  unfold Own at *
  rw [← hv]
  exact h
end
end Go.Proofs.Ytdbcmckoiacemaa

namespace Go.Proofs.Ytdbcmckoiacemaa
open Go.RowKit Go.Maps

theorem own_in {w : World} {B : Nat} {e : TypeId} {m n : Nat} {F : Nat → Int} {v : Value} (h : Own w B e m n F v) : ∀ k, v.ownBlock = some k → B ≤ k ∧ k < w.heap.size := by
  intro k hk
  rcases h.2 with ⟨rfl, _⟩ | ⟨g, cap, cur, rfl, hg, hw, _⟩
  · simp [Value.ownBlock] at hk
  · simp [Value.ownBlock] at hk
    subst hk
    exact ⟨hg, (Array.getElem?_eq_some_iff.1 hw).1⟩
end Go.Proofs.Ytdbcmckoiacemaa

namespace Go.Proofs.Ytdbcmckoiacemaa
open Go.RowKit

theorem own_kept {w w' : World} {B : Nat} {e : TypeId} {m n : Nat} {F : Nat → Int} {v : Value} (h : Own w B e m n F v) (hb : ∀ k, v.ownBlock = some k → w'.heap[k]? = w.heap[k]?) : Own w' B e m n F v := by
  refine ⟨h.1, ?_⟩
  rcases h.2 with q | ⟨g, cap, cur, rfl, hg, hw, r⟩
  · exact Or.inl q
  · exact Or.inr ⟨g, cap, cur, rfl, hg, (hb g rfl).trans hw, r⟩
theorem Blk3.grown {c c' : World} {b q : Nat} {a0 a1 a2 : Value} (h : Blk3 c b a0 a1 a2) (hg : c.grownBy c' (some q)) (hne : b ≠ q) : Blk3 c' b a0 a1 a2 := h.kept (hg.block b h.lt (by simp; exact hne))
end Go.Proofs.Ytdbcmckoiacemaa

namespace Go.Proofs.Ytdbcmckoiacemaa
section
open Go.RowKit
end

section
open Go.RowKit
/-- One more struct in its place. -/
def insF (F : Nat → Int) (m n k : Nat) (xs : List Int) : Nat → Int := fun p => (nums F (k * m) ++ xs ++ nums (fun p => F (k * m + p)) ((n - k) * m)).getD p 0
end
section
open Go.RowKit
end
section
open Go.RowKit
end
end Go.Proofs.Ytdbcmckoiacemaa

namespace Go.Proofs.Ytdbcmckoiacemaa
section
open Go.RowKit Go.Lib
/-- 'copy(d, s)' at slices of structs of m cells: what s held goes over. -/
theorem run_copyM (w : World) (dT sT ty elem : TypeId) (m b o dLen dCap : Nat) (a : Addr) (sLen sCap : Nat) (cs : List Value)
    (hu : Try.prog.underlying dT = some (.slice elem)) (hs : (Try.prog.info? elem).map (·.size) = some m) (hn : cs.length = Nat.min sLen dLen * m)
    (hsrc : ∀ j v, cs[j]? = some v → w.cell? (a.add j) = some v) (hc : ∀ j, j < cs.length → (w.cell? ⟨b, o + j, none⟩).isSome = true) (hf : ∀ j, j < cs.length → w.frozen? ⟨b, o + j, none⟩ = false) (h1 : ∀ v ∈ cs, v.oneCell' = true) :
    (Builtin.copy_ #[dT, sT] ty #[.slice (some ⟨b, o, none⟩) dLen dCap, .slice (some a) sLen sCap]).run Try.prog w = .ok (goInt (Nat.min sLen dLen)) (w.setCells b o cs) := by
  have hl := run_loadCells_list (P := Try.prog) w a cs hsrc
  have hst := run_storeCells_cells (P := Try.prog) b o cs 0 w (by simpa using hc) (by simpa using hf) h1
  cases hq : Try.prog.info? elem with
  | none => simp [hq] at hs
  | some i =>
    have hi : i.size = m := by simpa [hq] using hs
    simp [Builtin.copy_, run_underlying hu, Builtin.lenOf, Builtin.firstCells, sizeOf, typeInfo, hq, hi, ← hn, hl, hst]
theorem wpList_appM (w : World) {ops : Array Oper} {rest : List Oper} {o : Oper} {a : Act} {Q : Exit → Act → World → Prop} (hgd : o.guard = none) (d s : Operand) (t t' : TypeId)
    (ho : o.op = .call { callee := .builtin .append, args := #[d, s], argTypes := #[t, t'] }) (v u : Value) (hd : a.eval d = v) (hs : a.eval s = u) {v' : Value} {w' : World}
    (hr : (Builtin.append_ #[t, t'] o.type #[v, u]).run Try.prog w = .ok v' w') (h : wpList Try.prog ops Q rest (a.put o.dst v') w') : wpList Try.prog ops Q (o :: rest) a w := by
  refine wpList_plain hgd fun K hK => ?_
  unfold Oper.wp execOp
  simp only [ho, resolve, invoke, builtin, Sem.run_bind, Sem.run_pure, Result.andThen_ok, List.map_toArray, List.map_cons, List.map_nil, hd, hs, hr]
  exact hK _ _ h
theorem step_copyM {ops : Array Oper} {o : Oper} {a : Act} {w : World} {K : Act → World → Prop} {Q : Exit → Act → World → Prop} {E : Prop}
    (hg : o.guard = none) (d x : Operand) (dT sT : TypeId) (hop : o.op = Op.call { callee := Callee.builtin Builtin.copy, args := #[d, x], argTypes := #[dT, sT] })
    (v u : Value) (hd : a.eval d = v) (hx : a.eval x = u) {v' : Value} {w' : World} (hr : (Builtin.copy_ #[dT, sT] o.type #[v, u]).run Try.prog w = .ok v' w') (hK : K (a.put o.dst v') w') :
    if Region.wanted o (yielded ops a.tmps) = true then Oper.wp Try.prog o a w K Q else E := by
  have hw : Region.wanted o (yielded ops a.tmps) = true := by simp [Region.wanted, hg]
  rw [if_pos hw]
  unfold Oper.wp
  simp [execOp, hop, resolve, invoke, builtin, hd, hx, hr, Result.andThen]
  exact hK
theorem grown_drew (w : World) (r : Option Nat) : w.grownBy w.drew r := ⟨rfl, rfl, rfl, Nat.le_refl _, fun _ _ _ => rfl⟩
theorem grown_trans {a b c : World} {r : Option Nat} (h : a.grownBy b r) (h' : b.grownBy c r) : a.grownBy c r :=
  ⟨h'.os.trans h.os, h'.tape.trans h.tape, h'.output.trans h.output, Nat.le_trans h.size h'.size, fun i hi hne => (h'.block i (Nat.lt_of_lt_of_le hi h.size) hne).trans (h.block i hi hne)⟩
theorem grown_over {a b c : World} {r : Option Nat} {z : Nat} (h : a.grownBy b r) (h' : b.grownBy c (some z)) (hz : a.heap.size ≤ z) : a.grownBy c r :=
  ⟨h'.os.trans h.os, h'.tape.trans h.tape, h'.output.trans h.output, Nat.le_trans h.size h'.size, fun i hi hne => (h'.block i (Nat.lt_of_lt_of_le hi h.size) (fun e => by cases e; omega)).trans (h.block i hi hne)⟩
theorem grown_alloc (w : World) (o : Obj) (r : Option Nat) : w.grownBy (w.alloc o) r := ⟨rfl, rfl, rfl, by simp, fun i hi _ => Below.block (below_alloc w o) i hi⟩
theorem Blkk.frozen {x : World} {g : Nat} {e : TypeId} {N : Nat} (h : Blkk x g e N) (p : Nat) : x.frozen? ⟨g, p, none⟩ = false := by
  obtain ⟨cur, h1, _⟩ := h
  simp [World.frozen?, h1]
theorem drew_cell (x : World) (a : Addr) : x.drew.cell? a = x.cell? a := rfl
theorem Blkk.drew {x : World} {g : Nat} {e : TypeId} {N : Nat} (h : Blkk x g e N) : Blkk x.drew g e N := h
theorem Blkk.made (w : World) (ROW : Array Value) (e : TypeId) (N : Nat) (h : ROW.size = N) : Blkk (w.alloc (.cells ROW e)) w.heap.size e N := ⟨ROW, by show (w.heap.push _)[w.heap.size]? = _; simp, h⟩
theorem Blkk.any {x : World} {g : Nat} {e : TypeId} {N : Nat} (h : Blkk x g e N) {p : Nat} (hp : p < N) : (x.cell? ⟨g, p, none⟩).isSome = true := by
  obtain ⟨u, hu⟩ := (h.cell hp).1
  rw [hu]; rfl
theorem Blkk.shape {x : World} {g : Nat} {e : TypeId} {N : Nat} (h : Blkk x g e N) : x.shape? g = some (e, N) := by
  obtain ⟨cur, h1, h2⟩ := h
  simp [World.shape?, h1, h2]
theorem insF_lt {F : Nat → Int} {m n i p : Nat} {xs : List Int} (hp : p < i * m) : insF F m n i xs p = F p := by
  unfold insF
  rw [List.append_assoc, List.getD_eq_getElem?_getD, List.getElem?_append_left (by rw [nums_length]; exact hp)]
  simp [nums, hp]
theorem insF_at {F : Nat → Int} {m n i p : Nat} {xs : List Int} (hx : xs.length = m) (hp : p < m) : insF F m n i xs (i * m + p) = xs.getD p 0 := by
  unfold insF
  rw [List.append_assoc, List.getD_eq_getElem?_getD, List.getElem?_append_right (by rw [nums_length]; omega), nums_length, Nat.add_sub_cancel_left, List.getElem?_append_left (by omega), List.getD_eq_getElem?_getD]
theorem insF_gt {F : Nat → Int} {m n i p : Nat} {xs : List Int} (hx : xs.length = m) (hp : p < (n - i) * m) : insF F m n i xs ((i + 1) * m + p) = F (i * m + p) := by
  unfold insF
  have e : (i + 1) * m = i * m + m := Nat.succ_mul _ _
  rw [List.append_assoc, List.getD_eq_getElem?_getD, List.getElem?_append_right (by rw [nums_length]; omega), nums_length, List.getElem?_append_right (by omega), show (i + 1) * m + p - i * m - xs.length = p by omega]
  simp [nums, hp]
/-- The cells of a row into which a struct was put. -/
theorem ins_cells {x : World} {g m n i : Nat} {F : Nat → Int} {xs : List Int} (hx : xs.length = m) (hi : i ≤ n) (h1 : ∀ p, p < i * m → x.cell? ⟨g, p, none⟩ = some (.int .i64 (F p))) (h2 : ∀ p, p < m → x.cell? ⟨g, i * m + p, none⟩ = some (.int .i64 (xs.getD p 0)))
    (h3 : ∀ p, p < (n - i) * m → x.cell? ⟨g, (i + 1) * m + p, none⟩ = some (.int .i64 (F (i * m + p)))) : ∀ p, p < (n + 1) * m → x.cell? ⟨g, p, none⟩ = some (.int .i64 (insF F m n i xs p)) := by
  intro p hp
  have e : (i + 1) * m = i * m + m := Nat.succ_mul _ _
  have e2 : (n + 1) * m = (i + 1) * m + (n - i) * m := by rw [← Nat.add_mul]; congr 1; omega
  by_cases a1 : p < i * m
  · rw [h1 p a1, insF_lt a1]
  · by_cases a2 : p < (i + 1) * m
    · have := h2 (p - i * m) (by omega)
      rw [← insF_at (F := F) (n := n) (i := i) hx (by omega), show i * m + (p - i * m) = p by omega] at this
      exact this
    · have := h3 (p - (i + 1) * m) (by omega)
      rw [← insF_gt (F := F) (n := n) (xs := xs) hx (by omega), show (i + 1) * m + (p - (i + 1) * m) = p by omega] at this
      exact this
theorem sets_in (g o N : Nat) (F : Nat → Int) (w : World) (h : ∀ j, j < N → (w.cell? ⟨g, o + j, none⟩).isSome = true) {p : Nat} (hp : p < N) : (w.setCells g o (vals F N)).cell? ⟨g, o + p, none⟩ = some (.int .i64 (F p)) := by
  rw [World.cell?_setCells_in g (vals F N) o w (fun j hj => h j (by rwa [vals_length] at hj)) p (by rw [vals_length]; exact hp)]
  simp [vals]
/-- An append of one struct lies in the row's own block or in a new one. -/
theorem app_block (t ty e : TypeId) (i : TypeInfo) (z : Value) (m bytes : Nat) (ht : Try.prog.underlying t = some (.slice e)) (hi : Try.prog.info? e = some i) (hz : i.zero = some z) (hsize : i.size = m) (hby : i.bytes = bytes) (hb5 : bytes ≤ 1000)
    (w : World) (B n : Nat) (F X : Nat → Int) (v : Value) (h : Own w B e m n F v) (hn : n < 1048576) (a : Addr) (vc : Nat) (hx : ∀ p, p < m → w.cell? (a.add p) = some (.int .i64 (X p))) {v' : Value} {w' : World}
    (hr : (Builtin.append_ #[t, t] ty #[v, .slice (some a) 1 vc]).run Try.prog w = .ok v' w') : ∀ q, v'.ownBlock = some q → v.ownBlock = some q ∨ w.heap.size ≤ q := by
  have hbb : (n + 1) * bytes ≤ 1048576 * 1000 := Nat.mul_le_mul (by omega) hb5
  have hc : ∀ j u, (vals X m)[j]? = some u → w.cell? (a.add j) = some u := fun j u hj => by obtain ⟨h1, rfl⟩ := vals_inv hj; exact hx j h1
  have hsrc : Src Try.prog i.size t (.slice (some a) 1 vc) 1 (vals X m) w := Src.ofSlice w ht a 1 vc _ (by rw [vals_length, hsize, Nat.one_mul]) hc (vals_one _ _)
  rcases h.parts with ⟨rfl, rfl⟩ | ⟨g, c, rfl, hg, hnc, hcm, hb, hF⟩
  · have h2 := run_append_grow_src w t t ty e i z ht hi hz none 0 0 [] (run_firstCells_none w.drew _ 0 0 0) _ 1 _ hsrc (by omega) (by omega) (by rw [hby]; exact growslice_fits (by omega) (by omega))
    rw [h2] at hr
    cases hr
    intro q hq
    cases hq
    exact Or.inr (Nat.le_refl _)
  · by_cases hroom : n + 1 ≤ c
    · have hm1 : (n + 1) * m ≤ c * m := Nat.mul_le_mul_right m hroom
      have e1 : (n + 1) * m = n * m + m := Nat.succ_mul _ _
      have h2 := run_append_room_cells w t ty e i ht hi g 0 n c a 1 vc (vals X m) (by rw [vals_length, hsize, Nat.one_mul]) hc (vals_one _ _) hroom (fun j hj => by rw [vals_length] at hj; rw [hsize]; exact hb.any (by omega)) (fun j hj => hb.frozen _)
      rw [h2] at hr
      cases hr
      intro q hq
      exact Or.inl hq
    · have h2 := run_append_grow_src w t t ty e i z ht hi hz (some ⟨g, 0, none⟩) n c (vals F (n * m)) (by rw [hsize]; exact run_firstCells_some w.drew m n _ n c _ (vals_length _ _) (fun j u hj => by obtain ⟨h1, rfl⟩ := vals_inv hj; rw [Addr.add_lit, Nat.zero_add]; exact hF j h1)) _ 1 _ hsrc (by omega) (by omega) (by rw [hby]; exact growslice_fits (by omega) (by omega))
      rw [h2] at hr
      cases hr
      intro q hq
      cases hq
      exact Or.inr (Nat.le_refl _)
end

section
open Go.RowKit Go.Lib
end

section
open Go.RowKit Go.Lib
end
end Go.Proofs.Ytdbcmckoiacemaa

namespace Go.Proofs.Ytdbcmckoiacemaa
open Go.RowKit Go.Lib
theorem infoz_Pair : (Try.prog.info? 65).map (fun i => (i.zero, i.size, i.bytes)) = some (some (.agg #[.int .i64 0, .int .i64 0]), 2, 16) := by kernel_rfl

theorem sizeP : (Try.prog.info? 65).map (·.size) = some 2 := by kernel_rfl
theorem underP : Try.prog.underlying 24 = some (.slice 65) := by kernel_rfl

set_option maxHeartbeats 4000000 in
set_option maxRecDepth 100000 in
/-- There is room, i is a place ahead of the end: in place. -/
theorem insP_shift (w : World) (g n c i vb vc : Nat) (F : Nat → Int) (X : Nat → Int) (hb : Blkk w g 65 (c * 2)) (hroom : n + 1 ≤ c) (hc63 : c ≤ 9223372036854775807) (hi : i < n) (hF : ∀ p, p < n * 2 → w.cell? ⟨g, p, none⟩ = some (.int .i64 (F p)))
    (hvb : vb ≠ g) (hv : Blkk w vb 65 2) (hxs : ∀ p, p < 2 → w.cell? ⟨vb, p, none⟩ = some (.int .i64 (X p))) :
    Calls Try.prog 65 #[.slice (some ⟨g, 0, none⟩) n c, .int .i64 i, .slice (some ⟨vb, 0, none⟩) 1 vc] w fun e w' =>
      e = .returned (.slice (some ⟨g, 0, none⟩) (n + 1) c) ∧ w' = (w.drew.setCells g ((i + 1) * 2) (vals (fun p => F (i * 2 + p)) ((n - i) * 2))).setCells g (i * 2) (vals X 2) := by
  have hz2 : ¬ ((i : Int) = (n : Int)) := by omega
  have hov : ∀ lb cb, (callFunc 69 #[.slice (some ⟨vb, 0, none⟩) 1 vc, .slice (some ⟨g, (i + 1) * 2, none⟩) lb cb]).run Try.prog w = .ok (.value (.bool false)) w := fun lb cb => by
    rw [run_callFunc_extern Try.func69 (by kernel_rfl) (by kernel_rfl) (by kernel_rfl) (e := Extern.SlicesOverlaps.overlaps #[24, 24] #[4]) (by kernel_rfl),
      Lib.run_overlaps_apart w _ _ 65 underP 2 (fun w => by kernel_rfl) ⟨vb, 0, none⟩ ⟨g, (i + 1) * 2, none⟩ 1 vc lb cb hvb _ _ _ _ hv.shape hb.shape (by omega) (hv.frozen _) (hv.frozen _)]
    rfl
  have hw1 : IntKind.i64.wrap ((i : Int) + 1) = (i : Int) + 1 := by rw [IntKind.wrap_i64]; omega
  have hw2 : IntKind.i64.wrap ((n : Int) + 1) = (n : Int) + 1 := by rw [IntKind.wrap_i64]; omega
  have hb1 : (0 : Int) ≤ (i : Int) + 1 := by omega
  have hin : i ≤ n := by omega
  have htn : ((i : Int) + 1).toNat = i + 1 := by omega
  have htn' : ((n : Int) + 1).toNat = n + 1 := by omega
  have hb2 : ¬ (c = i + 1) := by omega
  have hb3 : (i : Int) ≤ (n : Int) + 1 := by omega
  have hb4 : ¬ (c = i) := by omega
  have hb5 : ¬ ((c : Int) < (n : Int) + 1) := by omega
  have hb6 : (0 : Int) ≤ (n : Int) + 1 := by omega
  have hb7 : (n : Int) + 1 ≤ (c : Int) := by omega
  have hb8 : (i : Int) + 1 ≤ (n : Int) + 1 := by omega
  have hm1 : (n + 1) * 2 ≤ c * 2 := Nat.mul_le_mul_right 2 hroom
  have hcp1 : ∀ ty dc sc, (Builtin.copy_ #[24, 24] ty #[.slice (some ⟨g, (i + 1) * 2, none⟩) (n - i) dc, .slice (some ⟨g, i * 2, none⟩) (n + 1 - i) sc]).run Try.prog w.drew = .ok (goInt (Nat.min (n + 1 - i) (n - i))) (w.drew.setCells g ((i + 1) * 2) (vals (fun p => F (i * 2 + p)) ((n - i) * 2))) := fun ty dc sc =>
    run_copyM w.drew _ _ ty 65 2 g _ _ dc ⟨g, i * 2, none⟩ _ sc _ underP sizeP (by rw [vals_length]; congr 1; simp only [Nat.min_def]; split <;> omega)
      (fun j v hj => by obtain ⟨h1, rfl⟩ := vals_inv hj; rw [Addr.add_lit]; exact hF _ (by omega))
      (fun j hj => by rw [vals_length] at hj; exact hb.any (by omega)) (fun j hj => hb.frozen _) (vals_one _ _)
  obtain ⟨W1, hW1⟩ : ∃ W1, W1 = w.drew.setCells g ((i + 1) * 2) (vals (fun p => F (i * 2 + p)) ((n - i) * 2)) := ⟨_, rfl⟩
  have hbW : Blkk W1 g 65 (c * 2) := by rw [hW1]; exact Blkk.sets _ _ _ hb
  have hcp2 : ∀ ty dc, (Builtin.copy_ #[24, 24] ty #[.slice (some ⟨g, i * 2, none⟩) (n + 1 - i) dc, .slice (some ⟨vb, 0, none⟩) 1 vc]).run Try.prog W1 = .ok (goInt (Nat.min 1 (n + 1 - i))) (W1.setCells g (i * 2) (vals X 2)) := fun ty dc =>
    run_copyM W1 _ _ ty 65 2 g _ _ dc ⟨vb, 0, none⟩ 1 vc _ underP sizeP (by rw [vals_length]; simp only [Nat.min_def]; split <;> omega)
      (fun j v hj => by
        obtain ⟨h1, rfl⟩ := vals_inv hj
        rw [Addr.add_lit, hW1, World.cell?_setCells_out g _ _ _ _ (fun h _ => absurd h hvb), Nat.zero_add]
        exact hxs j h1)
      (fun j hj => by rw [vals_length] at hj; exact hbW.any (by omega)) (fun j hj => hbW.frozen _) (vals_one _ _)
  subst hW1
  clear hF hxs hb hv hbW
  go_enter Try.func65, Try.ntmps65
  go_wp2_with (simp only [hov])
  go_region_law (refine step_copyM rfl _ _ 24 24 rfl _ _ (by simp [Act.eval, Act.put]) (by simp [Act.eval, Act.put]) (hcp1 _ _ _) ?_)
  go_wp2_with (simp only [hcp2])
  go_ret
  exact ⟨rfl, rfl⟩

set_option maxHeartbeats 4000000 in
set_option maxRecDepth 100000 in
/-- There is no room, i is a place ahead of the end: a new row. -/
theorem insP_grow (w : World) (g n c i vb vc : Nat) (F : Nat → Int) (X : Nat → Int) (hb : Blkk w g 65 (c * 2)) (hnc : n ≤ c) (hroom : c < n + 1) (hn : n ≤ 1048576) (hi : i < n) (hF : ∀ p, p < n * 2 → w.cell? ⟨g, p, none⟩ = some (.int .i64 (F p)))
    (hv : Blkk w vb 65 2) (hxs : ∀ p, p < 2 → w.cell? ⟨vb, p, none⟩ = some (.int .i64 (X p))) :
    Calls Try.prog 65 #[.slice (some ⟨g, 0, none⟩) n c, .int .i64 i, .slice (some ⟨vb, 0, none⟩) 1 vc] w fun e w' =>
      ∃ G ROW, (G ≤ maxLen ∧ n + 1 ≤ G ∧ ROW.size = G * 2 ∧ (∀ p, p < i * 2 → ROW[p]? = some (.int .i64 (F p)))) ∧ e = .returned (.slice (some ⟨w.heap.size, 0, none⟩) (n + 1) G) ∧ w' = (((w.alloc (.cells ROW 65)).drew.setCells w.heap.size (i * 2) (vals X 2)).drew).setCells w.heap.size ((i + 1) * 2) (vals (fun p => F (i * 2 + p)) ((n - i) * 2)) := by
  have hz2 : ¬ ((i : Int) = (n : Int)) := by omega
  have hz3 : (c : Int) < (n : Int) + 1 := by omega
  obtain ⟨i0, hi0, hz0, hzs, hzb⟩ := info_parts infoz_Pair
  have hgw := hb.lt
  have hvw := hv.lt
  have hkk : (n : Int) + 1 - (i : Int) = ((n + 1 - i : Nat) : Int) := by omega
  have hik : i + (n + 1 - i) = n + 1 := by omega
  have hmi : i * 2 ≤ n * 2 := Nat.mul_le_mul_right 2 (by omega)
  have hold : (Builtin.firstCells i0.size i (.slice (some ⟨g, 0, none⟩) i c)).run Try.prog w.drew = .ok (vals F (i * 2)).toArray w.drew := by
    rw [hzs]
    exact run_firstCells_some w.drew 2 i ⟨g, 0, none⟩ i c (vals F (i * 2)) (by rw [vals_length]) (fun j v hj => by
      obtain ⟨h1, rfl⟩ := vals_inv hj
      rw [Addr.add_lit, Nat.zero_add]
      exact hF j (by omega))
  have hrz : ∀ ty, ∃ G ROW, (G ≤ maxLen ∧ n + 1 ≤ G ∧ ROW.size = G * 2 ∧ (∀ p, p < i * 2 → ROW[p]? = some (.int .i64 (F p)))) ∧ (Builtin.append_ #[24, 3] ty #[.slice (some ⟨g, 0, none⟩) i c, .int .i64 ((n : Int) + 1 - (i : Int))]).run Try.prog w = .ok (.slice (some ⟨w.heap.size, 0, none⟩) (n + 1) G) (w.drew.alloc (.cells ROW 65)) := fun ty => by
    have h := Lib.run_append_grow_zeros w 24 3 ty 65 i0 _ .i64 .i64 underP (by kernel_rfl) hi0 hz0 (some ⟨g, 0, none⟩) i c (vals F (i * 2)) hold (n + 1 - i) (by omega) (by omega) (by omega) (by omega) (by rw [hzb]; omega) (by rw [hzb, hik]; exact growslice_fits hroom (by omega))
    rw [hik] at h
    rw [hkk]
    have hG1 := grownCap_ge w (n + 1) c 65
    have hG2 := grownCap_le_maxLen w (n + 1) c 65 (by unfold maxLen; omega)
    refine ⟨_, _, ⟨hG2, hG1, ?_, ?_⟩, h⟩
    · simp [Builtin.zeroCells, Value.cells, vals_length]
      omega
    · intro p hp
      rw [Array.append_assoc, Array.getElem?_append_left (by simp [vals_length]; exact hp)]
      simp [vals, hp]
  obtain ⟨G, ROW, hG, hrw⟩ := hrz 24
  clear hrz
  obtain ⟨hG63, hGn, hRl, hR⟩ := hG
  have hm1 : (n + 1) * 2 ≤ G * 2 := Nat.mul_le_mul_right 2 hGn
  have hN : Blkk (w.alloc (.cells ROW 65)).drew w.heap.size 65 (G * 2) := (Blkk.made w ROW _ _ hRl).drew
  have hOb : ∀ j b, b < w.heap.size → (w.alloc (.cells ROW 65)).drew.cell? ⟨b, j, none⟩ = w.cell? ⟨b, j, none⟩ := fun j b h => by rw [drew_cell]; exact World.cell?_alloc_past (w := w) _ b j h
  have hcpA' : ∀ ty dc, (Builtin.copy_ #[24, 24] ty #[.slice (some ⟨w.heap.size, i * 2, none⟩) (n + 1 - i) dc, .slice (some ⟨vb, 0, none⟩) 1 vc]).run Try.prog (w.alloc (.cells ROW 65)).drew = .ok (goInt (Nat.min 1 (n + 1 - i))) ((w.alloc (.cells ROW 65)).drew.setCells w.heap.size (i * 2) (vals X 2)) := fun ty dc =>
    run_copyM _ _ _ ty 65 2 w.heap.size _ _ dc ⟨vb, 0, none⟩ 1 vc _ underP sizeP (by rw [vals_length]; simp only [Nat.min_def]; split <;> omega)
      (fun j v hj => by
        obtain ⟨h1, rfl⟩ := vals_inv hj
        rw [Addr.add_lit, hOb _ _ hvw, Nat.zero_add]
        exact hxs j h1)
      (fun j hj => by rw [vals_length] at hj; exact hN.any (by omega)) (fun j hj => hN.frozen _) (vals_one _ _)
  obtain ⟨W2, hW2⟩ : ∃ W2, W2 = (w.alloc (.cells ROW 65)).drew.setCells w.heap.size (i * 2) (vals X 2) := ⟨_, rfl⟩
  have hN2 : Blkk W2.drew w.heap.size 65 (G * 2) := by rw [hW2]; exact (Blkk.sets _ _ _ hN).drew
  have hcpB' : ∀ ty dc sc, (Builtin.copy_ #[24, 24] ty #[.slice (some ⟨w.heap.size, (i + 1) * 2, none⟩) (n - i) dc, .slice (some ⟨g, i * 2, none⟩) (n - i) sc]).run Try.prog W2.drew = .ok (goInt (Nat.min (n - i) (n - i))) (W2.drew.setCells w.heap.size ((i + 1) * 2) (vals (fun p => F (i * 2 + p)) ((n - i) * 2))) := fun ty dc sc =>
    run_copyM _ _ _ ty 65 2 w.heap.size _ _ dc ⟨g, i * 2, none⟩ _ sc _ underP sizeP (by rw [vals_length]; congr 1; simp only [Nat.min_def]; split <;> omega)
      (fun j v hj => by
        obtain ⟨h1, rfl⟩ := vals_inv hj
        rw [Addr.add_lit, drew_cell, hW2, World.cell?_setCells_out _ _ _ _ _ (fun h _ => absurd h (show g ≠ w.heap.size by omega)), hOb _ _ hgw]
        exact hF _ (by omega))
      (fun j hj => by rw [vals_length] at hj; exact hN2.any (by omega)) (fun j hj => hN2.frozen _) (vals_one _ _)
  clear hN2
  subst hW2
  have hG63' : G ≤ 9223372036854775807 := by unfold maxLen at hG63; omega
  have hGi : ¬ (G = i) := by omega
  have hGim : ¬ (G = i + 1) := by omega
  have hci : ¬ (c = i) := by omega
  have hw1 : IntKind.i64.wrap ((i : Int) + 1) = (i : Int) + 1 := by rw [IntKind.wrap_i64]; omega
  have hw2 : IntKind.i64.wrap ((n : Int) + 1) = (n : Int) + 1 := by rw [IntKind.wrap_i64]; omega
  have hw3 : IntKind.i64.wrap ((n : Int) + 1 - (i : Int)) = (n : Int) + 1 - (i : Int) := by rw [IntKind.wrap_i64]; omega
  have hb1 : (0 : Int) ≤ (i : Int) + 1 := by omega
  have hin : i ≤ n := by omega
  have htn : ((i : Int) + 1).toNat = i + 1 := by omega
  have hb3 : (i : Int) ≤ (n : Int) := by omega
  have hb8 : (i : Int) + 1 ≤ (n : Int) + 1 := by omega
  have hb9 : (i : Int) ≤ (n : Int) + 1 := by omega
  refine Calls.mono (R := fun e w' => e = .returned (.slice (some ⟨w.heap.size, 0, none⟩) (n + 1) G) ∧ w' = (((w.alloc (.cells ROW 65)).drew.setCells w.heap.size (i * 2) (vals X 2)).drew).setCells w.heap.size ((i + 1) * 2) (vals (fun p => F (i * 2 + p)) ((n - i) * 2))) ?_ (fun e w' h => ⟨G, ROW, ⟨hG63, hGn, hRl, hR⟩, h.1, h.2⟩)
  clear hkk hik hold hRl hR hG63 hN hOb hF hxs hb hv hi0 hz0 hzs hzb hm1 hmi
  go_enter Try.func65, Try.ntmps65
  go_wp2_with (first | (at_builtin; refine wpList_appM _ rfl _ _ 24 3 rfl (.slice (some ⟨g, 0, none⟩) i c) (.int .i64 ((n : Int) + 1 - (i : Int))) rfl rfl hrw ?_) | (simp only [hcpA']))
  go_region_law (refine step_copyM rfl _ _ 24 24 rfl _ _ (by simp [Act.eval, Act.put]) (by simp [Act.eval, Act.put]) (hcpB' _ _ _) ?_)
  go_wp2
  go_ret
  exact ⟨rfl, rfl⟩

/-- What slices.Insert answers: the row with the struct at place i; nothing else has turned but the row's own block. -/
def InsP (w : World) (B n i : Nat) (F : Nat → Int) (xs : List Int) (v : Value) (e : Ending) (w' : World) : Prop :=
  ∃ ao cp, e = .returned (.slice ao (n + 1) cp) ∧ Own w' B 65 2 (n + 1) (insF F 2 n i xs) (.slice ao (n + 1) cp) ∧ w.grownBy w' v.ownBlock ∧ ∀ q, (Value.slice ao (n + 1) cp).ownBlock = some q → v.ownBlock = some q ∨ w.heap.size ≤ q
set_option maxHeartbeats 4000000 in
set_option maxRecDepth 100000 in
theorem insP_end (w : World) (B n vb vc : Nat) (F : Nat → Int) (xs : List Int) (v : Value) (hx : xs.length = 2) (h : Own w B 65 2 n F v) (hB : B ≤ w.heap.size) (hn : n < 1048576)
    (hv : Blkk w vb 65 2) (hxs : ∀ p, p < 2 → w.cell? ⟨vb, p, none⟩ = some (.int .i64 (xs.getD p 0))) :
    Calls Try.prog 65 #[v, .int .i64 n, .slice (some ⟨vb, 0, none⟩) 1 vc] w (InsP w B n n F xs v) := by
  have hrow : Row w 0 2 1 (fun p => xs.getD p 0) (.slice (some ⟨vb, 0, none⟩) 1 vc) := ⟨_, _, rfl, fun _ => ⟨vb, 0, rfl, Nat.zero_le _, hv.lt, fun p hp => by rw [Nat.zero_add]; exact hxs p (by omega)⟩⟩
  have hown : OwnM w B 65 2 v n (nums F (n * 2)) := by unfold OwnM; rw [nums_vals]; exact h
  obtain ⟨i0, hi0, hz0, hzs, hzb⟩ := info_parts infoz_Pair
  have hend : ∀ ao cp w', OwnM w' B 65 2 (.slice ao (n + 1) cp) (n + 1) (nums F (n * 2) ++ nums (fun p => xs.getD p 0) (1 * 2)) → w.grownBy w' v.ownBlock → (∀ q, (Value.slice ao (n + 1) cp).ownBlock = some q → v.ownBlock = some q ∨ w.heap.size ≤ q) → InsP w B n n F xs v (.returned (.slice ao (n + 1) cp)) w' := fun ao cp w' h1 h2 h3 => by
    refine ⟨ao, cp, rfl, (h1.own (by simp [nums_length]; omega)).congr (fun p hp => ?_), h2, h3⟩
    by_cases a1 : p < n * 2
    · rw [insF_lt a1, List.getD_eq_getElem?_getD, List.getElem?_append_left (by rw [nums_length]; exact a1)]
      simp [nums, a1]
    · have := insF_at (F := F) (n := n) (i := n) (p := p - n * 2) hx (by omega)
      rw [show n * 2 + (p - n * 2) = p by omega] at this
      rw [this, List.getD_eq_getElem?_getD, List.getElem?_append_right (by rw [nums_length]; omega), nums_length]
      simp [nums, show p - n * 2 < 2 by omega]
  obtain ⟨POST, hP⟩ : ∃ POST, POST = InsP w B n n F xs v := ⟨_, rfl⟩
  rw [← hP] at hend ⊢
  obtain ⟨ao, cp, rfl⟩ := h.form
  have hrun : ∀ ty, ∃ ao' cp' w', (Builtin.append_ #[24, 24] ty #[.slice ao n cp, .slice (some ⟨vb, 0, none⟩) 1 vc]).run Try.prog w = .ok (.slice ao' (n + 1) cp') w' ∧ POST (.returned (.slice ao' (n + 1) cp')) w' := fun ty => by
    obtain ⟨ao', cp', w', h1, h2, h3⟩ := run_app 24 ty 65 i0 _ 2 _ underP hi0 hz0 hzs hzb rfl (by omega) (by omega) w B n _ _ hown 0 1 _ _ hrow (by omega) hB
    have h4 := app_block 24 ty 65 i0 _ 2 _ underP hi0 hz0 hzs hzb (by omega) w B n F (fun p => xs.getD p 0) _ h (by omega) ⟨vb, 0, none⟩ vc (fun p hp => by rw [Addr.add_lit, Nat.zero_add]; exact hxs p hp) h1
    exact ⟨ao', cp', w', h1, hend _ _ _ h2 h3 h4⟩
  obtain ⟨ao', cp', w', hr, hfin⟩ := hrun 24
  clear hrun hend hown hrow hv hxs hP hi0 hz0 hzs hzb
  rcases h.parts with ⟨q, rfl⟩ | ⟨g, cap, q, _, hnc, hcm, _⟩
  · cases q
    clear h
    go_enter Try.func65, Try.ntmps65
    go_wp2_with (at_builtin; refine wpList_appM _ rfl _ _ 24 24 rfl (.slice none 0 0) (.slice (some ⟨vb, 0, none⟩) 1 vc) rfl rfl hr ?_)
    exact hfin
  · cases q
    clear h
    unfold maxLen at hcm
    by_cases hcn : cp = n
    · subst hcn
      go_enter Try.func65, Try.ntmps65
      go_wp2_with (at_builtin; refine wpList_appM _ rfl _ _ 24 24 rfl (.slice (some ⟨g, 0, none⟩) cp cp) (.slice (some ⟨vb, 0, none⟩) 1 vc) rfl rfl hr ?_)
      exact hfin
    · go_enter Try.func65, Try.ntmps65
      go_wp2_with (at_builtin; refine wpList_appM _ rfl _ _ 24 24 rfl (.slice (some ⟨g, 0, none⟩) n cp) (.slice (some ⟨vb, 0, none⟩) 1 vc) rfl rfl hr ?_)
      exact hfin
/-- slices.Insert of one struct. -/
theorem insP_any (w : World) (B n i vb vc : Nat) (F : Nat → Int) (xs : List Int) (v : Value) (hx : xs.length = 2) (h : Own w B 65 2 n F v) (hB : B ≤ w.heap.size) (hn : n < 1048576) (hi : i ≤ n)
    (hvb : v.ownBlock ≠ some vb) (hv : Blkk w vb 65 2) (hxs : ∀ p, p < 2 → w.cell? ⟨vb, p, none⟩ = some (.int .i64 (xs.getD p 0))) :
    Calls Try.prog 65 #[v, .int .i64 i, .slice (some ⟨vb, 0, none⟩) 1 vc] w (InsP w B n i F xs v) := by
  rcases Nat.eq_or_lt_of_le hi with rfl | hi
  · exact insP_end w B _ vb vc F xs v hx h hB hn hv hxs
  · rcases h.parts with ⟨rfl, rfl⟩ | ⟨g, c, rfl, hg, hnc, hcm, hb, hF⟩
    · exact absurd hi (Nat.not_lt_zero _)
    · have hgv : vb ≠ g := fun e => hvb (by rw [e]; rfl)
      have hm3 : (n - i) * 2 + i * 2 = n * 2 := by rw [← Nat.add_mul]; congr 1; omega
      by_cases hr : n + 1 ≤ c
      · have hm1 : (n + 1) * 2 ≤ c * 2 := Nat.mul_le_mul_right 2 hr
        refine (insP_shift w g n c i vb vc F (fun p => xs.getD p 0) hb hr (by unfold maxLen at hcm; omega) hi hF hgv hv hxs).mono ?_
        rintro e w' ⟨rfl, rfl⟩
        have hb1 := Blkk.sets (vals (fun p => F (i * 2 + p)) ((n - i) * 2)) ((i + 1) * 2) w.drew hb
        refine ⟨_, _, rfl, own_of (Blkk.sets _ _ _ hb1) hg hr hcm (ins_cells hx (Nat.le_of_lt hi) (fun p hp => ?_) (fun p hp => ?_) (fun p hp => ?_)), ?_⟩
        · rw [World.cell?_setCells_out g _ _ _ _ (fun _ _ => Or.inl hp), World.cell?_setCells_out g _ _ _ _ (fun _ _ => Or.inl (by show p < _; omega))]
          exact hF p (by omega)
        · exact sets_in g (i * 2) 2 (fun p => xs.getD p 0) _ (fun j hj => hb1.any (by omega)) hp
        · rw [World.cell?_setCells_out g _ _ _ _ (fun _ _ => Or.inr (by rw [vals_length]; show _ ≤ (i + 1) * 2 + p; omega))]
          exact sets_in g ((i + 1) * 2) ((n - i) * 2) (fun p => F (i * 2 + p)) w.drew (fun j hj => hb.drew.any (by omega)) hp
        · exact ⟨grown_trans (grown_trans (grown_drew w _) (grown_sets g _ _ _)) (grown_sets g _ _ _), fun q hq => Or.inl hq⟩
      · refine (insP_grow w g n c i vb vc F (fun p => xs.getD p 0) hb hnc (by omega) (by omega) hi hF hv hxs).mono ?_
        rintro e w' ⟨G, ROW, ⟨hG1, hG2, hG3, hG4⟩, rfl, rfl⟩
        have hm1 : (n + 1) * 2 ≤ G * 2 := Nat.mul_le_mul_right 2 hG2
        have hN : Blkk (w.alloc (.cells ROW 65)).drew w.heap.size 65 (G * 2) := (Blkk.made w ROW _ _ hG3).drew
        have hb1 : Blkk (((w.alloc (.cells ROW 65)).drew.setCells w.heap.size (i * 2) (vals (fun p => xs.getD p 0) 2)).drew) w.heap.size 65 (G * 2) := (Blkk.sets (vals (fun p => xs.getD p 0) 2) (i * 2) _ hN).drew
        refine ⟨_, _, rfl, own_of (Blkk.sets _ _ _ hb1) hB hG2 hG1 (ins_cells hx (Nat.le_of_lt hi) (fun p hp => ?_) (fun p hp => ?_) (fun p hp => ?_)), ?_⟩
        · rw [World.cell?_setCells_out _ _ _ _ _ (fun _ _ => Or.inl (by show p < _; omega))]
          rw [drew_cell, World.cell?_setCells_out _ _ _ _ _ (fun _ _ => Or.inl hp), drew_cell, World.cell?_alloc_at (w := w) ROW _ w.heap.size p rfl]
          exact hG4 p hp
        · rw [World.cell?_setCells_out _ _ _ _ _ (fun _ _ => Or.inl (by show i * 2 + p < _; omega))]
          rw [drew_cell]
          exact sets_in w.heap.size (i * 2) 2 (fun p => xs.getD p 0) ((w.alloc (.cells ROW 65)).drew) (fun j hj => hN.any (by omega)) hp
        · exact sets_in w.heap.size ((i + 1) * 2) ((n - i) * 2) (fun p => F (i * 2 + p)) _ (fun j hj => hb1.any (by omega)) hp
        · have g1 : w.grownBy (w.alloc (.cells ROW 65)).drew (some g) := grown_trans (grown_alloc w _ _) (grown_drew _ _)
          have g2 := grown_over g1 (grown_sets w.heap.size (vals (fun p => xs.getD p 0) 2) (i * 2) _) (Nat.le_refl _)
          have g3 := grown_trans g2 (grown_drew _ _)
          exact ⟨grown_over g3 (grown_sets w.heap.size (vals (fun p => F (i * 2 + p)) ((n - i) * 2)) ((i + 1) * 2) _) (Nat.le_refl _), fun q hq => by cases hq; exact Or.inr (Nat.le_refl _)⟩
end Go.Proofs.Ytdbcmckoiacemaa

namespace Go.Proofs.Ytdbcmckoiacemaa
open Go.RowKit Go.Lib

/-- A row without its element at place i. -/
def dropF (F : Nat → Int) (m i p : Nat) : Int := if p < i * m then F p else F (p + m)
/-- 'append(d, s...)' where there is room, s of the same block or another: what s held goes behind. -/
theorem run_appInM (w : World) (t ty e : TypeId) (i : TypeInfo) (m : Nat) (ht : Try.prog.underlying t = some (.slice e)) (hi : Try.prog.info? e = some i) (hs : i.size = m)
    (g sLen sCap : Nat) (a : Addr) (k c : Nat) (cs : List Value) (hl : cs.length = k * m) (hsrc : ∀ j v, cs[j]? = some v → w.cell? (a.add j) = some v) (hc : ∀ j, j < cs.length → (w.cell? ⟨g, sLen * m + j, none⟩).isSome = true) (hf : ∀ j, j < cs.length → w.frozen? ⟨g, sLen * m + j, none⟩ = false) (h1 : ∀ v ∈ cs, v.oneCell' = true) (hroom : sLen + k ≤ sCap) :
    (Builtin.append_ #[t, t] ty #[.slice (some ⟨g, 0, none⟩) sLen sCap, .slice (some a) k c]).run Try.prog w = .ok (.slice (some ⟨g, 0, none⟩) (sLen + k) sCap) (w.setCells g (sLen * m) cs) := by
  subst hs
  have hf1 := run_firstCells_some (P := Try.prog) w i.size k a k c cs hl hsrc
  have hst := run_storeCells_cells (P := Try.prog) g (sLen * i.size) cs 0 w (by simpa using hc) (by simpa using hf) h1
  simp only [Nat.add_zero] at hst
  simp [Builtin.append_, run_underlying ht, sizeOf, typeInfo, hi, Builtin.lenOf, hroom, hf1, Addr.add_lit, hst]
/-- .. of nothing. -/
theorem run_appIn0 (w : World) (t ty e : TypeId) (i : TypeInfo) (ht : Try.prog.underlying t = some (.slice e)) (hi : Try.prog.info? e = some i) (g sLen sCap : Nat) (x : Option Addr) (c : Nat) (hroom : sLen ≤ sCap) :
    (Builtin.append_ #[t, t] ty #[.slice (some ⟨g, 0, none⟩) sLen sCap, .slice x 0 c]).run Try.prog w = .ok (.slice (some ⟨g, 0, none⟩) sLen sCap) w := by
  cases x with
  | none => simp [Builtin.append_, run_underlying ht, sizeOf, typeInfo, hi, Builtin.lenOf, hroom, Builtin.firstCells, storeCells]
  | some a =>
    have := run_appInM w t ty e i i.size ht hi rfl g sLen sCap a 0 c [] (by simp) (by simp) (by simp) (by simp) (by simp) hroom
    simpa [World.setCells] using this
theorem step_appInM {ops : Array Oper} {o : Oper} {a : Act} {w : World} {K : Act → World → Prop} {Q : Exit → Act → World → Prop} {E : Prop}
    (hg : o.guard = none) (d x : Operand) (dT sT : TypeId) (hop : o.op = Op.call { callee := Callee.builtin Builtin.append, args := #[d, x], argTypes := #[dT, sT] })
    (v u : Value) (hd : a.eval d = v) (hx : a.eval x = u) {v' : Value} {w' : World} (hr : (Builtin.append_ #[dT, sT] o.type #[v, u]).run Try.prog w = .ok v' w') (hK : K (a.put o.dst v') w') :
    if Region.wanted o (yielded ops a.tmps) = true then Oper.wp Try.prog o a w K Q else E := by
  have hw : Region.wanted o (yielded ops a.tmps) = true := by simp [Region.wanted, hg]
  rw [if_pos hw]
  unfold Oper.wp
  simp [execOp, hop, resolve, invoke, builtin, hd, hx, hr, Result.andThen]
  exact hK
theorem zeroPair (w : World) : (zeroValue 65).run Try.prog w = .ok (.agg #[.int .i64 0, .int .i64 0]) w := by kernel_rfl
def DelP (w : World) (B n i : Nat) (F : Nat → Int) (v : Value) (e : Ending) (w' : World) : Prop :=
  ∃ v', e = .returned v' ∧ Own w' B 65 2 (n - 1) (dropF F 2 i) v' ∧ w.grownBy w' v.ownBlock ∧ v'.ownBlock = v.ownBlock
set_option maxHeartbeats 4000000 in
set_option maxRecDepth 100000 in
theorem delP_any (w : World) (B n i : Nat) (F : Nat → Int) (v : Value) (h : Own w B 65 2 n F v) (hn : n ≤ 1048576) (hi : i < n) :
    Calls Try.prog 67 #[v, .int .i64 i, .int .i64 ((i : Int) + 1)] w (DelP w B n i F v) := by
  obtain ⟨i0, hi0, hz0, hzs, hzb⟩ := info_parts infoz_Pair
  rcases h.parts with ⟨rfl, rfl⟩ | ⟨g, c, rfl, hg, hnc, hcm, hb, hF⟩
  · exact absurd hi (Nat.not_lt_zero _)
  have hm1 : n * 2 ≤ c * 2 := Nat.mul_le_mul_right 2 hnc
  have hc63 : c ≤ 9223372036854775807 := by unfold maxLen at hcm; omega
  have hb1 : (0 : Int) ≤ (i : Int) + 1 := by omega
  have hin : i ≤ n := by omega
  have htn : ((i : Int) + 1).toNat = i + 1 := by omega
  have hb2 : (i : Int) ≤ (i : Int) + 1 := by omega
  have hb3 : (i : Int) + 1 ≤ (n : Int) := by omega
  have hne : ((i : Int) == (i : Int) + 1) = false := beq_eq_false_iff_ne.2 (by omega)
  have hb4 : ¬ (n = i) := by omega
  have hb5 : ¬ (c = i) := by omega
  have hb6 : (n : Int) ≤ (c : Int) := by omega
  have hb7 : (i : Int) ≤ (c : Int) := by omega
  have hb9 : ¬ (c = n - 1) := by omega
  have hb8 : ((n - 1 : Nat) : Int) ≤ (n : Int) := by omega
  have hbx : i + 1 ≤ n := by omega
  have hby : i + 1 ≤ c := by omega
  have hcl : ∀ W : World, Blkk W g 65 (c * 2) → ∃ w3, (∀ ty, (Builtin.clear_ #[24] ty #[.slice (some ⟨g, (n - 1) * 2, none⟩) (n - (n - 1)) (c - (n - 1))]).run Try.prog W = .ok (.tuple #[]) w3) ∧ (Blkk w3 g 65 (c * 2) ∧ ∀ p, p < (n - 1) * 2 → w3.cell? ⟨g, p, none⟩ = W.cell? ⟨g, p, none⟩) ∧ W.grownBy w3 (some g) := fun W hW =>
    run_clear_row 24 65 (.agg #[.int .i64 0, .int .i64 0]) 2 Try.underlying24 zeroPair rfl (by simp [Value.cells, Value.oneCell']) W g ((n - 1) * 2) (n - (n - 1)) (c - (n - 1)) (c * 2) hW (by omega) (by omega) (by omega)
  by_cases hlast : i + 1 = n
  · subst hlast
    have hap : ∀ ty x cc, (Builtin.append_ #[24, 24] ty #[.slice (some ⟨g, 0, none⟩) i c, .slice x 0 cc]).run Try.prog w.drew = .ok (.slice (some ⟨g, 0, none⟩) i c) w.drew := fun ty x cc =>
      run_appIn0 w.drew 24 ty 65 i0 Try.underlying24 hi0 g i c x cc (by omega)
    obtain ⟨w3, hc3, ⟨hM3, hk3⟩, hg3⟩ := hcl w.drew hb.drew
    simp only [Nat.add_sub_cancel, Nat.add_sub_cancel_left] at hc3 hk3
    have HF : Hid (∀ p, p < i * 2 → w3.cell? ⟨g, p, none⟩ = some (.int .i64 (dropF F 2 i p))) := fun p hp => by
      rw [hk3 p hp, drew_cell, hF p (by omega)]
      unfold dropF
      rw [if_pos (by omega)]
    have HO : Hid (Own w3 B 65 2 (i + 1 - 1) (dropF F 2 i) (.slice (some ⟨g, 0, none⟩) i c)) := own_of hM3 hg (by omega) hcm HF.out
    have HG : Hid (w.grownBy w3 (some g)) := grown_trans (grown_drew w _) hg3
    have hb10 : (i : Int) + 1 ≤ (c : Int) := by omega
    have hb11 : (i : Int) ≤ (i : Int) + 1 := by omega
    clear hF hb hM3 hk3 hg3 hcl HF h hg hcm
    by_cases hcn : c = i + 1
    · subst hcn
      simp only [Nat.add_sub_cancel_left] at hc3
      go_enter Try.func67, Try.ntmps67
      go_upto_region 5 with fail
      go_region_law (refine step_appInM rfl _ _ 24 24 rfl _ _ (by simp [Act.eval, Act.put]) (by simp [Act.eval, Act.put]) (hap _ (some ⟨g, 0, none⟩) 0) ?_)
      go_wp2_with (simp only [hc3])
      go_ret
      exact ⟨_, rfl, HO.out, HG.out, rfl⟩
    · go_enter Try.func67, Try.ntmps67
      go_upto_region 5 with fail
      go_region_law (refine step_appInM rfl _ _ 24 24 rfl _ _ (by simp [Act.eval, Act.put]) (by simp [Act.eval, Act.put]) (hap _ (some ⟨g, (i + 1) * 2, none⟩) (c - (i + 1))) ?_)
      go_wp2_with (simp only [hc3])
      go_ret
      exact ⟨_, rfl, HO.out, HG.out, rfl⟩
  · have hcn : ¬ (c = i + 1) := by omega
    have hap : ∀ ty cc, (Builtin.append_ #[24, 24] ty #[.slice (some ⟨g, 0, none⟩) i c, .slice (some ⟨g, (i + 1) * 2, none⟩) (n - (i + 1)) cc]).run Try.prog w.drew = .ok (.slice (some ⟨g, 0, none⟩) (n - 1) c) (w.drew.setCells g (i * 2) (vals (fun p => F ((i + 1) * 2 + p)) ((n - (i + 1)) * 2))) := fun ty cc => by
      have := run_appInM w.drew 24 ty 65 i0 2 Try.underlying24 hi0 hzs g i c ⟨g, (i + 1) * 2, none⟩ (n - (i + 1)) cc (vals (fun p => F ((i + 1) * 2 + p)) ((n - (i + 1)) * 2)) (by rw [vals_length]) (fun j v hj => by obtain ⟨h1, rfl⟩ := vals_inv hj; rw [Addr.add_lit]; exact hF _ (by omega)) (fun j hj => by rw [vals_length] at hj; exact hb.any (by omega)) (fun j hj => hb.frozen _) (vals_one _ _) (by omega)
      rwa [show i + (n - (i + 1)) = n - 1 by omega] at this
    obtain ⟨W1, hW1⟩ : ∃ W1, W1 = w.drew.setCells g (i * 2) (vals (fun p => F ((i + 1) * 2 + p)) ((n - (i + 1)) * 2)) := ⟨_, rfl⟩
    rw [← hW1] at hap
    have hbW : Blkk W1 g 65 (c * 2) := by rw [hW1]; exact Blkk.sets _ _ _ hb
    obtain ⟨w3, hc3, ⟨hM3, hk3⟩, hg3⟩ := hcl W1 hbW
    have HF : Hid (∀ p, p < (n - 1) * 2 → w3.cell? ⟨g, p, none⟩ = some (.int .i64 (dropF F 2 i p))) := fun p hp => by
      rw [hk3 p hp, hW1]
      unfold dropF
      by_cases hpi : p < i * 2
      · rw [if_pos hpi, World.cell?_setCells_out g _ _ _ _ (fun _ _ => Or.inl hpi), drew_cell]
        exact hF p (by omega)
      · rw [if_neg hpi]
        have := sets_in g (i * 2) ((n - (i + 1)) * 2) (fun p => F ((i + 1) * 2 + p)) w.drew (fun j hj => hb.drew.any (by omega)) (p := p - i * 2) (by omega)
        rw [show i * 2 + (p - i * 2) = p by omega, show (i + 1) * 2 + (p - i * 2) = p + 2 by omega] at this
        exact this
    have HO : Hid (Own w3 B 65 2 (n - 1) (dropF F 2 i) (.slice (some ⟨g, 0, none⟩) (n - 1) c)) := own_of hM3 hg (by omega) hcm HF.out
    have HG : Hid (w.grownBy w3 (some g)) := grown_trans (grown_trans (grown_drew w _) (by rw [hW1]; exact grown_sets g _ _ _)) hg3
    clear hF hb hM3 hk3 hg3 hcl HF h hg hcm hW1 hbW
    go_enter Try.func67, Try.ntmps67
    go_upto_region 5 with fail
    go_region_law (refine step_appInM rfl _ _ 24 24 rfl _ _ (by simp [Act.eval, Act.put]) (by simp [Act.eval, Act.put]) (hap _ (c - (i + 1))) ?_)
    go_wp2_with (simp only [hc3])
    go_ret
    exact ⟨_, rfl, HO.out, HG.out, rfl⟩
end Go.Proofs.Ytdbcmckoiacemaa

namespace Go.Proofs.Ytdbcmckoiacemaa
open Go.RowKit

/-- Whether one of the first k items has the key. -/
def hasI (F : Nat → Int) (key : Int) : Nat → Bool
  | 0 => false
  | k + 1 => hasI F key k || F (k * 3) == key
theorem hasI_true {F : Nat → Int} {key : Int} : ∀ {n : Nat}, hasI F key n = true ↔ ∃ i, i < n ∧ F (i * 3) = key
  | 0 => ⟨fun h => Bool.noConfusion h, fun h => by obtain ⟨i, hi, _⟩ := h; exact absurd hi (Nat.not_lt_zero i)⟩
  | n + 1 => by
    rw [hasI, Bool.or_eq_true, hasI_true (n := n), beq_iff_eq]
    refine ⟨fun h => ?_, fun ⟨i, hi, e⟩ => ?_⟩
    · rcases h with ⟨i, hi, e⟩ | e
      · exact ⟨i, by omega, e⟩
      · exact ⟨n, by omega, e⟩
    · rcases Nat.lt_or_ge i n with h | h
      · exact Or.inl ⟨i, h, e⟩
      · obtain rfl : i = n := by omega
        exact Or.inr e
theorem inT_is (v lo hi : Int) (r : Bool) (hr : decide (lo ≤ v ∧ v ≤ hi) = r) (w : World) :
    Calls Try.prog 40 #[.int .i64 v, .int .i64 lo, .int .i64 hi] w fun e w' => e = .returned (.bool r) ∧ w' = w := by
  by_cases h1 : lo ≤ v
  · by_cases h2 : v ≤ hi
    · have d : decide (v ≤ hi) = true := decide_eq_true h2
      rw [decide_eq_true (show lo ≤ v ∧ v ≤ hi from ⟨h1, h2⟩)] at hr
      subst hr
      go_enter Try.func40, Try.ntmps40
      go_wp2
      go_ret
      exact ⟨rfl, rfl⟩
    · have d : decide (v ≤ hi) = false := decide_eq_false h2
      rw [decide_eq_false (show ¬ (lo ≤ v ∧ v ≤ hi) from fun h => h2 h.2)] at hr
      subst hr
      go_enter Try.func40, Try.ntmps40
      go_wp2
      go_ret
      exact ⟨rfl, rfl⟩
  · have d : decide (lo ≤ v) = false := decide_eq_false h1
    rw [decide_eq_false (show ¬ (lo ≤ v ∧ v ≤ hi) from fun h => h1 h.1)] at hr
    subst hr
    go_enter Try.func40, Try.ntmps40
    go_wp2
    go_ret
    exact ⟨rfl, rfl⟩
set_option maxHeartbeats 1000000 in
theorem l8Has_is (v : Value) (B n : Nat) (F : Nat → Int) (key : Int) (r : Bool) (hr : hasI F key n = r) (w : World) (h : Row w B 3 n F v) (hn : n ≤ 9223372036854775807) :
    Calls Try.prog 56 #[v, .int .i64 key] w fun e w' => e = .returned (.bool r) ∧ w' = w := by
  obtain ⟨ao, cp, rfl⟩ := h.form
  have H : Hid (Row w B 3 n F (.slice ao n cp)) := h
  have HR : Hid (hasI F key n = r) := hr
  clear h hr
  go_enter Try.func56, Try.ntmps56
  go_wp2
  go_loop [5] (fun i => ∃ k : Nat, k ≤ n ∧ i = .int .i64 k ∧ Hid (hasI F key k = false)) (fun i => n - (intOf i).toNat)
  case atStart => exact ⟨0, Nat.zero_le _, rfl, rfl⟩
  case round =>
    obtain ⟨k, hk, rfl, HS⟩ := hrel
    by_cases hlt : k < n
    case neg =>
      obtain rfl : n = k := by omega
      have E : Hid (r = false) := HR.out.symm.trans HS.out
      clear HS HR
      go_wp2
      go_ret
      exact ⟨by rw [E.out]; rfl, rfl⟩
    obtain ⟨g, o, rfl, _, hg, x0, _, _⟩ := H.out.at3 hlt
    obtain ⟨n0, N0⟩ : ∃ x, F (k * 3) = x := ⟨_, rfl⟩
    rw [N0] at x0
    by_cases hz : n0 = key
    · have E : Hid (r = true) := HR.out.symm.trans (hasI_true.2 ⟨k, hlt, N0.trans hz⟩)
      clear HS HR N0
      subst hz
      go_wp2
      go_ret
      exact ⟨by rw [E.out]; rfl, rfl⟩
    · have E : Hid (hasI F key (k + 1) = false) := by
        unfold Hid
        rw [hasI, HS.out, N0, beq_eq_false_iff_ne.2 hz]; rfl
      have d : (n0 == key) = false := beq_eq_false_iff_ne.2 hz
      clear HS N0 hz
      go_wp2
      go_round
      case rel => exact ⟨k + 1, by omega, by go_num, E⟩
      case measure => simp [intOf]; omega
end Go.Proofs.Ytdbcmckoiacemaa

namespace Go.Proofs.Ytdbcmckoiacemaa
open Go.RowKit

theorem isValueT_is (v : Int) (r : Bool) (hr : decide (0 ≤ v ∧ v ≤ 9999) = r) (w : World) :
    Calls Try.prog 46 #[.int .i64 v] w fun e w' => e = .returned (.bool r) ∧ w' = w := by
  by_cases h1 : 0 ≤ v
  · by_cases h2 : v ≤ 9999
    · have d : decide (v ≤ 9999) = true := decide_eq_true h2
      rw [decide_eq_true (show 0 ≤ v ∧ v ≤ 9999 from ⟨h1, h2⟩)] at hr
      subst hr
      go_enter Try.func46, Try.ntmps46
      go_wp2
      go_ret
      exact ⟨rfl, rfl⟩
    · have d : decide (v ≤ 9999) = false := decide_eq_false h2
      rw [decide_eq_false (show ¬ (0 ≤ v ∧ v ≤ 9999) from fun h => h2 h.2)] at hr
      subst hr
      go_enter Try.func46, Try.ntmps46
      go_wp2
      go_ret
      exact ⟨rfl, rfl⟩
  · have d : decide (0 ≤ v) = false := decide_eq_false h1
    rw [decide_eq_false (show ¬ (0 ≤ v ∧ v ≤ 9999) from fun h => h1 h.1)] at hr
    subst hr
    go_enter Try.func46, Try.ntmps46
    go_wp2
    go_ret
    exact ⟨rfl, rfl⟩
end Go.Proofs.Ytdbcmckoiacemaa

namespace Go.Proofs.Ytdbcmckoiacemaa
open Go.RowKit

/-- What is told of the pair at place k. -/
def pairF (F : Nat → Int) (k : Nat) : Int := if faultOf (F (k * 2)) ≠ 0 then faultOf (F (k * 2)) else if ¬ (0 ≤ F (k * 2 + 1) ∧ F (k * 2 + 1) ≤ 9999) then 3 else if 0 < k ∧ F (k * 2) ≤ F ((k - 1) * 2) then 1 else 0
/-- What is told of m pairs from place k on. -/
def pairsF (F : Nat → Int) : Nat → Nat → Int
  | 0, _ => 0
  | m + 1, k => if pairF F k ≠ 0 then pairF F k else pairsF F m (k + 1)
theorem pairsF_bad {F : Nat → Int} {m k : Nat} {f : Int} (hm : 0 < m) (h : pairF F k = f) (h0 : f ≠ 0) : pairsF F m k = f := by
  obtain ⟨m, rfl⟩ : ∃ q, m = q + 1 := ⟨m - 1, by omega⟩
  rw [pairsF, if_pos (by rw [h]; exact h0), h]
theorem pairsF_on {F : Nat → Int} {m k : Nat} (hm : 0 < m) (h : pairF F k = 0) : pairsF F m k = pairsF F (m - 1) (k + 1) := by
  obtain ⟨m, rfl⟩ : ∃ q, m = q + 1 := ⟨m - 1, by omega⟩
  rw [pairsF, if_neg (fun q => q h)]; rfl
theorem pairF_key {F : Nat → Int} {k : Nat} {n0 : Int} (h0 : F (k * 2) = n0) (h : faultOf n0 ≠ 0) : pairF F k = faultOf n0 := by unfold pairF; rw [h0, if_pos h]
theorem pairF_val {F : Nat → Int} {k : Nat} {n0 n1 : Int} (h0 : F (k * 2) = n0) (h1 : F (k * 2 + 1) = n1) (h : faultOf n0 = 0) (h2 : ¬ (0 ≤ n1 ∧ n1 ≤ 9999)) : pairF F k = 3 := by unfold pairF; rw [h0, h1, if_neg (fun q => q h), if_pos h2]
theorem pairF_form {F : Nat → Int} {k : Nat} {n0 n1 p : Int} (h0 : F (k * 2) = n0) (h1 : F (k * 2 + 1) = n1) (hp : F ((k - 1) * 2) = p) (h : faultOf n0 = 0) (h2 : 0 ≤ n1 ∧ n1 ≤ 9999) (hk : 0 < k) (h3 : n0 ≤ p) : pairF F k = 1 := by unfold pairF; rw [h0, h1, hp, if_neg (fun q => q h), if_neg (fun q => q h2), if_pos ⟨hk, h3⟩]
theorem pairF_ok {F : Nat → Int} {k : Nat} {n0 n1 p : Int} (h0 : F (k * 2) = n0) (h1 : F (k * 2 + 1) = n1) (hp : F ((k - 1) * 2) = p) (h : faultOf n0 = 0) (h2 : 0 ≤ n1 ∧ n1 ≤ 9999) (h3 : ¬ (0 < k ∧ n0 ≤ p)) : pairF F k = 0 := by unfold pairF; rw [h0, h1, hp, if_neg (fun q => q h), if_neg (fun q => q h2), if_neg h3]

set_option maxRecDepth 100000 in
set_option maxHeartbeats 4000000 in
theorem specPairs_any (v : Value) (B n : Nat) (F : Nat → Int) (w : World) (h : Row w B 2 n F v) (hn : n ≤ 1048576) :
    Calls Try.prog 16 #[v] w fun e w' => e = .returned (.int .i64 (pairsF F n 0)) ∧ Below w.heap.size w w' := by
  obtain ⟨ao, cp, rfl⟩ := h.form
  have H : Hid (Row w B 2 n F (.slice ao n cp)) := h
  clear h
  obtain ⟨f, hf⟩ : ∃ f, pairsF F n 0 = f := ⟨_, rfl⟩
  have HF : Hid (pairsF F n 0 = f) := hf
  rw [hf]
  clear hf
  go_enter Try.func16, Try.ntmps16
  go_wp2
  go_loopw [3] (fun i wr => ∃ k : Nat, k ≤ n ∧ i = .int .i64 k ∧ Hid (pairsF F (n - k) k = f) ∧ Hid (Below w.heap.size w wr)) (fun i _ => n - (intOf i).toNat)
  case atStart => exact ⟨0, Nat.zero_le _, rfl, HF, Below.refl _ _⟩
  case round =>
    obtain ⟨k, hk, rfl, HS, HB⟩ := hrel
    by_cases hlt : k < n
    case neg =>
      have en : n - k = 0 := by omega
      have E : Hid (f = 0) := by
        have := HS.out
        rw [en, pairsF] at this
        exact this.symm
      clear HS HF
      go_wp2
      go_ret
      exact ⟨by rw [E.out]; rfl, HB.out⟩
    have hrow := H.out.later HB.out
    obtain ⟨g, o, rfl, _, hg, x0, x1⟩ := hrow.at2 hlt
    have hm : Hid (0 < n - k ∧ n - k - 1 = n - (k + 1)) := ⟨by omega, by omega⟩
    obtain ⟨n0, N0⟩ : ∃ x, F (k * 2) = x := ⟨_, rfl⟩
    rw [N0] at x0
    obtain ⟨n1, N1⟩ : ∃ x, F (k * 2 + 1) = x := ⟨_, rfl⟩
    rw [N1] at x1
    have NN : Hid (F (k * 2) = n0 ∧ F (k * 2 + 1) = n1) := ⟨N0, N1⟩
    clear N0 N1
    by_cases h5 : faultOf n0 = 0
    case neg =>
      obtain ⟨q, hq⟩ : ∃ q, faultOf n0 = q := ⟨_, rfl⟩
      have HQ : Hid (faultOf n0 = q) := hq
      have E : Hid (f = q) := by
        have E0 := HS.out
        rw [pairsF_bad (f := q) hm.out.1 (by rw [pairF_key NN.out.1 h5]; exact hq) (by rw [← hq]; exact h5)] at E0
        exact E0.symm
      have d : (q != 0) = true := bne_iff_ne.2 (by rw [← hq]; exact h5)
      clear h5 hq HS HF
      go_wp2_with fail
      refine (l1Fault_any _ _).mono ?_
      rintro e w9 ⟨rfl, hw9⟩
      obtain rfl := hw9.symm
      rw [HQ.out]
      go_wp2
      go_ret
      refine ⟨by rw [E.out]; rfl, ?_⟩
      repeat (first | exact Below.refl _ _ | exact HB.out | refine below_dn ?_ _ | refine Below.setCell ?_ (by first | omega | (simp <;> omega) | (have := HB.out.size; simp <;> omega)) _ | refine Below.alloc ?_ (by first | omega | (simp <;> omega) | (have := HB.out.size; simp <;> omega)) _)
    have HK : Hid (faultOf n0 = 0) := h5
    clear h5
    by_cases h6 : 0 ≤ n1 ∧ n1 ≤ 9999
    case neg =>
      have E : Hid (f = 3) := by
        have E0 := HS.out
        rw [pairsF_bad (f := 3) hm.out.1 (pairF_val NN.out.1 NN.out.2 HK.out h6) (by omega)] at E0
        exact E0.symm
      have HV : Hid (decide ((0 : Int) ≤ n1 ∧ n1 ≤ 9999) = false) := decide_eq_false h6
      clear h6 HS HF
      go_wp2_with fail
      refine (l1Fault_any _ _).mono ?_
      rintro e w9 ⟨rfl, hw9⟩
      obtain rfl := hw9.symm
      rw [HK.out]
      go_wp2_with fail
      refine (inT_is _ _ _ false HV.out _).mono ?_
      rintro e w9 ⟨rfl, hw9⟩
      obtain rfl := hw9.symm
      go_wp2
      go_ret
      exact ⟨by rw [E.out]; rfl, HB.out⟩
    have HV : Hid (decide ((0 : Int) ≤ n1 ∧ n1 ≤ 9999) = true) := decide_eq_true h6
    rcases Nat.eq_zero_or_pos k with hk0 | hk0
    · have E : Hid (pairsF F (n - (k + 1)) (k + 1) = f) := by
        have E0 := HS.out
        rw [pairsF_on hm.out.1 (pairF_ok NN.out.1 NN.out.2 rfl HK.out h6 (fun q => absurd q.1 (by omega))), hm.out.2] at E0
        exact E0
      clear h6 HS HF
      subst hk0
      simp only [Nat.zero_mul, Nat.add_zero] at x0 x1
      go_wp2_with fail
      refine (l1Fault_any _ _).mono ?_
      rintro e w9 ⟨rfl, hw9⟩
      obtain rfl := hw9.symm
      rw [HK.out]
      go_wp2_with fail
      refine (inT_is _ _ _ true HV.out _).mono ?_
      rintro e w9 ⟨rfl, hw9⟩
      obtain rfl := hw9.symm
      go_wp2_with fail
      go_quiet (fail)
      go_wp2
      go_roundw
      case rel =>
        refine ⟨0 + 1, by omega, by go_num, E, ?_⟩
        show Below _ _ _
        repeat (first | exact Below.refl _ _ | exact HB.out | refine below_dn ?_ _ | refine Below.setCell ?_ (by first | omega | (simp <;> omega) | (have := HB.out.size; simp <;> omega)) _ | refine Below.alloc ?_ (by first | omega | (simp <;> omega) | (have := HB.out.size; simp <;> omega)) _)
      case measure => simp [intOf]; omega
    obtain ⟨g', o', hgo, _, _, p0, p1⟩ := hrow.at2 (k := k - 1) (by omega)
    obtain ⟨rfl, rfl⟩ : g = g' ∧ o = o' := by simpa using hgo
    obtain ⟨p, P⟩ : ∃ x, F ((k - 1) * 2) = x := ⟨_, rfl⟩
    rw [P] at p0
    have hsub : ((k : Int) - 1) = ((k - 1 : Nat) : Int) := by omega
    have hlt' : k - 1 < n := by omega
    have d : decide ((k : Int) > 0) = true := decide_eq_true (by omega)
    clear hgo p1 hrow
    by_cases h7 : n0 ≤ p
    · have E : Hid (f = 1) := by
        have E0 := HS.out
        rw [pairsF_bad (f := 1) hm.out.1 (pairF_form NN.out.1 NN.out.2 P HK.out h6 hk0 h7) (by omega)] at E0
        exact E0.symm
      clear h6 HS HF
      go_wp2_with fail
      refine (l1Fault_any _ _).mono ?_
      rintro e w9 ⟨rfl, hw9⟩
      obtain rfl := hw9.symm
      rw [HK.out]
      go_wp2_with fail
      refine (inT_is _ _ _ true HV.out _).mono ?_
      rintro e w9 ⟨rfl, hw9⟩
      obtain rfl := hw9.symm
      go_wp2_with fail
      go_quiet (fail)
      go_wp2
      go_ret
      refine ⟨by rw [E.out]; rfl, ?_⟩
      repeat (first | exact Below.refl _ _ | exact HB.out | refine below_dn ?_ _ | refine Below.setCell ?_ (by first | omega | (simp <;> omega) | (have := HB.out.size; simp <;> omega)) _ | refine Below.alloc ?_ (by first | omega | (simp <;> omega) | (have := HB.out.size; simp <;> omega)) _)
    · have E : Hid (pairsF F (n - (k + 1)) (k + 1) = f) := by
        have E0 := HS.out
        rw [pairsF_on hm.out.1 (pairF_ok NN.out.1 NN.out.2 P HK.out h6 (fun q => h7 q.2)), hm.out.2] at E0
        exact E0
      clear h6 HS HF
      go_wp2_with fail
      refine (l1Fault_any _ _).mono ?_
      rintro e w9 ⟨rfl, hw9⟩
      obtain rfl := hw9.symm
      rw [HK.out]
      go_wp2_with fail
      refine (inT_is _ _ _ true HV.out _).mono ?_
      rintro e w9 ⟨rfl, hw9⟩
      obtain rfl := hw9.symm
      go_wp2_with fail
      go_quiet (fail)
      go_wp2
      go_roundw
      case rel =>
        refine ⟨k + 1, by omega, by go_num, E, ?_⟩
        show Below _ _ _
        repeat (first | exact Below.refl _ _ | exact HB.out | refine below_dn ?_ _ | refine Below.setCell ?_ (by first | omega | (simp <;> omega) | (have := HB.out.size; simp <;> omega)) _ | refine Below.alloc ?_ (by first | omega | (simp <;> omega) | (have := HB.out.size; simp <;> omega)) _)
      case measure => simp [intOf]; omega
end Go.Proofs.Ytdbcmckoiacemaa

namespace Go.Proofs.Ytdbcmckoiacemaa
open Go.RowKit

theorem comparePairs_is (a b c d r : Int) (hr : cmpOf a c = r) (w : World) :
    Calls Try.prog 37 #[.agg #[.int .i64 a, .int .i64 b], .agg #[.int .i64 c, .int .i64 d]] w fun e w' => e = .returned (.int .i64 r) ∧ Below w.heap.size w w' := by
  have HR : Hid (cmpOf a c = r) := hr
  clear hr
  go_enter Try.func37, Try.ntmps37
  go_wp2_with fail
  refine (compare_is _ _ r HR.out _).mono ?_
  rintro e w9 ⟨rfl, hw9⟩
  obtain rfl := hw9.symm
  go_wp2
  go_ret
  exact ⟨rfl, (below_alloc _ _).alloc (by simp) _⟩
theorem cmpOf_geq {p n0 : Int} (h : n0 ≤ p) : decide (cmpOf p n0 ≥ 0) = true := by
  unfold cmpOf
  rw [if_neg (by omega)]
  split <;> exact decide_eq_true (by omega)
theorem cmpOf_lt {p n0 : Int} (h : ¬ n0 ≤ p) : decide (cmpOf p n0 ≥ 0) = false := by
  unfold cmpOf
  rw [if_pos (by omega)]
  exact decide_eq_false (by omega)
/-- The pair ahead in its row, the pair in its box, and that nothing old has turned. -/
def TwoP (w : World) (g o b : Nat) (p0 p1 n0 n1 : Int) (x : World) : Prop := (x.cell? ⟨g, o, none⟩ = some (.int .i64 p0) ∧ x.cell? ⟨g, o + 1, none⟩ = some (.int .i64 p1) ∧ x.cell? ⟨b, 0, none⟩ = some (.int .i64 n0) ∧ x.cell? ⟨b, 1, none⟩ = some (.int .i64 n1)) ∧ Below w.heap.size w x
theorem TwoP.later {w x x' : World} {g o b : Nat} {p0 p1 n0 n1 : Int} (h : TwoP w g o b p0 p1 n0 n1 x) (hb : Below x.heap.size x x') : TwoP w g o b p0 p1 n0 n1 x' := by
  obtain ⟨⟨h0, h1, h2, h3⟩, hy⟩ := h
  exact ⟨⟨(hb.cell (World.block_lt_of_cell? x _ h0)).trans h0, (hb.cell (World.block_lt_of_cell? x _ h1)).trans h1, (hb.cell (World.block_lt_of_cell? x _ h2)).trans h2, (hb.cell (World.block_lt_of_cell? x _ h3)).trans h3⟩, hy.trans (hb.mono hy.size)⟩
set_option maxRecDepth 100000 in
set_option maxHeartbeats 4000000 in
theorem implPairs_any (v : Value) (B n : Nat) (F : Nat → Int) (w : World) (h : Row w B 2 n F v) (hn : n ≤ 1048576) :
    Calls Try.prog 13 #[v] w fun e w' => e = .returned (.int .i64 (pairsF F n 0)) ∧ Below w.heap.size w w' := by
  obtain ⟨ao, cp, rfl⟩ := h.form
  have H : Hid (Row w B 2 n F (.slice ao n cp)) := h
  clear h
  obtain ⟨f, hf⟩ : ∃ f, pairsF F n 0 = f := ⟨_, rfl⟩
  have HF : Hid (pairsF F n 0 = f) := hf
  rw [hf]
  clear hf
  go_enter Try.func13, Try.ntmps13
  go_wp2
  go_loopw [8] (fun i wr => ∃ k : Nat, k ≤ n ∧ i = .int .i64 k ∧ Hid (pairsF F (n - k) k = f) ∧ Hid (Below w.heap.size w wr)) (fun i _ => n - (intOf i).toNat)
  case atStart => exact ⟨0, Nat.zero_le _, rfl, HF, Below.refl _ _⟩
  case round =>
    obtain ⟨k, hk, rfl, HS, HB⟩ := hrel
    by_cases hlt : k < n
    case neg =>
      have en : n - k = 0 := by omega
      have E : Hid (f = 0) := by
        have := HS.out
        rw [en, pairsF] at this
        exact this.symm
      clear HS HF
      go_wp2
      go_ret
      exact ⟨by rw [E.out]; rfl, HB.out⟩
    have hrow := H.out.later HB.out
    obtain ⟨g, o, rfl, _, hg, x0, x1⟩ := hrow.at2 hlt
    have hm : Hid (0 < n - k ∧ n - k - 1 = n - (k + 1)) := ⟨by omega, by omega⟩
    obtain ⟨n0, N0⟩ : ∃ x, F (k * 2) = x := ⟨_, rfl⟩
    rw [N0] at x0
    obtain ⟨n1, N1⟩ : ∃ x, F (k * 2 + 1) = x := ⟨_, rfl⟩
    rw [N1] at x1
    have NN : Hid (F (k * 2) = n0 ∧ F (k * 2 + 1) = n1) := ⟨N0, N1⟩
    clear N0 N1
    by_cases h5 : faultOf n0 = 0
    case neg =>
      obtain ⟨q, hq⟩ : ∃ q, faultOf n0 = q := ⟨_, rfl⟩
      have HQ : Hid (faultOf n0 = q) := hq
      have E : Hid (f = q) := by
        have E0 := HS.out
        rw [pairsF_bad (f := q) hm.out.1 (by rw [pairF_key NN.out.1 h5]; exact hq) (by rw [← hq]; exact h5)] at E0
        exact E0.symm
      have d : (q != 0) = true := bne_iff_ne.2 (by rw [← hq]; exact h5)
      clear h5 hq HS HF
      go_wp2_with fail
      refine (keyFault_any _ _).mono ?_
      rintro e w9 ⟨rfl, hw9⟩
      obtain rfl := hw9.symm
      rw [HQ.out]
      go_wp2
      go_ret
      refine ⟨by rw [E.out]; rfl, ?_⟩
      repeat (first | exact Below.refl _ _ | exact HB.out | refine below_dn ?_ _ | refine Below.setCell ?_ (by first | omega | (simp <;> omega) | (have := HB.out.size; simp <;> omega)) _ | refine Below.alloc ?_ (by first | omega | (simp <;> omega) | (have := HB.out.size; simp <;> omega)) _)
    have HK : Hid (faultOf n0 = 0) := h5
    clear h5
    by_cases h6 : 0 ≤ n1 ∧ n1 ≤ 9999
    case neg =>
      have E : Hid (f = 3) := by
        have E0 := HS.out
        rw [pairsF_bad (f := 3) hm.out.1 (pairF_val NN.out.1 NN.out.2 HK.out h6) (by omega)] at E0
        exact E0.symm
      have HV : Hid (decide ((0 : Int) ≤ n1 ∧ n1 ≤ 9999) = false) := decide_eq_false h6
      clear h6 HS HF
      go_wp2_with fail
      refine (keyFault_any _ _).mono ?_
      rintro e w9 ⟨rfl, hw9⟩
      obtain rfl := hw9.symm
      rw [HK.out]
      go_wp2_with fail
      refine (isValueT_is _ false HV.out _).mono ?_
      rintro e w9 ⟨rfl, hw9⟩
      obtain rfl := hw9.symm
      go_wp2
      go_ret
      refine ⟨by rw [E.out]; rfl, ?_⟩
      repeat (first | exact Below.refl _ _ | exact HB.out | refine below_dn ?_ _ | refine Below.setCell ?_ (by first | omega | (simp <;> omega) | (have := HB.out.size; simp <;> omega)) _ | refine Below.alloc ?_ (by first | omega | (simp <;> omega) | (have := HB.out.size; simp <;> omega)) _)
    have HV : Hid (decide ((0 : Int) ≤ n1 ∧ n1 ≤ 9999) = true) := decide_eq_true h6
    rcases Nat.eq_zero_or_pos k with hk0 | hk0
    · have E : Hid (pairsF F (n - (k + 1)) (k + 1) = f) := by
        have E0 := HS.out
        rw [pairsF_on hm.out.1 (pairF_ok NN.out.1 NN.out.2 rfl HK.out h6 (fun q => absurd q.1 (by omega))), hm.out.2] at E0
        exact E0
      clear h6 HS HF
      subst hk0
      simp only [Nat.zero_mul, Nat.add_zero] at x0 x1
      go_wp2_with fail
      refine (keyFault_any _ _).mono ?_
      rintro e w9 ⟨rfl, hw9⟩
      obtain rfl := hw9.symm
      rw [HK.out]
      go_wp2_with fail
      refine (isValueT_is _ true HV.out _).mono ?_
      rintro e w9 ⟨rfl, hw9⟩
      obtain rfl := hw9.symm
      go_wp2_with fail
      go_quiet (fail)
      go_wp2
      go_roundw
      case rel =>
        refine ⟨0 + 1, by omega, by go_num, E, ?_⟩
        show Below _ _ _
        repeat (first | exact Below.refl _ _ | exact HB.out | refine below_dn ?_ _ | refine Below.setCell ?_ (by first | omega | (simp <;> omega) | (have := HB.out.size; simp <;> omega)) _ | refine Below.alloc ?_ (by first | omega | (simp <;> omega) | (have := HB.out.size; simp <;> omega)) _)
      case measure => simp [intOf]; omega
    obtain ⟨g', o', hgo, _, _, p0, p1⟩ := hrow.at2 (k := k - 1) (by omega)
    obtain ⟨rfl, rfl⟩ : g = g' ∧ o = o' := by simpa using hgo
    obtain ⟨p, P⟩ : ∃ x, F ((k - 1) * 2) = x := ⟨_, rfl⟩
    rw [P] at p0
    obtain ⟨p', P'⟩ : ∃ x, F ((k - 1) * 2 + 1) = x := ⟨_, rfl⟩
    rw [P'] at p1
    have hsub : ((k : Int) - 1) = ((k - 1 : Nat) : Int) := by omega
    have hwr : IntKind.i64.wrap ((k - 1 : Nat) : Int) = ((k - 1 : Nat) : Int) := by simp [IntKind.wrap, IntKind.bits, IntKind.signed]; omega
    have hlt' : k - 1 < n := by omega
    have d : decide ((k : Int) > 0) = true := decide_eq_true (by omega)
    clear hgo hrow P'
    by_cases h7 : n0 ≤ p
    · have E : Hid (f = 1) := by
        have E0 := HS.out
        rw [pairsF_bad (f := 1) hm.out.1 (pairF_form NN.out.1 NN.out.2 P HK.out h6 hk0 h7) (by omega)] at E0
        exact E0.symm
      have HC : Hid (decide (cmpOf p n0 ≥ 0) = true) := cmpOf_geq h7
      clear h6 HS HF
      go_wp2_with fail
      refine (keyFault_any _ _).mono ?_
      rintro e w9 ⟨rfl, hw9⟩
      obtain rfl := hw9.symm
      rw [HK.out]
      go_wp2_with fail
      refine (isValueT_is _ true HV.out _).mono ?_
      rintro e w9 ⟨rfl, hw9⟩
      obtain rfl := hw9.symm
      go_wp2_with fail
      refine wp_region_held_drew (S := TwoP w g (o + (k - 1) * 2) wr.heap.size p p' n0 n1) (by kernel_rfl) ?_ (fun hS => ?_)
      · refine ⟨⟨?_, ?_, ?_, ?_⟩, ?_⟩
        · go_simp
        · go_simp
        · go_simp
        · go_simp
        · refine Below.drew ?_
          repeat (first | exact Below.refl _ _ | exact HB.out | refine below_dn ?_ _ | refine Below.setCell ?_ (by first | omega | (simp <;> omega) | (have := HB.out.size; simp <;> omega)) _ | refine Below.alloc ?_ (by first | omega | (simp <;> omega) | (have := HB.out.size; simp <;> omega)) _)
      refine tkH 0 ?_ hS (fun wx hx => ?_) ?_; rotate_left
      · obtain ⟨⟨hx0, hx1, hx2, hx3⟩, _⟩ := hx; go_simp; try with_reducible rfl
      refine tkH 1 ?_ hS (fun wx hx => ?_) ?_; rotate_left
      · obtain ⟨⟨hx0, hx1, hx2, hx3⟩, _⟩ := hx; go_simp; try with_reducible rfl
      refine tkH 2 ?_ hS (fun wx hx => ?_) ?_; rotate_left
      · obtain ⟨⟨hx0, hx1, hx2, hx3⟩, _⟩ := hx; go_simp; try with_reducible rfl
      refine tkH 3 ?_ hS (fun wx hx => ?_) ?_; rotate_left
      · obtain ⟨⟨hx0, hx1, hx2, hx3⟩, _⟩ := hx; go_simp; try with_reducible rfl
      refine tkH 4 ?_ hS (fun wx hx => ?_) ?_; rotate_left
      · obtain ⟨⟨hx0, hx1, hx2, hx3⟩, _⟩ := hx; go_simp; try with_reducible rfl
      refine tkH 5 ?_ hS (fun wx hx => ?_) ?_; rotate_left
      · obtain ⟨⟨hx0, hx1, hx2, hx3⟩, _⟩ := hx; go_simp; try with_reducible rfl
      refine tkH 6 ?_ hS (fun wx hx => ?_) ?_; rotate_left
      · obtain ⟨⟨hx0, hx1, hx2, hx3⟩, _⟩ := hx; go_simp; try with_reducible rfl
      refine tkH 7 ?_ hS (fun wx hx => ?_) ?_; rotate_left
      · obtain ⟨⟨hx0, hx1, hx2, hx3⟩, _⟩ := hx; go_simp; try with_reducible rfl
      refine tkH 8 ?_ hS (fun wx hx => ?_) ?_; rotate_left
      · obtain ⟨⟨hx0, hx1, hx2, hx3⟩, _⟩ := hx; go_simp; try with_reducible rfl
      refine rdH 9 (fun K hK => ?_)
      go_simp
      go_wp2_with fail
      refine (comparePairs_is _ _ _ _ (cmpOf p n0) rfl _).mono ?_
      rintro e w2 ⟨rfl, q2⟩
      go_wp2_with fail
      refine hK.out _ _ (hS.later q2) (fun hS => ?_)
      clear hK K q2
      refine tkH 10 ?_ hS (fun wx hx => ?_) ?_; rotate_left
      · obtain ⟨⟨hx0, hx1, hx2, hx3⟩, _⟩ := hx; go_simp; try with_reducible rfl
      rw [HC.out]
      refine tkH 11 ?_ hS (fun wx hx => ?_) ?_; rotate_left
      · obtain ⟨⟨hx0, hx1, hx2, hx3⟩, _⟩ := hx; go_simp; try with_reducible rfl
      refine wpAnyH_done (by kernel_rfl) ?_ _
      go_simp
      go_wp2
      go_ret
      exact ⟨by rw [E.out]; rfl, hS.2⟩
    · have E : Hid (pairsF F (n - (k + 1)) (k + 1) = f) := by
        have E0 := HS.out
        rw [pairsF_on hm.out.1 (pairF_ok NN.out.1 NN.out.2 P HK.out h6 (fun q => h7 q.2)), hm.out.2] at E0
        exact E0
      have HC : Hid (decide (cmpOf p n0 ≥ 0) = false) := cmpOf_lt h7
      clear h6 HS HF
      go_wp2_with fail
      refine (keyFault_any _ _).mono ?_
      rintro e w9 ⟨rfl, hw9⟩
      obtain rfl := hw9.symm
      rw [HK.out]
      go_wp2_with fail
      refine (isValueT_is _ true HV.out _).mono ?_
      rintro e w9 ⟨rfl, hw9⟩
      obtain rfl := hw9.symm
      go_wp2_with fail
      refine wp_region_held_drew (S := TwoP w g (o + (k - 1) * 2) wr.heap.size p p' n0 n1) (by kernel_rfl) ?_ (fun hS => ?_)
      · refine ⟨⟨?_, ?_, ?_, ?_⟩, ?_⟩
        · go_simp
        · go_simp
        · go_simp
        · go_simp
        · refine Below.drew ?_
          repeat (first | exact Below.refl _ _ | exact HB.out | refine below_dn ?_ _ | refine Below.setCell ?_ (by first | omega | (simp <;> omega) | (have := HB.out.size; simp <;> omega)) _ | refine Below.alloc ?_ (by first | omega | (simp <;> omega) | (have := HB.out.size; simp <;> omega)) _)
      refine tkH 0 ?_ hS (fun wx hx => ?_) ?_; rotate_left
      · obtain ⟨⟨hx0, hx1, hx2, hx3⟩, _⟩ := hx; go_simp; try with_reducible rfl
      refine tkH 1 ?_ hS (fun wx hx => ?_) ?_; rotate_left
      · obtain ⟨⟨hx0, hx1, hx2, hx3⟩, _⟩ := hx; go_simp; try with_reducible rfl
      refine tkH 2 ?_ hS (fun wx hx => ?_) ?_; rotate_left
      · obtain ⟨⟨hx0, hx1, hx2, hx3⟩, _⟩ := hx; go_simp; try with_reducible rfl
      refine tkH 3 ?_ hS (fun wx hx => ?_) ?_; rotate_left
      · obtain ⟨⟨hx0, hx1, hx2, hx3⟩, _⟩ := hx; go_simp; try with_reducible rfl
      refine tkH 4 ?_ hS (fun wx hx => ?_) ?_; rotate_left
      · obtain ⟨⟨hx0, hx1, hx2, hx3⟩, _⟩ := hx; go_simp; try with_reducible rfl
      refine tkH 5 ?_ hS (fun wx hx => ?_) ?_; rotate_left
      · obtain ⟨⟨hx0, hx1, hx2, hx3⟩, _⟩ := hx; go_simp; try with_reducible rfl
      refine tkH 6 ?_ hS (fun wx hx => ?_) ?_; rotate_left
      · obtain ⟨⟨hx0, hx1, hx2, hx3⟩, _⟩ := hx; go_simp; try with_reducible rfl
      refine tkH 7 ?_ hS (fun wx hx => ?_) ?_; rotate_left
      · obtain ⟨⟨hx0, hx1, hx2, hx3⟩, _⟩ := hx; go_simp; try with_reducible rfl
      refine tkH 8 ?_ hS (fun wx hx => ?_) ?_; rotate_left
      · obtain ⟨⟨hx0, hx1, hx2, hx3⟩, _⟩ := hx; go_simp; try with_reducible rfl
      refine rdH 9 (fun K hK => ?_)
      go_simp
      go_wp2_with fail
      refine (comparePairs_is _ _ _ _ (cmpOf p n0) rfl _).mono ?_
      rintro e w2 ⟨rfl, q2⟩
      go_wp2_with fail
      refine hK.out _ _ (hS.later q2) (fun hS => ?_)
      clear hK K q2
      refine tkH 10 ?_ hS (fun wx hx => ?_) ?_; rotate_left
      · obtain ⟨⟨hx0, hx1, hx2, hx3⟩, _⟩ := hx; go_simp; try with_reducible rfl
      rw [HC.out]
      refine tkH 11 ?_ hS (fun wx hx => ?_) ?_; rotate_left
      · obtain ⟨⟨hx0, hx1, hx2, hx3⟩, _⟩ := hx; go_simp; try with_reducible rfl
      refine wpAnyH_done (by kernel_rfl) ?_ _
      go_simp
      go_wp2
      go_roundw
      case rel => exact ⟨k + 1, by omega, by go_num, E, hS.2⟩
      case measure => simp [intOf]; omega
end Go.Proofs.Ytdbcmckoiacemaa

namespace Go.Proofs.Ytdbcmckoiacemaa
open Go.RowKit

theorem lt_cellP {w : World} {p : Addr} {v : Value} (h : w.cell? p = some v) : p.block < w.heap.size := World.block_lt_of_cell? w p h
/-- The place of something in a row: all ahead of it is so, and what stands there is not. -/
def placeAtP (p : Nat → Prop) (n k : Nat) : Prop := k ≤ n ∧ (∀ j, j < k → p j) ∧ (k < n → ¬ p k)
def aheadP (F : Nat → Int) (a : Int) (j : Nat) : Prop := F (j * 2) < a
def AP (w : World) (B n : Nat) (F : Nat → Int) (ao : Option Addr) (cp : Nat) (x0 x1 : Int) (X : World) : Prop :=
  (X.cell? ⟨w.heap.size, 0, none⟩ = some (.int .i64 x0) ∧ X.cell? ⟨w.heap.size, 1, none⟩ = some (.int .i64 x1)) ∧ Row X B 2 n F (.slice ao n cp) ∧ Below w.heap.size w X
theorem AP.drew {w X : World} {B n : Nat} {F : Nat → Int} {ao : Option Addr} {cp : Nat} {x0 x1 : Int} (h : AP w B n F ao cp x0 x1 X) : AP w B n F ao cp x0 x1 X.drew := ⟨h.1, h.2.1, h.2.2.drew⟩
theorem AP.later {w X X' : World} {B n : Nat} {F : Nat → Int} {ao : Option Addr} {cp : Nat} {x0 x1 : Int} (h : AP w B n F ao cp x0 x1 X) (_ : Row w B 2 n F (.slice ao n cp)) (hb : Below X.heap.size X X') : AP w B n F ao cp x0 x1 X' :=
  ⟨⟨(hb.cell (lt_cellP h.1.1)).trans h.1.1, (hb.cell (lt_cellP h.1.2)).trans h.1.2⟩, h.2.1.later hb, h.2.2.trans (hb.mono h.2.2.size)⟩
theorem cmp_negP (a x : Int) : cmpOf a x < 0 ↔ a < x := by
  unfold cmpOf
  constructor
  · intro h
    by_cases h1 : a < x
    · exact h1
    · simp [h1] at h
      split at h <;> omega
  · intro h
    simp [h]
theorem cmp_zeroP (a x : Int) : cmpOf a x = 0 ↔ a = x := by
  unfold cmpOf
  constructor
  · intro h
    by_cases h1 : a < x
    · simp [h1] at h
    · by_cases h2 : x < a
      · simp [h1, h2] at h
      · omega
  · rintro rfl
    simp
/-- What the search answers. -/
def FoundP (w : World) (n : Nat) (F : Nat → Int) (x0 : Int) (e : Ending) (w' : World) : Prop := ∃ (k : Nat) (r : Bool), e = .returned (.tuple #[.int .i64 k, .bool r]) ∧ placeAtP (aheadP F x0) n k ∧ (r = true ↔ k < n ∧ F (k * 2) = x0) ∧ Below w.heap.size w w'
set_option maxRecDepth 100000 in
set_option maxHeartbeats 4000000 in
theorem searchP_any (n : Nat) (F : Nat → Int) (ao : Option Addr) (cp : Nat) (B : Nat) (x0 x1 : Int) (w : World) (h : Row w B 2 n F (.slice ao n cp)) (hn : n ≤ 1000) (hmono : ∀ i j, i ≤ j → j < n → aheadP F x0 j → aheadP F x0 i) :
    Calls Try.prog 68 #[.slice ao n cp, .agg #[.int .i64 x0, .int .i64 x1], .func (.func 37) #[] #[]] w (FoundP w n F x0) := by
  have H : Hid (Row w B 2 n F (.slice ao n cp)) := h
  have HM : Hid (∀ i j, i ≤ j → j < n → aheadP F x0 j → aheadP F x0 i) := hmono
  clear h hmono
  go_enter Try.func68, Try.ntmps68
  go_wp2
  go_loopw [9, 10] (fun a b wr => ∃ i j : Nat, i ≤ j ∧ j ≤ n ∧ a = .int .i64 i ∧ b = .int .i64 j ∧ Hid (∀ q, q < i → aheadP F x0 q) ∧ Hid (∀ q, j ≤ q → q < n → ¬ aheadP F x0 q) ∧ Hid (AP w B n F ao cp x0 x1 wr)) (fun a b _ => (intOf b).toNat - (intOf a).toNat)
  case atStart =>
    refine ⟨0, n, Nat.zero_le _, Nat.le_refl _, rfl, rfl, fun q hq => absurd hq (Nat.not_lt_zero q), fun q h1 h2 => absurd h2 (Nat.not_lt.2 h1), ?_⟩
    exact ⟨⟨World.cell?_alloc_mark w _ _ _ 0, World.cell?_alloc_mark w _ _ _ 1⟩, H.out.alloc _, below_alloc _ _⟩
  case round =>
    obtain ⟨i, j, hij, hj, rfl, rfl, HA, HB, HS⟩ := hrel
    by_cases hlt : i < j
    case neg =>
      obtain rfl : i = j := by omega
      have HP : Hid (placeAtP (aheadP F x0) n i) := ⟨hj, HA.out, fun q => HB.out i (Nat.le_refl _) q⟩
      clear HA HB hij hlt
      go_upto_region 8 with fail
      by_cases hin : i < n
      · obtain ⟨g, o, hao, _, hg, y0, y1⟩ := HS.out.2.1.at2 hin
        subst hao
        obtain ⟨n0, N0⟩ : ∃ x, F (i * 2) = x := ⟨_, rfl⟩
        rw [N0] at y0
        obtain ⟨n1, N1⟩ : ∃ x, F (i * 2 + 1) = x := ⟨_, rfl⟩
        rw [N1] at y1
        have HN : Hid (F (i * 2) = n0) := N0
        clear N0 N1
        have dn : decide (i < n) = true := decide_eq_true hin
        refine wp_region_held_drew (S := fun X => (X.cell? ⟨w.heap.size, 0, none⟩ = some (.int .i64 x0) ∧ X.cell? ⟨w.heap.size, 1, none⟩ = some (.int .i64 x1)) ∧ (X.cell? ⟨g, o + i * 2, none⟩ = some (.int .i64 n0) ∧ X.cell? ⟨g, o + i * 2 + 1, none⟩ = some (.int .i64 n1)) ∧ AP w B n F (some ⟨g, o, none⟩) cp x0 x1 X) (by kernel_rfl) ⟨HS.out.1, ⟨y0, y1⟩, HS.out.drew⟩ (fun hS => ?_)
        refine tkH 0 ?_ hS (fun wx hx => ?_) ?_; rotate_left
        · obtain ⟨⟨hx0, hx1⟩, ⟨hx4, hx5⟩, _⟩ := hx; go_simp; try with_reducible rfl
        refine tkH 1 ?_ hS (fun wx hx => ?_) ?_; rotate_left
        · obtain ⟨⟨hx0, hx1⟩, ⟨hx4, hx5⟩, _⟩ := hx; go_simp; try with_reducible rfl
        refine tkH 2 ?_ hS (fun wx hx => ?_) ?_; rotate_left
        · obtain ⟨⟨hx0, hx1⟩, ⟨hx4, hx5⟩, _⟩ := hx; go_simp; try with_reducible rfl
        refine tkH 3 ?_ hS (fun wx hx => ?_) ?_; rotate_left
        · obtain ⟨⟨hx0, hx1⟩, ⟨hx4, hx5⟩, _⟩ := hx; go_simp; try with_reducible rfl
        refine tkH 4 ?_ hS (fun wx hx => ?_) ?_; rotate_left
        · obtain ⟨⟨hx0, hx1⟩, ⟨hx4, hx5⟩, _⟩ := hx; go_simp; try with_reducible rfl
        refine tkH 5 ?_ hS (fun wx hx => ?_) ?_; rotate_left
        · obtain ⟨⟨hx0, hx1⟩, ⟨hx4, hx5⟩, _⟩ := hx; go_simp; try with_reducible rfl
        refine tkH 6 ?_ hS (fun wx hx => ?_) ?_; rotate_left
        · obtain ⟨⟨hx0, hx1⟩, ⟨hx4, hx5⟩, _⟩ := hx; go_simp; try with_reducible rfl
        refine tkH 7 ?_ hS (fun wx hx => ?_) ?_; rotate_left
        · obtain ⟨⟨hx0, hx1⟩, ⟨hx4, hx5⟩, _⟩ := hx; go_simp; try with_reducible rfl
        refine tkH 8 ?_ hS (fun wx hx => ?_) ?_; rotate_left
        · obtain ⟨⟨hx0, hx1⟩, ⟨hx4, hx5⟩, _⟩ := hx; go_simp; try with_reducible rfl
        refine tkH 9 ?_ hS (fun wx hx => ?_) ?_; rotate_left
        · obtain ⟨⟨hx0, hx1⟩, ⟨hx4, hx5⟩, _⟩ := hx; go_simp; try with_reducible rfl
        refine tkH 10 ?_ hS (fun wx hx => ?_) ?_; rotate_left
        · obtain ⟨⟨hx0, hx1⟩, ⟨hx4, hx5⟩, _⟩ := hx; go_simp; try with_reducible rfl
        refine rdH 11 (fun K hK => ?_)
        go_simp
        go_wp2_with fail
        obtain ⟨r, hr⟩ : ∃ r, cmpOf n0 x0 = r := ⟨_, rfl⟩
        refine (comparePairs_is n0 n1 x0 x1 r hr _).mono ?_
        rintro e w1 ⟨rfl, q1⟩
        have S1 : AP w B n F (some ⟨g, o, none⟩) cp x0 x1 w1 := hS.2.2.later H.out q1
        obtain ⟨_, ⟨y0, y1⟩, _⟩ := hS
        have y0' := (q1.cell (p := ⟨g, o + i * 2, none⟩) (lt_cellP y0)).trans y0
        have y1' := (q1.cell (p := ⟨g, o + i * 2 + 1, none⟩) (lt_cellP y1)).trans y1
        go_wp2_with fail
        refine hK.out _ _ ⟨S1.1, ⟨y0', y1'⟩, S1⟩ (fun hS => ?_)
        clear hK K y0 y1 y0' y1' q1 S1 HS
        by_cases ha : n0 = x0
        · obtain rfl : r = 0 := by rw [← hr]; exact (cmp_zeroP n0 x0).2 ha
          have HR : Hid (F (i * 2) = x0) := HN.out.trans ha
          clear ha hr HN
          refine tkH 12 ?_ hS (fun wx hx => ?_) ?_; rotate_left
          · obtain ⟨⟨hx0, hx1⟩, ⟨hx4, hx5⟩, _⟩ := hx; go_simp; try with_reducible rfl
          refine tkH 13 ?_ hS (fun wx hx => ?_) ?_; rotate_left
          · obtain ⟨⟨hx0, hx1⟩, ⟨hx4, hx5⟩, _⟩ := hx; go_simp; try with_reducible rfl
          refine tkH 14 ?_ hS (fun wx hx => ?_) ?_; rotate_left
          · obtain ⟨⟨hx0, hx1⟩, ⟨hx4, hx5⟩, _⟩ := hx; go_simp; try with_reducible rfl
          refine tkH 15 ?_ hS (fun wx hx => ?_) ?_; rotate_left
          · obtain ⟨⟨hx0, hx1⟩, ⟨hx4, hx5⟩, _⟩ := hx; go_simp; try with_reducible rfl
          refine wpAnyH_done (by kernel_rfl) ?_ _
          go_simp
          go_wp2
          go_ret2
          exact ⟨i, true, rfl, HP.out, ⟨fun _ => ⟨hin, HR.out⟩, fun _ => rfl⟩, hS.2.2.2.2⟩
        · have dr : (r == 0) = false := beq_eq_false_iff_ne.2 (by rw [← hr]; exact fun q => ha ((cmp_zeroP n0 x0).1 q))
          have HR : Hid (¬ F (i * 2) = x0) := fun q => ha (HN.out.symm.trans q)
          clear ha hr HN
          refine tkH 12 ?_ hS (fun wx hx => ?_) ?_; rotate_left
          · obtain ⟨⟨hx0, hx1⟩, ⟨hx4, hx5⟩, _⟩ := hx; go_simp; try with_reducible rfl
          refine tkH 13 ?_ hS (fun wx hx => ?_) ?_; rotate_left
          · obtain ⟨⟨hx0, hx1⟩, ⟨hx4, hx5⟩, _⟩ := hx; go_simp; try with_reducible rfl
          refine tkH 14 ?_ hS (fun wx hx => ?_) ?_; rotate_left
          · obtain ⟨⟨hx0, hx1⟩, ⟨hx4, hx5⟩, _⟩ := hx; go_simp; try with_reducible rfl
          refine tkH 15 ?_ hS (fun wx hx => ?_) ?_; rotate_left
          · obtain ⟨⟨hx0, hx1⟩, ⟨hx4, hx5⟩, _⟩ := hx; go_simp; try with_reducible rfl
          refine wpAnyH_done (by kernel_rfl) ?_ _
          go_simp
          go_wp2
          go_ret2
          exact ⟨i, false, rfl, HP.out, ⟨fun q => (Bool.false_ne_true q).elim, fun q => (HR.out q.2).elim⟩, hS.2.2.2.2⟩
      · have dn : decide (i < n) = false := decide_eq_false hin
        refine wp_region_held_drew (S := AP w B n F ao cp x0 x1) (by kernel_rfl) HS.out.drew (fun hS => ?_)
        refine tkH 0 ?_ hS (fun wx hx => ?_) ?_; rotate_left
        · go_simp; try with_reducible rfl
        refine tkH 1 ?_ hS (fun wx hx => ?_) ?_; rotate_left
        · go_simp; try with_reducible rfl
        refine tkH 2 ?_ hS (fun wx hx => ?_) ?_; rotate_left
        · go_simp; try with_reducible rfl
        refine tkH 3 ?_ hS (fun wx hx => ?_) ?_; rotate_left
        · go_simp; try with_reducible rfl
        refine tkH 4 ?_ hS (fun wx hx => ?_) ?_; rotate_left
        · go_simp; try with_reducible rfl
        refine noH 5 hS ?_
        refine noH 6 hS ?_
        refine noH 7 hS ?_
        refine noH 8 hS ?_
        refine noH 9 hS ?_
        refine noH 10 hS ?_
        refine noH 11 hS ?_
        refine noH 12 hS ?_
        refine tkH 13 ?_ hS (fun wx hx => ?_) ?_; rotate_left
        · go_simp; try with_reducible rfl
        refine tkH 14 ?_ hS (fun wx hx => ?_) ?_; rotate_left
        · go_simp; try with_reducible rfl
        refine tkH 15 ?_ hS (fun wx hx => ?_) ?_; rotate_left
        · go_simp; try with_reducible rfl
        refine wpAnyH_done (by kernel_rfl) ?_ _
        go_simp
        go_wp2
        go_ret2
        exact ⟨i, false, rfl, HP.out, ⟨fun q => (Bool.false_ne_true q).elim, fun q => (hin q.1).elim⟩, hS.2.2⟩
    go_upto_region 5 with fail
    obtain ⟨m, hm⟩ : ∃ m : Nat, ((i : Int) + j) / 2 = m := ⟨(i + j) / 2, by omega⟩
    have hm1 : i ≤ m ∧ m < j := by omega
    rw [hm]
    clear hm
    obtain ⟨hm1, hm2⟩ := hm1
    have hmn : m < n := by omega
    obtain ⟨g, o, hao, _, hg, y0, y1⟩ := HS.out.2.1.at2 hmn
    subst hao
    obtain ⟨n0, N0⟩ : ∃ x, F (m * 2) = x := ⟨_, rfl⟩
    rw [N0] at y0
    obtain ⟨n1, N1⟩ : ∃ x, F (m * 2 + 1) = x := ⟨_, rfl⟩
    rw [N1] at y1
    have HC : Hid (aheadP F x0 m ↔ n0 < x0) := by unfold aheadP; rw [N0]; exact Iff.rfl
    clear N0 N1
    refine wp_region_held_drew (S := fun X => (X.cell? ⟨w.heap.size, 0, none⟩ = some (.int .i64 x0) ∧ X.cell? ⟨w.heap.size, 1, none⟩ = some (.int .i64 x1)) ∧ (X.cell? ⟨g, o + m * 2, none⟩ = some (.int .i64 n0) ∧ X.cell? ⟨g, o + m * 2 + 1, none⟩ = some (.int .i64 n1)) ∧ AP w B n F (some ⟨g, o, none⟩) cp x0 x1 X) (by kernel_rfl) ⟨HS.out.1, ⟨y0, y1⟩, HS.out.drew⟩ (fun hS => ?_)
    refine tkH 0 ?_ hS (fun wx hx => ?_) ?_; rotate_left
    · obtain ⟨⟨hx0, hx1⟩, ⟨hx4, hx5⟩, _⟩ := hx; go_simp; try with_reducible rfl
    refine tkH 1 ?_ hS (fun wx hx => ?_) ?_; rotate_left
    · obtain ⟨⟨hx0, hx1⟩, ⟨hx4, hx5⟩, _⟩ := hx; go_simp; try with_reducible rfl
    refine tkH 2 ?_ hS (fun wx hx => ?_) ?_; rotate_left
    · obtain ⟨⟨hx0, hx1⟩, ⟨hx4, hx5⟩, _⟩ := hx; go_simp; try with_reducible rfl
    refine tkH 3 ?_ hS (fun wx hx => ?_) ?_; rotate_left
    · obtain ⟨⟨hx0, hx1⟩, ⟨hx4, hx5⟩, _⟩ := hx; go_simp; try with_reducible rfl
    refine tkH 4 ?_ hS (fun wx hx => ?_) ?_; rotate_left
    · obtain ⟨⟨hx0, hx1⟩, ⟨hx4, hx5⟩, _⟩ := hx; go_simp; try with_reducible rfl
    refine tkH 5 ?_ hS (fun wx hx => ?_) ?_; rotate_left
    · obtain ⟨⟨hx0, hx1⟩, ⟨hx4, hx5⟩, _⟩ := hx; go_simp; try with_reducible rfl
    refine rdH 6 (fun K hK => ?_)
    go_simp
    go_wp2_with fail
    obtain ⟨r, hr⟩ : ∃ r, cmpOf n0 x0 = r := ⟨_, rfl⟩
    refine (comparePairs_is n0 n1 x0 x1 r hr _).mono ?_
    rintro e w1 ⟨rfl, q1⟩
    have S1 : AP w B n F (some ⟨g, o, none⟩) cp x0 x1 w1 := hS.2.2.later H.out q1
    obtain ⟨_, ⟨y0, y1⟩, _⟩ := hS
    have y0' := (q1.cell (p := ⟨g, o + m * 2, none⟩) (lt_cellP y0)).trans y0
    have y1' := (q1.cell (p := ⟨g, o + m * 2 + 1, none⟩) (lt_cellP y1)).trans y1
    go_wp2_with fail
    refine hK.out _ _ ⟨S1.1, ⟨y0', y1'⟩, S1⟩ (fun hS => ?_)
    clear hK K y0 y1 y0' y1' q1 S1 HS
    by_cases ha : n0 < x0
    · have dr : decide (r < 0) = true := decide_eq_true (by rw [← hr]; exact (cmp_negP n0 x0).2 ha)
      have HA1 : Hid (∀ q, q < m + 1 → aheadP F x0 q) := fun q hq => HM.out q m (by omega) hmn (HC.out.2 ha)
      clear ha hr HC HA
      refine tkH 7 ?_ hS (fun wx hx => ?_) ?_; rotate_left
      · obtain ⟨⟨hx0, hx1⟩, ⟨hx4, hx5⟩, _⟩ := hx; go_simp; try with_reducible rfl
      refine wpAnyH_done (by kernel_rfl) ?_ _
      go_simp
      go_wp2
      go_roundw
      case rel => exact ⟨m + 1, j, by omega, hj, by go_num, rfl, HA1, HB, hS.2.2⟩
      case measure => simp [intOf]; omega
    · have dr : decide (r < 0) = false := decide_eq_false (by rw [← hr]; exact fun q => ha ((cmp_negP n0 x0).1 q))
      have HB1 : Hid (∀ q, m ≤ q → q < n → ¬ aheadP F x0 q) := fun q h1 h2 h3 => ha (HC.out.1 (HM.out m q h1 h2 h3))
      clear ha hr HC HB
      refine tkH 7 ?_ hS (fun wx hx => ?_) ?_; rotate_left
      · obtain ⟨⟨hx0, hx1⟩, ⟨hx4, hx5⟩, _⟩ := hx; go_simp; try with_reducible rfl
      refine wpAnyH_done (by kernel_rfl) ?_ _
      go_simp
      go_wp2
      go_roundw
      case rel => exact ⟨i, m, hm1, by omega, rfl, rfl, HA, HB1, hS.2.2⟩
      case measure => simp [intOf]; omega
end Go.Proofs.Ytdbcmckoiacemaa

namespace Go.Proofs.Ytdbcmckoiacemaa
open Go.RowKit

abbrev Prs := List (Int × Int)
/-- The numbers of a list of pairs, one behind the other. -/
def rowL (L : Prs) (p : Nat) : Int := if p % 2 = 0 then (L.getD (p / 2) (0, 0)).1 else (L.getD (p / 2) (0, 0)).2
theorem rowL_key (L : Prs) (k : Nat) : rowL L (k * 2) = (L.getD k (0, 0)).1 := by
  unfold rowL
  rw [if_pos (by omega), show k * 2 / 2 = k by omega]
theorem rowL_val (L : Prs) (k : Nat) : rowL L (k * 2 + 1) = (L.getD k (0, 0)).2 := by
  unfold rowL
  rw [if_neg (by omega), show (k * 2 + 1) / 2 = k by omega]
/-- The pairs of a row. -/
def listOf (F : Nat → Int) (n : Nat) : Prs := (List.range n).map fun k => (F (k * 2), F (k * 2 + 1))
theorem listOf_length (F : Nat → Int) (n : Nat) : (listOf F n).length = n := by simp [listOf]
theorem listOf_get {F : Nat → Int} {n k : Nat} (h : k < n) : (listOf F n).getD k (0, 0) = (F (k * 2), F (k * 2 + 1)) := by simp [listOf, h, List.getD]
theorem rowL_listOf {F : Nat → Int} {n p : Nat} (h : p < n * 2) : rowL (listOf F n) p = F p := by
  unfold rowL
  rw [listOf_get (by omega)]
  split
  · show F (p / 2 * 2) = F p
    congr 1; omega
  · show F (p / 2 * 2 + 1) = F p
    congr 1; omega
theorem row_eqP {w : World} {B n : Nat} {F G : Nat → Int} {v : Value} (h : Row w B 2 n F v) (e : ∀ p, p < n * 2 → F p = G p) : Row w B 2 n G v := by
  obtain ⟨a, c, hv, hr⟩ := h
  refine ⟨a, c, hv, fun hn => ?_⟩
  obtain ⟨g, o, h1, h2, h3, h4⟩ := hr hn
  exact ⟨g, o, h1, h2, h3, fun p hp => by rw [← e p hp]; exact h4 p hp⟩
theorem vals_eqP {N : Nat} {F G : Nat → Int} (e : ∀ p, p < N → F p = G p) : vals F N = vals G N := by
  unfold vals
  exact List.map_congr_left fun p hp => by rw [e p (List.mem_range.1 hp)]
theorem own_eqP {w : World} {B m n : Nat} {ty : TypeId} {F G : Nat → Int} {v : Value} (h : Own w B ty m n F v) (e : ∀ p, p < n * m → F p = G p) : Own w B ty m n G v := by
  unfold Own at h ⊢
  rwa [← vals_eqP e]

/-- The pairs of other keys. -/
def gonePr (L : Prs) (k : Int) : Prs := L.filter fun e => e.1 ≠ k
/-- A pair put at its place, the pair of its key gone. -/
def putPr : Prs → Int → Int → Prs
  | [], k, v => [(k, v)]
  | e :: t, k, v => if k ≤ e.1 then (k, v) :: gonePr (e :: t) k else e :: putPr t k v
/-- Keys rise. -/
def Rises (L : Prs) : Prop := L.Pairwise fun a b => a.1 < b.1
/-- How many stand ahead of a key. -/
def aheadN (L : Prs) (k : Int) : Nat := (L.takeWhile fun e => decide (e.1 < k)).length
theorem aheadN_le (L : Prs) (k : Int) : aheadN L k ≤ L.length := (List.takeWhile_sublist _).length_le
theorem aheadN_lt {L : Prs} {k : Int} {j : Nat} (h : j < aheadN L k) : (L.getD j (0, 0)).1 < k := by
  induction L generalizing j with
  | nil => simp [aheadN] at h
  | cons e t ih =>
    unfold aheadN at h ih
    rw [List.takeWhile_cons] at h
    split at h
    · rename_i he
      cases j with
      | zero => simpa using he
      | succ j => simpa using ih (by simpa using h)
    · simp at h
theorem aheadN_not {L : Prs} {k : Int} (h : aheadN L k < L.length) : ¬ (L.getD (aheadN L k) (0, 0)).1 < k := by
  induction L with
  | nil => simp at h
  | cons e t ih =>
    unfold aheadN at h ih ⊢
    rw [List.takeWhile_cons] at h ⊢
    split
    · rename_i he
      rw [if_pos he] at h
      simpa using ih (by simpa using h)
    · rename_i he
      simpa using he
/-- The place that the search tells is how many stand ahead. -/
theorem place_is {L : Prs} {k : Int} {i : Nat} (h : placeAtP (aheadP (rowL L) k) L.length i) : i = aheadN L k := by
  obtain ⟨h1, h2, h3⟩ := h
  unfold aheadP at h2 h3
  simp only [rowL_key] at h2 h3
  rcases Nat.lt_trichotomy i (aheadN L k) with q | q | q
  · exact absurd (aheadN_lt q) (h3 (Nat.lt_of_lt_of_le q (aheadN_le L k)))
  · exact q
  · exact absurd (h2 _ q) (aheadN_not (by omega))
theorem rises_mono {L : Prs} (h : Rises L) {k : Int} (i j : Nat) (hij : i ≤ j) (hj : j < L.length) (ha : aheadP (rowL L) k j) : aheadP (rowL L) k i := by
  unfold aheadP at *
  rw [rowL_key] at *
  rcases Nat.eq_or_lt_of_le hij with rfl | q
  · exact ha
  · have := List.pairwise_iff_getElem.1 h i j (by omega) hj q
    simp only [List.getD_eq_getElem?_getD, List.getElem?_eq_getElem hj, List.getElem?_eq_getElem (show i < L.length by omega), Option.getD_some] at ha ⊢
    omega
/-- Of a list that rises the one that stands at the place of a key is dropped, if it has that key. -/
theorem gone_is {L : Prs} (h : Rises L) (k : Int) : gonePr L k = if aheadN L k < L.length ∧ (L.getD (aheadN L k) (0, 0)).1 = k then L.eraseIdx (aheadN L k) else L := by
  induction L with
  | nil => simp [gonePr]
  | cons e t ih =>
    have ht := List.pairwise_cons.1 h
    by_cases he : e.1 < k
    · have hA : aheadN (e :: t) k = aheadN t k + 1 := by simp [aheadN, he]
      have hg : gonePr (e :: t) k = e :: gonePr t k := by
        unfold gonePr; rw [List.filter_cons_of_pos (by simp; omega)]
      rw [hg, ih ht.2, hA]
      simp only [List.length_cons, List.getD_cons_succ, Nat.add_lt_add_iff_right, List.eraseIdx_cons_succ]
      split <;> rfl
    · have hA : aheadN (e :: t) k = 0 := by simp [aheadN, he]
      have hr : gonePr t k = t := by
        unfold gonePr
        exact List.filter_eq_self.2 fun a ha => by have := ht.1 a ha; simp; omega
      rw [hA]
      by_cases hk : e.1 = k
      · rw [if_pos ⟨by simp, by simpa using hk⟩]
        unfold gonePr
        rw [List.filter_cons_of_neg (by simp [hk])]
        exact hr
      · rw [if_neg (fun q => hk (by simpa using q.2))]
        unfold gonePr
        rw [List.filter_cons_of_pos (by simp [hk])]
        rw [show List.filter (fun e => decide (e.1 ≠ k)) t = t from hr]
theorem gonePr_rises {L : Prs} (h : Rises L) (k : Int) : Rises (gonePr L k) := h.filter _
theorem put_is {L : Prs} (h : Rises L) (k v : Int) : putPr L k v = (gonePr L k).insertIdx (aheadN (gonePr L k) k) (k, v) := by
  induction L with
  | nil => rfl
  | cons e t ih =>
    have ht := List.pairwise_cons.1 h
    by_cases he : k ≤ e.1
    · have hA : aheadN (gonePr (e :: t) k) k = 0 := by
        have hall : ∀ a ∈ gonePr (e :: t) k, ¬ a.1 < k := fun a ha => by
          have ha' := (List.mem_filter.1 ha).1
          rcases List.mem_cons.1 ha' with rfl | q
          · omega
          · have := ht.1 a q; omega
        unfold aheadN
        cases hg : gonePr (e :: t) k with
        | nil => rfl
        | cons a b =>
          rw [hg] at hall
          have := hall a (by simp)
          simp [this]
      rw [putPr, if_pos he, hA]
      rfl
    · have hg : gonePr (e :: t) k = e :: gonePr t k := by
        unfold gonePr; rw [List.filter_cons_of_pos (by simp; omega)]
      have hA : aheadN (e :: gonePr t k) k = aheadN (gonePr t k) k + 1 := by simp [aheadN, show e.1 < k by omega]
      rw [putPr, if_neg he, hg, hA, ih ht.2]
      rfl
theorem putPr_mem {L : Prs} {k v : Int} {a : Int × Int} (h : a ∈ putPr L k v) : a = (k, v) ∨ a ∈ L := by
  induction L with
  | nil => simpa [putPr] using h
  | cons e t ih =>
    rw [putPr] at h
    split at h
    · rcases List.mem_cons.1 h with q | q
      · exact Or.inl q
      · exact Or.inr (List.mem_filter.1 q).1
    · rcases List.mem_cons.1 h with q | q
      · exact Or.inr (by rw [q]; simp)
      · rcases ih q with r | r
        · exact Or.inl r
        · exact Or.inr (List.mem_cons_of_mem _ r)
theorem putPr_rises {L : Prs} (h : Rises L) (k v : Int) : Rises (putPr L k v) := by
  induction L with
  | nil => simp [putPr, Rises]
  | cons e t ih =>
    have ht := List.pairwise_cons.1 h
    rw [putPr]
    split
    · rename_i he
      refine List.pairwise_cons.2 ⟨fun a ha => ?_, gonePr_rises h k⟩
      obtain ⟨h1, h2⟩ := List.mem_filter.1 ha
      have h2' : a.1 ≠ k := by simpa using h2
      show k < a.1
      rcases List.mem_cons.1 h1 with rfl | q
      · omega
      · have := ht.1 a q; omega
    · rename_i he
      refine List.pairwise_cons.2 ⟨fun a ha => ?_, ih ht.2⟩
      rcases putPr_mem ha with rfl | q
      · show e.1 < k; omega
      · exact ht.1 a q
/-- A pair above all is put at the end. -/
theorem putPr_end {L : Prs} {k v : Int} (h : ∀ a ∈ L, a.1 < k) : putPr L k v = L ++ [(k, v)] := by
  induction L with
  | nil => rfl
  | cons e t ih =>
    have := h e (by simp)
    rw [putPr, if_neg (by omega), ih fun a ha => h a (List.mem_cons_of_mem _ ha)]
    rfl
theorem rowL_erase {L : Prs} {i p : Nat} : dropF (rowL L) 2 i p = rowL (L.eraseIdx i) p := by
  unfold dropF rowL
  simp only [List.getD_eq_getElem?_getD, List.getElem?_eraseIdx]
  by_cases h : p < i * 2
  · rw [if_pos h, if_pos (show p / 2 < i by omega)]
  · rw [if_neg h, if_neg (show ¬ p / 2 < i by omega), show (p + 2) % 2 = p % 2 by omega, show (p + 2) / 2 = p / 2 + 1 by omega]
theorem rowL_is (L : Prs) (p : Nat) : rowL L p = if p % 2 = 0 then (L[p / 2]?.getD (0, 0)).1 else (L[p / 2]?.getD (0, 0)).2 := by
  unfold rowL
  rw [List.getD_eq_getElem?_getD]
theorem rowL_insert {L : Prs} {i p : Nat} {k v : Int} (hi : i ≤ L.length) (hp : p < (L.length + 1) * 2) : insF (rowL L) 2 L.length i [k, v] p = rowL (L.insertIdx i (k, v)) p := by
  rw [rowL_is (L.insertIdx i (k, v)), List.getElem?_insertIdx]
  rcases Nat.lt_or_ge p (i * 2) with h | h
  · rw [insF_lt h, if_pos (show p / 2 < i by omega), rowL_is]
  · rcases Nat.lt_or_ge p ((i + 1) * 2) with h2 | h2
    · have := insF_at (F := rowL L) (m := 2) (n := L.length) (i := i) (p := p - i * 2) (xs := [k, v]) rfl (by omega)
      rw [show i * 2 + (p - i * 2) = p by omega] at this
      rw [this, if_neg (show ¬ p / 2 < i by omega), if_pos (show p / 2 = i by omega), if_pos (show p / 2 ≤ L.length by omega)]
      rcases Nat.mod_two_eq_zero_or_one p with q | q
      · rw [if_pos q, show p - i * 2 = 0 by omega]; rfl
      · rw [if_neg (by omega), show p - i * 2 = 1 by omega]; rfl
    · have := insF_gt (F := rowL L) (m := 2) (n := L.length) (i := i) (p := p - (i + 1) * 2) (xs := [k, v]) rfl (by omega)
      rw [show (i + 1) * 2 + (p - (i + 1) * 2) = p by omega] at this
      rw [this, if_neg (show ¬ p / 2 < i by omega), if_neg (show ¬ p / 2 = i by omega), rowL_is,
        show (i * 2 + (p - (i + 1) * 2)) % 2 = p % 2 by omega, show (i * 2 + (p - (i + 1) * 2)) / 2 = p / 2 - 1 by omega]
end Go.Proofs.Ytdbcmckoiacemaa

