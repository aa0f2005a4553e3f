/-
  Own text, merged of RegT, ColsA, ColsO, OpenN, Lay, DgtA, StorQ, TnfA, TnfB, TrtA, TrtB, TrtC, TrtD.
-/
import Derived.Test.YtaakpbmddfnchaaDoorRows
import Derived.Test.YtaakpbmddfnchaaDoorCards
import Derived.Test.YtaakpbmddfnchaaDoorTie
import Derived.Deep.RegionHeld
import Derived.WalkKit
import Derived.RowKitTokens
import Derived.WalkLawsBesides
import Derived.ProofKit
import Derived.OpenShut
import Derived.Handy
import Derived.BigQuiet
import Derived.Deep.QuietTactic
import Derived.Deep.Slices
import Derived.Lib.SmallJoins
import Derived.Ground.NamesProg
import Derived.Shelf.Strconv.Itoa4
import Derived.Shelf.Strings.Repeat
import Derived.Laws.IdiomStrings
import Derived.Laws.Concat
import Derived.Deep.DeepMust
import Derived.Lib.LaidTab
import Derived.Shelf.Strings.Builder1
import Derived.LaidMore
import Derived.Stop.Joined
import Derived.SevenTiedAt
import Derived.ShutString
namespace Go.Proofs.YtaakpbmddfnchaaDoor
open Go.RowKit
theorem tkH {P : Program} {ops : Array Oper} {Q : Exit → Act → World → Prop} {md : Region.Mode} {S : World → Prop} (i : Nat) {oi : Oper} (v : Value) {fuel : Nat} {listed : Array Bool} {a : Act} {w : World} (hS : S w) (hy : ∀ w, S w → (execOp a.eval oi).run P w = .ok (.value v) w) (h : wpAnyH P md ops Q S fuel (listed.setIfInBounds i true) (a.put oi.dst v) w) (hi : ops[i]? = some oi := by exact rfl) (hs : Region.noSelect ops = true := by as_aux_lemma => kernel_rfl) (hf : Region.free md ops listed i = true := by as_aux_lemma => kernel_rfl) (hr : (Region.ready md ops listed).contains i = true := by as_aux_lemma => kernel_rfl) (hQ : ∀ c a w, Q (.panic c) (a.put oi.dst v) w → Q (.panic c) a w := by exact fun _ _ _ h => h) (hw : Region.wanted oi (yielded ops a.tmps) = true := by kernel_rfl) : wpAnyH P md ops Q S (fuel + 1) listed a w :=
  wpAnyH_take hi hs hf hr hQ (Or.inl ⟨hw, hy⟩) hS h
theorem noH {P : Program} {ops : Array Oper} {Q : Exit → Act → World → Prop} {md : Region.Mode} {S : World → Prop} (i : Nat) {oi : Oper} {fuel : Nat} {listed : Array Bool} {a : Act} {w : World} (hS : S w) (h : wpAnyH P md ops Q S fuel (listed.setIfInBounds i true) (a.put oi.dst undef) w) (hi : ops[i]? = some oi := by exact rfl) (hs : Region.noSelect ops = true := by as_aux_lemma => kernel_rfl) (hf : Region.free md ops listed i = true := by as_aux_lemma => kernel_rfl) (hr : (Region.ready md ops listed).contains i = true := by as_aux_lemma => kernel_rfl) (hQ : ∀ c a w, Q (.panic c) (a.put oi.dst undef) w → Q (.panic c) a w := by exact fun _ _ _ h => h) (hw : Region.wanted oi (yielded ops a.tmps) = false := by kernel_rfl) : wpAnyH P md ops Q S (fuel + 1) listed a w :=
  wpAnyH_take hi hs hf hr hQ (Or.inr ⟨hw, rfl⟩) hS h
theorem rdH {P : Program} {ops : Array Oper} {Q : Exit → Act → World → Prop} {md : Region.Mode} {S : World → Prop} (i : Nat) {o : Oper} {fuel : Nat} {listed : Array Bool} {a : Act} {w : World} (h : ∀ K' : Act → World → Prop, Shut (∀ a w, S w → (S w → wpAnyH P md ops Q S fuel (listed.setIfInBounds i true) a w) → K' a w) → if Region.wanted o (yielded ops a.tmps) = true then Oper.wp P o a w K' Q else K' (a.put o.dst undef) w) (ho : ops[i]? = some o := by exact rfl) (hr : Region.ready md ops listed = [i] := by as_aux_lemma => kernel_rfl) : wpAnyH P md ops Q S (fuel + 1) listed a w :=
  wpAnyH_ready hr (List.cons_ne_nil _ _) (AllReadyH.cons ho h AllReadyH.nil)
end Go.Proofs.YtaakpbmddfnchaaDoor

namespace Go.Proofs.YtaakpbmddfnchaaDoor
open Go.RowKit

/-- n elements of m whole numbers each, from block B on; number p of all of them is F p. -/
def Row (w : World) (B m n : Nat) (F : Nat → Int) (v : Value) : Prop :=
  ∃ ao cp, v = .slice ao n cp ∧ (0 < n → ∃ g o, ao = some ⟨g, o, none⟩ ∧ B ≤ g ∧ g < w.heap.size ∧ ∀ p, p < n * m → w.cell? ⟨g, o + p, none⟩ = some (.int .i64 (F p)))
/-- None of the first N places of the slice is frozen. -/
def Free (w : World) (N : Nat) (v : Value) : Prop := ∀ g o n c, v = .slice (some ⟨g, o, none⟩) n c → ∀ p, p < N → w.frozen? ⟨g, o + p, none⟩ = false

theorem Row.form {w : World} {B m n : Nat} {F : Nat → Int} {v : Value} (h : Row w B m n F v) : ∃ ao cp, v = .slice ao n cp := by
  obtain ⟨ao, cp, rfl, _⟩ := h; exact ⟨ao, cp, rfl⟩
theorem Row.at {w : World} {B m n : Nat} {F : Nat → Int} {ao : Option Addr} {cp : Nat} (h : Row w B m n F (.slice ao n cp)) {k : Nat} (hk : k < n) :
    ∃ g o, ao = some ⟨g, o, none⟩ ∧ B ≤ g ∧ g < w.heap.size ∧ ∀ j, j < m → w.cell? ⟨g, o + k * m + j, none⟩ = some (.int .i64 (F (k * m + j))) := by
  obtain ⟨ao', cp', hv, h⟩ := h
  simp only [Value.slice.injEq] at hv
  obtain ⟨rfl, _, rfl⟩ := hv
  obtain ⟨g, o, ha, hB, hg, hc⟩ := h (by omega)
  refine ⟨g, o, ha, hB, hg, fun j hj => ?_⟩
  rw [Nat.add_assoc]
  refine hc _ ?_
  calc k * m + j < k * m + m := by omega
    _ = (k + 1) * m := by rw [Nat.succ_mul]
    _ ≤ n * m := Nat.mul_le_mul_right m hk
theorem Row.kept {w w' : World} {B m n : Nat} {F : Nat → Int} {v : Value} (h : Row w B m n F v) (hs : w.heap.size ≤ w'.heap.size) (hb : ∀ k, v.ownBlock = some k → k < w.heap.size → w'.heap[k]? = w.heap[k]?) : Row w' B m n F v := by
  obtain ⟨ao, cp, rfl, h⟩ := h
  refine ⟨ao, cp, rfl, fun hn => ?_⟩
  obtain ⟨g, o, rfl, hB, hg, hc⟩ := h hn
  exact ⟨g, o, rfl, hB, Nat.lt_of_lt_of_le hg hs, fun p hp => (World.cell?_of_block (w := w) (hb g rfl hg)).trans (hc p hp)⟩
theorem Row.lt {w : World} {B m n : Nat} {F : Nat → Int} {v : Value} (h : Row w B m n F v) (hn : 0 < n) : ∀ k, v.ownBlock = some k → B ≤ k ∧ k < w.heap.size := by
  intro k hk
  obtain ⟨ao, cp, rfl, h⟩ := h
  obtain ⟨g, o, rfl, hB, hg, hc⟩ := h hn
  simp [Value.ownBlock] at hk
  subst hk
  exact ⟨hB, hg⟩
theorem Row.later {w w' : World} {B m n : Nat} {F : Nat → Int} {v : Value} (h : Row w B m n F v) (hb : Below w.heap.size w w') : Row w' B m n F v :=
  h.kept hb.size (fun k _ hk => hb.block k hk)
theorem Row.alloc {w : World} {B m n : Nat} {F : Nat → Int} {v : Value} (h : Row w B m n F v) (o : Obj) : Row (w.alloc o) B m n F v := h.later ((Below.refl _ _).alloc (Nat.le_refl _) o)
theorem Row.drewN {w : World} {B m n : Nat} {F : Nat → Int} {v : Value} (h : Row w B m n F v) (k : Nat) : Row (w.drewN k) B m n F v := h
theorem Row.mono {w : World} {B B' m n : Nat} {F : Nat → Int} {v : Value} (h : Row w B m n F v) (hB : B' ≤ B) : Row w B' m n F v := by
  obtain ⟨ao, cp, rfl, h⟩ := h
  refine ⟨ao, cp, rfl, fun hn => ?_⟩
  obtain ⟨g, o, rfl, hb, hg, hc⟩ := h hn
  exact ⟨g, o, rfl, by omega, hg, hc⟩
theorem Row.setCell {w : World} {B m n : Nat} {F : Nat → Int} {v : Value} (h : Row w B m n F v) {a : Addr} (ha : v.ownBlock ≠ some a.block) (u : Value) : Row (w.setCell a u) B m n F v :=
  h.kept (by simp [World.setCell]) (fun k hk _ => Below.heap_setCell w a u k (fun e => ha (by rw [hk, e])))
theorem Row.at4 {w : World} {B n : Nat} {F : Nat → Int} {ao : Option Addr} {cp : Nat} (h : Row w B 4 n F (.slice ao n cp)) {k : Nat} (hk : k < n) :
    ∃ g o, ao = some ⟨g, o, none⟩ ∧ B ≤ g ∧ g < w.heap.size ∧ w.cell? ⟨g, o + k * 4, none⟩ = some (.int .i64 (F (k * 4))) ∧ w.cell? ⟨g, o + k * 4 + 1, none⟩ = some (.int .i64 (F (k * 4 + 1))) ∧ w.cell? ⟨g, o + k * 4 + 2, none⟩ = some (.int .i64 (F (k * 4 + 2))) ∧ w.cell? ⟨g, o + k * 4 + 3, none⟩ = some (.int .i64 (F (k * 4 + 3))) := by
  obtain ⟨g, o, ha, hB, hg, hc⟩ := h.at hk
  exact ⟨g, o, ha, hB, hg, hc 0 (by omega), hc 1 (by omega), hc 2 (by omega), hc 3 (by omega)⟩
theorem Free.later {w w' : World} {N : Nat} {v : Value} (h : Free w N v) (hl : ∀ k, v.ownBlock = some k → k < w.heap.size) (hb : Below w.heap.size w w') : Free w' N v := by
  intro g o n c hv p hp
  rw [hb.frozen (hl g (by rw [hv]; rfl))]
  exact h g o n c hv p hp

/-- Block g has N places from o on, none frozen; the first K of them hold F 0, F 1 .. -/
def Fill (w : World) (g o N K : Nat) (F : Nat → Int) : Prop :=
  g < w.heap.size ∧ (∀ p, p < N → (∃ u, w.cell? ⟨g, o + p, none⟩ = some u) ∧ w.frozen? ⟨g, o + p, none⟩ = false) ∧ ∀ p, p < K → w.cell? ⟨g, o + p, none⟩ = some (.int .i64 (F p))
theorem Fill.put {w : World} {g o N K : Nat} {F : Nat → Int} (h : Fill w g o N K F) (hK : K < N) : Fill (w.setCell ⟨g, o + K, none⟩ (.int .i64 (F K))) g o N (K + 1) F := by
  obtain ⟨h1, h2, h3⟩ := h
  obtain ⟨⟨u, hu⟩, hf⟩ := h2 K hK
  refine ⟨by simpa [World.setCell] using h1, fun p hp => ⟨?_, by rw [World.frozen?_setCell]; exact (h2 p hp).2⟩, fun p hp => ?_⟩
  · by_cases e : p = K
    · subst e; exact ⟨_, World.cell?_setCell_same _ _ _ hu⟩
    · obtain ⟨u', hu'⟩ := (h2 p hp).1
      exact ⟨u', (World.cell?_setCell_other _ _ _ _ (by intro q; simp at q; try omega)).trans hu'⟩
  · by_cases e : p = K
    · subst e; exact World.cell?_setCell_same _ _ _ hu
    · exact (World.cell?_setCell_other _ _ _ _ (by intro q; simp at q; try omega)).trans (h3 p (by omega))
theorem Fill.put0 {w : World} {g N K : Nat} {F : Nat → Int} (h : Fill w g 0 N K F) (hK : K < N) : Fill (w.setCell ⟨g, K, none⟩ (.int .i64 (F K))) g 0 N (K + 1) F := by
  have := h.put hK
  rwa [Nat.zero_add] at this
theorem Fill.later {w w' : World} {g o N K : Nat} {F : Nat → Int} (h : Fill w g o N K F) (hb : Below w.heap.size w w') : Fill w' g o N K F := by
  obtain ⟨h1, h2, h3⟩ := h
  refine ⟨Nat.lt_of_lt_of_le h1 hb.size, fun p hp => ⟨?_, (hb.frozen (p := ⟨g, o + p, none⟩) h1).trans (h2 p hp).2⟩, fun p hp => (hb.cell (p := ⟨g, o + p, none⟩) h1).trans (h3 p hp)⟩
  obtain ⟨u, hu⟩ := (h2 p hp).1
  exact ⟨u, (hb.cell (p := ⟨g, o + p, none⟩) h1).trans hu⟩
theorem Fill.at {w : World} {g o N K : Nat} {F : Nat → Int} (h : Fill w g o N K F) {p : Nat} (hp : p < N) : ∃ u, w.cell? ⟨g, o + p, none⟩ = some u ∧ w.frozen? ⟨g, o + p, none⟩ = false := by
  obtain ⟨⟨u, hu⟩, hf⟩ := h.2.1 p hp
  exact ⟨u, hu, hf⟩
theorem Fill.row {w : World} {g o m n B : Nat} {F : Nat → Int} (h : Fill w g o (n * m) (n * m) F) (hB : B ≤ g) (cp : Nat) : Row w B m n F (.slice (some ⟨g, o, none⟩) n cp) ∧ Free w (n * m) (.slice (some ⟨g, o, none⟩) n cp) := by
  refine ⟨⟨_, _, rfl, fun _ => ⟨g, o, rfl, hB, h.1, h.2.2⟩⟩, ?_⟩
  intro g' o' n' c' hv p hp
  simp only [Value.slice.injEq, Option.some.injEq, Addr.mk.injEq] at hv
  obtain ⟨⟨rfl, rfl, _⟩, _, _⟩ := hv
  exact (h.2.1 p hp).2
theorem Fill.made (w : World) (z : Array Value) (N : Nat) (e : TypeId) (F : Nat → Int) : Fill (w.alloc (.cells (madeCells z N) e)) w.heap.size 0 N 0 F := by
  refine ⟨by simp, fun p hp => ⟨⟨(madeCells z N)[p]'(by rw [size_madeCells]; exact hp), ?_⟩, by simp⟩, fun p hp => absurd hp (Nat.not_lt_zero p)⟩
  rw [Nat.zero_add, World.cell?_alloc_mark]
  simp

theorem below_alloc (w : World) (o : Obj) : Below w.heap.size w (w.alloc o) := (Below.refl _ _).alloc (Nat.le_refl _) o
end Go.Proofs.YtaakpbmddfnchaaDoor

namespace Go.Proofs.YtaakpbmddfnchaaDoor
open Go.RowKit Go.Deep

theorem open_row {H : Type} {enc : TypeId × Value → H} {P : Program} {w : World} {base : Nat} {spare : Nat → Bool} {held : Bool} {t e : TypeId} {fs : Array Field} {fuel m : Nat} {v : Value} {x : DataW H × List MemPlace}
    (ht : P.underlying t = some (.slice e)) (he : P.underlying e = some (.struct fs)) (hce : P.cellsOf e = m) (hm0 : 0 < m) (hfm : fs.size = m)
    (hfs : ∀ (j : Nat) (f : Field), fs[j]? = some f → f.offset = j ∧ P.cellsOf f.type = 1 ∧ P.underlying f.type = some (.int .i64))
    (h : DataW.trod enc P w base spare held fuel t [v] = some x) :
    ∃ n F, Row w base m n F v ∧ n ≤ maxLen ∧ ∀ p, (Lit.int .i64 (F p)).wf = true := by
  rcases open_slice ht h with ⟨h0, _⟩ | ⟨a, len, cap, q, n, D, Pl, hv, hb, hl, hm, hmm, rfl, hx⟩
  · simp only [List.cons.injEq, and_true] at h0
    subst h0
    exact ⟨0, fun _ => 0, ⟨_, _, rfl, fun h => absurd h (Nat.lt_irrefl 0)⟩, Nat.zero_le _, fun _ => (by decide : (Lit.int .i64 0).wf = true)⟩
  simp only [List.cons.injEq, and_true] at hv
  subst hv
  have hlq : len ≤ q := by rw [hmm]; split <;> omega
  have each : ∀ p, p < len * m → ∃ z : Int, w.cell? (a.add p) = some (.int .i64 z) ∧ (Lit.int .i64 z).wf = true := by
    intro p hp
    have hi : p / m < len := (Nat.div_lt_iff_lt_mul hm0).2 hp
    have hj : p % m < m := Nat.mod_lt _ hm0
    obtain ⟨cs', h1, h2⟩ := hx (p / m) (by omega)
    rw [hce] at h1
    obtain ⟨_, hlen, hcell⟩ := World.cells?_some h1
    obtain ⟨xs, k, hk, hxy, _, hxl, hf⟩ := DataW.trod_struct he h2
    obtain ⟨f, hff⟩ : ∃ f, fs[p % m]? = some f := ⟨fs[p % m]'(by omega), by simp⟩
    obtain ⟨h3, h4, h5⟩ := hfs _ f hff
    have h6 := hf _ f hff
    rw [h3, h4, List.getElem?_eq_getElem (by omega)] at h6
    obtain ⟨z, hz, _, hwf⟩ := DataW.trod_int h5 h6
    refine ⟨z, ?_, hwf⟩
    have e0 := hcell (p % m) hj
    rw [List.drop_eq_getElem_cons (by omega)] at hz
    simp only [List.take_succ_cons, List.take_zero, List.cons.injEq, and_true] at hz
    rw [List.getElem?_eq_getElem (by omega), hz, add_add, Nat.mul_comm, Nat.div_add_mod] at e0
    exact e0
  obtain ⟨F, hF⟩ := choose_lt each
  refine ⟨len, fun p => if p < len * m then F p else 0, ⟨_, _, rfl, fun hn => ?_⟩, Nat.le_trans hl hm, fun p => ?_⟩
  · have e : 0 < m := hm0
    obtain ⟨b, o, s⟩ := a
    have h0 := (hF 0 (Nat.mul_pos hn e)).1
    obtain rfl : s = none := by simpa [Addr.add] using World.cell?_spot h0
    refine ⟨b, o, rfl, hb, World.block_lt_of_cell? w _ h0, fun p hp => ?_⟩
    show w.cell? ⟨b, o + p, none⟩ = some (.int .i64 (if p < len * m then F p else 0))
    rw [if_pos hp]
    have e1 := (hF p hp).1
    rw [WideShapes.add_plain] at e1
    exact e1
  · show (Lit.int .i64 (if p < len * m then F p else 0)).wf = true
    split
    · exact (hF p (by assumption)).2
    · decide
end Go.Proofs.YtaakpbmddfnchaaDoor

namespace Go.Proofs.YtaakpbmddfnchaaDoor
open Go.ChangeShapes Go.WideShapes Go.ChangeAt Go.RowKit Go.Joins Go.Deep

set_option maxRecDepth 100000 in
/-- Nodes that came in, opened. -/
theorem open_nodes {H : Type} {enc : TypeId × Value → H} {W : World} {base : Nat} {v : Value} {d : DataW H} {p : List MemPlace} (hv : Value.okWide Tryd.prog W .any base 22 v) (h : DataW.Trod enc Tryd.prog W 0 (fun _ => true) true 22 v d p) :
    ∃ n F, Row W 0 4 n F v ∧ n ≤ 9223372036854775807 ∧ ∀ p, (Lit.int .i64 (F p)).wf = true := by
  obtain ⟨a, l, c, rfl⟩ := okWide_slice Tryd.underlying22 hv
  obtain ⟨fuel, hf⟩ := h
  have hf' : DataW.trod enc Tryd.prog W 0 (fun _ => true) true fuel 22 [.slice a l c] = some (d, p) := by simpa [Value.cells] using hf
  obtain ⟨n, F, r, b, f⟩ := open_row (m := 4) Tryd.underlying22 Tryd.underlying37 (by kernel_rfl) (by decide) rfl (fun j f hf => by
    match j, hf with
    | 0, hf => cases hf; exact ⟨rfl, by kernel_rfl, Tryd.underlying2⟩
    | 1, hf => cases hf; exact ⟨rfl, by kernel_rfl, Tryd.underlying2⟩
    | 2, hf => cases hf; exact ⟨rfl, by kernel_rfl, Tryd.underlying2⟩
    | 3, hf => cases hf; exact ⟨rfl, by kernel_rfl, Tryd.underlying2⟩) hf'
  exact ⟨n, F, r, by simpa [maxLen] using b, f⟩
end Go.Proofs.YtaakpbmddfnchaaDoor

namespace Go.Proofs
open Go.Shelf
def Tryd.laysFormat_ren : Go.Shelf.Ren := ⟨fun | 173 => 29 | 246 => 34 | 283 => 36 | 284 => 37 | 285 => 38 | 286 => 39 | 129 => 41 | 317 => 40 | 318 => 42 | 319 => 43 | 320 => 44 | 337 => 45 | 338 => 46 | n => n, fun | 2 => 2 | 3 => 3 | 9 => 9 | 4 => 4 | 171 => 71 | 0 => 0 | 53 => 66 | 37 => 39 | 5 => 5 | 173 => 74 | 212 => 78 | 51 => 63 | 20 => 20 | 213 => 79 | 46 => 56 | 232 => 83 | 233 => 84 | n => n, fun | 17 => 1 | 18 => 2 | 19 => 3 | n => n⟩
theorem Tryd.laysFormat : Go.Proofs.LaysM.n173 Tryd.prog Tryd.laysFormat_ren := {
  mixed := by kernel_rfl
  f129 := Tryd.func41.trans (congrArg some (by kernel_rfl))
  f173 := Tryd.func29.trans (congrArg some (by kernel_rfl))
  f246 := Tryd.func34.trans (congrArg some (by kernel_rfl))
  f283 := Tryd.func36.trans (congrArg some (by kernel_rfl))
  f284 := Tryd.func37.trans (congrArg some (by kernel_rfl))
  f285 := Tryd.func38.trans (congrArg some (by kernel_rfl))
  f286 := Tryd.func39.trans (congrArg some (by kernel_rfl))
  f317 := Tryd.func40.trans (congrArg some (by kernel_rfl))
  f318 := Tryd.func42.trans (congrArg some (by kernel_rfl))
  f319 := Tryd.func43.trans (congrArg some (by kernel_rfl))
  f320 := Tryd.func44.trans (congrArg some (by kernel_rfl))
  f337 := Tryd.func45.trans (congrArg some (by kernel_rfl))
  f338 := Tryd.func46.trans (congrArg some (by kernel_rfl))
  t0 := Tryd.underlying0
  a0 := Tryd.isAgg0
  z0 := Tryd.sizeOf0
  v0 := Tryd.zeroValue0
  t2 := Tryd.underlying2
  a2 := Tryd.isAgg2
  z2 := Tryd.sizeOf2
  v2 := Tryd.zeroValue2
  t3 := Tryd.underlying3
  a3 := Tryd.isAgg3
  z3 := Tryd.sizeOf3
  v3 := Tryd.zeroValue3
  t4 := Tryd.underlying4
  a4 := Tryd.isAgg4
  z4 := Tryd.sizeOf4
  v4 := Tryd.zeroValue4
  t5 := Tryd.underlying5
  a5 := Tryd.isAgg5
  z5 := Tryd.sizeOf5
  v5 := Tryd.zeroValue5
  t9 := Tryd.underlying9
  a9 := Tryd.isAgg9
  z9 := Tryd.sizeOf9
  v9 := Tryd.zeroValue9
  t20 := Tryd.underlying20
  a20 := Tryd.isAgg20
  z20 := Tryd.sizeOf20
  v20 := Tryd.zeroValue20
  t37 := Tryd.underlying39
  a37 := Tryd.isAgg39
  z37 := Tryd.sizeOf39
  v37 := Tryd.zeroValue39
  t46 := Tryd.underlying56
  a46 := Tryd.isAgg56
  z46 := Tryd.sizeOf56
  v46 := Tryd.zeroValue56
  t51 := Tryd.underlying63
  a51 := Tryd.isAgg63
  z51 := Tryd.sizeOf63
  v51 := Tryd.zeroValue63
  t53 := Tryd.underlying66
  a53 := Tryd.isAgg66
  z53 := Tryd.sizeOf66
  v53 := Tryd.zeroValue66
  t171 := Tryd.underlying71
  a171 := Tryd.isAgg71
  z171 := Tryd.sizeOf71
  v171 := Tryd.zeroValue71
  t173 := Tryd.underlying74
  a173 := Tryd.isAgg74
  z173 := Tryd.sizeOf74
  v173 := Tryd.zeroValue74
  t212 := Tryd.underlying78
  a212 := Tryd.isAgg78
  z212 := Tryd.sizeOf78
  v212 := Tryd.zeroValue78
  t213 := Tryd.underlying79
  a213 := Tryd.isAgg79
  z213 := Tryd.sizeOf79
  t232 := Tryd.underlying83
  a232 := Tryd.isAgg83
  z232 := Tryd.sizeOf83
  v232 := Tryd.zeroValue83
  t233 := Tryd.underlying84
  a233 := Tryd.isAgg84
  z233 := Tryd.sizeOf84
  v233 := Tryd.zeroValue84
  g17 := by kernel_rfl
  g18 := by kernel_rfl
  g19 := by kernel_rfl
  i0 := by kernel_rfl
  i2 := by kernel_rfl
  i3 := by kernel_rfl
  i4 := by kernel_rfl
  i5 := by kernel_rfl
  i9 := by kernel_rfl
  i20 := by kernel_rfl
  i37 := by kernel_rfl
  i46 := by kernel_rfl
  i51 := by kernel_rfl
  i53 := by kernel_rfl
  i171 := by kernel_rfl
  i173 := by kernel_rfl
  i212 := by kernel_rfl
  i232 := by kernel_rfl
  i233 := by kernel_rfl
  m17 := by kernel_rfl
  m18 := by kernel_rfl
  m19 := by kernel_rfl }
def Tryd.laysRepeat_ren : Go.Shelf.Ren := ⟨fun | 105 => 22 | 212 => 25 | 99 => 26 | 165 => 27 | 166 => 14 | 170 => 28 | 169 => 16 | 263 => 30 | 264 => 31 | 206 => 32 | 240 => 21 | 241 => 33 | 276 => 24 | 277 => 35 | n => n, fun | 9 => 9 | 3 => 3 | 4 => 4 | 20 => 20 | 0 => 0 | 46 => 56 | 109 => 57 | 5 => 5 | 72 => 41 | 76 => 44 | 51 => 63 | 146 => 64 | 53 => 66 | 148 => 67 | 70 => 38 | 37 => 39 | 75 => 43 | 127 => 53 | 164 => 54 | 80 => 47 | n => n, fun | n => n⟩
theorem Tryd.laysRepeat : Go.Proofs.Lays.n105 Tryd.prog Tryd.laysRepeat_ren := {
  mixed := by kernel_rfl
  f99 := Tryd.func26.trans (congrArg some (by kernel_rfl))
  f105 := Tryd.func22.trans (congrArg some (by kernel_rfl))
  f165 := Tryd.func27.trans (congrArg some (by kernel_rfl))
  f166 := Tryd.func14.trans (congrArg some (by kernel_rfl))
  f169 := Tryd.func16.trans (congrArg some (by kernel_rfl))
  f170 := Tryd.func28.trans (congrArg some (by kernel_rfl))
  f206 := Tryd.func32.trans (congrArg some (by kernel_rfl))
  f212 := Tryd.func25.trans (congrArg some (by kernel_rfl))
  f240 := Tryd.func21.trans (congrArg some (by kernel_rfl))
  f241 := Tryd.func33.trans (congrArg some (by kernel_rfl))
  f263 := Tryd.func30.trans (congrArg some (by kernel_rfl))
  f264 := Tryd.func31.trans (congrArg some (by kernel_rfl))
  f276 := Tryd.func24.trans (congrArg some (by kernel_rfl))
  f277 := Tryd.func35.trans (congrArg some (by kernel_rfl))
  t0 := Tryd.underlying0
  a0 := Tryd.isAgg0
  z0 := Tryd.sizeOf0
  v0 := Tryd.zeroValue0
  t3 := Tryd.underlying3
  a3 := Tryd.isAgg3
  z3 := Tryd.sizeOf3
  v3 := Tryd.zeroValue3
  t4 := Tryd.underlying4
  a4 := Tryd.isAgg4
  z4 := Tryd.sizeOf4
  v4 := Tryd.zeroValue4
  t5 := Tryd.underlying5
  a5 := Tryd.isAgg5
  z5 := Tryd.sizeOf5
  v5 := Tryd.zeroValue5
  t9 := Tryd.underlying9
  a9 := Tryd.isAgg9
  z9 := Tryd.sizeOf9
  v9 := Tryd.zeroValue9
  t20 := Tryd.underlying20
  a20 := Tryd.isAgg20
  z20 := Tryd.sizeOf20
  v20 := Tryd.zeroValue20
  t37 := Tryd.underlying39
  a37 := Tryd.isAgg39
  z37 := Tryd.sizeOf39
  v37 := Tryd.zeroValue39
  t46 := Tryd.underlying56
  a46 := Tryd.isAgg56
  z46 := Tryd.sizeOf56
  v46 := Tryd.zeroValue56
  t51 := Tryd.underlying63
  a51 := Tryd.isAgg63
  z51 := Tryd.sizeOf63
  v51 := Tryd.zeroValue63
  t53 := Tryd.underlying66
  a53 := Tryd.isAgg66
  z53 := Tryd.sizeOf66
  v53 := Tryd.zeroValue66
  t70 := Tryd.underlying38
  a70 := Tryd.isAgg38
  z70 := Tryd.sizeOf38
  v70 := Tryd.zeroValue38
  t72 := Tryd.underlying41
  a72 := Tryd.isAgg41
  z72 := Tryd.sizeOf41
  v72 := Tryd.zeroValue41
  t75 := Tryd.underlying43
  a75 := Tryd.isAgg43
  z75 := Tryd.sizeOf43
  v75 := Tryd.zeroValue43
  t76 := Tryd.underlying44
  a76 := Tryd.isAgg44
  z76 := Tryd.sizeOf44
  v76 := Tryd.zeroValue44
  t109 := Tryd.underlying57
  a109 := Tryd.isAgg57
  z109 := Tryd.sizeOf57
  v109 := Tryd.zeroValue57
  t127 := Tryd.underlying53
  a127 := Tryd.isAgg53
  z127 := Tryd.sizeOf53
  v127 := Tryd.zeroValue53
  t146 := Tryd.underlying64
  a146 := Tryd.isAgg64
  z146 := Tryd.sizeOf64
  v146 := Tryd.zeroValue64
  t148 := Tryd.underlying67
  a148 := Tryd.isAgg67
  z148 := Tryd.sizeOf67
  v148 := Tryd.zeroValue67
  t164 := Tryd.underlying54
  a164 := Tryd.isAgg54
  z164 := Tryd.sizeOf54
  v164 := Tryd.zeroValue54 }
end Go.Proofs

namespace Go.Proofs.YtaakpbmddfnchaaDoor
open Go.RowKit Go.Shelf

theorem conv_oneD (v : Int) (w : World) (b : Nat) (h : w.cell? ⟨b, 0, none⟩ = some (.int .u8 v)) : (convert 39 9 (.slice (some ⟨b, 0, none⟩) 1 1)).run Tryd.prog w = .ok (.string ⟨#[UInt8.ofNat v.toNat]⟩) w := by
  rw [run_convert_bytes_string _ 39 9 5 _ 1 1 Tryd.underlying39 Tryd.underlying5 Tryd.underlying9]
  have hl := run_loadCells_list (P := Tryd.prog) w ⟨b, 0, none⟩ [.int .u8 v] (fun j x hj => by
    have hj0 : j = 0 := by
      have := (List.getElem?_eq_some_iff.1 hj).1
      simpa using this
    subst hj0
    have hx : Value.int .u8 v = x := by simpa using hj
    subst hx
    exact h)
  rw [run_bytesToString _ _ 1 1 [v] (by simpa using hl)]
  rfl
theorem wrapD_i64 (n : Int) (h0 : 0 ≤ n) (h1 : n ≤ 9223372036854775807) : IntKind.i64.wrap n = n := by
  simp [IntKind.wrap, IntKind.signed, IntKind.bits]; omega
theorem wrapD_u8 (n : Int) (h0 : 0 ≤ n) (h1 : n ≤ 255) : IntKind.u8.wrap n = n := by
  simp [IntKind.wrap, IntKind.signed, IntKind.bits]; omega
theorem cell_oneD (v : Int) (w : World) : (w.alloc (.cells #[.int .u8 v] 5)).cell? ⟨w.heap.size, 0, none⟩ = some (.int .u8 v) := World.cell?_alloc_mark w _ _ _ 0
/-- The decimal text of n. -/
def decT (n : Nat) : ByteArray := ⟨(Lib.decDigits n).toArray⟩
theorem decT_one {n : Nat} (h : n < 10) : decT n = ⟨#[UInt8.ofNat (48 + n)]⟩ := by unfold decT; rw [Lib.decDigits_one h]
theorem decT_more {n : Nat} (h : ¬ n < 10) : decT n = decT (n / 10) ++ ⟨#[UInt8.ofNat (48 + n % 10)]⟩ := by
  unfold decT
  rw [Lib.decDigits, dif_neg h]
  apply ByteArray.ext
  simp
theorem decT_size : ∀ (f n : Nat), n < 10 ^ (f + 1) → (decT n).size ≤ f + 1
  | 0, n, h => by rw [decT_one (by simpa using h)]; exact Nat.le_refl 1
  | f + 1, n, h => by
    by_cases h1 : n < 10
    · rw [decT_one h1]; show 1 ≤ _; omega
    · rw [decT_more h1, ByteArray.size_append]
      have := decT_size f (n / 10) (by rw [Nat.pow_succ] at h; omega)
      show _ + 1 ≤ _
      omega
set_option maxRecDepth 100000 in
set_option maxHeartbeats 2000000 in
theorem l1Digits_int : ∀ (f n : Nat) (z : Int) (w : World), Hid (z = n ∧ n < 10 ^ (f + 1)) → 0 ≤ z → f ≤ 17 →
    Calls Tryd.prog 19 #[.int .i64 z] w fun e w' => e = .returned (.string (decT n)) ∧ Below w.heap.size w w' := by
  intro f
  induction f with
  | zero =>
    intro n z w hz h0 hf
    have h9 : z ≤ 9 := by have := hz.out; simp at this; omega
    have HE : Hid (decT n = ⟨#[UInt8.ofNat (48 + z).toNat]⟩) := by
      have h := hz.out
      unfold Hid
      rw [decT_one (by simpa using h.2), show (48 + z).toNat = 48 + n by omega]
    have kc := fun w => conv_oneD (48 + z) _ _ (cell_oneD (48 + z) w)
    go_enter Tryd.func19, Tryd.ntmps19
    go_wp2
    go_ret
    exact ⟨by rw [HE.out]; rfl, (Below.refl _ _).alloc (Nat.le_refl _) _⟩
  | succ f ih =>
    intro n z w hz h0 hf
    by_cases h9 : z ≤ 9
    · exact ih n z w ⟨hz.out.1, by have := hz.out; exact Nat.lt_of_lt_of_le (show n < 10 by omega) (Nat.le_self_pow (by omega) 10)⟩ h0 (by omega)
    · have HI : Hid (∃ c q : Int, 0 ≤ c ∧ c ≤ 9 ∧ 0 ≤ q ∧ Int.tmod z 10 = c ∧ Int.tdiv z 10 = q ∧ (decT (n / 10)).size ≤ 20 ∧ decT n = decT (n / 10) ++ ⟨#[UInt8.ofNat (48 + c).toNat]⟩ ∧ ∀ w, Calls Tryd.prog 19 #[.int .i64 q] w fun e w' => e = .returned (.string (decT (n / 10))) ∧ Below w.heap.size w w') := by
        obtain ⟨hzn, hlt⟩ := hz.out
        have ec : (48 + ((n % 10 : Nat) : Int)).toNat = 48 + n % 10 := by omega
        rw [Nat.pow_succ] at hlt
        refine ⟨((n % 10 : Nat) : Int), ((n / 10 : Nat) : Int), by omega, by omega, by omega, ?_, ?_, ?_, ?_, fun w => ih (n / 10) _ w ⟨rfl, by omega⟩ (by omega) (by omega)⟩
        · rw [Int.tmod_eq_emod_of_nonneg (by omega)]; omega
        · rw [Int.tdiv_eq_ediv_of_nonneg (by omega)]; omega
        · exact Nat.le_trans (decT_size f (n / 10) (by omega)) (by omega)
        · rw [ec]; exact decT_more (by omega)
      obtain ⟨c, q, c0, c9, q0, e1, e2, hs, hd, hC⟩ := HI.out
      have HC : Hid (∀ w, Calls Tryd.prog 19 #[.int .i64 q] w fun e w' => e = .returned (.string (decT (n / 10))) ∧ Below w.heap.size w w') := hC
      have HD : Hid (decT n = decT (n / 10) ++ ⟨#[UInt8.ofNat (48 + c).toNat]⟩) := hd
      clear HI hC hd ih
      have q1 : q ≤ z := by have := Int.tdiv_eq_ediv_of_nonneg (b := 10) h0; omega
      have hz1 : z < 1000000000000000000 := by have := hz.out; have : 10 ^ (f + 1 + 1) ≤ 10 ^ 18 := Nat.pow_le_pow_right (by omega) (by omega); omega
      have hw1 : IntKind.i64.wrap q = q := wrapD_i64 q (by omega) (by omega)
      have hw2 : IntKind.i64.wrap (48 + c) = 48 + c := wrapD_i64 _ (by omega) (by omega)
      have hw3 : IntKind.u8.wrap (48 + c) = 48 + c := wrapD_u8 _ (by omega) (by omega)
      generalize decT (n / 10) = D at *
      have ka := fun w => run_string_add_sum (P := Tryd.prog) w D ⟨#[UInt8.ofNat (48 + c).toNat]⟩ (by show _ + 1 ≤ _; omega)
      go_enter Tryd.func19, Tryd.ntmps19
      go_wp2_with fail
      refine wp_region_held_drew (S := fun _ => True) (by kernel_rfl) trivial (fun hS => ?_)
      have HB0 : Hid (Below w.heap.size w w.drew) := (Below.refl _ w).drew
      generalize w.drew = wa at *
      refine tkH 0 ?_ hS (fun wx hx => ?_) ?_; rotate_left
      · go_simp; try with_reducible rfl
      refine tkH 1 ?_ hS (fun wx hx => ?_) ?_; rotate_left
      · go_simp; try with_reducible rfl
      refine tkH 3 ?_ hS (fun wx hx => ?_) ?_; rotate_left
      · go_simp; try with_reducible rfl
      refine tkH 4 ?_ hS (fun wx hx => ?_) ?_; rotate_left
      · go_simp; try with_reducible rfl
      refine tkH 5 ?_ hS (fun wx hx => ?_) ?_; rotate_left
      · go_simp; try with_reducible rfl
      refine tkH 6 ?_ hS (fun wx hx => ?_) ?_; rotate_left
      · go_simp; try with_reducible rfl
      refine wpAnyH_ready (rs := [2, 7]) (by kernel_rfl) (by simp) ?_
      refine AllReadyH.cons rfl (fun K hK => ?_) (AllReadyH.cons rfl (fun K hK => ?_) AllReadyH.nil)
      · go_simp
        go_wp2_with fail
        refine (HC.out _).mono ?_
        rintro e w1 ⟨rfl, b1⟩
        go_wp2_with fail
        refine hK.out _ _ trivial (fun hS => ?_)
        clear hK K
        refine rdH 7 (fun K hK => ?_)
        go_simp
        refine hK.out _ _ trivial (fun hS => ?_)
        clear hK K
        refine rdH 8 (fun K hK => ?_)
        have kc := conv_oneD (48 + c) _ _ (cell_oneD (48 + c) w1)
        go_simp
        refine hK.out _ _ trivial (fun hS => ?_)
        clear hK K
        refine tkH 9 ?_ hS (fun wx hx => ?_) ?_; rotate_left
        · go_simp; try with_reducible rfl
        refine tkH 10 ?_ hS (fun wx hx => ?_) ?_; rotate_left
        · go_simp; try with_reducible rfl
        refine wpAnyH_done (by kernel_rfl) ?_ _
        clear hS
        go_simp
        go_wp2
        go_ret
        exact ⟨by rw [HD.out]; rfl, (HB0.out.trans (b1.mono HB0.out.size)).alloc (by have := HB0.out.size; have := b1.size; omega) _⟩
      · go_simp
        refine hK.out _ _ trivial (fun hS => ?_)
        clear hK K
        refine wpAnyH_ready (rs := [2, 8]) (by kernel_rfl) (by simp) ?_
        refine AllReadyH.cons rfl (fun K hK => ?_) (AllReadyH.cons rfl (fun K hK => ?_) AllReadyH.nil)
        · go_simp
          go_wp2_with fail
          refine (HC.out _).mono ?_
          rintro e w1 ⟨rfl, b1⟩
          go_wp2_with fail
          refine hK.out _ _ trivial (fun hS => ?_)
          clear hK K
          refine rdH 8 (fun K hK => ?_)
          have kc := conv_oneD (48 + c) w1 wa.heap.size (by rw [b1.cell (by simp)]; exact cell_oneD (48 + c) wa)
          go_simp
          refine hK.out _ _ trivial (fun hS => ?_)
          clear hK K
          refine tkH 9 ?_ hS (fun wx hx => ?_) ?_; rotate_left
          · go_simp; try with_reducible rfl
          refine tkH 10 ?_ hS (fun wx hx => ?_) ?_; rotate_left
          · go_simp; try with_reducible rfl
          refine wpAnyH_done (by kernel_rfl) ?_ _
          clear hS
          go_simp
          go_wp2
          go_ret
          exact ⟨by rw [HD.out]; rfl, (HB0.out.alloc HB0.out.size _).trans (b1.mono (by have := HB0.out.size; simp; omega))⟩
        · have kc := conv_oneD (48 + c) _ _ (cell_oneD (48 + c) wa)
          go_simp
          refine hK.out _ _ trivial (fun hS => ?_)
          clear hK K
          refine rdH 2 (fun K hK => ?_)
          go_simp
          go_wp2_with fail
          refine (HC.out _).mono ?_
          rintro e w1 ⟨rfl, b1⟩
          go_wp2_with fail
          refine hK.out _ _ trivial (fun hS => ?_)
          clear hK K
          refine tkH 9 ?_ hS (fun wx hx => ?_) ?_; rotate_left
          · go_simp; try with_reducible rfl
          refine tkH 10 ?_ hS (fun wx hx => ?_) ?_; rotate_left
          · go_simp; try with_reducible rfl
          refine wpAnyH_done (by kernel_rfl) ?_ _
          clear hS
          go_simp
          go_wp2
          go_ret
          exact ⟨by rw [HD.out]; rfl, (HB0.out.alloc HB0.out.size _).trans (b1.mono (by have := HB0.out.size; simp; omega))⟩
theorem l1Digits_nat (n : Nat) (w : World) (h : n < 1000000000000000000) :
    Calls Tryd.prog 19 #[.int .i64 n] w fun e w' => e = .returned (.string (decT n)) ∧ Below w.heap.size w w' :=
  l1Digits_int 17 n n w ⟨rfl, by simpa using h⟩ (by omega) (by omega)
/-- The library's table of powers of ten, as its text lays it. -/
def Pow10 (w : World) : Prop := Lib.TabIs Tryd.prog w "internal/strconv.uint64pow10" .u64 Lib.pow10Tab
theorem belowD (w : World) (k : Nat) (os : Array Obj) : Below w.heap.size w (Go.Sort.grow (w.drewN k) os) :=
  ⟨rfl, rfl, rfl, by show w.heap.size ≤ (w.heap ++ os).size; rw [Array.size_append]; omega, fun j hj => by show (w.heap ++ os)[j]? = _; rw [Array.getElem?_append_left hj]⟩
theorem decimal_is (n : Nat) (w : World) (hT : Pow10 w) (h : n < 1000000000000000000) :
    Calls Tryd.prog 23 #[.int .i64 n] w fun e w' => e = .returned (.string (decT n)) ∧ Below w.heap.size w w' := by
  have HF : Hid (∀ w, Pow10 w → Calls Tryd.prog 29 #[.int .i64 n, .int .i64 10] w fun e w' => e = .returned (.string (decT n)) ∧ Below w.heap.size w w') := by
    intro w hT
    refine (Any.strconv_FormatInt_10 Tryd.laysFormat n (by omega) (by omega) w hT).mono ?_
    rintro e w' ⟨rfl, k, os, rfl⟩
    refine ⟨?_, belowD w k os⟩
    unfold decT
    rw [Lib.itoa_nonneg]
  have HT : Hid (Pow10 w) := hT
  clear hT
  generalize decT n = D at *
  go_enter Tryd.func23, Tryd.ntmps23
  go_wp2_with fail
  refine (HF.out _ HT.out).mono ?_
  rintro e w1 ⟨rfl, b1⟩
  have B1 : Hid (Below w.heap.size w w1) := b1
  clear b1
  go_wp2
  go_ret
  exact ⟨rfl, B1.out⟩
/-- The table stands where nothing that was there has turned. -/
theorem Pow10.later {w w' : World} (h : Pow10 w) (hb : Below w.heap.size w w') : Pow10 w' := by
  have hg : Tryd.prog.globalNamed "internal/strconv.uint64pow10" = some (Tryd.prog.globalNamed "internal/strconv.uint64pow10" |>.getD 0) := by kernel_rfl
  unfold Pow10 Lib.TabIs World.var? at h ⊢
  rw [hg] at h ⊢
  generalize (Tryd.prog.globalNamed "internal/strconv.uint64pow10" |>.getD 0) = g at h ⊢
  simp only [Option.bind_some] at h ⊢
  have hlt : g < w.heap.size := by
    rcases Nat.lt_or_ge g w.heap.size with h' | h'
    · exact h'
    · rw [Array.getElem?_eq_none h'] at h; cases h
  rw [hb.block g hlt]
  exact h
end Go.Proofs.YtaakpbmddfnchaaDoor

namespace Go.Proofs.YtaakpbmddfnchaaDoor
open Go.RowKit

/-- Block b holds two cells, none frozen. -/
def Blk2 (x : World) (b : Nat) (a0 a1 : Value) : Prop :=
  (x.cell? ⟨b, 0, none⟩ = some a0 ∧ x.cell? ⟨b, 1, none⟩ = some a1) ∧ x.frozen? ⟨b, 0, none⟩ = false ∧ x.frozen? ⟨b, 1, none⟩ = false
theorem Blk2.kept {x x' : World} {b : Nat} {a0 a1 : Value} (h : Blk2 x b a0 a1) (hb : x'.heap[b]? = x.heap[b]?) : Blk2 x' b a0 a1 := by
  obtain ⟨⟨h0, h1⟩, f0, f1⟩ := h
  exact ⟨⟨(World.cell?_of_block (w := x) (a := ⟨b, 0, none⟩) hb).trans h0, (World.cell?_of_block (w := x) (a := ⟨b, 1, none⟩) hb).trans h1⟩,
    (World.frozen?_of_block (w := x) (a := ⟨b, 0, none⟩) hb).trans f0, (World.frozen?_of_block (w := x) (a := ⟨b, 1, none⟩) hb).trans f1⟩
theorem Blk2.lt {x : World} {b : Nat} {a0 a1 : Value} (h : Blk2 x b a0 a1) : b < x.heap.size := World.block_lt_of_cell? x _ h.1.1
theorem Blk2.later {x x' : World} {b : Nat} {a0 a1 : Value} (h : Blk2 x b a0 a1) (hb : Below x.heap.size x x') : Blk2 x' b a0 a1 := h.kept (hb.block b h.lt)
theorem Blk2.alloc {x : World} {b : Nat} {a0 a1 : Value} (h : Blk2 x b a0 a1) (o : Obj) : Blk2 (x.alloc o) b a0 a1 := h.later ((Below.refl _ _).alloc (Nat.le_refl _) o)
theorem Blk2.new (w : World) (a0 a1 : Value) (t : TypeId) : Blk2 (w.alloc (.cells #[a0, a1] t)) w.heap.size a0 a1 := by
  refine ⟨⟨World.cell?_alloc_mark w _ _ _ 0, World.cell?_alloc_mark w _ _ _ 1⟩, ?_, ?_⟩ <;> simp
theorem Blk2.put {x : World} {b : Nat} {a0 a1 : Value} (h : Blk2 x b a0 a1) (c v : Value) : Blk2 ((x.setCell ⟨b, 0, none⟩ c).setCell ⟨b, 1, none⟩ v) b c v := by
  obtain ⟨⟨h0, h1⟩, f0, f1⟩ := h
  refine ⟨⟨(World.cell?_setCell_other _ _ _ _ (by simp)).trans (World.cell?_setCell_same _ _ _ h0), World.cell?_setCell_same _ _ _ ((World.cell?_setCell_other _ _ _ _ (by simp)).trans h1)⟩, by simpa using f0, by simpa using f1⟩
end Go.Proofs.YtaakpbmddfnchaaDoor

namespace Go.Proofs.YtaakpbmddfnchaaDoor
open Go.RowKit

set_option maxHeartbeats 400000 in
theorem eqTreeNode_same (x0 x1 x2 x3 : Int) (w : World) :
    Calls Tryd.prog 17 #[.agg #[.int .i64 x0, .int .i64 x1, .int .i64 x2, .int .i64 x3], .agg #[.int .i64 x0, .int .i64 x1, .int .i64 x2, .int .i64 x3]] w fun e w' => e = .returned (.bool true) ∧ Below w.heap.size w w' := by
  go_enter Tryd.func17, Tryd.ntmps17
  go_wp2
  go_ret
  exact ⟨rfl, ((Below.refl _ _).alloc (Nat.le_refl _) _).alloc (by simp) _⟩
def TwoTreeNode (w : World) (g o g' o' k : Nat) (F : Nat → Int) (x : World) : Prop := (x.cell? ⟨g, o + k * 4, none⟩ = some (.int .i64 (F (k * 4))) ∧ x.cell? ⟨g, o + k * 4 + 1, none⟩ = some (.int .i64 (F (k * 4 + 1))) ∧ x.cell? ⟨g, o + k * 4 + 2, none⟩ = some (.int .i64 (F (k * 4 + 2))) ∧ x.cell? ⟨g, o + k * 4 + 3, none⟩ = some (.int .i64 (F (k * 4 + 3))) ∧ x.cell? ⟨g', o' + k * 4, none⟩ = some (.int .i64 (F (k * 4))) ∧ x.cell? ⟨g', o' + k * 4 + 1, none⟩ = some (.int .i64 (F (k * 4 + 1))) ∧ x.cell? ⟨g', o' + k * 4 + 2, none⟩ = some (.int .i64 (F (k * 4 + 2))) ∧ x.cell? ⟨g', o' + k * 4 + 3, none⟩ = some (.int .i64 (F (k * 4 + 3)))) ∧ Below w.heap.size w x
theorem TwoTreeNode.later {w x x' : World} {g o g' o' k : Nat} {F : Nat → Int} (h : TwoTreeNode w g o g' o' k F x) (hg : g < w.heap.size) (hg' : g' < w.heap.size) (hb : Below x.heap.size x x') : TwoTreeNode w g o g' o' k F x' := by
  obtain ⟨⟨hx0, hx1, hx2, hx3, hx4, hx5, hx6, hx7⟩, hy⟩ := h
  exact ⟨⟨(hb.cell (Nat.lt_of_lt_of_le hg hy.size)).trans hx0, (hb.cell (Nat.lt_of_lt_of_le hg hy.size)).trans hx1, (hb.cell (Nat.lt_of_lt_of_le hg hy.size)).trans hx2, (hb.cell (Nat.lt_of_lt_of_le hg hy.size)).trans hx3, (hb.cell (Nat.lt_of_lt_of_le hg' hy.size)).trans hx4, (hb.cell (Nat.lt_of_lt_of_le hg' hy.size)).trans hx5, (hb.cell (Nat.lt_of_lt_of_le hg' hy.size)).trans hx6, (hb.cell (Nat.lt_of_lt_of_le hg' hy.size)).trans hx7⟩, hy.trans (hb.mono hy.size)⟩
set_option maxRecDepth 100000 in
set_option maxHeartbeats 1000000 in
theorem eqTreeNodeS_same (va vb : Value) (Ba Bb n : Nat) (F : Nat → Int) (w : World) (ha : Row w Ba 4 n F va) (hb : Row w Bb 4 n F vb) (hn : n ≤ 1048576) :
    Calls Tryd.prog 9 #[va, vb] w fun e w' => e = .returned (.bool true) ∧ Below w.heap.size w w' := by
  obtain ⟨ao, ca, rfl⟩ := ha.form
  obtain ⟨bo, cb, rfl⟩ := hb.form
  have HA : Hid (Row w Ba 4 n F (.slice ao n ca)) := ha
  have HB : Hid (Row w Bb 4 n F (.slice bo n cb)) := hb
  clear ha hb
  go_enter Tryd.func9, Tryd.ntmps9
  go_wp2
  go_loopw [5] (fun i wr => ∃ k : Nat, k ≤ n ∧ i = .int .i64 k ∧ Below w.heap.size w wr) (fun i _ => n - (intOf i).toNat)
  case atStart => exact ⟨0, Nat.zero_le _, rfl, Below.refl _ _⟩
  case round =>
    obtain ⟨k, hk, rfl, hbw⟩ := hrel
    by_cases hlt : k < n
    · obtain ⟨g, o, rfl, _, hg, c0, c1, c2, c3⟩ := HA.out.at4 hlt
      obtain ⟨g', o', rfl, _, hg', d0, d1, d2, d3⟩ := HB.out.at4 hlt
      have h0 : TwoTreeNode w g o g' o' k F wr.drew := ⟨⟨(hbw.cell (p := ⟨g, o + k * 4, none⟩) hg).trans c0, (hbw.cell (p := ⟨g, o + k * 4 + 1, none⟩) hg).trans c1, (hbw.cell (p := ⟨g, o + k * 4 + 2, none⟩) hg).trans c2, (hbw.cell (p := ⟨g, o + k * 4 + 3, none⟩) hg).trans c3, (hbw.cell (p := ⟨g', o' + k * 4, none⟩) hg').trans d0, (hbw.cell (p := ⟨g', o' + k * 4 + 1, none⟩) hg').trans d1, (hbw.cell (p := ⟨g', o' + k * 4 + 2, none⟩) hg').trans d2, (hbw.cell (p := ⟨g', o' + k * 4 + 3, none⟩) hg').trans d3⟩, hbw.drew⟩
      clear c0 d0 c1 d1 c2 d2 c3 d3 hbw
      go_wp2_with fail
      refine wp_region_held_drew (S := TwoTreeNode w g o g' o' k F) (by kernel_rfl) h0 (fun hS => ?_)
      clear h0
      refine tkH 0 ?_ hS (fun wx hx => ?_) ?_; rotate_left
      · obtain ⟨⟨hx0, hx1, hx2, hx3, hx4, hx5, hx6, hx7⟩, _⟩ := hx; go_simp; try with_reducible rfl
      refine tkH 1 ?_ hS (fun wx hx => ?_) ?_; rotate_left
      · obtain ⟨⟨hx0, hx1, hx2, hx3, hx4, hx5, hx6, hx7⟩, _⟩ := hx; go_simp; try with_reducible rfl
      refine tkH 2 ?_ hS (fun wx hx => ?_) ?_; rotate_left
      · obtain ⟨⟨hx0, hx1, hx2, hx3, hx4, hx5, hx6, hx7⟩, _⟩ := hx; go_simp; try with_reducible rfl
      refine tkH 3 ?_ hS (fun wx hx => ?_) ?_; rotate_left
      · obtain ⟨⟨hx0, hx1, hx2, hx3, hx4, hx5, hx6, hx7⟩, _⟩ := hx; go_simp; try with_reducible rfl
      refine tkH 4 ?_ hS (fun wx hx => ?_) ?_; rotate_left
      · obtain ⟨⟨hx0, hx1, hx2, hx3, hx4, hx5, hx6, hx7⟩, _⟩ := hx; go_simp; try with_reducible rfl
      refine tkH 5 ?_ hS (fun wx hx => ?_) ?_; rotate_left
      · obtain ⟨⟨hx0, hx1, hx2, hx3, hx4, hx5, hx6, hx7⟩, _⟩ := hx; go_simp; try with_reducible rfl
      refine tkH 6 ?_ hS (fun wx hx => ?_) ?_; rotate_left
      · obtain ⟨⟨hx0, hx1, hx2, hx3, hx4, hx5, hx6, hx7⟩, _⟩ := hx; go_simp; try with_reducible rfl
      refine tkH 7 ?_ hS (fun wx hx => ?_) ?_; rotate_left
      · obtain ⟨⟨hx0, hx1, hx2, hx3, hx4, hx5, hx6, hx7⟩, _⟩ := hx; go_simp; try with_reducible rfl
      refine rdH 8 (fun K hK => ?_)
      go_simp
      go_wp2_with fail
      refine (eqTreeNode_same _ _ _ _ _).mono ?_
      rintro e w' ⟨rfl, hb⟩
      go_wp2_with fail
      refine hK.out _ _ (hS.later hg hg' hb) (fun hS => ?_)
      clear hK K
      refine tkH 9 ?_ hS (fun wx hx => ?_) ?_; rotate_left
      · obtain ⟨⟨hx0, hx1, hx2, hx3, hx4, hx5, hx6, hx7⟩, _⟩ := hx; go_simp; try with_reducible rfl
      refine wpAnyH_done (by kernel_rfl) ?_ _
      go_simp
      go_wp2
      go_roundw
      case rel => exact ⟨k + 1, by omega, by go_num, hS.2⟩
      case measure => simp [intOf]; omega
    · go_wp2
      go_ret
      exact ⟨rfl, hbw⟩
end Go.Proofs.YtaakpbmddfnchaaDoor

namespace Go.Proofs.YtaakpbmddfnchaaDoor
open Go.RowKit

theorem make_rowN {P : Program} {t e : TypeId} {z : Value} {size bytes : Nat} (ht : P.underlying t = some (.slice e)) (hinfo : (P.info? e).map (fun i => (i.zero, i.size, i.bytes)) = some (some z, size, bytes)) (n : Nat) (hn : bytes * n ≤ 281474976710656) (hm : n ≤ 9223372036854775807) (w : World) :
    (Instr.makeSlice t (.int .i64 (n : Int)) (.int .i64 (n : Int))).run P w = .ok (.slice (some ⟨w.heap.size, 0, none⟩) n n) (w.alloc (.cells (madeCells z.cells (n * size)) e)) := by
  obtain ⟨i, hi, hz, hs, hb⟩ := info_parts hinfo
  have hb' : (i.bytes : Int) * (n : Int) ≤ 281474976710656 := by
    have h : ((i.bytes * n : Nat) : Int) ≤ 281474976710656 := by rw [hb]; omega
    rwa [Int.natCast_mul] at h
  have hr := run_make (P := P) w t e i z ht hi hz .i64 .i64 n n (by omega) (Int.le_refl _) hb' (by omega)
  simp only [Int.toNat_natCast, hs] at hr
  exact hr

theorem info_TreeNodeA : (Tryd.prog.info? 34).map (fun i => (i.zero, i.size, i.bytes)) = some (some (.agg #[.int .i64 0, .int .i64 0, .int .i64 0, .int .i64 0]), 4, 32) := by kernel_rfl
set_option maxHeartbeats 400000 in
theorem toTreeNode_any (x0 x1 x2 x3 : Int) (w : World) :
    Calls Tryd.prog 12 #[.agg #[.int .i64 x0, .int .i64 x1, .int .i64 x2, .int .i64 x3]] w fun e w' => e = .returned (.agg #[.int .i64 x0, .int .i64 x1, .int .i64 x2, .int .i64 x3]) ∧ Below w.heap.size w w' := by
  go_enter Tryd.func12, Tryd.ntmps12
  go_wp2
  exact bodyPost_ret (v := .agg #[.int .i64 x0, .int .i64 x1, .int .i64 x2, .int .i64 x3]) (by simp [results, Tryd.results12, go_sem]) rfl ⟨rfl, (((Below.refl _ _).alloc (Nat.le_refl _) _).alloc (by simp) _).alloc (by simp; omega) _⟩
set_option maxHeartbeats 400000 in
theorem toTreeNodeS_cap (v : Value) (B n : Nat) (F : Nat → Int) (w : World) (h : Row w B 4 n F v) (hn : n ≤ 1048576) :
    Calls Tryd.prog 6 #[v] w fun e w' => ∃ uo, e = .returned (.slice uo n n) ∧ Row w' w.heap.size 4 n F (.slice uo n n) ∧ Free w' (n * 4) (.slice uo n n) ∧ Below w.heap.size w w' := by
  obtain ⟨ao, cp, rfl⟩ := h.form
  have H : Hid (Row w B 4 n F (.slice ao n cp)) := h
  clear h
  have hmk := make_rowN Tryd.underlying27 info_TreeNodeA n (by omega) (by omega)
  go_enter Tryd.func6, Tryd.ntmps6
  go_wp2
  go_loopw [4] (fun i wr => ∃ k : Nat, k ≤ n ∧ i = .int .i64 k ∧ Hid (Below w.heap.size w wr ∧ Fill wr w.heap.size 0 (n * 4) (k * 4) F)) (fun i _ => n - (intOf i).toNat)
  case atStart => exact ⟨0, Nat.zero_le _, rfl, below_alloc _ _, by rw [Nat.zero_mul]; exact Fill.made _ _ _ _ _⟩
  case round =>
    obtain ⟨k, hk, rfl, hR⟩ := hrel
    by_cases hlt : k < n
    · obtain ⟨g, o, rfl, _, hg, c0, c1, c2, c3⟩ := H.out.at4 hlt
      have b0 := hR.out.1.cell (p := ⟨g, o + k * 4, none⟩) hg
      rw [c0] at b0
      have b1 := hR.out.1.cell (p := ⟨g, o + k * 4 + 1, none⟩) hg
      rw [c1] at b1
      have b2 := hR.out.1.cell (p := ⟨g, o + k * 4 + 2, none⟩) hg
      rw [c2] at b2
      have b3 := hR.out.1.cell (p := ⟨g, o + k * 4 + 3, none⟩) hg
      rw [c3] at b3
      clear c0 c1 c2 c3
      go_wp2_with fail
      refine (toTreeNode_any _ _ _ _ _).mono ?_
      rintro e w1 ⟨rfl, q1⟩
      have f1 := hR.out.2.later q1
      obtain ⟨v0, d0, e0⟩ := f1.at (p := k * 4) (by omega)
      obtain ⟨v1, d1, e1⟩ := f1.at (p := k * 4 + 1) (by omega)
      obtain ⟨v2, d2, e2⟩ := f1.at (p := k * 4 + 2) (by omega)
      obtain ⟨v3, d3, e3⟩ := f1.at (p := k * 4 + 3) (by omega)
      have HF : Hid (Below w.heap.size w w1 ∧ Fill w1 w.heap.size 0 (n * 4) (k * 4) F) := ⟨hR.out.1.trans (q1.mono hR.out.1.size), f1⟩
      clear q1 f1 b0 b1 b2 b3
      simp only [Nat.zero_add] at d0 e0 d1 e1 d2 e2 d3 e3
      go_wp2
      go_roundw
      case rel =>
        refine ⟨k + 1, by omega, by go_num, ((((HF.out.1.setCell (Nat.le_refl _) _).setCell (Nat.le_refl _) _).setCell (Nat.le_refl _) _).setCell (Nat.le_refl _) _), ?_⟩
        have hq := ((((HF.out.2.put0 (by omega)).put0 (by omega)).put0 (by omega)).put0 (by omega))
        rwa [show k * 4 + 1 + 1 + 1 + 1 = (k + 1) * 4 by omega] at hq
      case measure => simp [intOf]; omega
    · obtain rfl : k = n := by omega
      go_wp2
      go_ret
      exact ⟨_, rfl, (hR.out.2.row (Nat.le_refl _) _).1, (hR.out.2.row (B := 0) (Nat.zero_le _) _).2, hR.out.1⟩
theorem toTreeNodeS_any (v : Value) (B n : Nat) (F : Nat → Int) (w : World) (h : Row w B 4 n F v) (hn : n ≤ 1048576) :
    Calls Tryd.prog 6 #[v] w fun e w' => ∃ u, e = .returned u ∧ Row w' w.heap.size 4 n F u ∧ Free w' (n * 4) u ∧ Below w.heap.size w w' :=
  (toTreeNodeS_cap v B n F w h hn).mono fun _ _ ⟨uo, h1, h2, h3, h4⟩ => ⟨.slice uo n n, h1, h2, h3, h4⟩
set_option maxHeartbeats 400000 in
theorem szTreeNodeS_ok (a : Option Addr) (n c : Nat) (left : Int) (w : World) (h : (n : Int) ≤ left) (h2 : left ≤ 1048576) :
    Calls Tryd.prog 4 #[.slice a n c, .int .i64 left] w fun e w' => e = .returned (.int .i64 (left - n)) ∧ w' = w := by
  have d : decide (left - n < 0) = false := decide_eq_false (by omega)
  go_enter Tryd.func4, Tryd.ntmps4
  go_wp2
  go_ret
  exact ⟨rfl, rfl⟩
set_option maxHeartbeats 400000 in
theorem szTreeNodeS_no (a : Option Addr) (n c : Nat) (left : Int) (w : World) (h : left < n) (h0 : 0 ≤ left) (h2 : left ≤ 1048576) (hn : n ≤ 9223372036854775807) :
    Calls Tryd.prog 4 #[.slice a n c, .int .i64 left] w fun e w' => e = .returned (.int .i64 (-1)) ∧ w' = w := by
  have d : decide (left - n < 0) = true := decide_eq_true (by omega)
  go_enter Tryd.func4, Tryd.ntmps4
  go_wp2
  go_ret
  exact ⟨rfl, rfl⟩

end Go.Proofs.YtaakpbmddfnchaaDoor

namespace Go.Proofs.YtaakpbmddfnchaaDoor
open Go.RowKit

/-- A node may be told: its inode, depth, name, value. -/
def NodeOk (i d m v : Int) : Prop := (0 ≤ i ∧ i ≤ 9999) ∧ (1 ≤ d ∧ d ≤ 20) ∧ (0 ≤ m ∧ m ≤ 9999) ∧ (0 ≤ v ∧ v ≤ 9999)
instance (i d m v : Int) : Decidable (NodeOk i d m v) := by unfold NodeOk; infer_instance
def indT (c : Nat) : ByteArray := ⟨(Lib.repeatL [32, 32] c).toArray⟩
theorem appB (a b c : ByteArray) : a ++ (b ++ c) = a ++ b ++ c := by
  apply ByteArray.ext
  simp [Array.append_assoc]
/-- The line of a node. -/
def lineT (i d m v : Nat) : ByteArray := indT (d - 1) ++ decT m ++ ⟨#[58, 32]⟩ ++ decT i ++ ⟨#[32]⟩ ++ decT v ++ ⟨#[10]⟩
theorem lineT_on (out : ByteArray) (i d m v : Nat) : out ++ lineT i d m v = out ++ indT (d - 1) ++ decT m ++ ⟨#[58, 32]⟩ ++ decT i ++ ⟨#[32]⟩ ++ decT v ++ ⟨#[10]⟩ := by
  unfold lineT
  simp only [appB]
/-- The text of the first k nodes. -/
def textT (F : Nat → Int) : Nat → ByteArray
  | 0 => ⟨#[]⟩
  | k + 1 => textT F k ++ lineT (F (k * 4)).toNat (F (k * 4 + 1)).toNat (F (k * 4 + 2)).toNat (F (k * 4 + 3)).toNat
theorem indT_zero : indT 0 = ⟨#[]⟩ := rfl
theorem indT_succ (c : Nat) : indT (c + 1) = indT c ++ ⟨#[32, 32]⟩ := by
  unfold indT
  rw [Lib.repeatL_add, Lib.repeatL_one]
  apply ByteArray.ext
  simp
theorem indT_size (c : Nat) : (indT c).size = c * 2 := by
  induction c with
  | zero => rfl
  | succ c ih => rw [indT_succ, ByteArray.size_append, ih]; show _ + 2 = _; omega
theorem nodeIn_is (v lo hi : Int) (r : Bool) (hr : decide (lo ≤ v ∧ v ≤ hi) = r) (w : World) :
    Calls Tryd.prog 18 #[.int .i64 v, .int .i64 lo, .int .i64 hi] w fun e w' => e = .returned (.bool r) ∧ w' = w := by
  by_cases h1 : lo ≤ v
  · by_cases h2 : v ≤ hi
    · have d : decide (v ≤ hi) = true := decide_eq_true h2
      rw [decide_eq_true (show lo ≤ v ∧ v ≤ hi from ⟨h1, h2⟩)] at hr
      subst hr
      go_enter Tryd.func18, Tryd.ntmps18
      go_wp2
      go_ret
      exact ⟨rfl, rfl⟩
    · have d : decide (v ≤ hi) = false := decide_eq_false h2
      rw [decide_eq_false (show ¬ (lo ≤ v ∧ v ≤ hi) from fun h => h2 h.2)] at hr
      subst hr
      go_enter Tryd.func18, Tryd.ntmps18
      go_wp2
      go_ret
      exact ⟨rfl, rfl⟩
  · have d : decide (lo ≤ v) = false := decide_eq_false h1
    rw [decide_eq_false (show ¬ (lo ≤ v ∧ v ≤ hi) from fun h => h1 h.1)] at hr
    subst hr
    go_enter Tryd.func18, Tryd.ntmps18
    go_wp2
    go_ret
    exact ⟨rfl, rfl⟩
theorem nodeVal_is (v : Int) (r : Bool) (hr : decide (0 ≤ v ∧ v ≤ 9999) = r) (w : World) :
    Calls Tryd.prog 20 #[.int .i64 v] w fun e w' => e = .returned (.bool r) ∧ w' = w := by
  by_cases h1 : 0 ≤ v
  · by_cases h2 : v ≤ 9999
    · have d : decide (v ≤ 9999) = true := decide_eq_true h2
      rw [decide_eq_true (show 0 ≤ v ∧ v ≤ 9999 from ⟨h1, h2⟩)] at hr
      subst hr
      go_enter Tryd.func20, Tryd.ntmps20
      go_wp2
      go_ret
      exact ⟨rfl, rfl⟩
    · have d : decide (v ≤ 9999) = false := decide_eq_false h2
      rw [decide_eq_false (show ¬ (0 ≤ v ∧ v ≤ 9999) from fun h => h2 h.2)] at hr
      subst hr
      go_enter Tryd.func20, Tryd.ntmps20
      go_wp2
      go_ret
      exact ⟨rfl, rfl⟩
  · have d : decide (0 ≤ v) = false := decide_eq_false h1
    rw [decide_eq_false (show ¬ (0 ≤ v ∧ v ≤ 9999) from fun h => h1 h.1)] at hr
    subst hr
    go_enter Tryd.func20, Tryd.ntmps20
    go_wp2
    go_ret
    exact ⟨rfl, rfl⟩
theorem nodeOk_and (i d m v : Int) : decide (NodeOk i d m v) = (decide (0 ≤ i ∧ i ≤ 9999) && decide (0 ≤ m ∧ m ≤ 9999) && decide (0 ≤ v ∧ v ≤ 9999) && decide (1 ≤ d ∧ d ≤ 20)) := by
  by_cases h : NodeOk i d m v
  · rw [decide_eq_true h]
    obtain ⟨h1, h2, h3, h4⟩ := h
    rw [decide_eq_true h1, decide_eq_true h2, decide_eq_true h3, decide_eq_true h4]
    rfl
  · rw [decide_eq_false h]
    cases hb : (decide (0 ≤ i ∧ i ≤ 9999) && decide (0 ≤ m ∧ m ≤ 9999) && decide (0 ≤ v ∧ v ≤ 9999) && decide (1 ≤ d ∧ d ≤ 20))
    · rfl
    · rw [Bool.and_eq_true, Bool.and_eq_true, Bool.and_eq_true, decide_eq_true_eq, decide_eq_true_eq, decide_eq_true_eq, decide_eq_true_eq] at hb
      exact absurd ⟨hb.1.1.1, hb.2, hb.1.1.2, hb.1.2⟩ h
set_option maxHeartbeats 1000000 in
theorem l16Node_is (i d m v : Int) (r : Bool) (hr : decide (NodeOk i d m v) = r) (w : World) :
    Calls Tryd.prog 10 #[.agg #[.int .i64 i, .int .i64 d, .int .i64 m, .int .i64 v]] w fun e w' => e = .returned (.bool r) ∧ Below w.heap.size w w' := by
  obtain ⟨bi, hi⟩ : ∃ b, decide (0 ≤ i ∧ i ≤ 9999) = b := ⟨_, rfl⟩
  obtain ⟨bm, hm⟩ : ∃ b, decide (0 ≤ m ∧ m ≤ 9999) = b := ⟨_, rfl⟩
  obtain ⟨bv, hv⟩ : ∃ b, decide (0 ≤ v ∧ v ≤ 9999) = b := ⟨_, rfl⟩
  obtain ⟨bd, hd⟩ : ∃ b, decide (1 ≤ d ∧ d ≤ 20) = b := ⟨_, rfl⟩
  rw [nodeOk_and, hi, hm, hv, hd] at hr
  have HI : Hid (∀ w, Calls Tryd.prog 18 #[.int .i64 i, .int .i64 0, .int .i64 9999] w fun e w' => e = .returned (.bool bi) ∧ w' = w) := fun w => nodeIn_is _ _ _ _ hi w
  have HM : Hid (∀ w, Calls Tryd.prog 18 #[.int .i64 m, .int .i64 0, .int .i64 9999] w fun e w' => e = .returned (.bool bm) ∧ w' = w) := fun w => nodeIn_is _ _ _ _ hm w
  have HV : Hid (∀ w, Calls Tryd.prog 18 #[.int .i64 v, .int .i64 0, .int .i64 9999] w fun e w' => e = .returned (.bool bv) ∧ w' = w) := fun w => nodeIn_is _ _ _ _ hv w
  have HD : Hid (∀ w, Calls Tryd.prog 18 #[.int .i64 d, .int .i64 1, .int .i64 20] w fun e w' => e = .returned (.bool bd) ∧ w' = w) := fun w => nodeIn_is _ _ _ _ hd w
  subst hr
  clear hi hm hv hd
  go_enter Tryd.func10, Tryd.ntmps10
  go_wp2_with fail
  refine (HI.out _).mono ?_
  rintro e wq ⟨rfl, rfl⟩
  cases bi
  · go_wp2
    go_ret
    exact ⟨rfl, below_alloc _ _⟩
  go_wp2_with fail
  refine (HM.out _).mono ?_
  rintro e wq ⟨rfl, rfl⟩
  cases bm
  · go_wp2
    go_ret
    exact ⟨rfl, below_alloc _ _⟩
  go_wp2_with fail
  refine (HV.out _).mono ?_
  rintro e wq ⟨rfl, rfl⟩
  cases bv
  · go_wp2
    go_ret
    exact ⟨rfl, below_alloc _ _⟩
  go_wp2_with fail
  refine (HD.out _).mono ?_
  rintro e wq ⟨rfl, rfl⟩
  go_wp2
  go_ret
  exact ⟨rfl, below_alloc _ _⟩
set_option maxHeartbeats 1000000 in
theorem nodeFits_is (i d m v : Int) (r : Bool) (hr : decide (NodeOk i d m v) = r) (w : World) :
    Calls Tryd.prog 13 #[.agg #[.int .i64 i, .int .i64 d, .int .i64 m, .int .i64 v]] w fun e w' => e = .returned (.bool r) ∧ Below w.heap.size w w' := by
  obtain ⟨bi, hi⟩ : ∃ b, decide (0 ≤ i ∧ i ≤ 9999) = b := ⟨_, rfl⟩
  obtain ⟨bm, hm⟩ : ∃ b, decide (0 ≤ m ∧ m ≤ 9999) = b := ⟨_, rfl⟩
  obtain ⟨bv, hv⟩ : ∃ b, decide (0 ≤ v ∧ v ≤ 9999) = b := ⟨_, rfl⟩
  have HI : Hid (∀ w, Calls Tryd.prog 20 #[.int .i64 i] w fun e w' => e = .returned (.bool bi) ∧ w' = w) := fun w => nodeVal_is _ _ hi w
  have HM : Hid (∀ w, Calls Tryd.prog 20 #[.int .i64 m] w fun e w' => e = .returned (.bool bm) ∧ w' = w) := fun w => nodeVal_is _ _ hm w
  have HV : Hid (∀ w, Calls Tryd.prog 20 #[.int .i64 v] w fun e w' => e = .returned (.bool bv) ∧ w' = w) := fun w => nodeVal_is _ _ hv w
  rw [nodeOk_and, hi, hm, hv] at hr
  clear hi hm hv
  by_cases h1 : 1 ≤ d
  case neg =>
    rw [decide_eq_false (show ¬ (1 ≤ d ∧ d ≤ 20) from fun h => h1 h.1), Bool.and_false] at hr
    subst hr
    have dd : decide (1 ≤ d) = false := decide_eq_false h1
    go_enter Tryd.func13, Tryd.ntmps13
    go_wp2
    go_ret
    exact ⟨rfl, below_alloc _ _⟩
  by_cases h2 : d ≤ 20
  case neg =>
    rw [decide_eq_false (show ¬ (1 ≤ d ∧ d ≤ 20) from fun h => h2 h.2), Bool.and_false] at hr
    subst hr
    have dd : decide (d ≤ 20) = false := decide_eq_false h2
    go_enter Tryd.func13, Tryd.ntmps13
    go_wp2
    go_ret
    exact ⟨rfl, below_alloc _ _⟩
  rw [decide_eq_true (show 1 ≤ d ∧ d ≤ 20 from ⟨h1, h2⟩), Bool.and_true] at hr
  subst hr
  go_enter Tryd.func13, Tryd.ntmps13
  go_wp2_with fail
  refine (HI.out _).mono ?_
  rintro e wq ⟨rfl, rfl⟩
  cases bi
  · go_wp2
    go_ret
    exact ⟨rfl, below_alloc _ _⟩
  go_wp2_with fail
  refine (HM.out _).mono ?_
  rintro e wq ⟨rfl, rfl⟩
  cases bm
  · go_wp2
    go_ret
    exact ⟨rfl, below_alloc _ _⟩
  go_wp2_with fail
  refine (HV.out _).mono ?_
  rintro e wq ⟨rfl, rfl⟩
  go_wp2
  go_ret
  exact ⟨rfl, below_alloc _ _⟩
end Go.Proofs.YtaakpbmddfnchaaDoor

namespace Go.Proofs.YtaakpbmddfnchaaDoor
open Go.RowKit

theorem lineT_size {i d m v : Nat} (hi : i ≤ 9999) (hd : d ≤ 20) (hm : m ≤ 9999) (hv : v ≤ 9999) : (lineT i d m v).size ≤ 60 := by
  have h1 := decT_size 3 i (by omega)
  have h2 := decT_size 3 m (by omega)
  have h3 := decT_size 3 v (by omega)
  unfold lineT
  simp only [ByteArray.size_append, indT_size]
  show (d - 1) * 2 + _ + 2 + _ + 1 + _ + 1 ≤ 60
  omega
/-- Every one of the first n nodes may be told. -/
def AllOk (F : Nat → Int) (n : Nat) : Prop := ∀ k, k < n → NodeOk (F (k * 4)) (F (k * 4 + 1)) (F (k * 4 + 2)) (F (k * 4 + 3))
theorem textT_size {F : Nat → Int} : ∀ {n : Nat}, AllOk F n → (textT F n).size ≤ 60 * n
  | 0, _ => Nat.zero_le _
  | n + 1, h => by
    rw [textT, ByteArray.size_append]
    have h0 := textT_size (n := n) (fun k hk => h k (by omega))
    obtain ⟨h1, h2, h3, h4⟩ := h n (by omega)
    have := lineT_size (i := (F (n * 4)).toNat) (d := (F (n * 4 + 1)).toNat) (m := (F (n * 4 + 2)).toNat) (v := (F (n * 4 + 3)).toNat) (by omega) (by omega) (by omega) (by omega)
    omega
/-- What the region that writes a line stands on: the node's cells. -/
def Node4 (g o : Nat) (i d m v : Int) (x : World) : Prop := x.cell? ⟨g, o, none⟩ = some (.int .i64 i) ∧ x.cell? ⟨g, o + 1, none⟩ = some (.int .i64 d) ∧ x.cell? ⟨g, o + 2, none⟩ = some (.int .i64 m) ∧ x.cell? ⟨g, o + 3, none⟩ = some (.int .i64 v)
theorem Node4.later {g o : Nat} {i d m v : Int} {x x' : World} (h : Node4 g o i d m v x) (hb : Below x.heap.size x x') : Node4 g o i d m v x' := by
  obtain ⟨h0, h1, h2, h3⟩ := h
  have hg := World.block_lt_of_cell? x _ h0
  exact ⟨(hb.cell (p := ⟨g, o, none⟩) hg).trans h0, (hb.cell (p := ⟨g, o + 1, none⟩) hg).trans h1, (hb.cell (p := ⟨g, o + 2, none⟩) hg).trans h2, (hb.cell (p := ⟨g, o + 3, none⟩) hg).trans h3⟩
set_option maxRecDepth 100000 in
set_option maxHeartbeats 4000000 in
theorem l16Tree_is (ao : Option Addr) (n cp B : Nat) (F : Nat → Int) (w : World) (h : Row w B 4 n F (.slice ao n cp)) (hn : n ≤ 60) (hF : AllOk F n) :
    Calls Tryd.prog 11 #[.slice ao n cp] w fun e w' => e = .returned (.string (textT F n)) ∧ Below w.heap.size w w' := by
  have H : Hid (Row w B 4 n F (.slice ao n cp)) := h
  have HF : Hid (AllOk F n) := hF
  clear h hF
  go_enter Tryd.func11, Tryd.ntmps11
  go_wp2
  go_loopw [3, 4] (fun out i wr => ∃ (k : Nat) (O : ByteArray), k ≤ n ∧ i = .int .i64 k ∧ out = .string O ∧ O.size ≤ 60 * k ∧ Hid (O = textT F k ∧ Below w.heap.size w wr)) (fun _ i _ => n - (intOf i).toNat)
  case atStart => exact ⟨0, _, Nat.zero_le _, rfl, rfl, Nat.le_refl _, rfl, Below.refl _ _⟩
  case round =>
    obtain ⟨k, O, hk, rfl, rfl, hO, HR⟩ := hrel
    by_cases hlt : k < n
    case neg =>
      go_wp2
      go_ret
      exact ⟨by rw [HR.out.1, show k = n by omega]; rfl, HR.out.2⟩
    obtain ⟨g, o, rfl, _, hg, x0, x1, x2, x3⟩ := (H.out.later HR.out.2).at4 hlt
    have hok := HF.out k hlt
    obtain ⟨zi, zd, zm, zv⟩ := hok
    have HL : Hid (∃ i d m v : Nat, F (k * 4) = i ∧ F (k * 4 + 1) = d ∧ F (k * 4 + 2) = m ∧ F (k * 4 + 3) = v ∧ i ≤ 9999 ∧ 1 ≤ d ∧ d ≤ 20 ∧ m ≤ 9999 ∧ v ≤ 9999 ∧ O ++ lineT i d m v = textT F (k + 1)) := by
      refine ⟨(F (k * 4)).toNat, (F (k * 4 + 1)).toNat, (F (k * 4 + 2)).toNat, (F (k * 4 + 3)).toNat, by omega, by omega, by omega, by omega, by omega, by omega, by omega, by omega, by omega, ?_⟩
      rw [textT, HR.out.1]
    obtain ⟨i, d, m, v, e0, e1, e2, e3, hi, hd1, hd2, hm, hv, hT⟩ := HL.out
    rw [e0] at x0
    rw [e1] at x1
    rw [e2] at x2
    rw [e3] at x3
    have HT : Hid (O ++ lineT i d m v = textT F (k + 1)) := hT
    have HI : Hid (∀ w, Calls Tryd.prog 19 #[.int .i64 (i : Nat)] w fun e w' => e = .returned (.string (decT i)) ∧ Below w.heap.size w w') := fun w => l1Digits_nat i w (by omega)
    have HM : Hid (∀ w, Calls Tryd.prog 19 #[.int .i64 (m : Nat)] w fun e w' => e = .returned (.string (decT m)) ∧ Below w.heap.size w w') := fun w => l1Digits_nat m w (by omega)
    have HV : Hid (∀ w, Calls Tryd.prog 19 #[.int .i64 (v : Nat)] w fun e w' => e = .returned (.string (decT v)) ∧ Below w.heap.size w w') := fun w => l1Digits_nat v w (by omega)
    have HX : Hid (Node4 g (o + k * 4) i d m v wr) := ⟨x0, x1, x2, x3⟩
    have HBw : Hid (Below w.heap.size w wr) := HR.out.2
    clear HL hT e0 e1 e2 e3 zi zd zm zv x0 x2 x3 HR
    go_wp2_with fail
    go_loopw [3, 5] (fun out j wx => ∃ (c : Nat) (P : ByteArray), 1 ≤ c ∧ c ≤ d ∧ j = .int .i64 c ∧ out = .string P ∧ P.size ≤ O.size + 2 * c ∧ wx = wr ∧ Hid (P = O ++ indT (c - 1))) (fun _ j _ => d - (intOf j).toNat)
    case atStart => exact ⟨1, _, Nat.le_refl _, hd1, rfl, rfl, by omega, rfl, by
      unfold Hid
      apply ByteArray.ext
      simp [indT_zero]⟩
    case round =>
      obtain ⟨c, P, hc1, hcd, rfl, rfl, hP, rfl, HP⟩ := hrel
      have hkn : (k : Int) < (n : Int) := by omega
      by_cases hcl : c < d
      case pos =>
        have ka := fun w => run_string_add_sum (P := Tryd.prog) w P ⟨#[32, 32]⟩ (by show _ + 2 ≤ _; omega)
        have HN : Hid (P ++ ⟨#[32, 32]⟩ = O ++ indT (c + 1 - 1)) := by
          unfold Hid
          rw [HP.out, show c + 1 - 1 = (c - 1) + 1 by omega, indT_succ, appB]
        go_wp2
        go_roundw
        case rel => exact ⟨c + 1, _, by omega, by omega, by go_num, rfl, by rw [ByteArray.size_append]; show _ + 2 ≤ _; omega, trivial, HN⟩
        case measure => simp [intOf]; omega
      have hce : c = d := by omega
      have hPs : P.size ≤ 60 * k + 40 := by omega
      have hs1 := decT_size 3 i (by omega)
      have hs2 := decT_size 3 m (by omega)
      have hs3 := decT_size 3 v (by omega)
      have HQ : Hid (P ++ decT m ++ ⟨#[58, 32]⟩ ++ decT i ++ ⟨#[32]⟩ ++ decT v ++ ⟨#[10]⟩ = textT F (k + 1) ∧ (textT F (k + 1)).size ≤ 60 * (k + 1)) := ⟨by rw [← HT.out, HP.out, lineT_on, hce], textT_size (fun j hj => HF.out j (by omega))⟩
      generalize decT i = di at *
      generalize decT m = dm at *
      generalize decT v = dv at *
      have k1 := fun w => run_string_add_sum (P := Tryd.prog) w P dm (by omega)
      have k2 := fun w => run_string_add_sum (P := Tryd.prog) w (P ++ dm) ⟨#[58, 32]⟩ (by rw [ByteArray.size_append]; show _ + 2 ≤ _; omega)
      have k3 := fun w => run_string_add_sum (P := Tryd.prog) w (P ++ dm ++ ⟨#[58, 32]⟩) di (by rw [ByteArray.size_append, ByteArray.size_append]; show _ + 2 + _ ≤ _; omega)
      have k4 := fun w => run_string_add_sum (P := Tryd.prog) w (P ++ dm ++ ⟨#[58, 32]⟩ ++ di) ⟨#[32]⟩ (by rw [ByteArray.size_append, ByteArray.size_append, ByteArray.size_append]; show _ + 2 + _ + 1 ≤ _; omega)
      have k5 := fun w => run_string_add_sum (P := Tryd.prog) w (P ++ dm ++ ⟨#[58, 32]⟩ ++ di ++ ⟨#[32]⟩) dv (by rw [ByteArray.size_append, ByteArray.size_append, ByteArray.size_append, ByteArray.size_append]; show _ + 2 + _ + 1 + _ ≤ _; omega)
      have k6 := fun w => run_string_add_sum (P := Tryd.prog) w (P ++ dm ++ ⟨#[58, 32]⟩ ++ di ++ ⟨#[32]⟩ ++ dv) ⟨#[10]⟩ (by rw [ByteArray.size_append, ByteArray.size_append, ByteArray.size_append, ByteArray.size_append, ByteArray.size_append]; show _ + 2 + _ + 1 + _ + 1 ≤ _; omega)
      clear hce hs1 hs2 hs3 HP HT hP hO hPs
      go_wp2_with fail
      refine wp_region_held_drew (S := Node4 g (o + k * 4) i d m v) (by kernel_rfl) HX.out (fun hS => ?_)
      have HB0 : Hid (Below w.heap.size w wr.drew) := HBw.out.drew
      generalize wr.drew = wa at *
      refine tkH 0 ?_ hS (fun wx hx => ?_) ?_; rotate_left
      · obtain ⟨hx0, hx1, hx2, hx3⟩ := hx; go_simp; try with_reducible rfl
      refine tkH 1 ?_ hS (fun wx hx => ?_) ?_; rotate_left
      · obtain ⟨hx0, hx1, hx2, hx3⟩ := hx; go_simp; try with_reducible rfl
      refine tkH 2 ?_ hS (fun wx hx => ?_) ?_; rotate_left
      · obtain ⟨hx0, hx1, hx2, hx3⟩ := hx; go_simp; try with_reducible rfl
      refine tkH 3 ?_ hS (fun wx hx => ?_) ?_; rotate_left
      · obtain ⟨hx0, hx1, hx2, hx3⟩ := hx; go_simp; try with_reducible rfl
      refine tkH 4 ?_ hS (fun wx hx => ?_) ?_; rotate_left
      · obtain ⟨hx0, hx1, hx2, hx3⟩ := hx; go_simp; try with_reducible rfl
      refine tkH 5 ?_ hS (fun wx hx => ?_) ?_; rotate_left
      · obtain ⟨hx0, hx1, hx2, hx3⟩ := hx; go_simp; try with_reducible rfl
      refine tkH 9 ?_ hS (fun wx hx => ?_) ?_; rotate_left
      · obtain ⟨hx0, hx1, hx2, hx3⟩ := hx; go_simp; try with_reducible rfl
      refine tkH 10 ?_ hS (fun wx hx => ?_) ?_; rotate_left
      · obtain ⟨hx0, hx1, hx2, hx3⟩ := hx; go_simp; try with_reducible rfl
      refine tkH 11 ?_ hS (fun wx hx => ?_) ?_; rotate_left
      · obtain ⟨hx0, hx1, hx2, hx3⟩ := hx; go_simp; try with_reducible rfl
      refine tkH 12 ?_ hS (fun wx hx => ?_) ?_; rotate_left
      · obtain ⟨hx0, hx1, hx2, hx3⟩ := hx; go_simp; try with_reducible rfl
      refine tkH 13 ?_ hS (fun wx hx => ?_) ?_; rotate_left
      · obtain ⟨hx0, hx1, hx2, hx3⟩ := hx; go_simp; try with_reducible rfl
      refine tkH 17 ?_ hS (fun wx hx => ?_) ?_; rotate_left
      · obtain ⟨hx0, hx1, hx2, hx3⟩ := hx; go_simp; try with_reducible rfl
      refine tkH 18 ?_ hS (fun wx hx => ?_) ?_; rotate_left
      · obtain ⟨hx0, hx1, hx2, hx3⟩ := hx; go_simp; try with_reducible rfl
      refine tkH 19 ?_ hS (fun wx hx => ?_) ?_; rotate_left
      · obtain ⟨hx0, hx1, hx2, hx3⟩ := hx; go_simp; try with_reducible rfl
      refine tkH 20 ?_ hS (fun wx hx => ?_) ?_; rotate_left
      · obtain ⟨hx0, hx1, hx2, hx3⟩ := hx; go_simp; try with_reducible rfl
      refine tkH 21 ?_ hS (fun wx hx => ?_) ?_; rotate_left
      · obtain ⟨hx0, hx1, hx2, hx3⟩ := hx; go_simp; try with_reducible rfl
      refine rdH 6 (fun K hK => ?_)
      go_simp
      go_wp2_with fail
      refine (HM.out _).mono ?_
      rintro e wn ⟨rfl, qn⟩
      have hS' := hS.later qn
      have HBn : Hid (Below w.heap.size w wn) := HB0.out.trans (qn.mono HB0.out.size)
      clear qn hS HB0
      have HB0 := HBn
      clear HBn
      go_wp2_with fail
      refine hK.out _ _ hS' (fun hS => ?_)
      clear hK K hS'
      refine tkH 7 ?_ hS (fun wx hx => ?_) ?_; rotate_left
      · obtain ⟨hx0, hx1, hx2, hx3⟩ := hx; go_simp; try with_reducible rfl
      refine tkH 8 ?_ hS (fun wx hx => ?_) ?_; rotate_left
      · obtain ⟨hx0, hx1, hx2, hx3⟩ := hx; go_simp; try with_reducible rfl
      refine rdH 14 (fun K hK => ?_)
      go_simp
      go_wp2_with fail
      refine (HI.out _).mono ?_
      rintro e wn ⟨rfl, qn⟩
      have hS' := hS.later qn
      have HBn : Hid (Below w.heap.size w wn) := HB0.out.trans (qn.mono HB0.out.size)
      clear qn hS HB0
      have HB0 := HBn
      clear HBn
      go_wp2_with fail
      refine hK.out _ _ hS' (fun hS => ?_)
      clear hK K hS'
      refine tkH 15 ?_ hS (fun wx hx => ?_) ?_; rotate_left
      · obtain ⟨hx0, hx1, hx2, hx3⟩ := hx; go_simp; try with_reducible rfl
      refine tkH 16 ?_ hS (fun wx hx => ?_) ?_; rotate_left
      · obtain ⟨hx0, hx1, hx2, hx3⟩ := hx; go_simp; try with_reducible rfl
      refine rdH 22 (fun K hK => ?_)
      go_simp
      go_wp2_with fail
      refine (HV.out _).mono ?_
      rintro e wn ⟨rfl, qn⟩
      have hS' := hS.later qn
      have HBn : Hid (Below w.heap.size w wn) := HB0.out.trans (qn.mono HB0.out.size)
      clear qn hS HB0
      have HB0 := HBn
      clear HBn
      go_wp2_with fail
      refine hK.out _ _ hS' (fun hS => ?_)
      clear hK K hS'
      refine tkH 23 ?_ hS (fun wx hx => ?_) ?_; rotate_left
      · obtain ⟨hx0, hx1, hx2, hx3⟩ := hx; go_simp; try with_reducible rfl
      refine tkH 24 ?_ hS (fun wx hx => ?_) ?_; rotate_left
      · obtain ⟨hx0, hx1, hx2, hx3⟩ := hx; go_simp; try with_reducible rfl
      refine tkH 25 ?_ hS (fun wx hx => ?_) ?_; rotate_left
      · obtain ⟨hx0, hx1, hx2, hx3⟩ := hx; go_simp; try with_reducible rfl
      refine wpAnyH_done (by kernel_rfl) ?_ _
      clear hS
      go_simp
      go_wp2
      go_roundw
      case rel => exact ⟨k + 1, _, by omega, by go_num, rfl, by rw [HQ.out.1]; exact HQ.out.2, HQ.out.1, HB0.out⟩
      case measure => simp [intOf]; omega
instance (F : Nat → Int) (n : Nat) : Decidable (AllOk F n) := by unfold AllOk; exact Nat.decidableBallLT n _
/-- What both answer of n nodes: the code and the text. -/
def treeC (F : Nat → Int) (n : Nat) : Int := if 60 < n then 2 else if AllOk F n then 0 else 3
def treeX (F : Nat → Int) (n : Nat) : ByteArray := if 60 < n then ⟨#[]⟩ else if AllOk F n then textT F n else ⟨#[]⟩
theorem allOk_no {F : Nat → Int} {n : Nat} (h : ¬ AllOk F n) : ∃ k, k < n ∧ (∀ j, j < k → NodeOk (F (j * 4)) (F (j * 4 + 1)) (F (j * 4 + 2)) (F (j * 4 + 3))) ∧ ¬ NodeOk (F (k * 4)) (F (k * 4 + 1)) (F (k * 4 + 2)) (F (k * 4 + 3)) := by
  induction n with
  | zero => exact absurd (fun k hk => absurd hk (Nat.not_lt_zero _)) h
  | succ n ih =>
    by_cases h1 : AllOk F n
    · refine ⟨n, by omega, h1, fun h2 => h fun k hk => ?_⟩
      by_cases e : k < n
      · exact h1 k e
      · rw [show k = n by omega]; exact h2
    · obtain ⟨k, hk, q⟩ := ih h1
      exact ⟨k, by omega, q⟩
set_option maxHeartbeats 4000000 in
theorem specTreeText_is (ao : Option Addr) (n cp B : Nat) (F : Nat → Int) (w : World) (h : Row w B 4 n F (.slice ao n cp)) (hmax : n ≤ 1048576) :
    Calls Tryd.prog 5 #[.slice ao n cp] w fun e w' => e = .returned (.agg #[.int .i64 (treeC F n), .string (treeX F n)]) ∧ Below w.heap.size w w' := by
  have H : Hid (Row w B 4 n F (.slice ao n cp)) := h
  have k0 := Blk2.new w (.int .i64 0) (.string ⟨#[]⟩) 25
  have K : Hid (Blk2 (w.alloc (.cells #[.int .i64 0, .string ⟨#[]⟩] 25)) w.heap.size (.int .i64 0) (.string ⟨#[]⟩)) := k0
  clear h
  by_cases h60 : 60 < n
  · have E : Hid (treeC F n = 2 ∧ treeX F n = ⟨#[]⟩) := ⟨if_pos h60, if_pos h60⟩
    rw [E.out.1, E.out.2]
    clear E K k0
    have hb : (60 : Int) < (n : Int) := by omega
    go_enter Tryd.func5, Tryd.ntmps5
    go_wp2
    refine bodyPost_ret (v := .agg #[.int .i64 2, .string ⟨#[]⟩]) (by simp [results, Tryd.results5, go_sem]) rfl ?_
    exact ⟨rfl, below_alloc _ _⟩
  by_cases hok : AllOk F n
  · have E : Hid (treeC F n = 0 ∧ treeX F n = textT F n) := by
      unfold treeC treeX
      rw [if_neg h60, if_neg h60, if_pos hok, if_pos hok]
      exact ⟨rfl, rfl⟩
    have HT : Hid (∀ w, Row w B 4 n F (.slice ao n cp) → Calls Tryd.prog 11 #[.slice ao n cp] w fun e w' => e = .returned (.string (textT F n)) ∧ Below w.heap.size w w') := fun w hw => l16Tree_is ao n cp B F w hw (by omega) hok
    have HN : Hid (∀ k, k < n → ∀ w, Calls Tryd.prog 10 #[.agg #[.int .i64 (F (k * 4)), .int .i64 (F (k * 4 + 1)), .int .i64 (F (k * 4 + 2)), .int .i64 (F (k * 4 + 3))]] w fun e w' => e = .returned (.bool true) ∧ Below w.heap.size w w') := fun k hk w => l16Node_is _ _ _ _ _ (decide_eq_true (hok k hk)) w
    rw [E.out.1, E.out.2]
    clear E hok k0
    generalize textT F n = TX at *
    go_enter Tryd.func5, Tryd.ntmps5
    go_wp2
    go_loopw [3] (fun i wr => ∃ k : Nat, k ≤ n ∧ i = .int .i64 k ∧ Hid (Below w.heap.size w wr ∧ Row wr B 4 n F (.slice ao n cp) ∧ Blk2 wr w.heap.size (.int .i64 0) (.string ⟨#[]⟩))) (fun i _ => n - (intOf i).toNat)
    case atStart => exact ⟨0, Nat.zero_le _, rfl, below_alloc _ _, H.out.alloc _, K.out⟩
    case round =>
      obtain ⟨k, hk, rfl, HR⟩ := hrel
      by_cases hlt : k < n
      · obtain ⟨g, o, rfl, _, hg, x0, x1, x2, x3⟩ := HR.out.2.1.at4 hlt
        have hc := HN.out k hlt
        generalize F (k * 4) = f0 at hc x0
        generalize F (k * 4 + 1) = f1 at hc x1
        generalize F (k * 4 + 2) = f2 at hc x2
        generalize F (k * 4 + 3) = f3 at hc x3
        have HC : Hid (∀ w, Calls Tryd.prog 10 #[.agg #[.int .i64 f0, .int .i64 f1, .int .i64 f2, .int .i64 f3]] w fun e w' => e = .returned (.bool true) ∧ Below w.heap.size w w') := hc
        clear hc
        go_wp2_with fail
        refine (HC.out _).mono ?_
        rintro e w1 ⟨rfl, q1⟩
        have HR1 : Hid (Below w.heap.size w w1 ∧ Row w1 B 4 n F (.slice (some ⟨g, o, none⟩) n cp) ∧ Blk2 w1 w.heap.size (.int .i64 0) (.string ⟨#[]⟩)) := ⟨HR.out.1.trans (q1.mono HR.out.1.size), HR.out.2.1.later q1, HR.out.2.2.later q1⟩
        clear q1 HC HR
        go_wp2
        go_roundw
        case rel => exact ⟨k + 1, by omega, by go_num, HR1.out⟩
        case measure => simp [intOf]; omega
      · go_wp2_with fail
        refine (HT.out _ HR.out.2.1).mono ?_
        rintro e w1 ⟨rfl, q1⟩
        obtain ⟨⟨b0, b1⟩, y0, y1⟩ := HR.out.2.2.later q1
        have HB : Hid (Below w.heap.size w w1) := HR.out.1.trans (q1.mono HR.out.1.size)
        clear q1 HR HT HN
        go_wp2
        refine bodyPost_ret (v := .agg #[.int .i64 0, .string TX]) (by simp [results, Tryd.results5, go_sem, b0, b1]) rfl ?_
        exact ⟨rfl, (HB.out.setCell (Nat.le_refl _) _).setCell (Nat.le_refl _) _⟩
  · have E : Hid (treeC F n = 3 ∧ treeX F n = ⟨#[]⟩) := by
      unfold treeC treeX
      rw [if_neg h60, if_neg h60, if_neg hok, if_neg hok]
      exact ⟨rfl, rfl⟩
    obtain ⟨q, hq, hbef, hbad⟩ := allOk_no hok
    have HN : Hid (∀ k, k ≤ q → ∀ w, Calls Tryd.prog 10 #[.agg #[.int .i64 (F (k * 4)), .int .i64 (F (k * 4 + 1)), .int .i64 (F (k * 4 + 2)), .int .i64 (F (k * 4 + 3))]] w fun e w' => e = .returned (.bool (decide (k < q))) ∧ Below w.heap.size w w') := by
      intro k hk w
      refine l16Node_is _ _ _ _ _ ?_ w
      by_cases e : k < q
      · rw [decide_eq_true e]; exact decide_eq_true (hbef k e)
      · rw [decide_eq_false e, show k = q by omega]; exact decide_eq_false hbad
    rw [E.out.1, E.out.2]
    clear E hok k0 hbef hbad
    go_enter Tryd.func5, Tryd.ntmps5
    go_wp2
    go_loopw [3] (fun i wr => ∃ k : Nat, k ≤ q ∧ i = .int .i64 k ∧ Hid (Below w.heap.size w wr ∧ Row wr B 4 n F (.slice ao n cp) ∧ Blk2 wr w.heap.size (.int .i64 0) (.string ⟨#[]⟩))) (fun i _ => n - (intOf i).toNat)
    case atStart => exact ⟨0, Nat.zero_le _, rfl, below_alloc _ _, H.out.alloc _, K.out⟩
    case round =>
      obtain ⟨k, hk, rfl, HR⟩ := hrel
      have hkn : k < n := by omega
      obtain ⟨g, o, rfl, _, hg, x0, x1, x2, x3⟩ := HR.out.2.1.at4 hkn
      have hc := HN.out k hk
      generalize F (k * 4) = f0 at hc x0
      generalize F (k * 4 + 1) = f1 at hc x1
      generalize F (k * 4 + 2) = f2 at hc x2
      generalize F (k * 4 + 3) = f3 at hc x3
      by_cases hlt : k < q
      · rw [decide_eq_true hlt] at hc
        have HC : Hid (∀ w, Calls Tryd.prog 10 #[.agg #[.int .i64 f0, .int .i64 f1, .int .i64 f2, .int .i64 f3]] w fun e w' => e = .returned (.bool true) ∧ Below w.heap.size w w') := hc
        clear hc
        go_wp2_with fail
        refine (HC.out _).mono ?_
        rintro e w1 ⟨rfl, q1⟩
        have HR1 : Hid (Below w.heap.size w w1 ∧ Row w1 B 4 n F (.slice (some ⟨g, o, none⟩) n cp) ∧ Blk2 w1 w.heap.size (.int .i64 0) (.string ⟨#[]⟩)) := ⟨HR.out.1.trans (q1.mono HR.out.1.size), HR.out.2.1.later q1, HR.out.2.2.later q1⟩
        clear q1 HC HR
        go_wp2
        go_roundw
        case rel => exact ⟨k + 1, by omega, by go_num, HR1.out⟩
        case measure => simp [intOf]; omega
      · rw [decide_eq_false hlt] at hc
        have HC : Hid (∀ w, Calls Tryd.prog 10 #[.agg #[.int .i64 f0, .int .i64 f1, .int .i64 f2, .int .i64 f3]] w fun e w' => e = .returned (.bool false) ∧ Below w.heap.size w w') := hc
        clear hc
        go_wp2_with fail
        refine (HC.out _).mono ?_
        rintro e w1 ⟨rfl, q1⟩
        obtain ⟨⟨b0, b1⟩, y0, y1⟩ := HR.out.2.2.later q1
        have HB : Hid (Below w.heap.size w w1) := HR.out.1.trans (q1.mono HR.out.1.size)
        clear q1 HR HN HC
        go_wp2
        refine bodyPost_ret (v := .agg #[.int .i64 3, .string ⟨#[]⟩]) (by simp [results, Tryd.results5, go_sem, b0, b1]) rfl ?_
        exact ⟨rfl, (HB.out.setCell (Nat.le_refl _) _).setCell (Nat.le_refl _) _⟩
end Go.Proofs.YtaakpbmddfnchaaDoor

namespace Go.Proofs.YtaakpbmddfnchaaDoor
open Go.RowKit Go.Shelf

theorem extraR : Builder.Extra Tryd.prog Tryd.laysRepeat_ren where
  sizeBuilder := by kernel_rfl
  liesBuilder := by kernel_rfl
  t5 := Tryd.underlying5
  a5 := Tryd.isAgg5
  z5 := Tryd.sizeOf5
  v5 := Tryd.zeroValue5
  infoByte := by kernel_rfl
  cellsByte := by kernel_rfl
  sizeByte := by kernel_rfl
  neB5 := by decide
theorem repeat_is (c : Nat) (w : World) (hc : c ≤ 20) :
    Calls Tryd.prog 22 #[.string ⟨#[32, 32]⟩, .int .i64 c] w fun e w' => e = .returned (.string (indT c)) ∧ Below w.heap.size w w' :=
  Any.strings_Repeat Tryd.laysRepeat extraR ⟨#[32, 32]⟩ c w (by omega) (by show 2 * c ≤ _; omega)
/-- A builder of the call's own that holds the bytes of s. -/
def Bld (B b : Nat) (s : ByteArray) (w : World) : Prop := Lib.IsBuilder 41 5 B b (Lib.byteCells s.data.toList) w
theorem Bld.new (w : World) (B : Nat) (hB : B ≤ w.heap.size) : Bld B w.heap.size ⟨#[]⟩ (w.alloc (.cells #[.pointer none, .slice none 0 0] 41)) :=
  Or.inl ⟨hB, .slice none 0 0, heap_alloc_new w _, World.ownsRow_nil _ _ _ 1, by simp [Value.ownBlock]⟩
theorem row_laterC {w w' : World} {B : Nat} {e : TypeId} {m : Nat} {v : Value} {n : Nat} {xs : List Value} (h : w.ownsRow B e m v n xs) (hb : Below w.heap.size w w') : w'.ownsRow B e m v n xs := by
  obtain ⟨h1, h2⟩ := h
  refine ⟨h1, ?_⟩
  rcases h2 with h2 | ⟨g, cap, cur, hv, hg, hh, r⟩
  · exact Or.inl h2
  · have hlt : g < w.heap.size := by
      rcases Nat.lt_or_ge g w.heap.size with h | h
      · exact h
      · rw [Array.getElem?_eq_none h] at hh; cases hh
    exact Or.inr ⟨g, cap, cur, hv, hg, (hb.block g hlt).trans hh, r⟩
theorem bldAt_later {B b : Nat} {p : Value} {bs : List Value} {w w' : World} (h : Lib.BuilderAt 41 5 B b p bs w) (hb : Below w.heap.size w w') : Lib.BuilderAt 41 5 B b p bs w' := by
  have hlt := h.lt
  obtain ⟨h1, v, h2, h3, h4⟩ := h
  exact ⟨h1, v, (hb.block b hlt).trans h2, row_laterC h3 hb, h4⟩
theorem Bld.later {B b : Nat} {s : ByteArray} {w w' : World} (h : Bld B b s w) (hb : Below w.heap.size w w') : Bld B b s w' :=
  h.elim (fun h => Or.inl (bldAt_later h hb)) (fun h => Or.inr (bldAt_later h hb))
theorem writeString_is (B b : Nat) (s x : ByteArray) (w : World) (h : Bld B b s w) (hs : s.size ≤ 10000) (hx : x.size ≤ 10000) (hB : B ≤ w.heap.size) :
    Calls Tryd.prog 14 #[.pointer (some ⟨b, 0, none⟩), .string x] w fun e w' => e = .returned (.tuple #[.int .i64 x.size, .nilIface]) ∧ Bld B b (s ++ x) w' ∧ Below B w w' := by
  have hl : (Lib.byteCells s.data.toList).length = s.size := by simp [Lib.byteCells]
  refine (Any.Builder_WriteString { Tryd.laysRepeat with } extraR B b _ x w h (by rw [hl]; omega) hB).mono ?_
  rintro e w' ⟨rfl, h1, h2⟩
  refine ⟨rfl, Or.inr ?_, h2⟩
  have e1 : (s ++ x).data.toList = s.data.toList ++ x.data.toList := by simp
  rw [e1, Lib.byteCells_append, ← Lib.strCells_eq]
  exact h1
theorem builderString_is (B b : Nat) (s : ByteArray) (w : World) (h : Bld B b s w) (hB : B ≤ w.heap.size) :
    Calls Tryd.prog 16 #[.pointer (some ⟨b, 0, none⟩)] w fun e w' => e = .returned (.string s) ∧ Below B w w' :=
  Any.Builder_String_any { Tryd.laysRepeat with } extraR B b s.data.toList w h hB
/-- The cells of a node's own copy. -/
def Box4 (g : Nat) (i d m v : Int) (x : World) : Prop := x.cell? ⟨g, 0, none⟩ = some (.int .i64 i) ∧ x.cell? ⟨g, 1, none⟩ = some (.int .i64 d) ∧ x.cell? ⟨g, 2, none⟩ = some (.int .i64 m) ∧ x.cell? ⟨g, 3, none⟩ = some (.int .i64 v)
theorem Box4.later {g : Nat} {i d m v : Int} {x x' : World} (h : Box4 g i d m v x) (hb : Below x.heap.size x x') : Box4 g i d m v x' := by
  obtain ⟨h0, h1, h2, h3⟩ := h
  have hg := World.block_lt_of_cell? x _ h0
  exact ⟨(hb.cell (p := ⟨g, 0, none⟩) hg).trans h0, (hb.cell (p := ⟨g, 1, none⟩) hg).trans h1, (hb.cell (p := ⟨g, 2, none⟩) hg).trans h2, (hb.cell (p := ⟨g, 3, none⟩) hg).trans h3⟩
theorem Box4.new (w : World) (i d m v : Int) : Box4 w.heap.size i d m v (w.alloc (.cells #[.int .i64 i, .int .i64 d, .int .i64 m, .int .i64 v] 34)) :=
  ⟨World.cell?_alloc_mark w _ _ _ 0, World.cell?_alloc_mark w _ _ _ 1, World.cell?_alloc_mark w _ _ _ 2, World.cell?_alloc_mark w _ _ _ 3⟩
set_option maxRecDepth 100000 in
set_option maxHeartbeats 4000000 in
theorem nodeLine_is (i d m v : Nat) (w : World) (hP : Pow10 w) (hi : i ≤ 9999) (hd1 : 1 ≤ d) (hd2 : d ≤ 20) (hm : m ≤ 9999) (hv : v ≤ 9999) :
    Calls Tryd.prog 15 #[.agg #[.int .i64 (i : Nat), .int .i64 (d : Nat), .int .i64 (m : Nat), .int .i64 (v : Nat)]] w fun e w' => e = .returned (.string (lineT i d m v)) ∧ Below w.heap.size w w' := by
  have HPW : Hid (Pow10 w) := hP
  clear hP
  have HI : Hid (∀ w, Pow10 w → Calls Tryd.prog 23 #[.int .i64 (i : Nat)] w fun e w' => e = .returned (.string (decT i)) ∧ Below w.heap.size w w') := fun w hT => decimal_is i w hT (by omega)
  have HM : Hid (∀ w, Pow10 w → Calls Tryd.prog 23 #[.int .i64 (m : Nat)] w fun e w' => e = .returned (.string (decT m)) ∧ Below w.heap.size w w') := fun w hT => decimal_is m w hT (by omega)
  have HV : Hid (∀ w, Pow10 w → Calls Tryd.prog 23 #[.int .i64 (v : Nat)] w fun e w' => e = .returned (.string (decT v)) ∧ Below w.heap.size w w') := fun w hT => decimal_is v w hT (by omega)
  obtain ⟨c, hc⟩ : ∃ c, d = c + 1 := ⟨d - 1, by omega⟩
  subst hc
  have HR : Hid (∀ w, Calls Tryd.prog 22 #[.string ⟨#[32, 32]⟩, .int .i64 (c : Nat)] w fun e w' => e = .returned (.string (indT c)) ∧ Below w.heap.size w w') := fun w => repeat_is c w (by omega)
  have hs0 := indT_size c
  have hs1 := decT_size 3 i (by omega)
  have hs2 := decT_size 3 m (by omega)
  have hs3 := decT_size 3 v (by omega)
  have HQ : Hid (indT c ++ decT m ++ ⟨#[58, 32]⟩ ++ decT i ++ ⟨#[32]⟩ ++ decT v ++ ⟨#[10]⟩ = lineT i (c + 1) m v) := rfl
  generalize lineT i (c + 1) m v = TX at *
  generalize decT i = di at *
  generalize decT m = dm at *
  generalize decT v = dv at *
  generalize indT c = P at *
  have k1 := fun w => run_string_add_sum (P := Tryd.prog) w P dm (by omega)
  have k2 := fun w => run_string_add_sum (P := Tryd.prog) w (P ++ dm) ⟨#[58, 32]⟩ (by rw [ByteArray.size_append]; show _ + 2 ≤ _; omega)
  have k3 := fun w => run_string_add_sum (P := Tryd.prog) w (P ++ dm ++ ⟨#[58, 32]⟩) di (by rw [ByteArray.size_append, ByteArray.size_append]; show _ + 2 + _ ≤ _; omega)
  have k4 := fun w => run_string_add_sum (P := Tryd.prog) w (P ++ dm ++ ⟨#[58, 32]⟩ ++ di) ⟨#[32]⟩ (by rw [ByteArray.size_append, ByteArray.size_append, ByteArray.size_append]; show _ + 2 + _ + 1 ≤ _; omega)
  have k5 := fun w => run_string_add_sum (P := Tryd.prog) w (P ++ dm ++ ⟨#[58, 32]⟩ ++ di ++ ⟨#[32]⟩) dv (by rw [ByteArray.size_append, ByteArray.size_append, ByteArray.size_append, ByteArray.size_append]; show _ + 2 + _ + 1 + _ ≤ _; omega)
  have k6 := fun w => run_string_add_sum (P := Tryd.prog) w (P ++ dm ++ ⟨#[58, 32]⟩ ++ di ++ ⟨#[32]⟩ ++ dv) ⟨#[10]⟩ (by rw [ByteArray.size_append, ByteArray.size_append, ByteArray.size_append, ByteArray.size_append, ByteArray.size_append]; show _ + 2 + _ + 1 + _ + 1 ≤ _; omega)
  have kb := Box4.new w (i : Nat) ((c + 1 : Nat) : Int) (m : Nat) (v : Nat)
  have HK : Hid (Box4 w.heap.size (i : Nat) ((c + 1 : Nat) : Int) (m : Nat) (v : Nat) (w.alloc (.cells #[.int .i64 (i : Nat), .int .i64 ((c + 1 : Nat) : Int), .int .i64 (m : Nat), .int .i64 (v : Nat)] 34))) := kb
  obtain ⟨z0, z1, z2, z3⟩ := kb
  clear hs0 hs1 hs2 hs3
  go_enter Tryd.func15, Tryd.ntmps15
  go_wp2_with fail
  refine (HR.out _).mono ?_
  rintro e w1 ⟨rfl, q1⟩
  have hS1 : Box4 w.heap.size (i : Nat) ((c + 1 : Nat) : Int) (m : Nat) (v : Nat) w1.drew := (HK.out.later q1).later (Below.refl _ w1).drew
  have HB0 : Hid (Below w.heap.size w w1.drew) := ((below_alloc _ _).trans (q1.mono (by simp))).drew
  clear q1 z0 z1 z2 z3 HK HR
  go_wp2_with fail
  refine wp_region_held_drew (S := Box4 w.heap.size (i : Nat) ((c + 1 : Nat) : Int) (m : Nat) (v : Nat)) (by kernel_rfl) hS1 (fun hS => ?_)
  clear hS1
  generalize w1.drew = wa at *
  refine tkH 0 ?_ hS (fun wx hx => ?_) ?_; rotate_left
  · obtain ⟨hx0, hx1, hx2, hx3⟩ := hx; go_simp; try with_reducible rfl
  refine tkH 1 ?_ hS (fun wx hx => ?_) ?_; rotate_left
  · obtain ⟨hx0, hx1, hx2, hx3⟩ := hx; go_simp; try with_reducible rfl
  refine tkH 2 ?_ hS (fun wx hx => ?_) ?_; rotate_left
  · obtain ⟨hx0, hx1, hx2, hx3⟩ := hx; go_simp; try with_reducible rfl
  refine tkH 6 ?_ hS (fun wx hx => ?_) ?_; rotate_left
  · obtain ⟨hx0, hx1, hx2, hx3⟩ := hx; go_simp; try with_reducible rfl
  refine tkH 7 ?_ hS (fun wx hx => ?_) ?_; rotate_left
  · obtain ⟨hx0, hx1, hx2, hx3⟩ := hx; go_simp; try with_reducible rfl
  refine tkH 11 ?_ hS (fun wx hx => ?_) ?_; rotate_left
  · obtain ⟨hx0, hx1, hx2, hx3⟩ := hx; go_simp; try with_reducible rfl
  refine tkH 12 ?_ hS (fun wx hx => ?_) ?_; rotate_left
  · obtain ⟨hx0, hx1, hx2, hx3⟩ := hx; go_simp; try with_reducible rfl
  refine rdH 3 (fun K hK => ?_)
  go_simp
  go_wp2_with fail
  refine (HM.out _ (HPW.out.later HB0.out)).mono ?_
  rintro e wn ⟨rfl, qn⟩
  have hS' := hS.later qn
  have HBn : Hid (Below w.heap.size w wn) := HB0.out.trans (qn.mono HB0.out.size)
  clear qn hS HB0
  have HB0 := HBn
  clear HBn
  go_wp2_with fail
  refine hK.out _ _ hS' (fun hS => ?_)
  clear hK K hS'
  refine tkH 4 ?_ hS (fun wx hx => ?_) ?_; rotate_left
  · obtain ⟨hx0, hx1, hx2, hx3⟩ := hx; go_simp; try with_reducible rfl
  refine tkH 5 ?_ hS (fun wx hx => ?_) ?_; rotate_left
  · obtain ⟨hx0, hx1, hx2, hx3⟩ := hx; go_simp; try with_reducible rfl
  refine rdH 8 (fun K hK => ?_)
  go_simp
  go_wp2_with fail
  refine (HI.out _ (HPW.out.later HB0.out)).mono ?_
  rintro e wn ⟨rfl, qn⟩
  have hS' := hS.later qn
  have HBn : Hid (Below w.heap.size w wn) := HB0.out.trans (qn.mono HB0.out.size)
  clear qn hS HB0
  have HB0 := HBn
  clear HBn
  go_wp2_with fail
  refine hK.out _ _ hS' (fun hS => ?_)
  clear hK K hS'
  refine tkH 9 ?_ hS (fun wx hx => ?_) ?_; rotate_left
  · obtain ⟨hx0, hx1, hx2, hx3⟩ := hx; go_simp; try with_reducible rfl
  refine tkH 10 ?_ hS (fun wx hx => ?_) ?_; rotate_left
  · obtain ⟨hx0, hx1, hx2, hx3⟩ := hx; go_simp; try with_reducible rfl
  refine rdH 13 (fun K hK => ?_)
  go_simp
  go_wp2_with fail
  refine (HV.out _ (HPW.out.later HB0.out)).mono ?_
  rintro e wn ⟨rfl, qn⟩
  have hS' := hS.later qn
  have HBn : Hid (Below w.heap.size w wn) := HB0.out.trans (qn.mono HB0.out.size)
  clear qn hS HB0
  have HB0 := HBn
  clear HBn
  go_wp2_with fail
  refine hK.out _ _ hS' (fun hS => ?_)
  clear hK K hS'
  refine tkH 14 ?_ hS (fun wx hx => ?_) ?_; rotate_left
  · obtain ⟨hx0, hx1, hx2, hx3⟩ := hx; go_simp; try with_reducible rfl
  refine tkH 15 ?_ hS (fun wx hx => ?_) ?_; rotate_left
  · obtain ⟨hx0, hx1, hx2, hx3⟩ := hx; go_simp; try with_reducible rfl
  refine tkH 16 ?_ hS (fun wx hx => ?_) ?_; rotate_left
  · obtain ⟨hx0, hx1, hx2, hx3⟩ := hx; go_simp; try with_reducible rfl
  refine wpAnyH_done (by kernel_rfl) ?_ _
  clear hS
  go_simp
  go_wp2
  go_ret
  exact ⟨by rw [← HQ.out]; rfl, HB0.out⟩
set_option maxRecDepth 100000 in
set_option maxHeartbeats 4000000 in
theorem implTreeText_is (ao : Option Addr) (n cp B : Nat) (F : Nat → Int) (w : World) (h : Row w B 4 n F (.slice ao n cp)) (hmax : n ≤ 1048576) (hP : Pow10 w) :
    Calls Tryd.prog 7 #[.slice ao n cp] w fun e w' => e = .returned (.agg #[.int .i64 (treeC F n), .string (treeX F n)]) ∧ Below w.heap.size w w' := by
  have H : Hid (Row (w.alloc (.cells #[.int .i64 0, .string ⟨#[]⟩] 25)) B 4 n F (.slice ao n cp) ∧ Pow10 (w.alloc (.cells #[.int .i64 0, .string ⟨#[]⟩] 25))) := ⟨h.alloc _, hP.later (below_alloc _ _)⟩
  have k0 := Blk2.new w (.int .i64 0) (.string ⟨#[]⟩) 25
  have K : Hid (Blk2 (w.alloc (.cells #[.int .i64 0, .string ⟨#[]⟩] 25)) w.heap.size (.int .i64 0) (.string ⟨#[]⟩) ∧ Below w.heap.size w (w.alloc (.cells #[.int .i64 0, .string ⟨#[]⟩] 25)) ∧ w.heap.size < (w.alloc (.cells #[.int .i64 0, .string ⟨#[]⟩] 25)).heap.size) := ⟨k0, below_alloc _ _, by simp⟩
  clear h hP
  by_cases h60 : 60 < n
  · have E : Hid (treeC F n = 2 ∧ treeX F n = ⟨#[]⟩) := ⟨if_pos h60, if_pos h60⟩
    rw [E.out.1, E.out.2]
    clear E K k0 H
    have hb : (60 : Int) < (n : Int) := by omega
    go_enter Tryd.func7, Tryd.ntmps7
    go_wp2
    refine bodyPost_ret (v := .agg #[.int .i64 2, .string ⟨#[]⟩]) (by simp [results, Tryd.results7, go_sem]) rfl ?_
    exact ⟨rfl, below_alloc _ _⟩
  have KB : Hid (Bld (w.alloc (.cells #[.int .i64 0, .string ⟨#[]⟩] 25)).heap.size (w.alloc (.cells #[.int .i64 0, .string ⟨#[]⟩] 25)).heap.size (⟨#[]⟩ : ByteArray) ((w.alloc (.cells #[.int .i64 0, .string ⟨#[]⟩] 25)).alloc (.cells #[.pointer none, .slice none 0 0] 41)) ∧ (⟨#[]⟩ : ByteArray) = textT F 0 ∧ Below (w.alloc (.cells #[.int .i64 0, .string ⟨#[]⟩] 25)).heap.size (w.alloc (.cells #[.int .i64 0, .string ⟨#[]⟩] 25)) ((w.alloc (.cells #[.int .i64 0, .string ⟨#[]⟩] 25)).alloc (.cells #[.pointer none, .slice none 0 0] 41))) := ⟨Bld.new _ _ (Nat.le_refl _), rfl, below_alloc _ _⟩
  by_cases hok : AllOk F n
  · have E : Hid (treeC F n = 0 ∧ treeX F n = textT F n) := by
      unfold treeC treeX
      rw [if_neg h60, if_neg h60, if_pos hok, if_pos hok]
      exact ⟨rfl, rfl⟩
    rw [E.out.1, E.out.2]
    have HOK : Hid (AllOk F n) := hok
    clear E hok k0
    obtain ⟨TX, HTX⟩ : ∃ TX, Hid (textT F n = TX) := ⟨_, rfl⟩
    rw [HTX.out]
    go_enter Tryd.func7, Tryd.ntmps7
    go_wp2
    go_loopw [12] (fun i wr => ∃ (k : Nat) (O : ByteArray), k ≤ n ∧ i = .int .i64 k ∧ O.size ≤ 60 * k ∧ Hid (Bld (w.alloc (.cells #[.int .i64 0, .string ⟨#[]⟩] 25)).heap.size (w.alloc (.cells #[.int .i64 0, .string ⟨#[]⟩] 25)).heap.size O wr ∧ O = textT F k ∧ Below (w.alloc (.cells #[.int .i64 0, .string ⟨#[]⟩] 25)).heap.size (w.alloc (.cells #[.int .i64 0, .string ⟨#[]⟩] 25)) wr)) (fun i _ => n - (intOf i).toNat)
    case atStart => exact ⟨0, _, Nat.zero_le _, rfl, Nat.le_refl _, KB.out⟩
    case round =>
      obtain ⟨k, O, hk, rfl, hO, HR⟩ := hrel
      by_cases hlt : k < n
      · obtain ⟨g, o, rfl, _, hg, x0, x1, x2, x3⟩ := (H.out.1.later HR.out.2.2).at4 hlt
        have HE : Hid (∃ i d m v : Nat, F (k * 4) = i ∧ F (k * 4 + 1) = d ∧ F (k * 4 + 2) = m ∧ F (k * 4 + 3) = v ∧ i ≤ 9999 ∧ 1 ≤ d ∧ d ≤ 20 ∧ m ≤ 9999 ∧ v ≤ 9999) := by
          obtain ⟨zi, zd, zm, zv⟩ := HOK.out k hlt
          exact ⟨(F (k * 4)).toNat, (F (k * 4 + 1)).toNat, (F (k * 4 + 2)).toNat, (F (k * 4 + 3)).toNat, by omega, by omega, by omega, by omega, by omega, by omega, by omega, by omega, by omega⟩
        obtain ⟨i, d, m, v, e0, e1, e2, e3, hi, hd1, hd2, hm, hv⟩ := HE.out
        clear HE
        have HL : Hid (O ++ lineT i d m v = textT F (k + 1) ∧ (textT F (k + 1)).size ≤ 60 * (k + 1)) := ⟨by rw [textT, HR.out.2.1, e0, e1, e2, e3]; rfl, textT_size (fun j hj => HOK.out j (by omega))⟩
        have HF1 : Hid (∀ w, Calls Tryd.prog 13 #[.agg #[.int .i64 (i : Nat), .int .i64 (d : Nat), .int .i64 (m : Nat), .int .i64 (v : Nat)]] w fun e w' => e = .returned (.bool true) ∧ Below w.heap.size w w') := fun w => nodeFits_is _ _ _ _ _ (decide_eq_true ⟨⟨by omega, by omega⟩, ⟨by omega, by omega⟩, ⟨by omega, by omega⟩, by omega, by omega⟩) w
        have HNL : Hid (∀ w, Pow10 w → Calls Tryd.prog 15 #[.agg #[.int .i64 (i : Nat), .int .i64 (d : Nat), .int .i64 (m : Nat), .int .i64 (v : Nat)]] w fun e w' => e = .returned (.string (lineT i d m v)) ∧ Below w.heap.size w w') := fun w hT => nodeLine_is i d m v w hT hi hd1 hd2 hm hv
        have hls := lineT_size hi hd2 hm hv
        rw [e0] at x0
        rw [e1] at x1
        rw [e2] at x2
        rw [e3] at x3
        clear e0 e1 e2 e3
        generalize lineT i d m v = LT at *
        have kb := Box4.new wr (i : Nat) (d : Nat) (m : Nat) (v : Nat)
        have HK : Hid (Box4 wr.heap.size (i : Nat) (d : Nat) (m : Nat) (v : Nat) (wr.alloc (.cells #[.int .i64 (i : Nat), .int .i64 (d : Nat), .int .i64 (m : Nat), .int .i64 (v : Nat)] 34))) := kb
        obtain ⟨z0, z1, z2, z3⟩ := kb
        go_wp2_with fail
        refine (HF1.out _).mono ?_
        rintro e w1 ⟨rfl, q1⟩
        have HR1 : Hid (Bld (w.alloc (.cells #[.int .i64 0, .string ⟨#[]⟩] 25)).heap.size (w.alloc (.cells #[.int .i64 0, .string ⟨#[]⟩] 25)).heap.size O w1 ∧ Below (w.alloc (.cells #[.int .i64 0, .string ⟨#[]⟩] 25)).heap.size (w.alloc (.cells #[.int .i64 0, .string ⟨#[]⟩] 25)) w1 ∧ Box4 wr.heap.size (i : Nat) (d : Nat) (m : Nat) (v : Nat) w1) := ⟨(HR.out.1.later (below_alloc _ _)).later q1, (HR.out.2.2.alloc HR.out.2.2.size _).trans (q1.mono (by have := HR.out.2.2.size; simp at this ⊢; omega)), HK.out.later q1⟩
        clear q1 HK HF1 z0 z1 z2 z3 x0 x1 x2 x3 HR hg
        obtain ⟨z0, z1, z2, z3⟩ := HR1.out.2.2
        go_wp2_with fail
        refine (HNL.out _ (H.out.2.later HR1.out.2.1)).mono ?_
        rintro e w2 ⟨rfl, q2⟩
        have HR2 : Hid (Bld (w.alloc (.cells #[.int .i64 0, .string ⟨#[]⟩] 25)).heap.size (w.alloc (.cells #[.int .i64 0, .string ⟨#[]⟩] 25)).heap.size O w2 ∧ Below (w.alloc (.cells #[.int .i64 0, .string ⟨#[]⟩] 25)).heap.size (w.alloc (.cells #[.int .i64 0, .string ⟨#[]⟩] 25)) w2) := ⟨HR1.out.1.later q2, HR1.out.2.1.trans (q2.mono HR1.out.2.1.size)⟩
        clear q2 HNL z0 z1 z2 z3 HR1
        have hbs : (w.alloc (.cells #[.int .i64 0, .string ⟨#[]⟩] 25)).heap.size = w.heap.size + 1 := World.size_alloc _ _
        go_wp2_with fail
        refine (writeString_is _ _ O LT _ (by rw [hbs] at HR2; exact HR2.out.1) (by omega) (by omega) (by have := HR2.out.2.size; rw [hbs] at this; exact this)).mono ?_
        rintro e w3 ⟨rfl, r3, q3⟩
        have HR3 : Hid (Bld (w.alloc (.cells #[.int .i64 0, .string ⟨#[]⟩] 25)).heap.size (w.alloc (.cells #[.int .i64 0, .string ⟨#[]⟩] 25)).heap.size (O ++ LT) w3 ∧ (O ++ LT) = textT F (k + 1) ∧ Below (w.alloc (.cells #[.int .i64 0, .string ⟨#[]⟩] 25)).heap.size (w.alloc (.cells #[.int .i64 0, .string ⟨#[]⟩] 25)) w3) := by
          have hb2 := HR2.out.2
          unfold Hid
          rw [hbs] at hb2 ⊢
          exact ⟨r3, HL.out.1, hb2.trans q3⟩
        clear r3 q3 HR2 hbs
        go_wp2_with fail
        go_roundw
        case rel => exact ⟨k + 1, _, by omega, by go_num, by rw [HL.out.1]; exact HL.out.2, HR3⟩
        case measure => simp [intOf]; omega
      · have hbs : (w.alloc (.cells #[.int .i64 0, .string ⟨#[]⟩] 25)).heap.size = w.heap.size + 1 := World.size_alloc _ _
        have HOT : Hid (O = TX) := by rw [← HTX.out, HR.out.2.1, show k = n by omega]; rfl
        go_wp2_with fail
        refine (builderString_is _ _ O _ (by have := HR.out.1; rw [hbs] at this; exact this) (by have := HR.out.2.2.size; rw [hbs] at this; exact this)).mono ?_
        rintro e w1 ⟨rfl, q1⟩
        have hb2 := HR.out.2.2
        rw [hbs] at hb2
        have HB2 : Hid (Below (w.heap.size + 1) (w.alloc (.cells #[.int .i64 0, .string ⟨#[]⟩] 25)) w1) := hb2.trans q1
        have hq : w.heap.size < w.heap.size + 1 := by omega
        obtain ⟨⟨b0, b1⟩, y0, y1⟩ := K.out.1.kept (x' := w1) (HB2.out.block _ hq)
        have HB : Hid (Below w.heap.size w w1) := K.out.2.1.trans (HB2.out.mono (by omega))
        clear q1 HR hb2 HB2
        go_wp2
        refine bodyPost_ret (v := .agg #[.int .i64 0, .string O]) (by simp [results, Tryd.results7, go_sem, b0, b1]) rfl ?_
        exact ⟨by rw [HOT.out], (HB.out.setCell (Nat.le_refl _) _).setCell (Nat.le_refl _) _⟩
  · have E : Hid (treeC F n = 3 ∧ treeX F n = ⟨#[]⟩) := by
      unfold treeC treeX
      rw [if_neg h60, if_neg h60, if_neg hok, if_neg hok]
      exact ⟨rfl, rfl⟩
    obtain ⟨q, hq, hbef, hbad⟩ := allOk_no hok
    have HOK : Hid (AllOk F q) := hbef
    have HBAD : Hid (∀ w, Calls Tryd.prog 13 #[.agg #[.int .i64 (F (q * 4)), .int .i64 (F (q * 4 + 1)), .int .i64 (F (q * 4 + 2)), .int .i64 (F (q * 4 + 3))]] w fun e w' => e = .returned (.bool false) ∧ Below w.heap.size w w') := fun w => nodeFits_is _ _ _ _ _ (decide_eq_false hbad) w
    rw [E.out.1, E.out.2]
    clear E hok k0 hbef hbad
    go_enter Tryd.func7, Tryd.ntmps7
    go_wp2
    go_loopw [12] (fun i wr => ∃ (k : Nat) (O : ByteArray), k ≤ q ∧ i = .int .i64 k ∧ O.size ≤ 60 * k ∧ Hid (Bld (w.alloc (.cells #[.int .i64 0, .string ⟨#[]⟩] 25)).heap.size (w.alloc (.cells #[.int .i64 0, .string ⟨#[]⟩] 25)).heap.size O wr ∧ O = textT F k ∧ Below (w.alloc (.cells #[.int .i64 0, .string ⟨#[]⟩] 25)).heap.size (w.alloc (.cells #[.int .i64 0, .string ⟨#[]⟩] 25)) wr)) (fun i _ => n - (intOf i).toNat)
    case atStart => exact ⟨0, _, Nat.zero_le _, rfl, Nat.le_refl _, KB.out⟩
    case round =>
      obtain ⟨k, O, hk, rfl, hO, HR⟩ := hrel
      have hkn : k < n := by omega
      by_cases hlt : k < q
      · obtain ⟨g, o, rfl, _, hg, x0, x1, x2, x3⟩ := (H.out.1.later HR.out.2.2).at4 hkn
        have HE : Hid (∃ i d m v : Nat, F (k * 4) = i ∧ F (k * 4 + 1) = d ∧ F (k * 4 + 2) = m ∧ F (k * 4 + 3) = v ∧ i ≤ 9999 ∧ 1 ≤ d ∧ d ≤ 20 ∧ m ≤ 9999 ∧ v ≤ 9999) := by
          obtain ⟨zi, zd, zm, zv⟩ := HOK.out k hlt
          exact ⟨(F (k * 4)).toNat, (F (k * 4 + 1)).toNat, (F (k * 4 + 2)).toNat, (F (k * 4 + 3)).toNat, by omega, by omega, by omega, by omega, by omega, by omega, by omega, by omega, by omega⟩
        obtain ⟨i, d, m, v, e0, e1, e2, e3, hi, hd1, hd2, hm, hv⟩ := HE.out
        clear HE
        have HL : Hid (O ++ lineT i d m v = textT F (k + 1) ∧ (textT F (k + 1)).size ≤ 60 * (k + 1)) := ⟨by rw [textT, HR.out.2.1, e0, e1, e2, e3]; rfl, textT_size (fun j hj => HOK.out j (by omega))⟩
        have HF1 : Hid (∀ w, Calls Tryd.prog 13 #[.agg #[.int .i64 (i : Nat), .int .i64 (d : Nat), .int .i64 (m : Nat), .int .i64 (v : Nat)]] w fun e w' => e = .returned (.bool true) ∧ Below w.heap.size w w') := fun w => nodeFits_is _ _ _ _ _ (decide_eq_true ⟨⟨by omega, by omega⟩, ⟨by omega, by omega⟩, ⟨by omega, by omega⟩, by omega, by omega⟩) w
        have HNL : Hid (∀ w, Pow10 w → Calls Tryd.prog 15 #[.agg #[.int .i64 (i : Nat), .int .i64 (d : Nat), .int .i64 (m : Nat), .int .i64 (v : Nat)]] w fun e w' => e = .returned (.string (lineT i d m v)) ∧ Below w.heap.size w w') := fun w hT => nodeLine_is i d m v w hT hi hd1 hd2 hm hv
        have hls := lineT_size hi hd2 hm hv
        rw [e0] at x0
        rw [e1] at x1
        rw [e2] at x2
        rw [e3] at x3
        clear e0 e1 e2 e3
        generalize lineT i d m v = LT at *
        have kb := Box4.new wr (i : Nat) (d : Nat) (m : Nat) (v : Nat)
        have HK : Hid (Box4 wr.heap.size (i : Nat) (d : Nat) (m : Nat) (v : Nat) (wr.alloc (.cells #[.int .i64 (i : Nat), .int .i64 (d : Nat), .int .i64 (m : Nat), .int .i64 (v : Nat)] 34))) := kb
        obtain ⟨z0, z1, z2, z3⟩ := kb
        go_wp2_with fail
        refine (HF1.out _).mono ?_
        rintro e w1 ⟨rfl, q1⟩
        have HR1 : Hid (Bld (w.alloc (.cells #[.int .i64 0, .string ⟨#[]⟩] 25)).heap.size (w.alloc (.cells #[.int .i64 0, .string ⟨#[]⟩] 25)).heap.size O w1 ∧ Below (w.alloc (.cells #[.int .i64 0, .string ⟨#[]⟩] 25)).heap.size (w.alloc (.cells #[.int .i64 0, .string ⟨#[]⟩] 25)) w1 ∧ Box4 wr.heap.size (i : Nat) (d : Nat) (m : Nat) (v : Nat) w1) := ⟨(HR.out.1.later (below_alloc _ _)).later q1, (HR.out.2.2.alloc HR.out.2.2.size _).trans (q1.mono (by have := HR.out.2.2.size; simp at this ⊢; omega)), HK.out.later q1⟩
        clear q1 HK HF1 z0 z1 z2 z3 x0 x1 x2 x3 HR hg
        obtain ⟨z0, z1, z2, z3⟩ := HR1.out.2.2
        go_wp2_with fail
        refine (HNL.out _ (H.out.2.later HR1.out.2.1)).mono ?_
        rintro e w2 ⟨rfl, q2⟩
        have HR2 : Hid (Bld (w.alloc (.cells #[.int .i64 0, .string ⟨#[]⟩] 25)).heap.size (w.alloc (.cells #[.int .i64 0, .string ⟨#[]⟩] 25)).heap.size O w2 ∧ Below (w.alloc (.cells #[.int .i64 0, .string ⟨#[]⟩] 25)).heap.size (w.alloc (.cells #[.int .i64 0, .string ⟨#[]⟩] 25)) w2) := ⟨HR1.out.1.later q2, HR1.out.2.1.trans (q2.mono HR1.out.2.1.size)⟩
        clear q2 HNL z0 z1 z2 z3 HR1
        have hbs : (w.alloc (.cells #[.int .i64 0, .string ⟨#[]⟩] 25)).heap.size = w.heap.size + 1 := World.size_alloc _ _
        go_wp2_with fail
        refine (writeString_is _ _ O LT _ (by rw [hbs] at HR2; exact HR2.out.1) (by omega) (by omega) (by have := HR2.out.2.size; rw [hbs] at this; exact this)).mono ?_
        rintro e w3 ⟨rfl, r3, q3⟩
        have HR3 : Hid (Bld (w.alloc (.cells #[.int .i64 0, .string ⟨#[]⟩] 25)).heap.size (w.alloc (.cells #[.int .i64 0, .string ⟨#[]⟩] 25)).heap.size (O ++ LT) w3 ∧ (O ++ LT) = textT F (k + 1) ∧ Below (w.alloc (.cells #[.int .i64 0, .string ⟨#[]⟩] 25)).heap.size (w.alloc (.cells #[.int .i64 0, .string ⟨#[]⟩] 25)) w3) := by
          have hb2 := HR2.out.2
          unfold Hid
          rw [hbs] at hb2 ⊢
          exact ⟨r3, HL.out.1, hb2.trans q3⟩
        clear r3 q3 HR2 hbs
        go_wp2_with fail
        go_roundw
        case rel => exact ⟨k + 1, _, by omega, by go_num, by rw [HL.out.1]; exact HL.out.2, HR3⟩
        case measure => simp [intOf]; omega
      · obtain rfl : k = q := by omega
        obtain ⟨g, o, rfl, _, hg, x0, x1, x2, x3⟩ := (H.out.1.later HR.out.2.2).at4 hkn
        generalize F (k * 4) = f0 at HBAD x0
        generalize F (k * 4 + 1) = f1 at HBAD x1
        generalize F (k * 4 + 2) = f2 at HBAD x2
        generalize F (k * 4 + 3) = f3 at HBAD x3
        have kb := Box4.new wr f0 f1 f2 f3
        obtain ⟨z0, z1, z2, z3⟩ := kb
        have HX : Hid (Below (w.alloc (.cells #[.int .i64 0, .string ⟨#[]⟩] 25)).heap.size (w.alloc (.cells #[.int .i64 0, .string ⟨#[]⟩] 25)) wr) := HR.out.2.2
        go_wp2_with fail
        refine (HBAD.out _).mono ?_
        rintro e w1 ⟨rfl, q1⟩
        have HX1 : Hid (Below (w.alloc (.cells #[.int .i64 0, .string ⟨#[]⟩] 25)).heap.size (w.alloc (.cells #[.int .i64 0, .string ⟨#[]⟩] 25)) w1) := (HX.out.alloc HX.out.size _).trans (q1.mono (by have := HX.out.size; simp at this ⊢; omega))
        obtain ⟨⟨b0, b1⟩, y0, y1⟩ := K.out.1.later HX1.out
        have HB : Hid (Below w.heap.size w w1) := K.out.2.1.trans (HX1.out.mono (by have := K.out.2.2; omega))
        clear q1 HR HX HX1 HBAD z0 z1 z2 z3 x0 x1 x2 x3
        go_wp2
        refine bodyPost_ret (v := .agg #[.int .i64 3, .string ⟨#[]⟩]) (by simp [results, Tryd.results7, go_sem, b0, b1]) rfl ?_
        exact ⟨rfl, (HB.out.setCell (Nat.le_refl _) _).setCell (Nat.le_refl _) _⟩
end Go.Proofs.YtaakpbmddfnchaaDoor

namespace Go.Proofs.YtaakpbmddfnchaaDoor
open Go.RowKit

set_option maxHeartbeats 1000000 in
theorem eqTextT_same (c : Int) (tx : ByteArray) (w : World) :
    Calls Tryd.prog 8 #[.agg #[.int .i64 c, .string tx], .agg #[.int .i64 c, .string tx]] w fun e w' => e = .returned (.bool true) ∧ Below w.heap.size w w' := by
  go_enter Tryd.func8, Tryd.ntmps8
  go_wp2
  go_ret
  exact ⟨rfl, (below_alloc _ _).alloc (by simp) _⟩
set_option maxRecDepth 100000 in
set_option maxHeartbeats 4000000 in
theorem treeText_walk (v0 : Value) (n : Nat) (F : Nat → Int) (w : World) (h : Row w 0 4 n F v0) (hn : n ≤ 9223372036854775807) (hT : Pow10 w) :
    Calls Tryd.prog 3 #[v0] w fun e w' => e = .returned (.bool true) ∧ Below w.heap.size w w' := by
  obtain ⟨ao, cp, rfl⟩ := h.form
  by_cases hs : (1048576 : Int) < n
  · go_enter Tryd.func3, Tryd.ntmps3
    go_wp2_with fail
    refine (szTreeNodeS_no _ _ _ _ _ hs (by omega) (by omega) hn).mono ?_
    rintro e w1 ⟨rfl, rfl⟩
    go_wp2
    go_ret
    exact ⟨rfl, Below.refl _ _⟩
  have hb : n ≤ 1048576 := by omega
  have dz : decide ((1048576 : Int) - n < 0) = false := decide_eq_false (by omega)
  obtain ⟨c, hc⟩ : ∃ c, treeC F n = c := ⟨_, rfl⟩
  obtain ⟨tx, hx⟩ : ∃ tx, treeX F n = tx := ⟨_, rfl⟩
  have HSP : Hid (∀ uo up X, Row X 0 4 n F (.slice uo n up) → Calls Tryd.prog 5 #[.slice uo n up] X fun e w' => e = .returned (.agg #[.int .i64 c, .string tx]) ∧ Below X.heap.size X w') := fun uo up X hu => by
    have := specTreeText_is uo n up 0 F X hu hb
    rw [hc, hx] at this
    exact this
  have HIM : Hid (∀ uo up X, Row X 0 4 n F (.slice uo n up) → Pow10 X → Calls Tryd.prog 7 #[.slice uo n up] X fun e w' => e = .returned (.agg #[.int .i64 c, .string tx]) ∧ Below X.heap.size X w') := fun uo up X hu hp => by
    have := implTreeText_is uo n up 0 F X hu hb hp
    rw [hc, hx] at this
    exact this
  have H : Hid (Row w 0 4 n F (.slice ao n cp)) := h
  have HT : Hid (Pow10 w) := hT
  clear h hs hc hx hT
  go_enter Tryd.func3, Tryd.ntmps3
  go_wp2_with fail
  refine (szTreeNodeS_ok _ _ _ _ _ (by omega) (by omega)).mono ?_
  rintro e w1 ⟨rfl, hw1⟩
  obtain rfl := hw1.symm
  go_wp2_with fail
  refine (toTreeNodeS_any _ 0 n F _ H.out hb).mono ?_
  rintro e z1 ⟨u1, rfl, r1, _, q1⟩
  obtain ⟨uo1, up1, rfl⟩ := r1.form
  have A1 : Hid (Row z1 0 4 n F (.slice uo1 n up1) ∧ Below w.heap.size w z1) := ⟨r1.mono (Nat.zero_le _), q1⟩
  clear r1 q1
  go_wp2_with fail
  refine (HSP.out _ _ _ A1.out.1).mono ?_
  rintro e z2 ⟨rfl, q2⟩
  have A2 : Hid (Below w.heap.size w (z2.alloc (.cells #[.int .i64 c, .string tx] 25)) ∧ Blk2 (z2.alloc (.cells #[.int .i64 c, .string tx] 25)) z2.heap.size (.int .i64 c) (.string tx)) := ⟨(A1.out.2.trans (q2.mono A1.out.2.size)).alloc (Nat.le_trans A1.out.2.size q2.size) _, Blk2.new _ _ _ _⟩
  clear q2 A1
  go_wp2_with fail
  generalize z2.alloc (.cells #[.int .i64 c, .string tx] 25) = z3 at A2 ⊢
  refine (toTreeNodeS_any _ 0 n F _ (H.out.later A2.out.1) hb).mono ?_
  rintro e z4 ⟨u2, rfl, r2, _, q4⟩
  obtain ⟨uo2, up2, rfl⟩ := r2.form
  have A4 : Hid (Row z4 0 4 n F (.slice uo2 n up2) ∧ Below w.heap.size w z4 ∧ Blk2 z4 z2.heap.size (.int .i64 c) (.string tx)) := ⟨r2.mono (Nat.zero_le _), A2.out.1.trans (q4.mono A2.out.1.size), A2.out.2.later q4⟩
  clear r2 q4 A2
  go_wp2_with fail
  refine (HIM.out _ _ _ A4.out.1 (HT.out.later A4.out.2.1)).mono ?_
  rintro e z5 ⟨rfl, q5⟩
  have A5 : Hid (Row (z5.alloc (.cells #[.int .i64 c, .string tx] 25)) 0 4 n F (.slice uo2 n up2) ∧ Below w.heap.size w (z5.alloc (.cells #[.int .i64 c, .string tx] 25)) ∧ Blk2 (z5.alloc (.cells #[.int .i64 c, .string tx] 25)) z2.heap.size (.int .i64 c) (.string tx) ∧ Blk2 (z5.alloc (.cells #[.int .i64 c, .string tx] 25)) z5.heap.size (.int .i64 c) (.string tx)) :=
    ⟨(A4.out.1.later q5).alloc _, (A4.out.2.1.trans (q5.mono A4.out.2.1.size)).alloc (Nat.le_trans A4.out.2.1.size q5.size) _, (A4.out.2.2.later q5).alloc _, Blk2.new _ _ _ _⟩
  clear q5 A4 HSP HIM
  obtain ⟨⟨s0, s1⟩, _⟩ := A5.out.2.2.1
  obtain ⟨⟨t0, t1⟩, _⟩ := A5.out.2.2.2
  go_wp2_with fail
  refine (eqTextT_same c tx _).mono ?_
  rintro e z6 ⟨rfl, q6⟩
  have A6 : Hid (Row z6 0 4 n F (.slice uo2 n up2) ∧ Below w.heap.size w z6) := ⟨A5.out.1.later q6, A5.out.2.1.trans (q6.mono A5.out.2.1.size)⟩
  clear q6 A5 s0 s1 t0 t1
  go_wp2_with fail
  refine (toTreeNodeS_any _ 0 n F _ (H.out.later A6.out.2) hb).mono ?_
  rintro e z7 ⟨u3, rfl, r3, _, q7⟩
  have A7 : Hid (Row z7 0 4 n F (.slice uo2 n up2) ∧ Row z7 0 4 n F u3 ∧ Below w.heap.size w z7) := ⟨A6.out.1.later q7, r3.mono (Nat.zero_le _), A6.out.2.trans (q7.mono A6.out.2.size)⟩
  clear r3 q7 A6
  go_wp2_with fail
  refine (eqTreeNodeS_same _ _ 0 0 n F _ A7.out.1 A7.out.2.1 hb).mono ?_
  rintro e z8 ⟨rfl, q8⟩
  have B8 : Hid (Below w.heap.size w z8) := A7.out.2.2.trans (q8.mono A7.out.2.2.size)
  clear q8 A7
  go_wp2
  go_ret
  exact ⟨rfl, B8.out⟩
end Go.Proofs.YtaakpbmddfnchaaDoor

