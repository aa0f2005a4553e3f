/-
  Own text, merged of CopyA, CmtD, InsV, BinW, SortD.
-/
import Derived.Test.YtnikdbebfofcaaaGreatDoorPk4
namespace Go.Proofs.YtnikdbebfofcaaaGreatDoor
open Go.RowKit

theorem own_kept {w w' : World} {B : Nat} {e : TypeId} {m n : Nat} {F : Nat → Int} {v : Value} (h : Own w B e m n F v) (hb : ∀ k, v.ownBlock = some k → w'.heap[k]? = w.heap[k]?) : Own w' B e m n F v := by
  refine ⟨h.1, ?_⟩
  rcases h.2 with q | ⟨g, cap, cur, rfl, hg, hw, r⟩
  · exact Or.inl q
  · exact Or.inr ⟨g, cap, cur, rfl, hg, (hb g rfl).trans hw, r⟩
theorem own_blk {w : World} {B : Nat} {e : TypeId} {m n : Nat} {F : Nat → Int} {v : Value} (h : Own w B e m n F v) : ∀ k, v.ownBlock = some k → B ≤ k ∧ k < w.heap.size := by
  intro k hk
  rcases h.2 with ⟨rfl, _⟩ | ⟨g, cap, cur, rfl, hg, hw, _⟩
  · simp [Value.ownBlock] at hk
  · simp [Value.ownBlock] at hk
    subst hk
    exact ⟨hg, (Array.getElem?_eq_some_iff.1 hw).1⟩
theorem own_cap {w : World} {B : Nat} {e : TypeId} {m n : Nat} {F : Nat → Int} {ao : Option Addr} {cp : Nat} (h : Own w B e m n F (.slice ao n cp)) : n ≤ cp := by
  rcases h.2 with ⟨q, q'⟩ | ⟨g, cap, cur, q, _, _, hnc, _⟩
  · omega
  · cases q; exact hnc
theorem own_far {w : World} {B : Nat} {e : TypeId} {m n : Nat} {F : Nat → Int} {v : Value} (h : Own w B e m n F v) {a : Addr} (ha : a.block < B) (u : Value) : Own (w.setCell a u) B e m n F v :=
  own_kept h fun k hk => Below.heap_setCell w a u k (fun e => by have := (own_blk h k hk).1; omega)
theorem own_congr {w : World} {B : Nat} {e : TypeId} {m n : Nat} {F G : Nat → Int} {v : Value} (h : Own w B e m n F v) (hF : ∀ p, p < n * m → F p = G p) : Own w B e m n G v := by
  have hv : vals F (n * m) = vals G (n * m) := by
    apply List.ext_getElem?
    intro p
    rcases Nat.lt_or_ge p (n * m) with q | q
    · rw [vals_at _ _ _ q, vals_at _ _ _ q, hF p q]
    · rw [List.getElem?_eq_none (by rw [vals_length]; exact q), List.getElem?_eq_none (by rw [vals_length]; exact q)]
  unfold Own at h ⊢
  rwa [← hv]
/-- A store whose three rows are its own: rows to which one may append. -/
def ApartB (u0 u1 u2 : Value) : Prop := (∀ k, u0.ownBlock = some k → u1.ownBlock ≠ some k) ∧ (∀ k, u0.ownBlock = some k → u2.ownBlock ≠ some k) ∧ ∀ k, u1.ownBlock = some k → u2.ownBlock ≠ some k
def OwnS (w : World) (B : Nat) (S : Sto) (v0 v1 v2 : Value) : Prop := (Own w B 75 3 S.nc S.c v0 ∧ Own w B 61 5 S.nl S.l v1 ∧ Own w B 38 4 S.nw S.k v2) ∧ ApartB v0 v1 v2
theorem OwnS.st {w : World} {B : Nat} {S : Sto} {v0 v1 v2 : Value} (h : OwnS w B S v0 v1 v2) : St w B S v0 v1 v2 := ⟨h.1.1.row.1, h.1.2.1.row.1, h.1.2.2.row.1⟩
theorem OwnS.free {w : World} {B : Nat} {S : Sto} {v0 v1 v2 : Value} (h : OwnS w B S v0 v1 v2) : FreeS w S v0 v1 v2 := ⟨h.1.1.row.2, h.1.2.1.row.2, h.1.2.2.row.2⟩
theorem OwnS.later {w w' : World} {B : Nat} {S : Sto} {v0 v1 v2 : Value} (h : OwnS w B S v0 v1 v2) (hb : Below w.heap.size w w') : OwnS w' B S v0 v1 v2 := ⟨⟨h.1.1.later hb, h.1.2.1.later hb, h.1.2.2.later hb⟩, h.2⟩
theorem OwnS.mono {w : World} {B B' : Nat} {S : Sto} {v0 v1 v2 : Value} (h : OwnS w B S v0 v1 v2) (hB : B' ≤ B) : OwnS w B' S v0 v1 v2 := ⟨⟨h.1.1.mono hB, h.1.2.1.mono hB, h.1.2.2.mono hB⟩, h.2⟩
theorem OwnS.far {w : World} {B : Nat} {S : Sto} {v0 v1 v2 : Value} (h : OwnS w B S v0 v1 v2) {a : Addr} (ha : a.block < B) (u : Value) : OwnS (w.setCell a u) B S v0 v1 v2 := ⟨⟨own_far h.1.1 ha u, own_far h.1.2.1 ha u, own_far h.1.2.2 ha u⟩, h.2⟩
theorem own_some {w : World} {B : Nat} {e : TypeId} {m n : Nat} {F : Nat → Int} {v : Value} (h : Own w B e m n F v) (hn : 0 < n) : ∃ k, v.ownBlock = some k := by
  rcases h.2 with ⟨_, q⟩ | ⟨g, cap, cur, rfl, _⟩
  · omega
  · exact ⟨g, rfl⟩
theorem OwnS.apart {w : World} {B : Nat} {S : Sto} {v0 v1 v2 : Value} (h : OwnS w B S v0 v1 v2) : ApartD S v0 v1 v2 := by
  refine ⟨fun a _ e => ?_, fun a _ e => ?_, fun a _ e => ?_⟩
  · obtain ⟨k, hk⟩ := own_some h.1.1 a
    exact h.2.1 k hk (e ▸ hk)
  · obtain ⟨k, hk⟩ := own_some h.1.1 a
    exact h.2.2.1 k hk (e ▸ hk)
  · obtain ⟨k, hk⟩ := own_some h.1.2.1 a
    exact h.2.2.2 k hk (e ▸ hk)
theorem OwnS.all {w : World} {B : Nat} {S : Sto} {v0 v1 v2 : Value} (h : OwnS w B S v0 v1 v2) : St w B S v0 v1 v2 ∧ FreeS w S v0 v1 v2 ∧ ApartD S v0 v1 v2 := ⟨h.st, h.free, h.apart⟩
theorem OwnS.empty (w : World) (B : Nat) : OwnS w B emptyS (.slice none 0 0) (.slice none 0 0) (.slice none 0 0) := ⟨⟨Own.nil _ _ _ _ _, Own.nil _ _ _ _ _, Own.nil _ _ _ _ _⟩, fun k hk => by simp [Value.ownBlock] at hk, fun k hk => by simp [Value.ownBlock] at hk, fun k hk => by simp [Value.ownBlock] at hk⟩
/-- A call that answers a code and a store of its own. -/
def ResStoK (w : World) (c : Int) (R : Sto) (e : Ending) (w' : World) : Prop := ∃ a0 c0 a1 c1 a2 c2, e = .returned (.agg #[.int .i64 c, .slice a0 R.nc c0, .slice a1 R.nl c1, .slice a2 R.nw c2]) ∧ OwnS w' w.heap.size R (.slice a0 R.nc c0) (.slice a1 R.nl c1) (.slice a2 R.nw c2) ∧ Below w.heap.size w w'
theorem ResStoK.res {w : World} {c : Int} {R : Sto} {e : Ending} {w' : World} (h : ResStoK w c R e w') : ResSto w c R e w' := by
  obtain ⟨a0, c0, a1, c1, a2, c2, he, ho, hb⟩ := h
  exact ⟨a0, c0, a1, c1, a2, c2, he, ho.all, hb⟩
set_option maxRecDepth 100000 in
theorem l3Bad_own (c : Int) (w : World) : Calls Tryz.prog 23 #[.int .i64 c] w (ResStoK w c emptyS) := by
  unfold ResStoK
  go_enter Tryz.func23, Tryz.ntmps23
  go_wp2
  exact bodyPost_ret (v := .agg #[.int .i64 c, .slice none 0 0, .slice none 0 0, .slice none 0 0]) (by simp [results, Tryz.results23, go_sem]) rfl ⟨none, 0, none, 0, none, 0, rfl, OwnS.empty _ _, below_alloc _ _⟩
theorem run_onto (t ty e : TypeId) (i : TypeInfo) (z : Value) (m bytes : Nat) (ht : Tryz.prog.underlying t = some (.slice e)) (hi : Tryz.prog.info? e = some i) (hz : i.zero = some z) (hsize : i.size = m) (hby : i.bytes = bytes) (hzs : z.cells.size = m) (hm : 0 < m) (hb5 : bytes ≤ 1000)
    (w : World) (q B n : Nat) (F : Nat → Int) (v : Value) (h0 : w.heap[q]? = some (.cells #[] e)) (h : Row w B m n F v) (hn : n ≤ 1048576) :
    ∃ ao cp w', (Builtin.append_ #[t, t] ty #[.slice (some ⟨q, 0, none⟩) 0 0, v]).run Tryz.prog w = .ok (.slice ao n cp) w' ∧ Own w' q e m n F (.slice ao n cp) ∧ (∀ k, (Value.slice ao n cp).ownBlock = some k → (k = q ∨ w.heap.size ≤ k) ∧ k < w'.heap.size) ∧ w.grownBy w' (some q) := by
  have hq : q < w.heap.size := (Array.getElem?_eq_some_iff.1 h0).1
  have hown : w.ownsRow q e m (.slice (some ⟨q, 0, none⟩) 0 0) 0 [] := ⟨by simp, Or.inr ⟨q, 0, #[], rfl, Nat.le_refl _, h0, Nat.le_refl _, by decide, by simp, by simp⟩⟩
  have hbb : n * bytes ≤ 1048576 * 1000 := Nat.mul_le_mul hn hb5
  obtain ⟨ao, cp, rfl⟩ := h.form
  rcases Nat.eq_zero_or_pos n with e0 | e0
  · subst e0
    have ho : Own w q e m 0 F (.slice (some ⟨q, 0, none⟩) 0 0) := by
      unfold Own
      rw [Nat.zero_mul]
      exact hown
    refine ⟨some ⟨q, 0, none⟩, 0, w, ?_, ho, fun k hk => ?_, ⟨rfl, rfl, rfl, Nat.le_refl _, fun _ _ _ => rfl⟩⟩
    · cases ao with
      | none => simp [Builtin.append_, run_underlying ht, sizeOf, typeInfo, hi, Builtin.lenOf, Builtin.firstCells, storeCells]
      | some a => simp [Builtin.append_, run_underlying ht, sizeOf, typeInfo, hi, Builtin.lenOf, Builtin.firstCells, storeCells, loadCells, loadCellsFrom]
    · simp [Value.ownBlock] at hk
      subst hk
      exact ⟨Or.inl rfl, hq⟩
  · obtain ⟨g, o, rfl, _, _, _⟩ := h.at e0
    obtain ⟨b, cap, w', h1, h2, h3, h4, h5⟩ := run_append_lies (P := Tryz.prog) w t ty q e i z m bytes ht hi hz hsize hby hzs hm _ 0 [] hown ⟨g, o, none⟩ n cp (vals F (n * m)) (vals_length _ _) (row_cells h) (vals_one _ _) e0 (by unfold maxLen; omega) (by rw [Nat.zero_add]; omega) (Nat.le_of_lt hq) w.heap.size rfl
    rw [Nat.zero_add] at h1 h2
    refine ⟨_, _, w', h1, h2, fun k hk => ?_, h3⟩
    simp [Value.ownBlock] at hk
    subst hk
    refine ⟨?_, h5⟩
    rcases h4 with e | e
    · simp [Value.ownBlock] at e; exact Or.inl e.symm
    · exact Or.inr (by omega)
/-- An empty row in a block of its own. -/
def Em (c : World) (q : Nat) (e : TypeId) : Prop := c.heap[q]? = some (.cells #[] e)
theorem Em.lt {c : World} {q : Nat} {e : TypeId} (h : Em c q e) : q < c.heap.size := (Array.getElem?_eq_some_iff.1 h).1
theorem Em.grown {c c' : World} {q q' : Nat} {e : TypeId} (h : Em c q e) (hg : c.grownBy c' (some q')) (hne : q ≠ q') : Em c' q e := (hg.block q h.lt (by simp; exact hne)).trans h
theorem Em.later {c c' : World} {q : Nat} {e : TypeId} (h : Em c q e) (hb : Below c.heap.size c c') : Em c' q e := (hb.block q h.lt).trans h
theorem Em.new (c : World) (e : TypeId) : Em (c.alloc (.cells #[] e)) c.heap.size e := heap_alloc_new c _
/-- What the copying region stands on. -/
def Cp (w : World) (v0 v1 v2 : Value) (c : World) : Prop := Blk3 c w.heap.size v0 v1 v2 ∧ Below w.heap.size w c
theorem Cp.grown {w c c' : World} {v0 v1 v2 : Value} {q : Nat} (h : Cp w v0 v1 v2 c) (hg : c.grownBy c' (some q)) (hq : w.heap.size + 2 ≤ q) : Cp w v0 v1 v2 c' := ⟨h.1.kept (hg.block w.heap.size h.1.lt (by simp; omega)), ⟨hg.os.trans h.2.os, hg.tape.trans h.2.tape, hg.output.trans h.2.output, Nat.le_trans h.2.size hg.size, fun i hi => (hg.block i (Nat.lt_of_lt_of_le hi h.2.size) (by simp; omega)).trans (h.2.block i hi)⟩⟩
theorem Cp.later {w c c' : World} {v0 v1 v2 : Value} (h : Cp w v0 v1 v2 c) (hb : Below c.heap.size c c') : Cp w v0 v1 v2 c' := ⟨h.1.later hb, h.2.trans (hb.mono h.2.size)⟩
theorem Blk3.grown {c c' : World} {b q : Nat} {a0 a1 a2 : Value} (h : Blk3 c b a0 a1 a2) (hg : c.grownBy c' (some q)) (hne : b ≠ q) : Blk3 c' b a0 a1 a2 := h.kept (hg.block b h.lt (by simp; exact hne))
/-- A new store, and no row has more elements than it has room for. -/
def NewStoC (w : World) (R : Sto) (e : Ending) (w' : World) : Prop := ∃ a0 c0 a1 c1 a2 c2, (R.nc ≤ c0 ∧ R.nl ≤ c1 ∧ R.nw ≤ c2) ∧ e = .returned (.agg #[.slice a0 R.nc c0, .slice a1 R.nl c1, .slice a2 R.nw c2]) ∧ (St w' w.heap.size R (.slice a0 R.nc c0) (.slice a1 R.nl c1) (.slice a2 R.nw c2) ∧ FreeS w' R (.slice a0 R.nc c0) (.slice a1 R.nl c1) (.slice a2 R.nw c2) ∧ ApartD R (.slice a0 R.nc c0) (.slice a1 R.nl c1) (.slice a2 R.nw c2)) ∧ Below w.heap.size w w'
theorem NewStoC.new {w w' : World} {R : Sto} {e : Ending} (h : NewStoC w R e w') : NewSto w R e w' := by
  obtain ⟨a0, c0, a1, c1, a2, c2, _, h⟩ := h
  exact ⟨a0, c0, a1, c1, a2, c2, h⟩
/-- A new store whose rows are its own. -/
def NewStoK (w : World) (R : Sto) (e : Ending) (w' : World) : Prop := ∃ a0 c0 a1 c1 a2 c2, e = .returned (.agg #[.slice a0 R.nc c0, .slice a1 R.nl c1, .slice a2 R.nw c2]) ∧ OwnS w' w.heap.size R (.slice a0 R.nc c0) (.slice a1 R.nl c1) (.slice a2 R.nw c2) ∧ Below w.heap.size w w'
theorem NewStoK.cap {w w' : World} {R : Sto} {e : Ending} (h : NewStoK w R e w') : NewStoC w R e w' := by
  obtain ⟨a0, c0, a1, c1, a2, c2, he, ho, hb⟩ := h
  exact ⟨a0, c0, a1, c1, a2, c2, ⟨own_cap ho.1.1, own_cap ho.1.2.1, own_cap ho.1.2.2⟩, he, ho.all, hb⟩
def tyC : Nat → TypeId
  | 0 => 75
  | 1 => 61
  | _ => 38
def msC : Nat → Nat
  | 0 => 3
  | 1 => 5
  | _ => 4
def ApaC (u v : Value) : Prop := ∀ q, u.ownBlock = some q → v.ownBlock ≠ some q
theorem ApaC.symm {u v : Value} (h : ApaC u v) : ApaC v u := fun q h1 h2 => h q h2 h1
/-- Where the region stands: A: which empty rows are laid, k: how many rows are copied. -/
structure ZC (W0 : World) (a0 : Act) (N : Nat → Nat) (F : Nat → Nat → Int) (A : List Bool) (e : Bool) (k : Nat) (a : Act) (x : World) : Prop where
  one : e = true
  size : a.tmps.size = a0.tmps.size
  defers : a.defers = a0.defers
  rest : ∀ t : Nat, (∀ i : Nat, i < 3 → t ≠ 3 + 4 * i ∧ t ≠ 6 + 4 * i) → a.eval (.tmp t) = a0.eval (.tmp t)
  below : Below W0.heap.size W0 x
  alen : A.length = 3
  kle : k ≤ 3
  got : ∀ i, i < k → A.getD i false = true
  laid : ∀ i, i < 3 → k ≤ i → A.getD i false = true → ∃ q, a.eval (.tmp (3 + 4 * i)) = .slice (some ⟨q, 0, none⟩) 0 0 ∧ Em x q (tyC i) ∧ W0.heap.size ≤ q
  done : ∀ i, i < k → ∃ ao cp, a.eval (.tmp (6 + 4 * i)) = .slice ao (N i) cp ∧ Own x W0.heap.size (tyC i) (msC i) (N i) (F i) (.slice ao (N i) cp)
  apL : ∀ i j, i < 3 → j < 3 → i ≠ j → k ≤ i → k ≤ j → A.getD i false = true → A.getD j false = true → ApaC (a.eval (.tmp (3 + 4 * i))) (a.eval (.tmp (3 + 4 * j)))
  apM : ∀ i j, i < k → k ≤ j → j < 3 → A.getD j false = true → ApaC (a.eval (.tmp (6 + 4 * i))) (a.eval (.tmp (3 + 4 * j)))
  apD : ∀ i j, i < j → j < k → ApaC (a.eval (.tmp (6 + 4 * i))) (a.eval (.tmp (6 + 4 * j)))
theorem setC_self {A : List Bool} {i : Nat} (h : i < A.length) (d : Bool) : (A.set i true).getD i d = true := by
  simp [List.getD_eq_getElem?_getD, h]
theorem setC_off {A : List Bool} {i j : Nat} (h : i ≠ j) (d : Bool) : (A.set i true).getD j d = A.getD j d := by
  simp [List.getD_eq_getElem?_getD, List.getElem?_set_ne h]
section
variable {W0 : World} {a0 : Act} {N : Nat → Nat} {F : Nat → Nat → Int} {A : List Bool} {e : Bool} {k : Nat} {a : Act} {x : World}
theorem ZC.lay (h : ZC W0 a0 N F A e k a x) (hs : 15 ≤ a0.tmps.size) {i : Nat} (hi : i < 3) : ZC W0 a0 N F (A.set i true) e k (a.put (some (3 + 4 * i)) (.slice (some ⟨x.heap.size, 0, none⟩) 0 0)) (x.alloc (.cells #[] (tyC i))) where
  one := h.one
  size := by rw [sizeQ_put]; exact h.size
  defers := by rw [defersQ_put]; exact h.defers
  rest := fun u hu => by rw [Act.eval_put_ne _ _ _ _ (Ne.symm (hu i hi).1)]; exact h.rest u hu
  below := h.below.alloc h.below.size _
  alen := by rw [List.length_set]; exact h.alen
  kle := h.kle
  got := fun j hj => by
    by_cases q : i = j
    · subst q; exact setC_self (by rw [h.alen]; exact hi) _
    · rw [setC_off q]; exact h.got j hj
  laid := fun j hj hkj hA => by
    by_cases q : i = j
    · subst q
      exact ⟨x.heap.size, Act.eval_put_same _ _ _ (by rw [h.size]; omega), Em.new _ _, h.below.size⟩
    · rw [setC_off q] at hA
      obtain ⟨g, e1, e2, e3⟩ := h.laid j hj hkj hA
      exact ⟨g, by rw [Act.eval_put_ne _ _ _ _ (by omega)]; exact e1, e2.later (below_alloc _ _), e3⟩
  done := fun j hj => by
    obtain ⟨ao, cp, e1, e2⟩ := h.done j hj
    exact ⟨ao, cp, by rw [Act.eval_put_ne _ _ _ _ (by omega)]; exact e1, e2.alloc _⟩
  apL := fun j l hj hl hjl hkj hkl hA hB => by
    have key : ∀ m, m < 3 → i ≠ m → k ≤ m → (A.set i true).getD m false = true → ∀ q, (a.eval (.tmp (3 + 4 * m))).ownBlock = some q → q < x.heap.size := fun m hm him hkm hAm q hq => by
      rw [setC_off him] at hAm
      obtain ⟨g, e1, e2, _⟩ := h.laid m hm hkm hAm
      rw [e1] at hq
      cases hq
      exact e2.lt
    by_cases q : i = j
    · subst q
      rw [Act.eval_put_same _ _ _ (by rw [h.size]; omega), Act.eval_put_ne _ _ _ _ (by omega)]
      intro q h1 h2
      cases h1
      exact absurd (key l hl hjl hkl hB _ h2) (Nat.lt_irrefl _)
    · by_cases q2 : i = l
      · subst q2
        rw [Act.eval_put_ne _ _ _ _ (by omega), Act.eval_put_same _ _ _ (by rw [h.size]; omega)]
        intro q h1 h2
        cases h2
        exact absurd (key j hj (Ne.symm hjl) hkj hA _ h1) (Nat.lt_irrefl _)
      · rw [Act.eval_put_ne _ _ _ _ (by omega), Act.eval_put_ne _ _ _ _ (by omega)]
        rw [setC_off q] at hA
        rw [setC_off q2] at hB
        exact h.apL j l hj hl hjl hkj hkl hA hB
  apM := fun j l hj hkl hl hB => by
    rw [Act.eval_put_ne _ _ _ _ (by omega : (3 + 4 * i : Nat) ≠ 6 + 4 * j)]
    by_cases q : i = l
    · subst q
      rw [Act.eval_put_same _ _ _ (by rw [h.size]; omega)]
      intro q h1 h2
      cases h2
      obtain ⟨ao, cp, e1, e2⟩ := h.done j hj
      rw [e1] at h1
      exact absurd (own_blk e2 _ h1).2 (Nat.lt_irrefl _)
    · rw [Act.eval_put_ne _ _ _ _ (by omega)]
      rw [setC_off q] at hB
      exact h.apM j l hj hkl hl hB
  apD := fun j l hjl hl => by
    rw [Act.eval_put_ne _ _ _ _ (by omega), Act.eval_put_ne _ _ _ _ (by omega)]
    exact h.apD j l hjl hl
theorem ZC.call (h : ZC W0 a0 N F A e k a x) (hs : 15 ≤ a0.tmps.size) (hk : k < 3) (hA : A.getD k false = true) {x' : World} {q cp : Nat} {ao : Option Addr} (hq : a.eval (.tmp (3 + 4 * k)) = .slice (some ⟨q, 0, none⟩) 0 0) (hq0 : W0.heap.size ≤ q) (hqx : q < x.heap.size) (ho : Own x' q (tyC k) (msC k) (N k) (F k) (.slice ao (N k) cp)) (hb : ∀ b, (Value.slice ao (N k) cp).ownBlock = some b → (b = q ∨ x.heap.size ≤ b) ∧ b < x'.heap.size) (hg : x.grownBy x' (some q)) :
    ZC W0 a0 N F A e (k + 1) (a.put (some (6 + 4 * k)) (.slice ao (N k) cp)) x' where
  one := h.one
  size := by rw [sizeQ_put]; exact h.size
  defers := by rw [defersQ_put]; exact h.defers
  rest := fun u hu => by rw [Act.eval_put_ne _ _ _ _ (Ne.symm (hu k hk).2)]; exact h.rest u hu
  below := h.below.grown hg h.below.size (fun b e => by cases e; exact hq0)
  alen := h.alen
  kle := hk
  got := fun j hj => by
    by_cases q : j = k
    · subst q; exact hA
    · exact h.got j (by omega)
  laid := fun j hj hkj hB => by
    obtain ⟨g, e1, e2, e3⟩ := h.laid j hj (by omega) hB
    have hne : g ≠ q := fun r => by
      subst r
      have := h.apL k j hk hj (by omega) (Nat.le_refl _) (by omega) hA hB
      rw [hq, e1] at this
      exact this g rfl rfl
    exact ⟨g, by rw [Act.eval_put_ne _ _ _ _ (by omega)]; exact e1, e2.grown hg hne, e3⟩
  done := fun j hj => by
    by_cases r : j = k
    · subst r
      exact ⟨ao, cp, Act.eval_put_same _ _ _ (by rw [h.size]; omega), ho.mono hq0⟩
    · obtain ⟨ao', cp', e1, e2⟩ := h.done j (by omega)
      refine ⟨ao', cp', by rw [Act.eval_put_ne _ _ _ _ (by omega)]; exact e1, own_kept e2 (fun b hb' => hg.block b (own_blk e2 b hb').2 (fun r => ?_))⟩
      cases r
      have := h.apM j k (by omega) (Nat.le_refl _) hk hA
      rw [e1, hq] at this
      exact this q hb' rfl
  apL := fun i j hi hj hij hki hkj hB hC => by
    rw [Act.eval_put_ne _ _ _ _ (by omega), Act.eval_put_ne _ _ _ _ (by omega)]
    exact h.apL i j hi hj hij (by omega) (by omega) hB hC
  apM := fun i j hi hkj hj hB => by
    rw [Act.eval_put_ne _ _ _ _ (by omega : (6 + 4 * k : Nat) ≠ 3 + 4 * j)]
    obtain ⟨g, e1, e2, _⟩ := h.laid j hj (by omega) hB
    by_cases r : i = k
    · subst r
      rw [Act.eval_put_same _ _ _ (by rw [h.size]; omega)]
      intro b h1 h2
      have hap := h.apL i j hk hj (by omega) (Nat.le_refl _) (by omega) hA hB
      rw [hq, e1] at hap
      rw [e1] at h2
      cases h2
      rcases (hb g h1).1 with w1 | w1
      · exact hap g (by rw [w1]; rfl) rfl
      · exact absurd e2.lt (by omega)
    · rw [Act.eval_put_ne _ _ _ _ (by omega)]
      exact h.apM i j (by omega) (by omega) hj hB
  apD := fun i j hij hj => by
    rw [Act.eval_put_ne _ _ _ _ (by omega : (6 + 4 * k : Nat) ≠ 6 + 4 * i)]
    by_cases r : j = k
    · subst r
      rw [Act.eval_put_same _ _ _ (by rw [h.size]; omega)]
      obtain ⟨ao', cp', e1, e2⟩ := h.done i hij
      intro b h1 h2
      have hap := h.apM i j hij (Nat.le_refl _) hk hA
      rw [hq] at hap
      rcases (hb b h2).1 with w1 | w1
      · exact hap b h1 (by rw [w1]; rfl)
      · rw [e1] at h1
        exact absurd (own_blk e2 b h1).2 (by omega)
    · rw [Act.eval_put_ne _ _ _ _ (by omega)]
      exact h.apD i j hij (by omega)
end
theorem ZC.start {W0 : World} {a0 : Act} {N : Nat → Nat} {F : Nat → Nat → Int} : ZC W0 a0 N F [false, false, false] true 0 a0 W0 where
  one := rfl
  size := rfl
  defers := rfl
  rest := fun _ _ => rfl
  below := Below.refl _ _
  alen := rfl
  kle := Nat.zero_le _
  got := fun _ h => absurd h (Nat.not_lt_zero _)
  laid := fun i hi _ hA => by
    match i, hi with
    | 0, _ => cases hA
    | 1, _ => cases hA
    | 2, _ => cases hA
  done := fun _ h => absurd h (Nat.not_lt_zero _)
  apL := fun i _ hi _ _ _ _ hA _ => by
    match i, hi with
    | 0, _ => cases hA
    | 1, _ => cases hA
    | 2, _ => cases hA
  apM := fun _ _ h _ _ _ => absurd h (Nat.not_lt_zero _)
  apD := fun _ _ _ h => absurd h (Nat.not_lt_zero _)
/-- 'append([]T{}, row...)' at an operation. -/
theorem wp_onto {o : Oper} {d : Nat} {a : Act} {K : Act → World → Prop} {Q : Exit → Act → World → Prop} (s x : Operand) (t : TypeId) (ho : o.op = .call { callee := .builtin .append, args := #[s, x], argTypes := #[t, t] }) (hd : o.dst = some d)
    (e : TypeId) (i : TypeInfo) (z : Value) (m bytes : Nat) (ht : Tryz.prog.underlying t = some (.slice e)) (hi : Tryz.prog.info? e = some i) (hz : i.zero = some z) (hsize : i.size = m) (hby : i.bytes = bytes) (hzs : z.cells.size = m) (hm : 0 < m) (hb5 : bytes ≤ 1000)
    (w : World) (q B n : Nat) (F : Nat → Int) (v : Value) (hs : a.eval s = .slice (some ⟨q, 0, none⟩) 0 0) (hx : a.eval x = v) (h0 : w.heap[q]? = some (.cells #[] e)) (h : Row w B m n F v) (hn : n ≤ 1048576)
    (hK : ∀ ao cp w', Own w' q e m n F (.slice ao n cp) → (∀ k, (Value.slice ao n cp).ownBlock = some k → (k = q ∨ w.heap.size ≤ k) ∧ k < w'.heap.size) → w.grownBy w' (some q) → K (a.put (some d) (.slice ao n cp)) w') : Oper.wp Tryz.prog o a w K Q := by
  obtain ⟨ao, cp, w', hr, h2, h3, h4⟩ := run_onto t o.type e i z m bytes ht hi hz hsize hby hzs hm hb5 w q B n F v h0 h hn
  unfold Oper.wp execOp
  simp only [ho, resolve, invoke, builtin, Sem.run_bind, Sem.run_pure, Result.andThen_ok, List.map_toArray, List.map_cons, List.map_nil, hs, hx, hr]
  show K (a.put o.dst (.slice ao n cp)) w'
  rw [hd]
  exact hK ao cp w' h2 h3 h4
theorem run_noCell (w : World) : (Instr.buildSlice 24 0 #[]).run Tryz.prog w = .ok (.slice (some ⟨w.heap.size, 0, none⟩) 0 0) (w.alloc (.cells #[] 75)) := by
  first | kernel_rfl | rfl | go_simp
theorem wp_noCell {o : Oper} {d : Nat} {a : Act} {w : World} {K : Act → World → Prop} {Q : Exit → Act → World → Prop} (hop : o.op = .buildSlice 24 0 #[]) (hd : o.dst = some d) (h : K (a.put (some d) (.slice (some ⟨w.heap.size, 0, none⟩) 0 0)) (w.alloc (.cells #[] 75))) : Oper.wp Tryz.prog o a w K Q := by
  unfold Oper.wp execOp
  simp only [hop, List.map_toArray, List.map_nil, Sem.run_bind, run_noCell, Result.andThen_ok, Sem.run_pure]
  show K (a.put o.dst _) _
  rw [hd]
  exact h
theorem run_noLock (w : World) : (Instr.buildSlice 25 0 #[]).run Tryz.prog w = .ok (.slice (some ⟨w.heap.size, 0, none⟩) 0 0) (w.alloc (.cells #[] 61)) := by
  first | kernel_rfl | rfl | go_simp
theorem wp_noLock {o : Oper} {d : Nat} {a : Act} {w : World} {K : Act → World → Prop} {Q : Exit → Act → World → Prop} (hop : o.op = .buildSlice 25 0 #[]) (hd : o.dst = some d) (h : K (a.put (some d) (.slice (some ⟨w.heap.size, 0, none⟩) 0 0)) (w.alloc (.cells #[] 61))) : Oper.wp Tryz.prog o a w K Q := by
  unfold Oper.wp execOp
  simp only [hop, List.map_toArray, List.map_nil, Sem.run_bind, run_noLock, Result.andThen_ok, Sem.run_pure]
  show K (a.put o.dst _) _
  rw [hd]
  exact h
theorem run_noWrite (w : World) : (Instr.buildSlice 26 0 #[]).run Tryz.prog w = .ok (.slice (some ⟨w.heap.size, 0, none⟩) 0 0) (w.alloc (.cells #[] 38)) := by
  first | kernel_rfl | rfl | go_simp
theorem wp_noWrite {o : Oper} {d : Nat} {a : Act} {w : World} {K : Act → World → Prop} {Q : Exit → Act → World → Prop} (hop : o.op = .buildSlice 26 0 #[]) (hd : o.dst = some d) (h : K (a.put (some d) (.slice (some ⟨w.heap.size, 0, none⟩) 0 0)) (w.alloc (.cells #[] 38))) : Oper.wp Tryz.prog o a w K Q := by
  unfold Oper.wp execOp
  simp only [hop, List.map_toArray, List.map_nil, Sem.run_bind, run_noWrite, Result.andThen_ok, Sem.run_pure]
  show K (a.put o.dst _) _
  rw [hd]
  exact h
theorem wpAnyH_atC {P : Program} {md : Region.Mode} {ops : Array Oper} {Q : Exit → Act → World → Prop} {S : World → Prop} {n n' : Nat} {L L' : Array Bool} {a : Act} {w : World} (hn : n = n') (hL : L = L') (h : wpAnyH P md ops Q S n' L' a w) : wpAnyH P md ops Q S n L a w := by
  subst hn hL; exact h
/-- The copying region, in whatever order. -/
theorem wpAnyH_copies {ops : Array Oper} {Q : Exit → Act → World → Prop} {S : World → Prop} {L : Array Bool} {a : Act} {W : World} (f : Nat) (N : Nat → Nat) (F : Nat → Nat → Int) (hsz : 15 ≤ a.tmps.size)
    (hchk : chkQ .any ops 3 (fun i => 4 * i) (fun i => 3 + 4 * i) 1 L = true) (hL : L = L.setIfInBounds 1 true)
    (hlit : ∀ i, i < 3 → ∃ o, ops[4 * i]? = some o ∧ o.guard = none ∧ ∀ (b : Act) (x : World) (K : Act → World → Prop), K (b.put (some (3 + 4 * i)) (.slice (some ⟨x.heap.size, 0, none⟩) 0 0)) (x.alloc (.cells #[] (tyC i))) → Oper.wp Tryz.prog o b x K Q)
    (hcall : ∀ k, k < 3 → ∃ o, ops[3 + 4 * k]? = some o ∧ o.guard = none ∧ ∀ (b : Act) (x : World) (q : Nat) (K : Act → World → Prop), b.eval (.tmp (3 + 4 * k)) = .slice (some ⟨q, 0, none⟩) 0 0 → b.eval (.tmp (5 + 4 * k)) = a.eval (.tmp (5 + 4 * k)) → Em x q (tyC k) → Below W.heap.size W x → (∀ ao cp x', Own x' q (tyC k) (msC k) (N k) (F k) (.slice ao (N k) cp) → (∀ c, (Value.slice ao (N k) cp).ownBlock = some c → (c = q ∨ x.heap.size ≤ c) ∧ c < x'.heap.size) → x.grownBy x' (some q) → K (b.put (some (6 + 4 * k)) (.slice ao (N k) cp)) x') → Oper.wp Tryz.prog o b x K Q)
    (hS : ∀ x, Below W.heap.size W x → S x)
    (hend : ∀ (p0 p1 p2 : Value) (f0 f1 f2 : Option Addr) (m0 m1 m2 : Nat) (x : World), Below W.heap.size W x →
      (Own x W.heap.size 75 3 (N 0) (F 0) (.slice f0 (N 0) m0) ∧ Own x W.heap.size 61 5 (N 1) (F 1) (.slice f1 (N 1) m1) ∧ Own x W.heap.size 38 4 (N 2) (F 2) (.slice f2 (N 2) m2)) →
      (ApaC (.slice f0 (N 0) m0) (.slice f1 (N 1) m1) ∧ ApaC (.slice f0 (N 0) m0) (.slice f2 (N 2) m2) ∧ ApaC (.slice f1 (N 1) m1) (.slice f2 (N 2) m2)) →
      wpAnyH Tryz.prog .any ops Q S f (mkQ 3 (fun i => 4 * i) (fun i => 3 + 4 * i) 1 L [true, true, true] true 3) (putsQ [(3, p0), (7, p1), (11, p2), (6, .slice f0 (N 0) m0), (10, .slice f1 (N 1) m1), (14, .slice f2 (N 2) m2)] a) x) :
    wpAnyH Tryz.prog .any ops Q S (6 + f) L a W := by
  refine wpAnyH_atC (L' := mkQ 3 (fun i => 4 * i) (fun i => 3 + 4 * i) 1 L [false, false, false] true 0) rfl hL ?_
  refine wpAnyH_concs 3 (fun i => 4 * i) (fun i => 3 + 4 * i) 1 L f (ZC W a N F) hchk (fun A e k b x h => ⟨h.alen, h.kle, h.got⟩) (fun A e k b x h => hS x h.below) ?_ ?_ ?_ ?_ 6 [false, false, false] true 0 a W rfl ZC.start
  · intro A e k b x i h hi hA
    obtain ⟨o, ho, hg, hwp⟩ := hlit i hi
    exact ⟨o, ho, hg, fun K hK => hwp b x K (hK _ _ (h.lay hsz hi))⟩
  · intro A e k b x h hk hA
    obtain ⟨o, ho, hg, hwp⟩ := hcall k hk
    obtain ⟨q, e1, e2, e3⟩ := h.laid k hk (Nat.le_refl _) hA
    exact ⟨o, ho, hg, fun K hK => hwp b x q K e1 (h.rest (5 + 4 * k) (fun j hj => ⟨by omega, by omega⟩)) e2 h.below (fun ao cp x' h1 h2 h3 => hK _ _ (h.call hsz hk hA e1 e3 e2.lt h1 h2 h3))⟩
  · intro A k b x h
    exact absurd h.one (by decide)
  · intro e b x h
    obtain rfl := h.one
    have hb := putsQ_is [3, 7, 11, 6, 10, 14] a b (fun t ht => by simp at ht; omega) (by decide) h.size h.defers (fun t ht => h.rest t (fun i hi => by
      simp at ht
      match i, hi with
      | 0, _ => omega
      | 1, _ => omega
      | 2, _ => omega))
    obtain ⟨f0, m0, d0, o0⟩ := h.done 0 (by omega)
    obtain ⟨f1, m1, d1, o1⟩ := h.done 1 (by omega)
    obtain ⟨f2, m2, d2, o2⟩ := h.done 2 (by omega)
    have a01 := h.apD 0 1 (by omega) (by omega)
    have a02 := h.apD 0 2 (by omega) (by omega)
    have a12 := h.apD 1 2 (by omega) (by omega)
    rw [d0, d1] at a01
    rw [d0, d2] at a02
    rw [d1, d2] at a12
    have hq := hend (b.eval (.tmp 3)) (b.eval (.tmp 7)) (b.eval (.tmp 11)) f0 f1 f2 m0 m1 m2 x h.below ⟨o0, o1, o2⟩ ⟨a01, a02, a12⟩
    rw [← d0, ← d1, ← d2] at hq
    rw [hb]
    exact wpAnyH_atC (by unfold leftQ; simp) rfl hq
set_option maxRecDepth 100000 in
set_option maxHeartbeats 8000000 in
theorem l2Copy_own (S : Sto) (v0 v1 v2 : Value) (B : Nat) (w : World) (h : St w B S v0 v1 v2) (hn : S.nc ≤ 1048576 ∧ S.nl ≤ 1048576 ∧ S.nw ≤ 1048576) :
    Calls Tryz.prog 54 #[.agg #[v0, v1, v2]] w (NewStoK w S) := by
  obtain ⟨a0, c0, a1, c1, a2, c2, rfl, rfl, rfl⟩ := h.form
  have H : Hid (St w B S (.slice a0 S.nc c0) (.slice a1 S.nl c1) (.slice a2 S.nw c2)) := h
  have HN : Hid (S.nc ≤ 1048576 ∧ S.nl ≤ 1048576 ∧ S.nw ≤ 1048576) := hn
  have hCP : Cp w (.slice a0 S.nc c0) (.slice a1 S.nl c1) (.slice a2 S.nw c2) ((w.alloc (.cells #[.slice a0 S.nc c0, .slice a1 S.nl c1, .slice a2 S.nw c2] 28)).alloc (.cells #[.slice none 0 0, .slice none 0 0, .slice none 0 0] 28)).drew := ⟨(Blk3.new w _ _ _ _).alloc _, ((below_alloc _ _).alloc (by simp) _).drew⟩
  have hRB : Blk3 ((w.alloc (.cells #[.slice a0 S.nc c0, .slice a1 S.nl c1, .slice a2 S.nw c2] 28)).alloc (.cells #[.slice none 0 0, .slice none 0 0, .slice none 0 0] 28)).drew (w.heap.size + 1) (.slice none 0 0) (.slice none 0 0) (.slice none 0 0) := by
    have := Blk3.new (w.alloc (.cells #[.slice a0 S.nc c0, .slice a1 S.nl c1, .slice a2 S.nw c2] 28)) (.slice none 0 0) (.slice none 0 0) (.slice none 0 0) 28
    rw [World.size_alloc] at this
    exact this
  have hZ0 : ((w.alloc (.cells #[.slice a0 S.nc c0, .slice a1 S.nl c1, .slice a2 S.nw c2] 28)).alloc (.cells #[.slice none 0 0, .slice none 0 0, .slice none 0 0] 28)).drew.heap.size = w.heap.size + 2 := by simp
  clear h hn
  go_enter Tryz.func54, Tryz.ntmps54
  go_wp2_with fail
  refine wp_region_held_drew (S := Cp w (.slice a0 S.nc c0) (.slice a1 S.nl c1) (.slice a2 S.nw c2)) (by kernel_rfl) hCP (fun hS => ?_)
  generalize ((w.alloc (.cells #[.slice a0 S.nc c0, .slice a1 S.nl c1, .slice a2 S.nw c2] 28)).alloc (.cells #[.slice none 0 0, .slice none 0 0, .slice none 0 0] 28)).drew = y0 at hCP hRB hZ0 hS ⊢
  have RB : Hid (Blk3 y0 (w.heap.size + 1) (.slice none 0 0) (.slice none 0 0) (.slice none 0 0)) := hRB
  have Z0 : Hid (y0.heap.size = w.heap.size + 2) := hZ0
  have CP : Hid (Cp w (.slice a0 S.nc c0) (.slice a1 S.nl c1) (.slice a2 S.nw c2) y0) := hCP
  clear hCP hRB hZ0
  refine tkH 1 ?_ hS (fun wx hx => ?_) ?_; rotate_left
  · obtain ⟨⟨⟨hx0, hx1, hx2⟩, _⟩, _⟩ := hx; go_simp; try with_reducible rfl
  refine tkH 2 ?_ hS (fun wx hx => ?_) ?_; rotate_left
  · obtain ⟨⟨⟨hx0, hx1, hx2⟩, _⟩, _⟩ := hx; go_simp; try with_reducible rfl
  refine tkH 5 ?_ hS (fun wx hx => ?_) ?_; rotate_left
  · obtain ⟨⟨⟨hx0, hx1, hx2⟩, _⟩, _⟩ := hx; go_simp; try with_reducible rfl
  refine tkH 6 ?_ hS (fun wx hx => ?_) ?_; rotate_left
  · obtain ⟨⟨⟨hx0, hx1, hx2⟩, _⟩, _⟩ := hx; go_simp; try with_reducible rfl
  refine tkH 9 ?_ hS (fun wx hx => ?_) ?_; rotate_left
  · obtain ⟨⟨⟨hx0, hx1, hx2⟩, _⟩, _⟩ := hx; go_simp; try with_reducible rfl
  refine tkH 10 ?_ hS (fun wx hx => ?_) ?_; rotate_left
  · obtain ⟨⟨⟨hx0, hx1, hx2⟩, _⟩, _⟩ := hx; go_simp; try with_reducible rfl
  try simp only [Act.put, List.getElem_toArray, List.getElem_cons_zero, List.getElem_cons_succ, List.setIfInBounds_toArray, List.set_cons_succ, List.set_cons_zero]
  clear hS
  refine wpAnyH_copies 2 (fun i => match i with | 0 => S.nc | 1 => S.nl | _ => S.nw) (fun i => match i with | 0 => S.c | 1 => S.l | _ => S.k) (by simp) (by kernel_rfl) (by kernel_rfl) (fun i hi => ?_) (fun i hi => ?_) (fun x hb => CP.out.later hb) ?_
  · match i, hi with
    | 0, _ => exact ⟨_, rfl, rfl, fun b x K h => wp_noCell rfl rfl h⟩
    | 1, _ => exact ⟨_, rfl, rfl, fun b x K h => wp_noLock rfl rfl h⟩
    | 2, _ => exact ⟨_, rfl, rfl, fun b x K h => wp_noWrite rfl rfl h⟩
  · match i, hi with
    | 0, _ =>
      obtain ⟨i0, hi0, hz00, hz10, hz20⟩ := info_parts info_Cell
      refine ⟨_, rfl, rfl, fun b x q K e1 e2 hm hb h => ?_⟩
      exact wp_onto _ _ 24 rfl rfl 75 i0 (.agg #[.int .i64 0, .int .i64 0, .int .i64 0]) 3 24 Tryz.underlying24 hi0 hz00 hz10 hz20 rfl (by omega) (by omega) x q B S.nc S.c (.slice a0 S.nc c0) e1 e2 hm (H.out.later (CP.out.2.trans (hb.mono (by rw [Z0.out]; omega)))).1 HN.out.1 h
    | 1, _ =>
      obtain ⟨i0, hi0, hz00, hz10, hz20⟩ := info_parts info_Lock
      refine ⟨_, rfl, rfl, fun b x q K e1 e2 hm hb h => ?_⟩
      exact wp_onto _ _ 25 rfl rfl 61 i0 (.agg #[.int .i64 0, .int .i64 0, .int .i64 0, .int .i64 0, .int .i64 0]) 5 40 Tryz.underlying25 hi0 hz00 hz10 hz20 rfl (by omega) (by omega) x q B S.nl S.l (.slice a1 S.nl c1) e1 e2 hm (H.out.later (CP.out.2.trans (hb.mono (by rw [Z0.out]; omega)))).2.1 HN.out.2.1 h
    | 2, _ =>
      obtain ⟨i0, hi0, hz00, hz10, hz20⟩ := info_parts info_Write
      refine ⟨_, rfl, rfl, fun b x q K e1 e2 hm hb h => ?_⟩
      exact wp_onto _ _ 26 rfl rfl 38 i0 (.agg #[.int .i64 0, .int .i64 0, .int .i64 0, .int .i64 0]) 4 32 Tryz.underlying26 hi0 hz00 hz10 hz20 rfl (by omega) (by omega) x q B S.nw S.k (.slice a2 S.nw c2) e1 e2 hm (H.out.later (CP.out.2.trans (hb.mono (by rw [Z0.out]; omega)))).2.2 HN.out.2.2 h
  · intro p0 p1 p2 d0 d1 d2 e0 e1 e2 x hb ho ha
    try simp only [putsQ, Act.put, List.setIfInBounds_toArray, List.set_cons_succ, List.set_cons_zero]
    have hS : Cp w (.slice a0 S.nc c0) (.slice a1 S.nl c1) (.slice a2 S.nw c2) x := CP.out.later hb
    have hlo : w.heap.size + 1 < y0.heap.size := by rw [Z0.out]; omega
    have HO : Hid (NewStoK w S (.returned (.agg #[.slice d0 S.nc e0, .slice d1 S.nl e1, .slice d2 S.nw e2])) (((x.setCell ⟨w.heap.size + 1, 0, none⟩ (.slice d0 S.nc e0)).setCell ⟨w.heap.size + 1, 1, none⟩ (.slice d1 S.nl e1)).setCell ⟨w.heap.size + 1, 2, none⟩ (.slice d2 S.nw e2))) :=
      ⟨d0, e0, d1, e1, d2, e2, rfl, ⟨⟨(own_far (own_far (own_far ho.1 (a := ⟨w.heap.size + 1, 0, none⟩) hlo _) (a := ⟨w.heap.size + 1, 1, none⟩) hlo _) (a := ⟨w.heap.size + 1, 2, none⟩) hlo _).mono (by omega), (own_far (own_far (own_far ho.2.1 (a := ⟨w.heap.size + 1, 0, none⟩) hlo _) (a := ⟨w.heap.size + 1, 1, none⟩) hlo _) (a := ⟨w.heap.size + 1, 2, none⟩) hlo _).mono (by omega), (own_far (own_far (own_far ho.2.2 (a := ⟨w.heap.size + 1, 0, none⟩) hlo _) (a := ⟨w.heap.size + 1, 1, none⟩) hlo _) (a := ⟨w.heap.size + 1, 2, none⟩) hlo _).mono (by omega)⟩, ha.1, ha.2.1, ha.2.2⟩, ((hS.2.setCell (Nat.le_succ _) _).setCell (Nat.le_succ _) _).setCell (Nat.le_succ _) _⟩
    have RX : Hid (Blk3 x (w.heap.size + 1) (.slice none 0 0) (.slice none 0 0) (.slice none 0 0)) := RB.out.later hb
    clear ho ha hb hlo CP RB
    refine wpAnyH_atC (n' := 2) (L' := #[true, true, true, true, true, true, true, true, true, true, true, true, false, false]) rfl (by kernel_rfl) ?_
    refine tkH 12 ?_ hS (fun wx hx => ?_) ?_; rotate_left
    · obtain ⟨⟨⟨hx0, hx1, hx2⟩, _⟩, _⟩ := hx; go_simp; try with_reducible rfl
    refine rdH 13 (fun K hK => ?_)
    obtain ⟨⟨y0', y1', y2'⟩, z0', z1', z2'⟩ := RX.out
    have hS' : Cp w (.slice a0 S.nc c0) (.slice a1 S.nl c1) (.slice a2 S.nw c2) (((x.setCell ⟨w.heap.size + 1, 0, none⟩ (.slice d0 S.nc e0)).setCell ⟨w.heap.size + 1, 1, none⟩ (.slice d1 S.nl e1)).setCell ⟨w.heap.size + 1, 2, none⟩ (.slice d2 S.nw e2)) := ⟨((hS.1.setFar (p := ⟨w.heap.size + 1, 0, none⟩) (by simp) _).setFar (p := ⟨w.heap.size + 1, 1, none⟩) (by simp) _).setFar (p := ⟨w.heap.size + 1, 2, none⟩) (by simp) _, ((hS.2.setCell (Nat.le_succ _) _).setCell (Nat.le_succ _) _).setCell (Nat.le_succ _) _⟩
    go_simp
    refine hK.out _ _ hS' (fun hS => ?_)
    clear hK K hS'
    refine wpAnyH_done (by kernel_rfl) ?_ _
    go_simp
    go_wp2
    exact bodyPost_ret (v := .agg #[.slice d0 S.nc e0, .slice d1 S.nl e1, .slice d2 S.nw e2]) (by simp [results, Tryz.results54, go_sem, y0', y1', y2']) rfl HO.out
theorem l2Copy_cap (S : Sto) (v0 v1 v2 : Value) (B : Nat) (w : World) (h : St w B S v0 v1 v2) (hn : S.nc ≤ 1048576 ∧ S.nl ≤ 1048576 ∧ S.nw ≤ 1048576) :
    Calls Tryz.prog 54 #[.agg #[v0, v1, v2]] w (NewStoC w S) := (l2Copy_own S v0 v1 v2 B w h hn).mono fun _ _ q => q.cap
theorem l2Copy_is (S : Sto) (v0 v1 v2 : Value) (B : Nat) (w : World) (h : St w B S v0 v1 v2) (hn : S.nc ≤ 1048576 ∧ S.nl ≤ 1048576 ∧ S.nw ≤ 1048576) :
    Calls Tryz.prog 54 #[.agg #[v0, v1, v2]] w (NewSto w S) := (l2Copy_cap S v0 v1 v2 B w h hn).mono fun _ _ q => q.new
end Go.Proofs.YtnikdbebfofcaaaGreatDoor

namespace Go.Proofs.YtnikdbebfofcaaaGreatDoor
section
open Go.RowKit
def writeAt (k : Nat → Int) (a c : Int) (i : Nat) : Prop := k (i * 4) = a ∧ k (i * 4 + 1) = c
/-- What l3At answers. -/
def AtAns (S : Sto) (a c : Int) (w : World) (e : Ending) (w' : World) : Prop := ∃ r : Bool, e = .returned (.bool r) ∧ (r = true ↔ ∃ i, i < S.nw ∧ writeAt S.k a c i) ∧ w' = w
set_option maxRecDepth 10000 in
set_option maxHeartbeats 2000000 in
theorem l3At_anyO (S : Sto) (b oo : Nat) (v0 v1 v2 : Value) (a c : Int) (w : World) (h : LiesO w b oo S v0 v1 v2) (hn : S.nw ≤ 200) :
    Calls Tryz.prog 105 #[.pointer (some ⟨b, oo, none⟩), .int .i64 a, .int .i64 c] w (AtAns S a c w) := by
  obtain ⟨a0, c0, a1, c1, a2, c2, rfl, rfl, rfl⟩ := h.2.form
  have H : Hid (LiesO w b oo S (.slice a0 S.nc c0) (.slice a1 S.nl c1) (.slice a2 S.nw c2)) := h
  have p0 := h.1.2.2
  have hb := h.lt
  clear h
  go_enter Tryz.func105, Tryz.ntmps105
  go_wp2
  go_loop [7] (fun i => ∃ k : Nat, k ≤ S.nw ∧ i = .int .i64 k ∧ Hid (∀ j, j < k → ¬ writeAt S.k a c j)) (fun i => S.nw - (intOf i).toNat)
  case atStart => exact ⟨0, Nat.zero_le _, rfl, fun j hj => absurd hj (Nat.not_lt_zero j)⟩
  case round =>
    obtain ⟨k, hk, rfl, HS⟩ := hrel
    by_cases hlt : k < S.nw
    case neg =>
      obtain rfl : k = S.nw := by omega
      go_wp2
      refine bodyPost_ret (v := .bool false) (by simp [results, Tryz.results105, go_sem]) rfl ⟨false, rfl, ?_, rfl⟩
      exact ⟨fun q => (Bool.false_ne_true q).elim, fun ⟨i, hi, q⟩ => (HS.out i hi q).elim⟩
    obtain ⟨g, o, rfl, _, hg, x0, x1, x2, x3⟩ := H.out.2.2.2.at4 hlt
    obtain ⟨n0, N0⟩ : ∃ x, S.k (k * 4) = x := ⟨_, rfl⟩
    obtain ⟨n1, N1⟩ : ∃ x, S.k (k * 4 + 1) = x := ⟨_, rfl⟩
    rw [N0] at x0
    rw [N1] at x1
    by_cases h0 : n0 = a
    · by_cases h1 : n1 = c
      · have E : Hid (writeAt S.k a c k) := ⟨N0.trans h0, N1.trans h1⟩
        clear N0 N1
        subst h0 h1
        go_wp2
        refine bodyPost_ret (v := .bool true) (by simp [results, Tryz.results105, go_sem]) rfl ⟨true, rfl, ?_, rfl⟩
        exact ⟨fun _ => ⟨k, hlt, E.out⟩, fun _ => rfl⟩
      · have E : Hid (∀ j, j < k + 1 → ¬ writeAt S.k a c j) := all_next HS.out (fun q => h1 (N1.symm.trans q.2))
        have d1 : (n1 == c) = false := beq_eq_false_iff_ne.2 h1
        clear N0 N1 HS h1
        subst h0
        go_wp2
        go_round
        case rel => exact ⟨k + 1, by omega, by go_num, E⟩
        case measure => simp [intOf]; omega
    · have E : Hid (∀ j, j < k + 1 → ¬ writeAt S.k a c j) := all_next HS.out (fun q => h0 (N0.symm.trans q.1))
      have d0 : (n0 == a) = false := beq_eq_false_iff_ne.2 h0
      clear N0 N1 HS h0
      go_wp2
      go_round
      case rel => exact ⟨k + 1, by omega, by go_num, E⟩
      case measure => simp [intOf]; omega
/-- Is a lock that of a key and start? -/
def goneL (a s : Int) (t : List Int) : Bool := t.getD 0 0 == a && t.getD 1 0 == s
def unlL (F : Nat → Int) (a s : Int) (n : Nat) : List (List Int) := selD F 5 (goneL a s) n
set_option maxRecDepth 100000 in
set_option maxHeartbeats 4000000 in
theorem l3Unlock_any (n : Nat) (F : Nat → Int) (v : Value) (B : Nat) (a s : Int) (w : World) (h : Row w B 5 n F v) (hn : n ≤ 1000) :
    Calls Tryz.prog 106 #[v, .int .i64 a, .int .i64 s] w fun e w' => ∃ ao cp, e = .returned (.slice ao (unlL F a s n).length cp) ∧ OwnM w' w.heap.size 61 5 (.slice ao (unlL F a s n).length cp) (unlL F a s n).length (unlL F a s n).flatten ∧ Below w.heap.size w w' := by
  obtain ⟨ao0, cp0, rfl⟩ := h.form
  have H : Hid (Row w B 5 n F (.slice ao0 n cp0)) := h
  clear h
  obtain ⟨i0, hi, hz0, hz1, hz2⟩ := info_parts info_Lock
  go_enter Tryz.func106, Tryz.ntmps106
  go_wp2
  go_loopw [7, 8] (fun out i wr => ∃ (k : Nat) (ao : Option Addr) (cp : Nat), k ≤ n ∧ i = .int .i64 k ∧ out = .slice ao (unlL F a s k).length cp ∧ Hid (OwnM wr w.heap.size 61 5 (.slice ao (unlL F a s k).length cp) (unlL F a s k).length (unlL F a s k).flatten ∧ Below w.heap.size w wr)) (fun _ i _ => n - (intOf i).toNat)
  case atStart => exact ⟨0, _, _, Nat.zero_le _, rfl, rfl, OwnM.lit0 _ _ _ _ rfl, below_alloc _ _⟩
  case round =>
    obtain ⟨k, ao, cp, hk, rfl, rfl, HS⟩ := hrel
    by_cases hlt : k < n
    case neg =>
      obtain rfl : k = n := by omega
      go_wp2
      refine bodyPost_ret (v := .slice ao (unlL F a s k).length cp) (by simp [results, Tryz.results106, go_sem]) rfl ⟨ao, cp, rfl, HS.out⟩
    obtain ⟨g, o, rfl, _, hg, x0, x1, x2, x3, x4⟩ := (H.out.later HS.out.2).at5 hlt
    obtain ⟨n0, N0⟩ : ∃ x, F (k * 5) = x := ⟨_, rfl⟩
    rw [N0] at x0
    obtain ⟨n1, N1⟩ : ∃ x, F (k * 5 + 1) = x := ⟨_, rfl⟩
    rw [N1] at x1
    obtain ⟨n2, N2⟩ : ∃ x, F (k * 5 + 2) = x := ⟨_, rfl⟩
    rw [N2] at x2
    obtain ⟨n3, N3⟩ : ∃ x, F (k * 5 + 3) = x := ⟨_, rfl⟩
    rw [N3] at x3
    obtain ⟨n4, N4⟩ : ∃ x, F (k * 5 + 4) = x := ⟨_, rfl⟩
    rw [N4] at x4
    have HD : struD F 5 k = [n0, n1, n2, n3, n4] := by
      rw [← N0, ← N1, ← N2, ← N3, ← N4]
      rfl
    clear N0 N1 N2 N3 N4
    by_cases h0 : n0 = a
    · by_cases h1 : n1 = s
      · have HU : Hid (unlL F a s (k + 1) = unlL F a s k) := selD_gone (by rw [HD]; unfold goneL; simp [h0, h1])
        clear HD
        subst h0 h1
        obtain ⟨LL, hLL⟩ : ∃ LL, unlL F n0 n1 k = LL := ⟨_, rfl⟩
        rw [hLL] at HS HU
        have HLL : Hid (unlL F n0 n1 k = LL) := hLL
        rw [hLL]
        clear hLL
        go_wp2
        go_roundw
        case rel => exact ⟨k + 1, ao, cp, by omega, by go_num, by rw [HU.out], by rw [HU.out]; exact HS⟩
        case measure => simp [intOf]; omega
      · have HU : Hid (unlL F a s (k + 1) = unlL F a s k ++ [[n0, n1, n2, n3, n4]]) := by
          have := selD_kept (F := F) (m := 5) (D := goneL a s) (k := k) (by rw [HD]; unfold goneL; simp [h1])
          rw [HD] at this
          exact this
        have d0 : (n1 != s) = true := by rw [bne_iff_ne]; exact h1
        clear HD h1
        subst h0
        obtain ⟨LL, hLL⟩ : ∃ LL, unlL F n0 s k = LL := ⟨_, rfl⟩
        have hle : LL.length ≤ k := by rw [← hLL]; exact selD_le _ _ _ _
        rw [hLL] at HS HU
        rw [hLL]
        clear hLL
        have hbz := HS.out.2.size
        go_wp2_with (at_builtin; refine wpList_app 61 i0 (.agg #[.int .i64 0, .int .i64 0, .int .i64 0, .int .i64 0, .int .i64 0]) 5 40 rfl _ _ 25 rfl Tryz.underlying25 hi hz0 hz1 hz2 rfl (by omega) (by omega) _ w.heap.size LL.length LL.flatten (.slice ao LL.length cp) rfl (HS.out.1.later (below_alloc _ _)) 0 1 (fun p => [n0, n1, n2, n3, n4].getD p 0) (.slice (some ⟨wr.heap.size, 0, none⟩) 1 1) rfl (row_lit5 wr n0 n1 n2 n3 n4 61) (by omega) (by simp; omega) ?_; intro ao1 cp1 w2 O2 G2)
        have HS2 : Hid (OwnM w2 w.heap.size 61 5 (.slice ao1 (unlL F n0 s (k + 1)).length cp1) (unlL F n0 s (k + 1)).length (unlL F n0 s (k + 1)).flatten ∧ Below w.heap.size w w2) := by
          unfold Hid
          rw [HU.out, List.length_append, List.length_singleton, List.flatten_append]
          refine ⟨?_, (HS.out.2.alloc hbz _).grown G2 (by simp; omega) (fun r e => (HS.out.1.block r e).1)⟩
          have e5 : nums (fun p => [n0, n1, n2, n3, n4].getD p 0) (1 * 5) = [[n0, n1, n2, n3, n4]].flatten := rfl
          rw [← e5]
          exact O2
        clear O2 G2 HS
        go_wp2
        go_roundw
        case rel => exact ⟨k + 1, ao1, cp1, by omega, by go_num, by rw [HU.out, List.length_append]; rfl, HS2⟩
        case measure => simp [intOf]; omega
    · have HU : Hid (unlL F a s (k + 1) = unlL F a s k ++ [[n0, n1, n2, n3, n4]]) := by
        have := selD_kept (F := F) (m := 5) (D := goneL a s) (k := k) (by rw [HD]; unfold goneL; simp [h0])
        rw [HD] at this
        exact this
      have d0 : (n0 != a) = true := by rw [bne_iff_ne]; exact h0
      clear HD h0
      obtain ⟨LL, hLL⟩ : ∃ LL, unlL F a s k = LL := ⟨_, rfl⟩
      have hle : LL.length ≤ k := by rw [← hLL]; exact selD_le _ _ _ _
      rw [hLL] at HS HU
      rw [hLL]
      clear hLL
      have hbz := HS.out.2.size
      go_wp2_with (at_builtin; refine wpList_app 61 i0 (.agg #[.int .i64 0, .int .i64 0, .int .i64 0, .int .i64 0, .int .i64 0]) 5 40 rfl _ _ 25 rfl Tryz.underlying25 hi hz0 hz1 hz2 rfl (by omega) (by omega) _ w.heap.size LL.length LL.flatten (.slice ao LL.length cp) rfl (HS.out.1.later (below_alloc _ _)) 0 1 (fun p => [n0, n1, n2, n3, n4].getD p 0) (.slice (some ⟨wr.heap.size, 0, none⟩) 1 1) rfl (row_lit5 wr n0 n1 n2 n3 n4 61) (by omega) (by simp; omega) ?_; intro ao1 cp1 w2 O2 G2)
      have HS2 : Hid (OwnM w2 w.heap.size 61 5 (.slice ao1 (unlL F a s (k + 1)).length cp1) (unlL F a s (k + 1)).length (unlL F a s (k + 1)).flatten ∧ Below w.heap.size w w2) := by
        unfold Hid
        rw [HU.out, List.length_append, List.length_singleton, List.flatten_append]
        refine ⟨?_, (HS.out.2.alloc hbz _).grown G2 (by simp; omega) (fun r e => (HS.out.1.block r e).1)⟩
        have e5 : nums (fun p => [n0, n1, n2, n3, n4].getD p 0) (1 * 5) = [[n0, n1, n2, n3, n4]].flatten := rfl
        rw [← e5]
        exact O2
      clear O2 G2 HS
      go_wp2
      go_roundw
      case rel => exact ⟨k + 1, ao1, cp1, by omega, by go_num, by rw [HU.out, List.length_append]; rfl, HS2⟩
      case measure => simp [intOf]; omega
end

section
open Go.RowKit
/-- One more struct in its place. -/
def insF (F : Nat → Int) (m n k : Nat) (xs : List Int) : Nat → Int := fun p => (nums F (k * m) ++ xs ++ nums (fun p => F (k * m + p)) ((n - k) * m)).getD p 0
/-- A store of which a lock of key a and start s has become a write of kind d, at commit c; its place is k. -/
def commitS (S : Sto) (a s c d : Int) (k : Nat) : Sto := ⟨S.nc, S.c, (unlL S.l a s S.nl).length, fun p => (unlL S.l a s S.nl).flatten.getD p 0, S.nw + 1, insF S.k 4 S.nw k [a, c, s, d]⟩

/-- What l3Commit stands on: its answer (the first block), the copy (block z). -/
def CmE (w : World) (b oo : Nat) (S : Sto) (v0 v1 v2 : Value) (z : Nat) (u0 u1 u2 : Value) (x : World) : Prop :=
  Blk4 x w.heap.size (.int .i64 0) (.slice none 0 0) (.slice none 0 0) (.slice none 0 0) ∧ Blk3 x z u0 u1 u2 ∧ LiesO x b oo S v0 v1 v2 ∧ Below w.heap.size w x
theorem CmE.later {w x x' : World} {b oo z : Nat} {S : Sto} {v0 v1 v2 u0 u1 u2 : Value} (h : CmE w b oo S v0 v1 v2 z u0 u1 u2 x) (hb : Below x.heap.size x x') : CmE w b oo S v0 v1 v2 z u0 u1 u2 x' := ⟨h.1.later hb, h.2.1.later hb, h.2.2.1.later hb, h.2.2.2.trans (hb.mono h.2.2.2.size)⟩
set_option maxRecDepth 100000 in
set_option maxHeartbeats 8000000 in
theorem l3Commit_sameO (S : Sto) (b oo : Nat) (v0 v1 v2 : Value) (a s c : Int) (i : Nat) (w : World) (h : LiesO w b oo S v0 v1 v2) (hz : storeF S = 0) (hi : FirstAt (writeIs S.k a s) S.nw i) (hc : S.k (i * 4 + 1) = c) :
    Calls Tryz.prog 93 #[.pointer (some ⟨b, oo, none⟩), .int .i64 a, .int .i64 s, .int .i64 c] w (ResStoK w 0 S) := by
  have hin : i < S.nw := hi.at.1
  obtain ⟨a0, c0, a1, c1, a2, c2, rfl, rfl, rfl⟩ := h.2.form
  have H : Hid (LiesO w b oo S (.slice a0 S.nc c0) (.slice a1 S.nl c1) (.slice a2 S.nw c2)) := h
  obtain ⟨p0, p1, p2⟩ := h.1
  have hb := h.lt
  obtain ⟨⟨hn0, hn1, hn2⟩, _⟩ := storeF_zero hz
  clear h
  go_enter Tryz.func93, Tryz.ntmps93
  go_wp2_with fail
  refine (l2Copy_own S _ _ _ 0 _ (H.out.2.alloc _) ⟨by omega, by omega, by omega⟩).mono ?_
  rintro e w2 ⟨d0, e0, d1, e1, d2, e2, rfl, o2, q2⟩
  have g0 := own_cap o2.1.1
  have g1 := own_cap o2.1.2.1
  have g2 := own_cap o2.1.2.2
  obtain ⟨s2, fr2, ap2⟩ := o2.all
  simp only [World.size_alloc] at s2 q2 o2
  have BW2 : Below w.heap.size w w2 := (below_alloc w _).trans (q2.mono (Nat.le_succ _))
  have HE : Hid (CmE w b oo S (.slice a0 S.nc c0) (.slice a1 S.nl c1) (.slice a2 S.nw c2) w2.heap.size (.slice d0 S.nc e0) (.slice d1 S.nl e1) (.slice d2 S.nw e2) (w2.alloc (.cells #[.slice d0 S.nc e0, .slice d1 S.nl e1, .slice d2 S.nw e2] 28))) :=
    ⟨((Blk4.new w _ _ _ _ _).kept (q2.block w.heap.size (Nat.lt_succ_self _))).alloc _, Blk3.new _ _ _ _ _, (H.out.later BW2).later (below_alloc _ _), BW2.trans ((below_alloc w2 _).mono BW2.size)⟩
  have HS : Hid ((St w2 (w.heap.size + 1) S (.slice d0 S.nc e0) (.slice d1 S.nl e1) (.slice d2 S.nw e2) ∧ FreeS w2 S (.slice d0 S.nc e0) (.slice d1 S.nl e1) (.slice d2 S.nw e2)) ∧ ApartD S (.slice d0 S.nc e0) (.slice d1 S.nl e1) (.slice d2 S.nw e2)) := ⟨⟨s2, fr2⟩, ap2⟩
  have HOS : Hid (OwnS w2 (w.heap.size + 1) S (.slice d0 S.nc e0) (.slice d1 S.nl e1) (.slice d2 S.nw e2)) := o2
  have hzw : w.heap.size < w2.heap.size := by have := q2.size; simp at this; omega
  have B23 : Hid (Below w2.heap.size w2 (w2.alloc (.cells #[.slice d0 S.nc e0, .slice d1 S.nl e1, .slice d2 S.nw e2] 28))) := below_alloc _ _
  have hbl : b < w2.heap.size := Nat.lt_trans hb hzw
  clear o2 s2 fr2 ap2 q2 BW2 p0 p1 p2
  go_wp2_with fail
  generalize w2.alloc (.cells #[.slice d0 S.nc e0, .slice d1 S.nl e1, .slice d2 S.nw e2] 28) = w3 at HE B23 ⊢
  have hz3 : w2.heap.size < w3.heap.size := HE.out.2.1.lt
  refine (l2Write_isO S b oo _ _ _ a s i _ HE.out.2.2.1 hn2 hi).mono ?_
  rintro e w' ⟨rfl, rfl⟩
  obtain ⟨⟨⟨r0, r1, r2, r3⟩, f0, f1, f2, f3⟩, ⟨⟨t0, t1, t2⟩, _⟩, ⟨⟨p0, p1, p2⟩, pst⟩, _⟩ := HE.out
  obtain ⟨g, o, hg, _, hgl, x0, x1, x2, x3⟩ := pst.2.2.at4 hin
  subst hg
  rw [hc] at x1
  unfold ResStoK
  clear pst
  go_wp2
  have S3 : St w' (w.heap.size + 1) S (.slice d0 S.nc e0) (.slice d1 S.nl e1) (.slice d2 S.nw e2) := HS.out.1.1.later B23.out
  have O3 := HOS.out.later B23.out
  have hlo : (w.heap.size : Nat) < w.heap.size + 1 := Nat.lt_succ_self _
  exact bodyPost_ret (v := .agg #[.int .i64 0, .slice d0 S.nc e0, .slice d1 S.nl e1, .slice d2 S.nw e2]) (by simp [results, Tryz.results93, go_sem, r0, r1, r2, r3]) rfl ⟨d0, e0, d1, e1, d2, e2, rfl, ((((O3.far hlo _).far hlo _).far hlo _).far hlo _).mono (by omega), (((HE.out.2.2.2.setCell (Nat.le_refl _) _).setCell (Nat.le_refl _) _).setCell (Nat.le_refl _) _).setCell (Nat.le_refl _) _⟩
theorem bool_no {r : Bool} {P : Prop} (h : r = true ↔ P) (hn : ¬ P) : r = false := by
  cases r with
  | false => rfl
  | true => exact (hn (h.1 rfl)).elim
set_option maxRecDepth 100000 in
set_option maxHeartbeats 8000000 in
theorem l3Commit_takenO (S : Sto) (b oo : Nat) (v0 v1 v2 : Value) (a s c : Int) (i : Nat) (w : World) (h : LiesO w b oo S v0 v1 v2) (hz : storeF S = 0) (hi : FirstAt (writeIs S.k a s) S.nw i) (hc : S.k (i * 4 + 1) ≠ c) :
    Calls Tryz.prog 93 #[.pointer (some ⟨b, oo, none⟩), .int .i64 a, .int .i64 s, .int .i64 c] w (ResStoK w 6 emptyS) := by
  have hin : i < S.nw := hi.at.1
  obtain ⟨a0, c0, a1, c1, a2, c2, rfl, rfl, rfl⟩ := h.2.form
  have H : Hid (LiesO w b oo S (.slice a0 S.nc c0) (.slice a1 S.nl c1) (.slice a2 S.nw c2)) := h
  obtain ⟨p0, p1, p2⟩ := h.1
  have hb := h.lt
  obtain ⟨⟨hn0, hn1, hn2⟩, _⟩ := storeF_zero hz
  clear h
  go_enter Tryz.func93, Tryz.ntmps93
  go_wp2_with fail
  refine (l2Copy_own S _ _ _ 0 _ (H.out.2.alloc _) ⟨by omega, by omega, by omega⟩).mono ?_
  rintro e w2 ⟨d0, e0, d1, e1, d2, e2, rfl, o2, q2⟩
  have g0 := own_cap o2.1.1
  have g1 := own_cap o2.1.2.1
  have g2 := own_cap o2.1.2.2
  obtain ⟨s2, fr2, ap2⟩ := o2.all
  simp only [World.size_alloc] at s2 q2 o2
  have BW2 : Below w.heap.size w w2 := (below_alloc w _).trans (q2.mono (Nat.le_succ _))
  have HE : Hid (CmE w b oo S (.slice a0 S.nc c0) (.slice a1 S.nl c1) (.slice a2 S.nw c2) w2.heap.size (.slice d0 S.nc e0) (.slice d1 S.nl e1) (.slice d2 S.nw e2) (w2.alloc (.cells #[.slice d0 S.nc e0, .slice d1 S.nl e1, .slice d2 S.nw e2] 28))) :=
    ⟨((Blk4.new w _ _ _ _ _).kept (q2.block w.heap.size (Nat.lt_succ_self _))).alloc _, Blk3.new _ _ _ _ _, (H.out.later BW2).later (below_alloc _ _), BW2.trans ((below_alloc w2 _).mono BW2.size)⟩
  have HS : Hid ((St w2 (w.heap.size + 1) S (.slice d0 S.nc e0) (.slice d1 S.nl e1) (.slice d2 S.nw e2) ∧ FreeS w2 S (.slice d0 S.nc e0) (.slice d1 S.nl e1) (.slice d2 S.nw e2)) ∧ ApartD S (.slice d0 S.nc e0) (.slice d1 S.nl e1) (.slice d2 S.nw e2)) := ⟨⟨s2, fr2⟩, ap2⟩
  have HOS : Hid (OwnS w2 (w.heap.size + 1) S (.slice d0 S.nc e0) (.slice d1 S.nl e1) (.slice d2 S.nw e2)) := o2
  have hzw : w.heap.size < w2.heap.size := by have := q2.size; simp at this; omega
  have B23 : Hid (Below w2.heap.size w2 (w2.alloc (.cells #[.slice d0 S.nc e0, .slice d1 S.nl e1, .slice d2 S.nw e2] 28))) := below_alloc _ _
  have hbl : b < w2.heap.size := Nat.lt_trans hb hzw
  clear o2 s2 fr2 ap2 q2 BW2 p0 p1 p2
  go_wp2_with fail
  generalize w2.alloc (.cells #[.slice d0 S.nc e0, .slice d1 S.nl e1, .slice d2 S.nw e2] 28) = w3 at HE B23 ⊢
  have hz3 : w2.heap.size < w3.heap.size := HE.out.2.1.lt
  refine (l2Write_isO S b oo _ _ _ a s i _ HE.out.2.2.1 hn2 hi).mono ?_
  rintro e w' ⟨rfl, rfl⟩
  obtain ⟨⟨⟨r0, r1, r2, r3⟩, f0, f1, f2, f3⟩, ⟨⟨t0, t1, t2⟩, _⟩, ⟨⟨p0, p1, p2⟩, pst⟩, _⟩ := HE.out
  obtain ⟨g, o, hg, _, hgl, x0, x1, x2, x3⟩ := pst.2.2.at4 hin
  subst hg
  obtain ⟨y, hy⟩ : ∃ y, S.k (i * 4 + 1) = y := ⟨_, rfl⟩
  rw [hy] at x1 hc
  have dc : (y == c) = false := beq_eq_false_iff_ne.2 hc
  unfold ResStoK
  clear pst hc hy
  go_wp2_with fail
  refine (l3Bad_own 6 _).mono ?_
  rintro e w4 ⟨y0, z0, y1, z1, y2, z2, rfl, o4, q4⟩
  have S4 : Hid (OwnS w4 (w.heap.size + 1) emptyS (.slice y0 emptyS.nc z0) (.slice y1 emptyS.nl z1) (.slice y2 emptyS.nw z2)) := o4.mono (Nat.le_trans hzw (Nat.le_of_lt hz3))
  have HBW : Hid (Below w.heap.size w w4) := HE.out.2.2.2.trans (q4.mono HE.out.2.2.2.size)
  obtain ⟨⟨r0, r1, r2, r3⟩, f0, f1, f2, f3⟩ := HE.out.1.later q4
  clear o4 q4
  have hlo : (w.heap.size : Nat) < w.heap.size + 1 := Nat.lt_succ_self _
  go_wp2
  exact bodyPost_ret (v := .agg #[.int .i64 6, .slice y0 emptyS.nc z0, .slice y1 emptyS.nl z1, .slice y2 emptyS.nw z2]) (by simp [results, Tryz.results93, go_sem, r0, r1, r2, r3]) rfl ⟨y0, z0, y1, z1, y2, z2, rfl, ((((S4.out.far hlo _).far hlo _).far hlo _).far hlo _).mono (by omega), (((HBW.out.setCell (Nat.le_refl _) _).setCell (Nat.le_refl _) _).setCell (Nat.le_refl _) _).setCell (Nat.le_refl _) _⟩
set_option maxRecDepth 100000 in
set_option maxHeartbeats 8000000 in
theorem l3Commit_noneO (S : Sto) (b oo : Nat) (v0 v1 v2 : Value) (a s c : Int) (w : World) (h : LiesO w b oo S v0 v1 v2) (hz : storeF S = 0) (hi : FirstAt (writeIs S.k a s) S.nw (-1)) (hl : FirstAt (lockIs S.l a) S.nl (-1) ∨ ∃ j : Nat, FirstAt (lockIs S.l a) S.nl j ∧ S.l (j * 5 + 1) ≠ s) :
    Calls Tryz.prog 93 #[.pointer (some ⟨b, oo, none⟩), .int .i64 a, .int .i64 s, .int .i64 c] w (ResStoK w 4 emptyS) := by
  rcases hl with hl | ⟨j, hl, hj⟩
  focus
    obtain ⟨a0, c0, a1, c1, a2, c2, rfl, rfl, rfl⟩ := h.2.form
    have H : Hid (LiesO w b oo S (.slice a0 S.nc c0) (.slice a1 S.nl c1) (.slice a2 S.nw c2)) := h
    obtain ⟨p0, p1, p2⟩ := h.1
    have hb := h.lt
    obtain ⟨⟨hn0, hn1, hn2⟩, _⟩ := storeF_zero hz
    clear h
    go_enter Tryz.func93, Tryz.ntmps93
    go_wp2_with fail
    refine (l2Copy_own S _ _ _ 0 _ (H.out.2.alloc _) ⟨by omega, by omega, by omega⟩).mono ?_
    rintro e w2 ⟨d0, e0, d1, e1, d2, e2, rfl, o2, q2⟩
    have g0 := own_cap o2.1.1
    have g1 := own_cap o2.1.2.1
    have g2 := own_cap o2.1.2.2
    obtain ⟨s2, fr2, ap2⟩ := o2.all
    simp only [World.size_alloc] at s2 q2 o2
    have BW2 : Below w.heap.size w w2 := (below_alloc w _).trans (q2.mono (Nat.le_succ _))
    have HE : Hid (CmE w b oo S (.slice a0 S.nc c0) (.slice a1 S.nl c1) (.slice a2 S.nw c2) w2.heap.size (.slice d0 S.nc e0) (.slice d1 S.nl e1) (.slice d2 S.nw e2) (w2.alloc (.cells #[.slice d0 S.nc e0, .slice d1 S.nl e1, .slice d2 S.nw e2] 28))) :=
      ⟨((Blk4.new w _ _ _ _ _).kept (q2.block w.heap.size (Nat.lt_succ_self _))).alloc _, Blk3.new _ _ _ _ _, (H.out.later BW2).later (below_alloc _ _), BW2.trans ((below_alloc w2 _).mono BW2.size)⟩
    have HS : Hid ((St w2 (w.heap.size + 1) S (.slice d0 S.nc e0) (.slice d1 S.nl e1) (.slice d2 S.nw e2) ∧ FreeS w2 S (.slice d0 S.nc e0) (.slice d1 S.nl e1) (.slice d2 S.nw e2)) ∧ ApartD S (.slice d0 S.nc e0) (.slice d1 S.nl e1) (.slice d2 S.nw e2)) := ⟨⟨s2, fr2⟩, ap2⟩
    have HOS : Hid (OwnS w2 (w.heap.size + 1) S (.slice d0 S.nc e0) (.slice d1 S.nl e1) (.slice d2 S.nw e2)) := o2
    have hzw : w.heap.size < w2.heap.size := by have := q2.size; simp at this; omega
    have B23 : Hid (Below w2.heap.size w2 (w2.alloc (.cells #[.slice d0 S.nc e0, .slice d1 S.nl e1, .slice d2 S.nw e2] 28))) := below_alloc _ _
    have hbl : b < w2.heap.size := Nat.lt_trans hb hzw
    clear o2 s2 fr2 ap2 q2 BW2 p0 p1 p2
    go_wp2_with fail
    generalize w2.alloc (.cells #[.slice d0 S.nc e0, .slice d1 S.nl e1, .slice d2 S.nw e2] 28) = w3 at HE B23 ⊢
    have hz3 : w2.heap.size < w3.heap.size := HE.out.2.1.lt
    refine (l2Write_isO S b oo _ _ _ a s (-1) _ HE.out.2.2.1 hn2 hi).mono ?_
    rintro e w' ⟨rfl, rfl⟩
    go_wp2_with fail
    refine (l2Lock_isO S b oo _ _ _ a (-1) _ HE.out.2.2.1 hn1 hl).mono ?_
    rintro e w'' ⟨rfl, rfl⟩
    unfold ResStoK
  rotate_left
  focus
    have hin : j < S.nl := hl.at.1
    obtain ⟨a0, c0, a1, c1, a2, c2, rfl, rfl, rfl⟩ := h.2.form
    have H : Hid (LiesO w b oo S (.slice a0 S.nc c0) (.slice a1 S.nl c1) (.slice a2 S.nw c2)) := h
    obtain ⟨p0, p1, p2⟩ := h.1
    have hb := h.lt
    obtain ⟨⟨hn0, hn1, hn2⟩, _⟩ := storeF_zero hz
    clear h
    go_enter Tryz.func93, Tryz.ntmps93
    go_wp2_with fail
    refine (l2Copy_own S _ _ _ 0 _ (H.out.2.alloc _) ⟨by omega, by omega, by omega⟩).mono ?_
    rintro e w2 ⟨d0, e0, d1, e1, d2, e2, rfl, o2, q2⟩
    have g0 := own_cap o2.1.1
    have g1 := own_cap o2.1.2.1
    have g2 := own_cap o2.1.2.2
    obtain ⟨s2, fr2, ap2⟩ := o2.all
    simp only [World.size_alloc] at s2 q2 o2
    have BW2 : Below w.heap.size w w2 := (below_alloc w _).trans (q2.mono (Nat.le_succ _))
    have HE : Hid (CmE w b oo S (.slice a0 S.nc c0) (.slice a1 S.nl c1) (.slice a2 S.nw c2) w2.heap.size (.slice d0 S.nc e0) (.slice d1 S.nl e1) (.slice d2 S.nw e2) (w2.alloc (.cells #[.slice d0 S.nc e0, .slice d1 S.nl e1, .slice d2 S.nw e2] 28))) :=
      ⟨((Blk4.new w _ _ _ _ _).kept (q2.block w.heap.size (Nat.lt_succ_self _))).alloc _, Blk3.new _ _ _ _ _, (H.out.later BW2).later (below_alloc _ _), BW2.trans ((below_alloc w2 _).mono BW2.size)⟩
    have HS : Hid ((St w2 (w.heap.size + 1) S (.slice d0 S.nc e0) (.slice d1 S.nl e1) (.slice d2 S.nw e2) ∧ FreeS w2 S (.slice d0 S.nc e0) (.slice d1 S.nl e1) (.slice d2 S.nw e2)) ∧ ApartD S (.slice d0 S.nc e0) (.slice d1 S.nl e1) (.slice d2 S.nw e2)) := ⟨⟨s2, fr2⟩, ap2⟩
    have HOS : Hid (OwnS w2 (w.heap.size + 1) S (.slice d0 S.nc e0) (.slice d1 S.nl e1) (.slice d2 S.nw e2)) := o2
    have hzw : w.heap.size < w2.heap.size := by have := q2.size; simp at this; omega
    have B23 : Hid (Below w2.heap.size w2 (w2.alloc (.cells #[.slice d0 S.nc e0, .slice d1 S.nl e1, .slice d2 S.nw e2] 28))) := below_alloc _ _
    have hbl : b < w2.heap.size := Nat.lt_trans hb hzw
    clear o2 s2 fr2 ap2 q2 BW2 p0 p1 p2
    go_wp2_with fail
    generalize w2.alloc (.cells #[.slice d0 S.nc e0, .slice d1 S.nl e1, .slice d2 S.nw e2] 28) = w3 at HE B23 ⊢
    have hz3 : w2.heap.size < w3.heap.size := HE.out.2.1.lt
    refine (l2Write_isO S b oo _ _ _ a s (-1) _ HE.out.2.2.1 hn2 hi).mono ?_
    rintro e w' ⟨rfl, rfl⟩
    go_wp2_with fail
    refine (l2Lock_isO S b oo _ _ _ a j _ HE.out.2.2.1 hn1 hl).mono ?_
    rintro e w'' ⟨rfl, rfl⟩
    obtain ⟨⟨⟨r0, r1, r2, r3⟩, f0, f1, f2, f3⟩, ⟨⟨t0, t1, t2⟩, _⟩, ⟨⟨p0, p1, p2⟩, pst⟩, _⟩ := HE.out
    obtain ⟨g, o, hg, _, hgl, x0, x1, x2, x3, x4⟩ := pst.2.1.at5 hin
    subst hg
    obtain ⟨y, hy⟩ : ∃ y, S.l (j * 5 + 1) = y := ⟨_, rfl⟩
    rw [hy] at x1 hj
    have dc : (y != s) = true := by rw [bne_iff_ne]; exact hj
    unfold ResStoK
    clear pst hj hy
  rotate_left
  all_goals
    go_wp2_with fail
    refine (l3Bad_own 4 _).mono ?_
    rintro e w4 ⟨y0, z0, y1, z1, y2, z2, rfl, o4, q4⟩
    have S4 : Hid (OwnS w4 (w.heap.size + 1) emptyS (.slice y0 emptyS.nc z0) (.slice y1 emptyS.nl z1) (.slice y2 emptyS.nw z2)) := o4.mono (Nat.le_trans hzw (Nat.le_of_lt hz3))
    have HBW : Hid (Below w.heap.size w w4) := HE.out.2.2.2.trans (q4.mono HE.out.2.2.2.size)
    obtain ⟨⟨r0, r1, r2, r3⟩, f0, f1, f2, f3⟩ := HE.out.1.later q4
    clear o4 q4
    have hlo : (w.heap.size : Nat) < w.heap.size + 1 := Nat.lt_succ_self _
    go_wp2
    exact bodyPost_ret (v := .agg #[.int .i64 4, .slice y0 emptyS.nc z0, .slice y1 emptyS.nl z1, .slice y2 emptyS.nw z2]) (by simp [results, Tryz.results93, go_sem, r0, r1, r2, r3]) rfl ⟨y0, z0, y1, z1, y2, z2, rfl, ((((S4.out.far hlo _).far hlo _).far hlo _).far hlo _).mono (by omega), (((HBW.out.setCell (Nat.le_refl _) _).setCell (Nat.le_refl _) _).setCell (Nat.le_refl _) _).setCell (Nat.le_refl _) _⟩
set_option maxRecDepth 100000 in
set_option maxHeartbeats 8000000 in
theorem l3Commit_atO (S : Sto) (b oo : Nat) (v0 v1 v2 : Value) (a s c : Int) (j : Nat) (w : World) (h : LiesO w b oo S v0 v1 v2) (hz : storeF S = 0) (hi : FirstAt (writeIs S.k a s) S.nw (-1)) (hl : FirstAt (lockIs S.l a) S.nl j) (hj : S.l (j * 5 + 1) = s) (hat : ∃ i, i < S.nw ∧ writeAt S.k a c i) :
    Calls Tryz.prog 93 #[.pointer (some ⟨b, oo, none⟩), .int .i64 a, .int .i64 s, .int .i64 c] w (ResStoK w 6 emptyS) := by
  have hin : j < S.nl := hl.at.1
  obtain ⟨a0, c0, a1, c1, a2, c2, rfl, rfl, rfl⟩ := h.2.form
  have H : Hid (LiesO w b oo S (.slice a0 S.nc c0) (.slice a1 S.nl c1) (.slice a2 S.nw c2)) := h
  obtain ⟨p0, p1, p2⟩ := h.1
  have hb := h.lt
  obtain ⟨⟨hn0, hn1, hn2⟩, _⟩ := storeF_zero hz
  clear h
  go_enter Tryz.func93, Tryz.ntmps93
  go_wp2_with fail
  refine (l2Copy_own S _ _ _ 0 _ (H.out.2.alloc _) ⟨by omega, by omega, by omega⟩).mono ?_
  rintro e w2 ⟨d0, e0, d1, e1, d2, e2, rfl, o2, q2⟩
  have g0 := own_cap o2.1.1
  have g1 := own_cap o2.1.2.1
  have g2 := own_cap o2.1.2.2
  obtain ⟨s2, fr2, ap2⟩ := o2.all
  simp only [World.size_alloc] at s2 q2 o2
  have BW2 : Below w.heap.size w w2 := (below_alloc w _).trans (q2.mono (Nat.le_succ _))
  have HE : Hid (CmE w b oo S (.slice a0 S.nc c0) (.slice a1 S.nl c1) (.slice a2 S.nw c2) w2.heap.size (.slice d0 S.nc e0) (.slice d1 S.nl e1) (.slice d2 S.nw e2) (w2.alloc (.cells #[.slice d0 S.nc e0, .slice d1 S.nl e1, .slice d2 S.nw e2] 28))) :=
    ⟨((Blk4.new w _ _ _ _ _).kept (q2.block w.heap.size (Nat.lt_succ_self _))).alloc _, Blk3.new _ _ _ _ _, (H.out.later BW2).later (below_alloc _ _), BW2.trans ((below_alloc w2 _).mono BW2.size)⟩
  have HS : Hid ((St w2 (w.heap.size + 1) S (.slice d0 S.nc e0) (.slice d1 S.nl e1) (.slice d2 S.nw e2) ∧ FreeS w2 S (.slice d0 S.nc e0) (.slice d1 S.nl e1) (.slice d2 S.nw e2)) ∧ ApartD S (.slice d0 S.nc e0) (.slice d1 S.nl e1) (.slice d2 S.nw e2)) := ⟨⟨s2, fr2⟩, ap2⟩
  have HOS : Hid (OwnS w2 (w.heap.size + 1) S (.slice d0 S.nc e0) (.slice d1 S.nl e1) (.slice d2 S.nw e2)) := o2
  have hzw : w.heap.size < w2.heap.size := by have := q2.size; simp at this; omega
  have B23 : Hid (Below w2.heap.size w2 (w2.alloc (.cells #[.slice d0 S.nc e0, .slice d1 S.nl e1, .slice d2 S.nw e2] 28))) := below_alloc _ _
  have hbl : b < w2.heap.size := Nat.lt_trans hb hzw
  clear o2 s2 fr2 ap2 q2 BW2 p0 p1 p2
  go_wp2_with fail
  generalize w2.alloc (.cells #[.slice d0 S.nc e0, .slice d1 S.nl e1, .slice d2 S.nw e2] 28) = w3 at HE B23 ⊢
  have hz3 : w2.heap.size < w3.heap.size := HE.out.2.1.lt
  refine (l2Write_isO S b oo _ _ _ a s (-1) _ HE.out.2.2.1 hn2 hi).mono ?_
  rintro e w' ⟨rfl, rfl⟩
  go_wp2_with fail
  refine (l2Lock_isO S b oo _ _ _ a j _ HE.out.2.2.1 hn1 hl).mono ?_
  rintro e w'' ⟨rfl, rfl⟩
  obtain ⟨⟨⟨r0, r1, r2, r3⟩, f0, f1, f2, f3⟩, ⟨⟨t0, t1, t2⟩, _⟩, ⟨⟨p0, p1, p2⟩, pst⟩, _⟩ := HE.out
  obtain ⟨g, o, hg, _, hgl, x0, x1, x2, x3, x4⟩ := pst.2.1.at5 hin
  subst hg
  rw [hj] at x1
  unfold ResStoK
  clear pst
  go_wp2_with fail
  refine (l3At_anyO S b oo _ _ _ a c _ HE.out.2.2.1 hn2).mono ?_
  rintro e w5 ⟨r, rfl, hr, rfl⟩
  obtain rfl : r = true := hr.2 hat
  clear hr hat
  go_wp2_with fail
  refine (l3Bad_own 6 _).mono ?_
  rintro e w4 ⟨y0, z0, y1, z1, y2, z2, rfl, o4, q4⟩
  have S4 : Hid (OwnS w4 (w.heap.size + 1) emptyS (.slice y0 emptyS.nc z0) (.slice y1 emptyS.nl z1) (.slice y2 emptyS.nw z2)) := o4.mono (Nat.le_trans hzw (Nat.le_of_lt hz3))
  have HBW : Hid (Below w.heap.size w w4) := HE.out.2.2.2.trans (q4.mono HE.out.2.2.2.size)
  obtain ⟨⟨r0, r1, r2, r3⟩, f0, f1, f2, f3⟩ := HE.out.1.later q4
  clear o4 q4
  have hlo : (w.heap.size : Nat) < w.heap.size + 1 := Nat.lt_succ_self _
  go_wp2
  exact bodyPost_ret (v := .agg #[.int .i64 6, .slice y0 emptyS.nc z0, .slice y1 emptyS.nl z1, .slice y2 emptyS.nw z2]) (by simp [results, Tryz.results93, go_sem, r0, r1, r2, r3]) rfl ⟨y0, z0, y1, z1, y2, z2, rfl, ((((S4.out.far hlo _).far hlo _).far hlo _).far hlo _).mono (by omega), (((HBW.out.setCell (Nat.le_refl _) _).setCell (Nat.le_refl _) _).setCell (Nat.le_refl _) _).setCell (Nat.le_refl _) _⟩
set_option maxRecDepth 100000 in
set_option maxHeartbeats 8000000 in
theorem l3Commit_manyO (S : Sto) (b oo : Nat) (v0 v1 v2 : Value) (a s c : Int) (j : Nat) (w : World) (h : LiesO w b oo S v0 v1 v2) (hz : storeF S = 0) (hi : FirstAt (writeIs S.k a s) S.nw (-1)) (hl : FirstAt (lockIs S.l a) S.nl j) (hj : S.l (j * 5 + 1) = s) (hat : ¬ ∃ i, i < S.nw ∧ writeAt S.k a c i) (hm : 200 ≤ S.nw) :
    Calls Tryz.prog 93 #[.pointer (some ⟨b, oo, none⟩), .int .i64 a, .int .i64 s, .int .i64 c] w (ResStoK w 2 emptyS) := by
  have hin : j < S.nl := hl.at.1
  have dm : decide ((200 : Int) ≤ (S.nw : Int)) = true := decide_eq_true (by omega)
  clear hm
  obtain ⟨a0, c0, a1, c1, a2, c2, rfl, rfl, rfl⟩ := h.2.form
  have H : Hid (LiesO w b oo S (.slice a0 S.nc c0) (.slice a1 S.nl c1) (.slice a2 S.nw c2)) := h
  obtain ⟨p0, p1, p2⟩ := h.1
  have hb := h.lt
  obtain ⟨⟨hn0, hn1, hn2⟩, _⟩ := storeF_zero hz
  clear h
  go_enter Tryz.func93, Tryz.ntmps93
  go_wp2_with fail
  refine (l2Copy_own S _ _ _ 0 _ (H.out.2.alloc _) ⟨by omega, by omega, by omega⟩).mono ?_
  rintro e w2 ⟨d0, e0, d1, e1, d2, e2, rfl, o2, q2⟩
  have g0 := own_cap o2.1.1
  have g1 := own_cap o2.1.2.1
  have g2 := own_cap o2.1.2.2
  obtain ⟨s2, fr2, ap2⟩ := o2.all
  simp only [World.size_alloc] at s2 q2 o2
  have BW2 : Below w.heap.size w w2 := (below_alloc w _).trans (q2.mono (Nat.le_succ _))
  have HE : Hid (CmE w b oo S (.slice a0 S.nc c0) (.slice a1 S.nl c1) (.slice a2 S.nw c2) w2.heap.size (.slice d0 S.nc e0) (.slice d1 S.nl e1) (.slice d2 S.nw e2) (w2.alloc (.cells #[.slice d0 S.nc e0, .slice d1 S.nl e1, .slice d2 S.nw e2] 28))) :=
    ⟨((Blk4.new w _ _ _ _ _).kept (q2.block w.heap.size (Nat.lt_succ_self _))).alloc _, Blk3.new _ _ _ _ _, (H.out.later BW2).later (below_alloc _ _), BW2.trans ((below_alloc w2 _).mono BW2.size)⟩
  have HS : Hid ((St w2 (w.heap.size + 1) S (.slice d0 S.nc e0) (.slice d1 S.nl e1) (.slice d2 S.nw e2) ∧ FreeS w2 S (.slice d0 S.nc e0) (.slice d1 S.nl e1) (.slice d2 S.nw e2)) ∧ ApartD S (.slice d0 S.nc e0) (.slice d1 S.nl e1) (.slice d2 S.nw e2)) := ⟨⟨s2, fr2⟩, ap2⟩
  have HOS : Hid (OwnS w2 (w.heap.size + 1) S (.slice d0 S.nc e0) (.slice d1 S.nl e1) (.slice d2 S.nw e2)) := o2
  have hzw : w.heap.size < w2.heap.size := by have := q2.size; simp at this; omega
  have B23 : Hid (Below w2.heap.size w2 (w2.alloc (.cells #[.slice d0 S.nc e0, .slice d1 S.nl e1, .slice d2 S.nw e2] 28))) := below_alloc _ _
  have hbl : b < w2.heap.size := Nat.lt_trans hb hzw
  clear o2 s2 fr2 ap2 q2 BW2 p0 p1 p2
  go_wp2_with fail
  generalize w2.alloc (.cells #[.slice d0 S.nc e0, .slice d1 S.nl e1, .slice d2 S.nw e2] 28) = w3 at HE B23 ⊢
  have hz3 : w2.heap.size < w3.heap.size := HE.out.2.1.lt
  refine (l2Write_isO S b oo _ _ _ a s (-1) _ HE.out.2.2.1 hn2 hi).mono ?_
  rintro e w' ⟨rfl, rfl⟩
  go_wp2_with fail
  refine (l2Lock_isO S b oo _ _ _ a j _ HE.out.2.2.1 hn1 hl).mono ?_
  rintro e w'' ⟨rfl, rfl⟩
  obtain ⟨⟨⟨r0, r1, r2, r3⟩, f0, f1, f2, f3⟩, ⟨⟨t0, t1, t2⟩, _⟩, ⟨⟨p0, p1, p2⟩, pst⟩, _⟩ := HE.out
  obtain ⟨g, o, hg, _, hgl, x0, x1, x2, x3, x4⟩ := pst.2.1.at5 hin
  subst hg
  rw [hj] at x1
  unfold ResStoK
  clear pst
  go_wp2_with fail
  refine (l3At_anyO S b oo _ _ _ a c _ HE.out.2.2.1 hn2).mono ?_
  rintro e w5 ⟨r, rfl, hr, rfl⟩
  obtain rfl : r = false := bool_no hr hat
  clear hr hat
  go_wp2_with fail
  refine (l3Bad_own 2 _).mono ?_
  rintro e w4 ⟨y0, z0, y1, z1, y2, z2, rfl, o4, q4⟩
  have S4 : Hid (OwnS w4 (w.heap.size + 1) emptyS (.slice y0 emptyS.nc z0) (.slice y1 emptyS.nl z1) (.slice y2 emptyS.nw z2)) := o4.mono (Nat.le_trans hzw (Nat.le_of_lt hz3))
  have HBW : Hid (Below w.heap.size w w4) := HE.out.2.2.2.trans (q4.mono HE.out.2.2.2.size)
  obtain ⟨⟨r0, r1, r2, r3⟩, f0, f1, f2, f3⟩ := HE.out.1.later q4
  clear o4 q4
  have hlo : (w.heap.size : Nat) < w.heap.size + 1 := Nat.lt_succ_self _
  go_wp2
  exact bodyPost_ret (v := .agg #[.int .i64 2, .slice y0 emptyS.nc z0, .slice y1 emptyS.nl z1, .slice y2 emptyS.nw z2]) (by simp [results, Tryz.results93, go_sem, r0, r1, r2, r3]) rfl ⟨y0, z0, y1, z1, y2, z2, rfl, ((((S4.out.far hlo _).far hlo _).far hlo _).far hlo _).mono (by omega), (((HBW.out.setCell (Nat.le_refl _) _).setCell (Nat.le_refl _) _).setCell (Nat.le_refl _) _).setCell (Nat.le_refl _) _⟩
end
section
open Go.RowKit
/-- What the last drawn region of l3Commit reads. -/
def CmR (b oo g p : Nat) (v1 : Value) (d : Int) (X : World) : Prop := X.cell? ⟨b, oo + 1, none⟩ = some v1 ∧ X.cell? ⟨g, p, none⟩ = some (.int .i64 d)
theorem CmR.later {b oo g p : Nat} {v1 : Value} {d : Int} {X X' : World} (h : CmR b oo g p v1 d X) (hb : Below X.heap.size X X') : CmR b oo g p v1 d X' :=
  ⟨(hb.cell (p := ⟨b, oo + 1, none⟩) (lt_cell h.1)).trans h.1, (hb.cell (p := ⟨g, p, none⟩) (lt_cell h.2)).trans h.2⟩
theorem CmR.far {b oo g p : Nat} {v1 : Value} {d : Int} {X : World} (h : CmR b oo g p v1 d X) {z k : Nat} (hb : b ≠ z) (hg : g ≠ z) (u : Value) : CmR b oo g p v1 d (X.setCell ⟨z, k, none⟩ u) :=
  ⟨(World.cell?_setCell_other _ _ _ _ (fun q => by have := congrArg Addr.block q; simp at this; omega)).trans h.1, (World.cell?_setCell_other _ _ _ _ (fun q => by have := congrArg Addr.block q; simp at this; omega)).trans h.2⟩
theorem placeAt.one {p : Nat → Prop} {n i k : Nat} (h : placeAt p n i) (h' : placeAt p n k) : i = k := by
  rcases Nat.lt_trichotomy i k with q | q | q
  · exact (h.2.2 (by have := h'.1; omega) (h'.2.1 i q)).elim
  · exact q
  · exact (h'.2.2 (by have := h.1; omega) (h.2.1 k q)).elim
set_option maxRecDepth 100000 in
set_option maxHeartbeats 8000000 in
theorem l3Commit_doneO (S : Sto) (b oo : Nat) (v0 v1 v2 : Value) (a s c : Int) (j : Nat) (w : World) (h : LiesO w b oo S v0 v1 v2) (hz : storeF S = 0) (hi : FirstAt (writeIs S.k a s) S.nw (-1)) (hl : FirstAt (lockIs S.l a) S.nl j) (hj : S.l (j * 5 + 1) = s) (hat : ¬ ∃ i, i < S.nw ∧ writeAt S.k a c i) (hm : S.nw < 200) (k : Nat) (hk : placeAt (aheadW S.k a c) S.nw k) :
    Calls Tryz.prog 93 #[.pointer (some ⟨b, oo, none⟩), .int .i64 a, .int .i64 s, .int .i64 c] w (ResStoK w 0 (commitS S a s c (S.l (j * 5 + 2)) k)) := by
  have hin : j < S.nl := hl.at.1
  have dm : decide ((200 : Int) ≤ (S.nw : Int)) = false := decide_eq_false (by omega)
  obtain ⟨d, hd⟩ : ∃ d, S.l (j * 5 + 2) = d := ⟨_, rfl⟩
  rw [hd]
  have HK : Hid (placeAt (aheadW S.k a c) S.nw k) := hk
  clear hm hk
  obtain ⟨a0, c0, a1, c1, a2, c2, rfl, rfl, rfl⟩ := h.2.form
  have H : Hid (LiesO w b oo S (.slice a0 S.nc c0) (.slice a1 S.nl c1) (.slice a2 S.nw c2)) := h
  obtain ⟨p0, p1, p2⟩ := h.1
  have hb := h.lt
  obtain ⟨⟨hn0, hn1, hn2⟩, _⟩ := storeF_zero hz
  clear h
  go_enter Tryz.func93, Tryz.ntmps93
  go_wp2_with fail
  refine (l2Copy_own S _ _ _ 0 _ (H.out.2.alloc _) ⟨by omega, by omega, by omega⟩).mono ?_
  rintro e w2 ⟨d0, e0, d1, e1, d2, e2, rfl, o2, q2⟩
  have g0 := own_cap o2.1.1
  have g1 := own_cap o2.1.2.1
  have g2 := own_cap o2.1.2.2
  obtain ⟨s2, fr2, ap2⟩ := o2.all
  simp only [World.size_alloc] at s2 q2 o2
  have BW2 : Below w.heap.size w w2 := (below_alloc w _).trans (q2.mono (Nat.le_succ _))
  have HE : Hid (CmE w b oo S (.slice a0 S.nc c0) (.slice a1 S.nl c1) (.slice a2 S.nw c2) w2.heap.size (.slice d0 S.nc e0) (.slice d1 S.nl e1) (.slice d2 S.nw e2) (w2.alloc (.cells #[.slice d0 S.nc e0, .slice d1 S.nl e1, .slice d2 S.nw e2] 28))) :=
    ⟨((Blk4.new w _ _ _ _ _).kept (q2.block w.heap.size (Nat.lt_succ_self _))).alloc _, Blk3.new _ _ _ _ _, (H.out.later BW2).later (below_alloc _ _), BW2.trans ((below_alloc w2 _).mono BW2.size)⟩
  have HS : Hid ((St w2 (w.heap.size + 1) S (.slice d0 S.nc e0) (.slice d1 S.nl e1) (.slice d2 S.nw e2) ∧ FreeS w2 S (.slice d0 S.nc e0) (.slice d1 S.nl e1) (.slice d2 S.nw e2)) ∧ ApartD S (.slice d0 S.nc e0) (.slice d1 S.nl e1) (.slice d2 S.nw e2)) := ⟨⟨s2, fr2⟩, ap2⟩
  have HOS : Hid (OwnS w2 (w.heap.size + 1) S (.slice d0 S.nc e0) (.slice d1 S.nl e1) (.slice d2 S.nw e2)) := o2
  have hzw : w.heap.size < w2.heap.size := by have := q2.size; simp at this; omega
  have B23 : Hid (Below w2.heap.size w2 (w2.alloc (.cells #[.slice d0 S.nc e0, .slice d1 S.nl e1, .slice d2 S.nw e2] 28))) := below_alloc _ _
  have hbl : b < w2.heap.size := Nat.lt_trans hb hzw
  clear o2 s2 fr2 ap2 q2 BW2 p0 p1 p2
  go_wp2_with fail
  generalize w2.alloc (.cells #[.slice d0 S.nc e0, .slice d1 S.nl e1, .slice d2 S.nw e2] 28) = w3 at HE B23 ⊢
  have hz3 : w2.heap.size < w3.heap.size := HE.out.2.1.lt
  refine (l2Write_isO S b oo _ _ _ a s (-1) _ HE.out.2.2.1 hn2 hi).mono ?_
  rintro e w' ⟨rfl, rfl⟩
  go_wp2_with fail
  refine (l2Lock_isO S b oo _ _ _ a j _ HE.out.2.2.1 hn1 hl).mono ?_
  rintro e w'' ⟨rfl, rfl⟩
  obtain ⟨⟨⟨r0, r1, r2, r3⟩, f0, f1, f2, f3⟩, ⟨⟨t0, t1, t2⟩, ft0, ft1, ft2⟩, ⟨⟨p0, p1, p2⟩, pst⟩, _⟩ := HE.out
  obtain ⟨g, o, hg, _, hgl, _, x1, x2, _, _⟩ := H.out.2.2.1.at5 hin
  subst hg
  rw [hj] at x1
  rw [hd] at x2
  replace x1 := (HE.out.2.2.2.cell (p := ⟨g, o + j * 5 + 1, none⟩) hgl).trans x1
  replace x2 := (HE.out.2.2.2.cell (p := ⟨g, o + j * 5 + 2, none⟩) hgl).trans x2
  clear pst
  go_wp2_with fail
  refine (l3At_anyO S b oo _ _ _ a c _ HE.out.2.2.1 hn2).mono ?_
  rintro e w5 ⟨r, rfl, hr, rfl⟩
  obtain rfl : r = false := bool_no hr hat
  clear hr hat
  go_wp2_with fail
  refine (l3Unlock_any S.nl S.l _ (w.heap.size + 1) a s _ (HS.out.1.1.later B23.out).2.1 (by omega)).mono ?_
  rintro e w6 ⟨y1, z1, rfl, O6, q6⟩
  have ft1' : w6.frozen? ⟨w2.heap.size, 1, none⟩ = false := (q6.frozen (p := ⟨w2.heap.size, 1, none⟩) hz3).trans ft1
  have t1' : w6.cell? ⟨w2.heap.size, 1, none⟩ = some (.slice d1 S.nl e1) := (q6.cell (p := ⟨w2.heap.size, 1, none⟩) hz3).trans t1
  have HE6 : Hid (CmE w b oo S (.slice a0 S.nc c0) (.slice (some ⟨g, o, none⟩) S.nl c1) (.slice a2 S.nw c2) w2.heap.size (.slice d0 S.nc e0) (.slice d1 S.nl e1) (.slice d2 S.nw e2) w6) := HE.out.later q6
  have B26 : Hid (Below w2.heap.size w2 w6) := B23.out.trans (q6.mono (Nat.le_of_lt hz3))
  have hgl2 : Hid (w6.cell? ⟨g, o + j * 5 + 2, none⟩ = some (.int .i64 d)) := (q6.cell (p := ⟨g, o + j * 5 + 2, none⟩) (Nat.lt_trans hgl (Nat.lt_trans hzw hz3))).trans x2
  obtain ⟨U, hU⟩ : ∃ U, unlL S.l a s S.nl = U := ⟨_, rfl⟩
  have HU : Hid (unlL S.l a s S.nl = U) := hU
  rw [hU] at O6 ⊢
  have O6' : Hid (OwnM w6 w5.heap.size 61 5 (.slice y1 U.length z1) U.length U.flatten) := O6
  have hz6 : w5.heap.size ≤ w6.heap.size := q6.size
  clear O6 q6 hU r0 r1 r2 r3 f0 f1 f2 f3 t0 t1 t2 ft0 ft1 ft2 p0 p1 p2 x1 x2
  go_upto_region 15 with fail
  -- the world behind the store of the locks
  have BX : Hid (Below w.heap.size w (w6.setCell ⟨w2.heap.size, 1, none⟩ (.slice y1 U.length z1))) := HE6.out.2.2.2.setCell (Nat.le_of_lt hzw) _
  have B2X : Hid (Below w2.heap.size w2 (w6.setCell ⟨w2.heap.size, 1, none⟩ (.slice y1 U.length z1))) := B26.out.setCell (Nat.le_refl _) _
  have RX : Hid (Blk4 (w6.setCell ⟨w2.heap.size, 1, none⟩ (.slice y1 U.length z1)) w.heap.size (.int .i64 0) (.slice none 0 0) (.slice none 0 0) (.slice none 0 0)) := HE6.out.1.kept (Below.heap_setCell _ _ _ _ (Nat.ne_of_lt hzw))
  have TX : Hid (Blk3 (w6.setCell ⟨w2.heap.size, 1, none⟩ (.slice y1 U.length z1)) w2.heap.size (.slice d0 S.nc e0) (.slice y1 U.length z1) (.slice d2 S.nw e2)) := HE6.out.2.1.set1 _
  have OX : Hid (OwnM (w6.setCell ⟨w2.heap.size, 1, none⟩ (.slice y1 U.length z1)) w5.heap.size 61 5 (.slice y1 U.length z1) U.length U.flatten) := O6'.out.far hz3 _
  have LX : Hid (LiesO (w6.setCell ⟨w2.heap.size, 1, none⟩ (.slice y1 U.length z1)) b oo S (.slice a0 S.nc c0) (.slice (some ⟨g, o, none⟩) S.nl c1) (.slice a2 S.nw c2)) := H.out.later BX.out
  have GX : Hid ((w6.setCell ⟨w2.heap.size, 1, none⟩ (.slice y1 U.length z1)).cell? ⟨g, o + j * 5 + 2, none⟩ = some (.int .i64 d)) := (World.cell?_setCell_other _ _ _ _ (fun q => by have := congrArg Addr.block q; simp at this; omega)).trans hgl2.out
  have zX : w2.heap.size < (w6.setCell ⟨w2.heap.size, 1, none⟩ (.slice y1 U.length z1)).heap.size := TX.out.lt
  have z5X : w5.heap.size ≤ (w6.setCell ⟨w2.heap.size, 1, none⟩ (.slice y1 U.length z1)).heap.size := by simpa [World.setCell] using hz6
  generalize w6.setCell ⟨w2.heap.size, 1, none⟩ (.slice y1 U.length z1) = X0 at BX B2X RX TX OX LX GX zX z5X ⊢
  clear HE6 O6' B26 hgl2 hz6 t1' ft1' HE
  refine wp_region_held_drew (S := CmR b oo g (o + j * 5 + 2) (.slice (some ⟨g, o, none⟩) S.nl c1) d) (by kernel_rfl) ⟨LX.out.1.2.1, GX.out⟩ (fun hS => ?_)
  refine tkH 0 ?_ hS (fun wx hx => ?_) ?_; rotate_left
  · obtain ⟨hx0, hx1⟩ := hx; go_simp; try with_reducible rfl
  refine tkH 2 ?_ hS (fun wx hx => ?_) ?_; rotate_left
  · obtain ⟨hx0, hx1⟩ := hx; go_simp; try with_reducible rfl
  refine tkH 3 ?_ hS (fun wx hx => ?_) ?_; rotate_left
  · obtain ⟨hx0, hx1⟩ := hx; go_simp; try with_reducible rfl
  refine tkH 4 ?_ hS (fun wx hx => ?_) ?_; rotate_left
  · obtain ⟨hx0, hx1⟩ := hx; go_simp; try with_reducible rfl
  refine tkH 5 ?_ hS (fun wx hx => ?_) ?_; rotate_left
  · obtain ⟨hx0, hx1⟩ := hx; go_simp; try with_reducible rfl
  refine tkH 6 ?_ hS (fun wx hx => ?_) ?_; rotate_left
  · obtain ⟨hx0, hx1⟩ := hx; go_simp; try with_reducible rfl
  refine tkH 7 ?_ hS (fun wx hx => ?_) ?_; rotate_left
  · obtain ⟨hx0, hx1⟩ := hx; go_simp; try with_reducible rfl
  refine tkH 8 ?_ hS (fun wx hx => ?_) ?_; rotate_left
  · obtain ⟨hx0, hx1⟩ := hx; go_simp; try with_reducible rfl
  refine tkH 9 ?_ hS (fun wx hx => ?_) ?_; rotate_left
  · obtain ⟨hx0, hx1⟩ := hx; go_simp; try with_reducible rfl
  refine tkH 10 ?_ hS (fun wx hx => ?_) ?_; rotate_left
  · obtain ⟨hx0, hx1⟩ := hx; go_simp; try with_reducible rfl
  refine tkH 11 ?_ hS (fun wx hx => ?_) ?_; rotate_left
  · obtain ⟨hx0, hx1⟩ := hx; go_simp; try with_reducible rfl
  refine tkH 12 ?_ hS (fun wx hx => ?_) ?_; rotate_left
  · obtain ⟨hx0, hx1⟩ := hx; go_simp; try with_reducible rfl
  refine tkH 13 ?_ hS (fun wx hx => ?_) ?_; rotate_left
  · obtain ⟨hx0, hx1⟩ := hx; go_simp; try with_reducible rfl
  have tx2 : X0.cell? ⟨w2.heap.size, 2, none⟩ = some (.slice d2 S.nw e2) := TX.out.1.2.2
  refine rdH 1 (fun K hK => ?_)
  go_simp
  refine hK.out _ _ hS (fun hS => ?_)
  clear hK K tx2
  refine rdH 14 (fun K hK => ?_)
  go_simp
  go_wp2_with fail
  refine (l2AddWrite_any S.nw S.k d2 e2 (w.heap.size + 1) a c s d _ ((HS.out.1.1.2.2.later B2X.out).drewN 1) (by omega) g2).mono ?_
  rintro e w7 ⟨k', y2, z2, hk', rfl, O7, q70⟩
  have q7 : Below X0.heap.size X0 w7 := ⟨q70.os, q70.tape, q70.output, q70.size, q70.block⟩
  clear q70
  obtain rfl : k' = k := hk'.one HK.out
  have BY : Hid (Below w.heap.size w w7) := BX.out.trans (q7.mono BX.out.size)
  have B2Y : Hid (Below w2.heap.size w2 w7) := B2X.out.trans (q7.mono (Nat.le_of_lt zX))
  have RY : Hid (Blk4 w7 w.heap.size (.int .i64 0) (.slice none 0 0) (.slice none 0 0) (.slice none 0 0)) := RX.out.later q7
  have TY : Hid (Blk3 w7 w2.heap.size (.slice d0 S.nc e0) (.slice y1 U.length z1) (.slice d2 S.nw e2)) := TX.out.later q7
  have OY : Hid (OwnM w7 w5.heap.size 61 5 (.slice y1 U.length z1) U.length U.flatten) := OX.out.later q7
  have hob : Hid (∀ q, (Value.slice y1 U.length z1).ownBlock = some q → w5.heap.size ≤ q ∧ q < X0.heap.size) := OX.out.block
  have PY : Hid (OwnM w7 X0.heap.size 38 4 (.slice y2 (S.nw + 1) z2) (S.nw + 1) (nums S.k (k' * 4) ++ [a, c, s, d] ++ nums (fun p => S.k (k' * 4 + p)) ((S.nw - k') * 4))) := O7
  have S7 := CmR.later (X := X0) hS q7
  have hkn : k' ≤ S.nw := hk'.1
  clear O7 q7 hk' OX RX TX LX GX BX B2X hS HK
  go_wp2_with fail
  refine hK.out _ _ S7 (fun hS => ?_)
  clear hK K S7
  refine tkH 15 ?_ hS (fun wx hx => ?_) ?_; rotate_left
  · obtain ⟨hx0, hx1⟩ := hx; go_simp; try with_reducible rfl
  obtain ⟨⟨t0, t1, t2⟩, ft0, ft1, ft2⟩ := TY.out
  refine rdH 16 (fun K hK => ?_)
  go_simp
  refine hK.out _ _ (hS.far (Nat.ne_of_lt hbl) (Nat.ne_of_lt (Nat.lt_trans hgl hzw)) _) (fun hS => ?_)
  clear hK K
  have RZ := RY.out.kept (Below.heap_setCell w7 ⟨w2.heap.size, 2, none⟩ (.slice y2 (S.nw + 1) z2) _ (Nat.ne_of_lt hzw))
  have TZ := TY.out.set2 (.slice y2 (S.nw + 1) z2)
  have BZ : Hid (Below w.heap.size w (w7.setCell ⟨w2.heap.size, 2, none⟩ (.slice y2 (S.nw + 1) z2))) := BY.out.setCell (Nat.le_of_lt hzw) _
  have B2Z : Hid (Below w2.heap.size w2 (w7.setCell ⟨w2.heap.size, 2, none⟩ (.slice y2 (S.nw + 1) z2))) := B2Y.out.setCell (Nat.le_refl _) _
  have OZ : Hid (OwnM (w7.setCell ⟨w2.heap.size, 2, none⟩ (.slice y2 (S.nw + 1) z2)) w5.heap.size 61 5 (.slice y1 U.length z1) U.length U.flatten) := OY.out.far hz3 _
  have PZ : Hid (OwnM (w7.setCell ⟨w2.heap.size, 2, none⟩ (.slice y2 (S.nw + 1) z2)) X0.heap.size 38 4 (.slice y2 (S.nw + 1) z2) (S.nw + 1) (nums S.k (k' * 4) ++ [a, c, s, d] ++ nums (fun p => S.k (k' * 4 + p)) ((S.nw - k') * 4))) := PY.out.far zX _
  generalize w7.setCell ⟨w2.heap.size, 2, none⟩ (.slice y2 (S.nw + 1) z2) = w8 at RZ TZ BZ B2Z OZ PZ hS ⊢
  clear t0 t1 t2 ft0 ft1 ft2 RY TY BY B2Y OY PY
  refine wpAnyH_done (by kernel_rfl) ?_ _
  go_simp
  obtain ⟨⟨r0, r1, r2, r3⟩, f0, f1, f2, f3⟩ := RZ
  obtain ⟨⟨t0, t1, t2⟩, _⟩ := TZ
  go_wp2
  have lenL : U.flatten.length = U.length * 5 := flat_len U (by rw [← HU.out]; exact selD_len _ _ _ _)
  have lenW : (nums S.k (k' * 4) ++ [a, c, s, d] ++ nums (fun p => S.k (k' * 4 + p)) ((S.nw - k') * 4)).length = (S.nw + 1) * 4 := by
    rw [List.length_append, List.length_append, nums_length, nums_length]
    simp only [List.length_cons, List.length_nil]
    omega
  have rC : Row w8 (w.heap.size + 1) 3 S.nc S.c (.slice d0 S.nc e0) := HS.out.1.1.1.later B2Z.out
  have fC : Free w8 (S.nc * 3) (.slice d0 S.nc e0) := HS.out.1.2.1.ofRow HS.out.1.1.1 B2Z.out
  have rL := (OZ.out.own lenL).row
  have rW := (PZ.out.own lenW).row
  have O8 : OwnS w8 (w.heap.size + 1) (commitS S a s c d k') (.slice d0 S.nc e0) (.slice y1 U.length z1) (.slice y2 (S.nw + 1) z2) := by
    unfold commitS
    rw [HU.out]
    exact ⟨⟨HOS.out.1.1.later B2Z.out, (OZ.out.own lenL).mono (by omega), (PZ.out.own lenW).mono (by omega)⟩, fun q a b => by have h1 := (own_blk HOS.out.1.1 q a).2; have h2 := (hob.out q b).1; omega, fun q a b => by have h1 := (own_blk HOS.out.1.1 q a).2; have h2 := (PZ.out.block q b).1; omega, fun q a b => by have h1 := (hob.out q a).2; have h2 := (PZ.out.block q b).1; omega⟩
  have hlo : (w.heap.size : Nat) < w.heap.size + 1 := Nat.lt_succ_self _
  have hul : (commitS S a s c d k').nl = U.length := by unfold commitS; rw [HU.out]
  refine bodyPost_ret (v := .agg #[.int .i64 0, .slice d0 S.nc e0, .slice y1 U.length z1, .slice y2 (S.nw + 1) z2]) (by simp [results, Tryz.results93, go_sem, r0, r1, r2, r3]) rfl ?_
  refine ⟨d0, e0, y1, z1, y2, z2, ?_, ?_, (((BZ.out.setCell (Nat.le_refl _) _).setCell (Nat.le_refl _) _).setCell (Nat.le_refl _) _).setCell (Nat.le_refl _) _⟩
  · rw [hul]; rfl
  · rw [hul]
    exact ((((O8.far hlo _).far hlo _).far hlo _).far hlo _).mono (by omega)
end
section
open Go.RowKit
/-- What a commit comes to on a store without a fault: a code and a store. -/
def CommitRes (S : Sto) (a s c : Int) (r : Int) (R : Sto) : Prop :=
  (∃ i : Nat, FirstAt (writeIs S.k a s) S.nw i ∧ S.k (i * 4 + 1) = c ∧ r = 0 ∧ R = S) ∨
  (∃ i : Nat, FirstAt (writeIs S.k a s) S.nw i ∧ S.k (i * 4 + 1) ≠ c ∧ r = 6 ∧ R = emptyS) ∨
  (FirstAt (writeIs S.k a s) S.nw (-1) ∧ (FirstAt (lockIs S.l a) S.nl (-1) ∨ ∃ j : Nat, FirstAt (lockIs S.l a) S.nl j ∧ S.l (j * 5 + 1) ≠ s) ∧ r = 4 ∧ R = emptyS) ∨
  (∃ j : Nat, FirstAt (writeIs S.k a s) S.nw (-1) ∧ FirstAt (lockIs S.l a) S.nl j ∧ S.l (j * 5 + 1) = s ∧ (∃ i, i < S.nw ∧ writeAt S.k a c i) ∧ r = 6 ∧ R = emptyS) ∨
  (∃ j : Nat, FirstAt (writeIs S.k a s) S.nw (-1) ∧ FirstAt (lockIs S.l a) S.nl j ∧ S.l (j * 5 + 1) = s ∧ (¬ ∃ i, i < S.nw ∧ writeAt S.k a c i) ∧ 200 ≤ S.nw ∧ r = 2 ∧ R = emptyS) ∨
  (∃ j k : Nat, FirstAt (writeIs S.k a s) S.nw (-1) ∧ FirstAt (lockIs S.l a) S.nl j ∧ S.l (j * 5 + 1) = s ∧ (¬ ∃ i, i < S.nw ∧ writeAt S.k a c i) ∧ S.nw < 200 ∧ placeAt (aheadW S.k a c) S.nw k ∧ r = 0 ∧ R = commitS S a s c (S.l (j * 5 + 2)) k)
theorem l3Commit_ownO (S : Sto) (b oo : Nat) (v0 v1 v2 : Value) (a s c r : Int) (R : Sto) (w : World) (h : LiesO w b oo S v0 v1 v2) (hz : storeF S = 0) (hA : CommitRes S a s c r R) :
    Calls Tryz.prog 93 #[.pointer (some ⟨b, oo, none⟩), .int .i64 a, .int .i64 s, .int .i64 c] w (ResStoK w r R) := by
  rcases hA with ⟨i, h1, h2, rfl, rfl⟩ | ⟨i, h1, h2, rfl, rfl⟩ | ⟨h1, h2, rfl, rfl⟩ | ⟨j, h1, h2, h3, h4, rfl, rfl⟩ | ⟨j, h1, h2, h3, h4, h5, rfl, rfl⟩ | ⟨j, k, h1, h2, h3, h4, h5, h6, rfl, rfl⟩
  · exact l3Commit_sameO _ b oo v0 v1 v2 a s c i w h hz h1 h2
  · exact l3Commit_takenO S b oo v0 v1 v2 a s c i w h hz h1 h2
  · exact l3Commit_noneO S b oo v0 v1 v2 a s c w h hz h1 h2
  · exact l3Commit_atO S b oo v0 v1 v2 a s c j w h hz h1 h2 h3 h4
  · exact l3Commit_manyO S b oo v0 v1 v2 a s c j w h hz h1 h2 h3 h4 h5
  · exact l3Commit_doneO S b oo v0 v1 v2 a s c j w h hz h1 h2 h3 h4 h5 k h6
def CommitAns (S : Sto) (a s c : Int) (r : Int) (R : Sto) : Prop :=
  (askF S a ≠ 0 ∧ r = askF S a ∧ R = emptyS) ∨ (askF S a = 0 ∧ ¬ isT s ∧ r = 3 ∧ R = emptyS) ∨ (askF S a = 0 ∧ isT s ∧ ¬ isT c ∧ r = 3 ∧ R = emptyS) ∨ (askF S a = 0 ∧ isT s ∧ isT c ∧ c ≤ s ∧ r = 1 ∧ R = emptyS) ∨ (askF S a = 0 ∧ isT s ∧ isT c ∧ s < c ∧ CommitRes S a s c r R)
set_option maxRecDepth 100000 in
set_option maxHeartbeats 8000000 in
theorem specCommitKey_own (S : Sto) (v0 v1 v2 : Value) (a s c r : Int) (R : Sto) (B : Nat) (w : World) (h : St w B S v0 v1 v2) (hA : CommitAns S a s c r R) :
    Calls Tryz.prog 73 #[.agg #[v0, v1, v2], .int .i64 a, .int .i64 s, .int .i64 c] w (ResStoK w r R) := by
  obtain ⟨a0, c0, a1, c1, a2, c2, rfl, rfl, rfl⟩ := h.form
  have HE : Hid (CallSto w B S (.slice a0 S.nc c0) (.slice a1 S.nl c1) (.slice a2 S.nw c2) ((w.alloc (.cells #[.slice a0 S.nc c0, .slice a1 S.nl c1, .slice a2 S.nw c2] 28)).alloc (.cells #[.int .i64 0, .slice none 0 0, .slice none 0 0, .slice none 0 0] 32))) := CallSto.new h _ _
  clear h
  unfold ResStoK
  rcases hA with ⟨hz, rfl, rfl⟩ | ⟨hz, ht, rfl, rfl⟩ | ⟨hz, ht, ht2, rfl, rfl⟩ | ⟨hz, ht, ht2, hc, rfl, rfl⟩ | ⟨hz, ht, ht2, hc, hR⟩
  · obtain ⟨f, hf⟩ : ∃ f, askF S a = f := ⟨_, rfl⟩
    have HF : Hid (askF S a = f) := hf
    have hfn : (f == 0) = false := beq_eq_false_iff_ne.2 (by rw [← hf]; exact hz)
    have hfn' : (f != 0) = true := by rw [bne_iff_ne, ← hf]; exact hz
    rw [hf]
    clear hz hf
    go_enter Tryz.func73, Tryz.ntmps73
    go_wp2_with fail
    refine (asked_any S w.heap.size _ _ _ _ _ ⟨HE.out.1.1, HE.out.2.2.1.mono (Nat.zero_le _)⟩).mono ?_
    rw [HF.out]
    rintro e w1 ⟨rfl, q1⟩
    have HE : Hid (CallSto w B S (.slice a0 S.nc c0) (.slice a1 S.nl c1) (.slice a2 S.nw c2) w1) := HE.out.later q1
    obtain ⟨⟨⟨p0, p1, p2⟩, _⟩, ⟨⟨r0, r1, r2, r3⟩, f0, f1, f2, f3⟩, _⟩ := HE.out
    clear q1
    go_wp2_with fail
    refine (l3Bad_own f _).mono ?_
    rintro e w4 ⟨d0, e0, d1, e1, d2, e2, rfl, o3, q4⟩
    have z3 : Hid (w.heap.size + 2 ≤ w1.heap.size) := HE.out.2.1.lt
    have S3 : Hid (OwnS w4 (w.heap.size + 2) emptyS (.slice d0 (emptyS).nc e0) (.slice d1 (emptyS).nl e1) (.slice d2 (emptyS).nw e2)) := o3.mono z3.out
    have HBW : Hid (Below w.heap.size w w4) := HE.out.2.2.2.trans (q4.mono HE.out.2.2.2.size)
    obtain ⟨⟨r0, r1, r2, r3⟩, f0, f1, f2, f3⟩ := HE.out.2.1.later q4
    clear o3 q4
    have hlo : (w.heap.size + 1 : Nat) < w.heap.size + 2 := Nat.lt_succ_self _
    go_wp2
    exact bodyPost_ret (v := .agg #[.int .i64 f, .slice d0 (emptyS).nc e0, .slice d1 (emptyS).nl e1, .slice d2 (emptyS).nw e2]) (by simp [results, Tryz.results73, go_sem, r0, r1, r2, r3]) rfl ⟨d0, e0, d1, e1, d2, e2, rfl, ((((S3.out.far hlo _).far hlo _).far hlo _).far hlo _).mono (by omega), (((HBW.out.setCell (Nat.le_succ _) _).setCell (Nat.le_succ _) _).setCell (Nat.le_succ _) _).setCell (Nat.le_succ _) _⟩
  · have HA : Hid (askF S a = 0) := hz
    have HT : Hid (decide (1 ≤ s ∧ s ≤ 100000) = false) := decide_eq_false ht
    clear hz ht
    go_enter Tryz.func73, Tryz.ntmps73
    go_wp2_with fail
    refine (asked_any S w.heap.size _ _ _ _ _ ⟨HE.out.1.1, HE.out.2.2.1.mono (Nat.zero_le _)⟩).mono ?_
    rw [HA.out]
    rintro e w1 ⟨rfl, q1⟩
    have HE : Hid (CallSto w B S (.slice a0 S.nc c0) (.slice a1 S.nl c1) (.slice a2 S.nw c2) w1) := HE.out.later q1
    obtain ⟨⟨⟨p0, p1, p2⟩, _⟩, ⟨⟨r0, r1, r2, r3⟩, f0, f1, f2, f3⟩, _⟩ := HE.out
    clear q1
    go_wp2_with fail
    refine (l2Ts_is s false HT.out _).mono ?_
    rintro e w1' ⟨rfl, rfl⟩
    go_wp2_with fail
    refine (l3Bad_own 3 _).mono ?_
    rintro e w4 ⟨d0, e0, d1, e1, d2, e2, rfl, o3, q4⟩
    have z3 : Hid (w.heap.size + 2 ≤ w1'.heap.size) := HE.out.2.1.lt
    have S3 : Hid (OwnS w4 (w.heap.size + 2) emptyS (.slice d0 (emptyS).nc e0) (.slice d1 (emptyS).nl e1) (.slice d2 (emptyS).nw e2)) := o3.mono z3.out
    have HBW : Hid (Below w.heap.size w w4) := HE.out.2.2.2.trans (q4.mono HE.out.2.2.2.size)
    obtain ⟨⟨r0, r1, r2, r3⟩, f0, f1, f2, f3⟩ := HE.out.2.1.later q4
    clear o3 q4
    have hlo : (w.heap.size + 1 : Nat) < w.heap.size + 2 := Nat.lt_succ_self _
    go_wp2
    exact bodyPost_ret (v := .agg #[.int .i64 3, .slice d0 (emptyS).nc e0, .slice d1 (emptyS).nl e1, .slice d2 (emptyS).nw e2]) (by simp [results, Tryz.results73, go_sem, r0, r1, r2, r3]) rfl ⟨d0, e0, d1, e1, d2, e2, rfl, ((((S3.out.far hlo _).far hlo _).far hlo _).far hlo _).mono (by omega), (((HBW.out.setCell (Nat.le_succ _) _).setCell (Nat.le_succ _) _).setCell (Nat.le_succ _) _).setCell (Nat.le_succ _) _⟩
  · have HA : Hid (askF S a = 0) := hz
    have HT : Hid (decide (1 ≤ s ∧ s ≤ 100000) = true) := decide_eq_true ht
    have HT2 : Hid (decide (1 ≤ c ∧ c ≤ 100000) = false) := decide_eq_false ht2
    clear hz ht ht2
    go_enter Tryz.func73, Tryz.ntmps73
    go_wp2_with fail
    refine (asked_any S w.heap.size _ _ _ _ _ ⟨HE.out.1.1, HE.out.2.2.1.mono (Nat.zero_le _)⟩).mono ?_
    rw [HA.out]
    rintro e w1 ⟨rfl, q1⟩
    have HE : Hid (CallSto w B S (.slice a0 S.nc c0) (.slice a1 S.nl c1) (.slice a2 S.nw c2) w1) := HE.out.later q1
    obtain ⟨⟨⟨p0, p1, p2⟩, _⟩, ⟨⟨r0, r1, r2, r3⟩, f0, f1, f2, f3⟩, _⟩ := HE.out
    clear q1
    go_wp2_with fail
    refine (l2Ts_is s true HT.out _).mono ?_
    rintro e w1' ⟨rfl, rfl⟩
    go_wp2_with fail
    refine (l2Ts_is c false HT2.out _).mono ?_
    rintro e w1' ⟨rfl, rfl⟩
    go_wp2_with fail
    refine (l3Bad_own 3 _).mono ?_
    rintro e w4 ⟨d0, e0, d1, e1, d2, e2, rfl, o3, q4⟩
    have z3 : Hid (w.heap.size + 2 ≤ w1'.heap.size) := HE.out.2.1.lt
    have S3 : Hid (OwnS w4 (w.heap.size + 2) emptyS (.slice d0 (emptyS).nc e0) (.slice d1 (emptyS).nl e1) (.slice d2 (emptyS).nw e2)) := o3.mono z3.out
    have HBW : Hid (Below w.heap.size w w4) := HE.out.2.2.2.trans (q4.mono HE.out.2.2.2.size)
    obtain ⟨⟨r0, r1, r2, r3⟩, f0, f1, f2, f3⟩ := HE.out.2.1.later q4
    clear o3 q4
    have hlo : (w.heap.size + 1 : Nat) < w.heap.size + 2 := Nat.lt_succ_self _
    go_wp2
    exact bodyPost_ret (v := .agg #[.int .i64 3, .slice d0 (emptyS).nc e0, .slice d1 (emptyS).nl e1, .slice d2 (emptyS).nw e2]) (by simp [results, Tryz.results73, go_sem, r0, r1, r2, r3]) rfl ⟨d0, e0, d1, e1, d2, e2, rfl, ((((S3.out.far hlo _).far hlo _).far hlo _).far hlo _).mono (by omega), (((HBW.out.setCell (Nat.le_succ _) _).setCell (Nat.le_succ _) _).setCell (Nat.le_succ _) _).setCell (Nat.le_succ _) _⟩
  · have HA : Hid (askF S a = 0) := hz
    have HT : Hid (decide (1 ≤ s ∧ s ≤ 100000) = true) := decide_eq_true ht
    have HT2 : Hid (decide (1 ≤ c ∧ c ≤ 100000) = true) := decide_eq_true ht2
    have dc : decide (c ≤ s) = true := decide_eq_true hc
    clear hz ht ht2 hc
    go_enter Tryz.func73, Tryz.ntmps73
    go_wp2_with fail
    refine (asked_any S w.heap.size _ _ _ _ _ ⟨HE.out.1.1, HE.out.2.2.1.mono (Nat.zero_le _)⟩).mono ?_
    rw [HA.out]
    rintro e w1 ⟨rfl, q1⟩
    have HE : Hid (CallSto w B S (.slice a0 S.nc c0) (.slice a1 S.nl c1) (.slice a2 S.nw c2) w1) := HE.out.later q1
    obtain ⟨⟨⟨p0, p1, p2⟩, _⟩, ⟨⟨r0, r1, r2, r3⟩, f0, f1, f2, f3⟩, _⟩ := HE.out
    clear q1
    go_wp2_with fail
    refine (l2Ts_is s true HT.out _).mono ?_
    rintro e w1' ⟨rfl, rfl⟩
    go_wp2_with fail
    refine (l2Ts_is c true HT2.out _).mono ?_
    rintro e w1' ⟨rfl, rfl⟩
    go_wp2_with fail
    refine (l3Bad_own 1 _).mono ?_
    rintro e w4 ⟨d0, e0, d1, e1, d2, e2, rfl, o3, q4⟩
    have z3 : Hid (w.heap.size + 2 ≤ w1'.heap.size) := HE.out.2.1.lt
    have S3 : Hid (OwnS w4 (w.heap.size + 2) emptyS (.slice d0 (emptyS).nc e0) (.slice d1 (emptyS).nl e1) (.slice d2 (emptyS).nw e2)) := o3.mono z3.out
    have HBW : Hid (Below w.heap.size w w4) := HE.out.2.2.2.trans (q4.mono HE.out.2.2.2.size)
    obtain ⟨⟨r0, r1, r2, r3⟩, f0, f1, f2, f3⟩ := HE.out.2.1.later q4
    clear o3 q4
    have hlo : (w.heap.size + 1 : Nat) < w.heap.size + 2 := Nat.lt_succ_self _
    go_wp2
    exact bodyPost_ret (v := .agg #[.int .i64 1, .slice d0 (emptyS).nc e0, .slice d1 (emptyS).nl e1, .slice d2 (emptyS).nw e2]) (by simp [results, Tryz.results73, go_sem, r0, r1, r2, r3]) rfl ⟨d0, e0, d1, e1, d2, e2, rfl, ((((S3.out.far hlo _).far hlo _).far hlo _).far hlo _).mono (by omega), (((HBW.out.setCell (Nat.le_succ _) _).setCell (Nat.le_succ _) _).setCell (Nat.le_succ _) _).setCell (Nat.le_succ _) _⟩
  · have HA : Hid (askF S a = 0) := hz
    have HT : Hid (decide (1 ≤ s ∧ s ≤ 100000) = true) := decide_eq_true ht
    have HT2 : Hid (decide (1 ≤ c ∧ c ≤ 100000) = true) := decide_eq_true ht2
    have dc : decide (c ≤ s) = false := decide_eq_false (by omega)
    have HP : Hid (∀ (b : Nat) (u0 u1 u2 : Value) (x : World), Lies x b S u0 u1 u2 → Calls Tryz.prog 93 #[.pointer (some ⟨b, 0, none⟩), .int .i64 a, .int .i64 s, .int .i64 c] x (ResStoK x r R)) := fun b u0 u1 u2 x hx => l3Commit_ownO S b 0 u0 u1 u2 a s c r R x hx (askF_zero hz).1 hR
    clear hz ht ht2 hc hR
    go_enter Tryz.func73, Tryz.ntmps73
    go_wp2_with fail
    refine (asked_any S w.heap.size _ _ _ _ _ ⟨HE.out.1.1, HE.out.2.2.1.mono (Nat.zero_le _)⟩).mono ?_
    rw [HA.out]
    rintro e w1 ⟨rfl, q1⟩
    have HE : Hid (CallSto w B S (.slice a0 S.nc c0) (.slice a1 S.nl c1) (.slice a2 S.nw c2) w1) := HE.out.later q1
    obtain ⟨⟨⟨p0, p1, p2⟩, _⟩, ⟨⟨r0, r1, r2, r3⟩, f0, f1, f2, f3⟩, _⟩ := HE.out
    clear q1
    go_wp2_with fail
    refine (l2Ts_is s true HT.out _).mono ?_
    rintro e w1' ⟨rfl, rfl⟩
    go_wp2_with fail
    refine (l2Ts_is c true HT2.out _).mono ?_
    rintro e w1' ⟨rfl, rfl⟩
    go_wp2_with fail
    refine (HP.out w.heap.size _ _ _ _ ⟨HE.out.1.1, HE.out.2.2.1.mono (Nat.zero_le _)⟩).mono ?_
    rintro e w4 ⟨d0, e0, d1, e1, d2, e2, rfl, o3, q4⟩
    have z3 : Hid (w.heap.size + 2 ≤ w1'.heap.size) := HE.out.2.1.lt
    have S3 : Hid (OwnS w4 (w.heap.size + 2) R (.slice d0 (R).nc e0) (.slice d1 (R).nl e1) (.slice d2 (R).nw e2)) := o3.mono z3.out
    have HBW : Hid (Below w.heap.size w w4) := HE.out.2.2.2.trans (q4.mono HE.out.2.2.2.size)
    obtain ⟨⟨r0, r1, r2, r3⟩, f0, f1, f2, f3⟩ := HE.out.2.1.later q4
    clear o3 q4
    have hlo : (w.heap.size + 1 : Nat) < w.heap.size + 2 := Nat.lt_succ_self _
    go_wp2
    exact bodyPost_ret (v := .agg #[.int .i64 r, .slice d0 (R).nc e0, .slice d1 (R).nl e1, .slice d2 (R).nw e2]) (by simp [results, Tryz.results73, go_sem, r0, r1, r2, r3]) rfl ⟨d0, e0, d1, e1, d2, e2, rfl, ((((S3.out.far hlo _).far hlo _).far hlo _).far hlo _).mono (by omega), (((HBW.out.setCell (Nat.le_succ _) _).setCell (Nat.le_succ _) _).setCell (Nat.le_succ _) _).setCell (Nat.le_succ _) _⟩
end
end Go.Proofs.YtnikdbebfofcaaaGreatDoor

namespace Go.Proofs.YtnikdbebfofcaaaGreatDoor
section
open Go.RowKit Go.Lib
theorem Blkk.frozen {x : World} {g : Nat} {e : TypeId} {N : Nat} (h : Blkk x g e N) (p : Nat) : x.frozen? ⟨g, p, none⟩ = false := by
  obtain ⟨cur, h1, _⟩ := h
  simp [World.frozen?, h1]
theorem Blkk.drew {x : World} {g : Nat} {e : TypeId} {N : Nat} (h : Blkk x g e N) : Blkk x.drew g e N := h
theorem Blkk.made (w : World) (ROW : Array Value) (e : TypeId) (N : Nat) (h : ROW.size = N) : Blkk (w.alloc (.cells ROW e)) w.heap.size e N := ⟨ROW, by show (w.heap.push _)[w.heap.size]? = _; simp, h⟩
theorem Blkk.any {x : World} {g : Nat} {e : TypeId} {N : Nat} (h : Blkk x g e N) {p : Nat} (hp : p < N) : (x.cell? ⟨g, p, none⟩).isSome = true := by
  obtain ⟨u, hu⟩ := (h.cell hp).1
  rw [hu]; rfl
end

section
open Go.RowKit Go.Lib
end

section
open Go.RowKit Go.Lib
end
end Go.Proofs.YtnikdbebfofcaaaGreatDoor

namespace Go.Proofs.YtnikdbebfofcaaaGreatDoor
section
open Go.RowKit
theorem AW.later {w X X' : World} {B n : Nat} {F : Nat → Int} {ao : Option Addr} {cp : Nat} {x0 x1 x2 x3 : Int} (h : AW w B n F ao cp x0 x1 x2 x3 X) (h0 : Row w B 4 n F (.slice ao n cp)) (hb : Below X.heap.size X X') : AW w B n F ao cp x0 x1 x2 x3 X' :=
  h.grown h0 (row := none) ⟨hb.os, hb.tape, hb.output, hb.size, fun k hk _ => hb.block k hk⟩ (fun r e => by cases e)
end

section
open Go.RowKit
theorem AL.later {w X X' : World} {B n : Nat} {F : Nat → Int} {ao : Option Addr} {cp : Nat} {x0 x1 x2 x3 x4 : Int} (h : AL w B n F ao cp x0 x1 x2 x3 x4 X) (h0 : Row w B 5 n F (.slice ao n cp)) (hb : Below X.heap.size X X') : AL w B n F ao cp x0 x1 x2 x3 x4 X' :=
  h.grown h0 (row := none) ⟨hb.os, hb.tape, hb.output, hb.size, fun k hk _ => hb.block k hk⟩ (fun r e => by cases e)
end
end Go.Proofs.YtnikdbebfofcaaaGreatDoor

namespace Go.Proofs.YtnikdbebfofcaaaGreatDoor
section
open Go.RowKit Go.Maps
theorem kp_same {p q x y : Int} (hp : Wf p) (hq : Wf q) (hx : Wf x) (hy : Wf y) : (kp p q).sameKey (kp x y) = decide (p = x ∧ q = y) := by
  by_cases e : p = x ∧ q = y
  · obtain ⟨rfl, rfl⟩ := e
    simp [kp, Lit.sameKey]
  · rw [decide_eq_false e]
    have : kp p q ≠ kp x y := fun h => e (kp_inj hp hq hx hy h)
    unfold kp at this ⊢
    unfold Lit.sameKey
    rw [beq_eq_false_iff_ne]
    exact fun h => this (by rw [h])
theorem lits_int {m : Nat} {c : Value} {ls : List Lit} (h : Tryz.prog.keyLits (m + 1) 2 [c] = some ls) : ∃ x, c = .int .i64 x ∧ ls = [.int .i64 x] ∧ Wf x := by
  unfold Program.keyLits at h
  simp only [Tryz.underlying2] at h
  cases c <;> simp at h
  obtain ⟨⟨rfl, hw⟩, rfl⟩ := h
  exact ⟨_, rfl, rfl, hw⟩
theorem keyOf_place_inv {key : Value} {kl : Lit} (h : keyOf Tryz.prog 104 key = some kl) : ∃ x y, key = .agg #[.int .i64 x, .int .i64 y] ∧ kl = kp x y ∧ Wf x ∧ Wf y := by
  have h2 : Tryz.prog.cellsOf 104 = 2 := by kernel_rfl
  have h3 : Tryz.prog.cellsOf 2 = 1 := by kernel_rfl
  obtain ⟨m, h4⟩ : ∃ m, Tryz.prog.types.size = m + 1 := ⟨Tryz.prog.types.size - 1, by kernel_rfl⟩
  have hf := h
  unfold keyOf at hf
  simp only [Tryz.underlying104] at hf
  by_cases hc : (Tryz.prog.keyType 104 && key.formed Tryz.prog 104) = true
  case neg => rw [if_neg hc] at hf; cases hf
  rw [if_pos hc, h4] at hf
  have hform := (Bool.and_eq_true_iff.1 hc).2
  cases key with
  | agg cs =>
    simp [Value.formed, Tryz.underlying104, h2] at hform
    obtain ⟨c0, c1, rfl⟩ : ∃ c0 c1, cs = #[c0, c1] := by
      exact ⟨cs[0]'(by omega), cs[1]'(by omega), Array.ext (by simpa using hform) (fun i h0 h1 => by
        have : i = 0 ∨ i = 1 := by simp at h1; omega
        rcases this with rfl | rfl <;> rfl)⟩
    unfold Program.keyLits at hf
    simp only [Tryz.underlying104, Value.cells] at hf
    rw [if_pos (by rw [h2]; exact ⟨rfl, by kernel_rfl⟩)] at hf
    simp [h3, List.mapM_cons, Option.bind_eq_some_iff] at hf
    obtain ⟨l0, g0, _, ⟨l1, g1, rfl⟩, rfl⟩ := hf
    obtain ⟨x, rfl, rfl, hx⟩ := lits_int g0
    obtain ⟨y, rfl, rfl, hy⟩ := lits_int g1
    exact ⟨x, y, rfl, by simp [kp], hx, hy⟩
  | _ => simp [Value.formed, Tryz.underlying104] at hform
/-- Block b is a map that has m, block r an iterator over it; 'left' tells which keys are still to come, cnt how many at most. -/
def PR (w : World) (b r n : Nat) (m : Int → Int → Option Int) (left : Int → Int → Bool) (cnt : Nat) : Prop :=
  ∃ (D : DataW Unit) (L : Lit → Bool), w.ranges Tryz.prog 104 (plainElem Tryz.prog 2) b r n D L cnt ∧ (∀ x y, Wf x → Wf y → Maps.has D (kp x y) = (m x y).isSome ∧ D.atKey (kp x y) (.lit (.int .i64 0)) = .lit (.int .i64 ((m x y).getD 0))) ∧ ∀ x y, Wf x → Wf y → L (kp x y) = left x y
theorem PR.pm {w : World} {b r n cnt : Nat} {m : Int → Int → Option Int} {left : Int → Int → Bool} (h : PR w b r n m left cnt) : PM w b n m := by
  obtain ⟨D, L, h1, h2, _⟩ := h
  exact ⟨D, h1.owns, h2⟩
theorem PR.ne {w : World} {b r n cnt : Nat} {m : Int → Int → Option Int} {left : Int → Int → Bool} (h : PR w b r n m left cnt) : r ≠ b := by
  obtain ⟨D, L, h1, _⟩ := h
  exact h1.ne
theorem PR.lt {w : World} {b r n cnt : Nat} {m : Int → Int → Option Int} {left : Int → Int → Bool} (h : PR w b r n m left cnt) : r < w.heap.size := by
  obtain ⟨D, L, h1, _⟩ := h
  exact h1.lt
theorem PR.left_eq {w : World} {b r n cnt : Nat} {m : Int → Int → Option Int} {left : Int → Int → Bool} (h : PR w b r n m left cnt) : w.rangeLeft b r = cnt := by
  obtain ⟨D, L, h1, _⟩ := h
  exact h1.left_eq
theorem PR.kept {w w' : World} {b r n cnt : Nat} {m : Int → Int → Option Int} {left : Int → Int → Bool} {row : Option Nat} (h : PR w b r n m left cnt) (hg : w.grownBy w' row) (hb : some b ≠ row) (hr : some r ≠ row) : PR w' b r n m left cnt := by
  obtain ⟨D, L, h1, r1⟩ := h
  exact ⟨D, L, h1.kept hg hb hr, r1⟩
theorem PR.later {w w' : World} {b r n cnt : Nat} {m : Int → Int → Option Int} {left : Int → Int → Bool} (h : PR w b r n m left cnt) (hb : Below w.heap.size w w') : PR w' b r n m left cnt :=
  h.kept (row := none) ⟨hb.os, hb.tape, hb.output, hb.size, fun i hi _ => hb.block i hi⟩ (by simp) (by simp)
theorem PR.congr {w : World} {b r n cnt : Nat} {m : Int → Int → Option Int} {left left' : Int → Int → Bool} (h : PR w b r n m left cnt) (e : ∀ x y, left x y = left' x y) : PR w b r n m left' cnt := by
  obtain ⟨D, L, h1, r1, r2⟩ := h
  exact ⟨D, L, h1, r1, fun x y hx hy => by rw [r2 x y hx hy, e]⟩
/-- 'left' without one key. -/
def strike (left : Int → Int → Bool) (x y : Int) : Int → Int → Bool := fun p q => left p q && !decide (p = x ∧ q = y)
theorem wpList_prange (w : World) {ops : Array Oper} {rest : List Oper} {o : Oper} {a : Act} {Q : Exit → Act → World → Prop} (hg : o.guard = none) (mo : Operand) (hop : o.op = Op.range 82 mo)
    (b n : Nat) (m : Int → Int → Option Int) (hm : a.eval mo = .map (some b)) (h : PM w b n m)
    (hK : ∀ w' cnt, cnt ≤ n → PR w' b w.heap.size n m (fun x y => (m x y).isSome) cnt → Below w.heap.size w w' → w'.heap.size = w.heap.size + 1 → wpList Tryz.prog ops Q rest (a.put o.dst (.pointer (some ⟨w.heap.size, 0, none⟩))) w') :
    wpList Tryz.prog ops Q (o :: rest) a w := by
  obtain ⟨D, h1, h2⟩ := h
  refine wpList_range_own w hg mo 82 hop _ _ placeKeyed Tryz.underlying82 _ b n D hm h1 ?_
  intro w' hr hgw hs
  refine hK w' (Maps.size D) h1.size_le ⟨D, Maps.has D, hr, h2, fun x y hx hy => (h2 x y hx hy).1⟩ ?_ hs
  exact ⟨hgw.os, hgw.tape, hgw.output, hgw.size, fun i hi => hgw.block i hi (by simp)⟩
theorem wpList_pnext (w : World) {ops : Array Oper} {rest : List Oper} {o : Oper} {a : Act} {Q : Exit → Act → World → Prop} (hg : o.guard = none) (it : Operand) (hop : o.op = Op.next it false)
    (b r n : Nat) (m : Int → Int → Option Int) (left : Int → Int → Bool) (cnt : Nat) (hit : a.eval it = .pointer (some ⟨r, 0, none⟩)) (h : PR w b r n m left cnt) (hle : ∀ x y, Wf x → Wf y → left x y = true → (m x y).isSome = true)
    (hDone : (∀ x y, Wf x → Wf y → left x y = false) → wpList Tryz.prog ops Q rest (a.put o.dst (.tuple #[.bool false])) w)
    (hMore : ∀ (x y c : Int) (w' : World) (cnt' : Nat), Wf x → Wf y → Wf c → left x y = true → m x y = some c → PR w' b r n m (strike left x y) cnt' → cnt' < cnt → w.grownBy w' (some r) → w'.heap.size = w.heap.size →
      (Instr.entry (.pointer (some ⟨r, 0, none⟩))).run Tryz.prog w' = .ok (.tuple #[.agg #[.int .i64 x, .int .i64 y], .int .i64 c]) w' → wpList Tryz.prog ops Q rest (a.put o.dst (.tuple #[.bool true, .agg #[.int .i64 x, .int .i64 y], .int .i64 c])) w') :
    wpList Tryz.prog ops Q (o :: rest) a w := by
  obtain ⟨D, L, h1, h2, h3⟩ := h
  refine wpList_next_ranges (α := Int × Int) (β := Int) w hg it hop _ placeKeyed _ (fun p => .agg #[.int .i64 p.1, .int .i64 p.2]) (Value.int .i64) (fun key kl hk => by obtain ⟨x, y, e, _⟩ := keyOf_place_inv hk; exact ⟨(x, y), e⟩) (fun v y hv => by obtain ⟨c, e, _⟩ := plainElem_int_inv Tryz.underlying2 hv; exact ⟨c, e⟩) b r n D L cnt hit h1 ?_ ?_
  · intro _ hl
    exact hDone fun x y hx hy => by rw [← h3 x y hx hy]; exact hl _
  · rintro ⟨x, y⟩ c kl z w' cnt' hkey hl hv hat hr hlt hgw hs hen
    obtain ⟨x', y', e, rfl, hx, hy⟩ := keyOf_place_inv hkey
    simp at e
    obtain ⟨rfl, rfl⟩ := e
    obtain ⟨c', e, rfl, hc⟩ := plainElem_int_inv Tryz.underlying2 hv
    simp at e
    subst e
    have hl' : left x y = true := by rw [← h3 x y hx hy]; exact hl
    have hsome := hle x y hx hy hl'
    have hat' := (h2 x y hx hy).2
    rw [hat] at hat'
    simp at hat'
    have hm : m x y = some c := by
      obtain ⟨u, hu⟩ := Option.isSome_iff_exists.1 hsome
      rw [hu] at hat' ⊢
      simp at hat'
      rw [hat']
    refine hMore x y c w' cnt' hx hy hc hl' hm ⟨D, _, hr, h2, fun p q hp hq => ?_⟩ hlt hgw hs hen
    rw [h3 p q hp hq, kp_same hp hq hx hy]
    rfl
end

section
open Go.RowKit Go.Sort Go.Shelf Go.Lib
theorem sortCell_any (B n : Nat) (F : Nat → Int) (v : Value) (w : World) (h : Row w B 3 n F v) (hf : Free w (n * 3) v) (hn : n ≤ 1048576) :
    Calls Tryz.prog 78 #[v, .func (.func 63) #[] #[]] w fun e w' => e = .returned (.tuple #[]) ∧ ∃ d : Array (List Int), d.size = n ∧ (d.toList.Perm (rowD 3 n F).toList ∧ SortedIn (ltOf (cf2 (fun x => x.getD 0 0) (fun x => x.getD 1 0))) 0 n d) ∧ (Row w' B 3 n (rowF 3 d) v ∧ Free w' (n * 3) v) ∧ w.grownBy w' (turn n v) := by
  obtain ⟨ao, cp, rfl⟩ := h.form
  rcases Nat.eq_zero_or_pos n with e | e
  · subst e
    have hcon := AnyF.slices_SortFunc_none Tryz.sortCell ao cp (.func (.func 63) #[] #[]) w
    change Calls Tryz.prog 78 _ _ _ at hcon
    refine hcon.mono ?_
    rintro e w' ⟨rfl, rfl⟩
    refine ⟨rfl, #[], rfl, ⟨by simp [rowD], fun i j _ hij hj => by omega⟩, ⟨⟨_, _, rfl, fun q => absurd q (Nat.lt_irrefl 0)⟩, by rw [Nat.zero_mul]; exact Free.of0 _ _⟩, ⟨rfl, rfl, rfl, Nat.le_refl _, fun _ _ _ => rfl⟩⟩
  · obtain ⟨g, o, rfl, hB, hg, _⟩ := h.at e
    refine (sortCell_is B n g o cp F w h hf hB hg hn).mono ?_
    rintro e' w' ⟨rfl, d, h1, h2, h3, h4⟩
    refine ⟨rfl, d, h1, h2, h3, ?_⟩
    have : turn n (.slice (some ⟨g, o, none⟩) n cp) = some g := by unfold turn; rw [if_neg (by omega)]; rfl
    rw [this]
    exact h4
/-- The entries of a map that have come: all that are not left, each once. -/
def Col3 (m : Int → Int → Option Int) (left : Int → Int → Bool) (L : List (List Int)) : Prop :=
  (∀ t ∈ L, ∃ x y v, t = [x, y, v] ∧ Wf x ∧ Wf y ∧ m x y = some v ∧ left x y = false) ∧ (∀ x y v, Wf x → Wf y → m x y = some v → left x y = false → [x, y, v] ∈ L) ∧ L.Nodup ∧ ∀ x y, left x y = true → (m x y).isSome = true
theorem Col3.start (m : Int → Int → Option Int) : Col3 m (fun x y => (m x y).isSome) [] := by
  refine ⟨fun t ht => absurd ht (by simp), fun x y v _ _ h h' => ?_, by simp, fun _ _ h => h⟩
  have h2 : (m x y).isSome = false := h'
  rw [h] at h2
  simp at h2
theorem Col3.len {m : Int → Int → Option Int} {left : Int → Int → Bool} {L : List (List Int)} (h : Col3 m left L) : ∀ t ∈ L, t.length = 3 := fun t ht => by
  obtain ⟨x, y, v, rfl, _⟩ := h.1 t ht
  rfl
theorem Col3.step {m : Int → Int → Option Int} {left : Int → Int → Bool} {L : List (List Int)} (h : Col3 m left L) {x y c : Int} (hx : Wf x) (hy : Wf y) (hl : left x y = true) (hm : m x y = some c) : Col3 m (strike left x y) (L ++ [[x, y, c]]) := by
  refine ⟨fun t ht => ?_, fun p q v hp hq h1 h2 => ?_, ?_, fun p q h1 => ?_⟩
  · rcases List.mem_append.1 ht with ht | ht
    · obtain ⟨p, q, v, rfl, h1, h2, h3, h4⟩ := h.1 t ht
      exact ⟨p, q, v, rfl, h1, h2, h3, by unfold strike; rw [h4]; rfl⟩
    · simp at ht
      subst ht
      exact ⟨x, y, c, rfl, hx, hy, hm, by simp [strike]⟩
  · by_cases e : p = x ∧ q = y
    · obtain ⟨rfl, rfl⟩ := e
      rw [hm] at h1
      simp at h1
      subst h1
      simp
    · refine List.mem_append.2 (Or.inl (h.2.1 p q v hp hq h1 ?_))
      unfold strike at h2
      rw [decide_eq_false e] at h2
      simpa using h2
  · refine List.nodup_append.2 ⟨h.2.2.1, by simp, ?_⟩
    intro a ha b hb e
    simp at hb
    subst hb
    subst e
    obtain ⟨p, q, v, e, _, _, _, h4⟩ := h.1 _ ha
    simp at e
    obtain ⟨rfl, rfl, _⟩ := e
    rw [hl] at h4
    simp at h4
  · unfold strike at h1
    exact h.2.2.2 p q (by simp at h1; exact h1.1)
/-- A row of cells that rises and has just what a map has. -/
structure MapRow (m : Int → Int → Option Int) (nc : Nat) (c : Nat → Int) : Prop where
  rise : ∀ j, j < nc → ∀ i, i < j → pairLt (c (i * 3)) (c (i * 3 + 1)) (c (j * 3)) (c (j * 3 + 1))
  wf : ∀ i, i < nc → Wf (c (i * 3)) ∧ Wf (c (i * 3 + 1))
  has : ∀ i, i < nc → m (c (i * 3)) (c (i * 3 + 1)) = some (c (i * 3 + 2))
  all : ∀ x y v, Wf x → Wf y → m x y = some v → ∃ i, i < nc ∧ c (i * 3) = x ∧ c (i * 3 + 1) = y ∧ c (i * 3 + 2) = v
theorem rowD_list (m n : Nat) (F : Nat → Int) : (rowD m n F).toList = (List.range n).map (struD F m) := by
  unfold rowD struD
  simp
theorem struD_three (c : Nat → Int) (i : Nat) : struD c 3 i = [c (i * 3), c (i * 3 + 1), c (i * 3 + 2)] := rfl
theorem MapRow.up {m : Int → Int → Option Int} {nc : Nat} {c : Nat → Int} (h : MapRow m nc c) : ((rowD 3 nc c).toList).Pairwise (Lt2 (fun x => x.getD 0 0) (fun x => x.getD 1 0)) := by
  rw [rowD_list, List.pairwise_map, List.pairwise_iff_getElem]
  intro i j hi hj hij
  simp at hi hj
  simp only [List.getElem_range]
  exact h.rise j hj i hij
theorem Lt2.nodup {k s : List Int → Int} {l : List (List Int)} (h : l.Pairwise (Lt2 k s)) : l.Nodup := h.imp (fun {a b} h e => h.ne (by subst e; exact ⟨rfl, rfl⟩))
theorem MapRow.perm {m : Int → Int → Option Int} {nc : Nat} {c : Nat → Int} (h : MapRow m nc c) {left : Int → Int → Bool} {L : List (List Int)} (hL : Col3 m left L) (hd : ∀ x y, Wf x → Wf y → left x y = false) : L.Perm (rowD 3 nc c).toList := by
  refine (List.perm_ext_iff_of_nodup hL.2.2.1 (Lt2.nodup h.up)).2 (fun t => ?_)
  rw [rowD_list, List.mem_map]
  constructor
  · intro ht
    obtain ⟨x, y, v, rfl, hx, hy, hm, _⟩ := hL.1 t ht
    obtain ⟨i, hi, rfl, rfl, rfl⟩ := h.all x y v hx hy hm
    exact ⟨i, List.mem_range.2 hi, struD_three c i⟩
  · rintro ⟨i, hi, rfl⟩
    have hi' := List.mem_range.1 hi
    rw [struD_three]
    exact hL.2.1 _ _ _ (h.wf i hi').1 (h.wf i hi').2 (h.has i hi') (hd _ _ (h.wf i hi').1 (h.wf i hi').2)
theorem rowD_flat {m : Nat} (hm : 0 < m) (L : List (List Int)) (hL : ∀ t ∈ L, t.length = m) : (rowD m L.length (fun p => L.flatten.getD p 0)).toList = L := by
  rw [rowD_list]
  apply List.ext_getElem (by simp)
  intro i h1 h2
  have hi : i < L.length := h2
  simp only [List.getElem_map, List.getElem_range]
  apply List.ext_getElem
  · rw [struD_len, hL _ (List.getElem_mem _)]
  · intro q h3 h4
    have hq : q < m := by rw [struD_len] at h3; exact h3
    have hlt : i * m + q < L.length * m := by
      calc i * m + q < i * m + m := by omega
        _ = (i + 1) * m := by rw [Nat.succ_mul]
        _ ≤ L.length * m := Nat.mul_le_mul_right m hi
    have e := flat_get (m := m) L (i * m + q) hL hlt
    have d1 : (i * m + q) / m = i := by rw [Nat.mul_comm, Nat.mul_add_div hm, Nat.div_eq_of_lt hq, Nat.add_zero]
    have d2 : (i * m + q) % m = q := by rw [Nat.mul_comm, Nat.mul_add_mod, Nat.mod_eq_of_lt hq]
    rw [d1, d2] at e
    have s1 : (struD (fun p => L.flatten.getD p 0) m i)[q] = L.flatten.getD (i * m + q) 0 := by simp [struD]
    rw [s1, e]
    simp [hi, hL _ (List.getElem_mem hi), hq]
/-- What the sort of a map's entries leaves. -/
theorem MapRow.sorted {m : Int → Int → Option Int} {nc : Nat} {c : Nat → Int} (h : MapRow m nc c) {left : Int → Int → Bool} {L : List (List Int)} (hL : Col3 m left L) (hd : ∀ x y, Wf x → Wf y → left x y = false) : L.length = nc ∧ ∀ d : Array (List Int), d.size = L.length → d.toList.Perm (rowD 3 L.length (fun p => L.flatten.getD p 0)).toList → SortedIn (ltOf (cf2 (fun x => x.getD 0 0) (fun x => x.getD 1 0))) 0 L.length d → ∀ t, t < nc * 3 → rowF 3 d t = c t := by
  have hp := h.perm hL hd
  have hlen : L.length = nc := by rw [hp.length_eq, Array.length_toList, rowD_size]
  refine ⟨hlen, fun d h1 h2 h3 t ht => ?_⟩
  rw [rowD_flat (by omega) L hL.len] at h2
  have e := sorted_is h1 h3 (h2.trans hp) h.up
  have e2 : d = rowD 3 nc c := by
    apply Array.ext'
    exact e
  rw [e2]
  exact rowF_rowD 3 nc c t ht
/-- A list of structs whose keys rise, which has just what a map has, is a map's row. -/
theorem mapRow_list {m : Int → Int → Option Int} {L : List (List Int)} (hl : ∀ t ∈ L, t.length = 3) (hu : L.Pairwise (Lt2 (fun x => x.getD 0 0) (fun x => x.getD 1 0))) (hw : ∀ x y v, [x, y, v] ∈ L → (Wf x ∧ Wf y) ∧ m x y = some v) (ha : ∀ x y v, Wf x → Wf y → m x y = some v → [x, y, v] ∈ L) : MapRow m L.length (fun p => L.flatten.getD p 0) := by
  have three : ∀ t ∈ L, t = [t.getD 0 0, t.getD 1 0, t.getD 2 0] := fun t ht => by
    have h3 := hl t ht
    match t, h3 with
    | [a, b, c], _ => rfl
  have get : ∀ i (hi : i < L.length) q, q < 3 → L.flatten.getD (i * 3 + q) 0 = (L[i]'hi).getD q 0 := fun i hi q hq => by
    rw [flat_get (m := 3) L (i * 3 + q) hl (by omega)]
    have d1 : (i * 3 + q) / 3 = i := by omega
    have d2 : (i * 3 + q) % 3 = q := by omega
    rw [d1, d2]
    simp [hi]
  have mem : ∀ i (hi : i < L.length), [L.flatten.getD (i * 3) 0, L.flatten.getD (i * 3 + 1) 0, L.flatten.getD (i * 3 + 2) 0] ∈ L := fun i hi => by
    have g0 := get i hi 0 (by omega)
    rw [Nat.add_zero] at g0
    rw [g0, get i hi 1 (by omega), get i hi 2 (by omega), ← three _ (List.getElem_mem hi)]
    exact List.getElem_mem hi
  refine ⟨fun j hj i hij => ?_, fun i hi => (hw _ _ _ (mem i hi)).1, fun i hi => (hw _ _ _ (mem i hi)).2, fun x y v hx hy hm => ?_⟩
  · have h := (List.pairwise_iff_getElem.1 hu) i j (by omega) hj hij
    have g0 := get i (by omega) 0 (by omega)
    have g1 := get j hj 0 (by omega)
    rw [Nat.add_zero] at g0 g1
    show pairLt (L.flatten.getD (i * 3) 0) (L.flatten.getD (i * 3 + 1) 0) (L.flatten.getD (j * 3) 0) (L.flatten.getD (j * 3 + 1) 0)
    rw [g0, g1, get i (by omega) 1 (by omega), get j hj 1 (by omega)]
    exact h
  · obtain ⟨i, hi, e⟩ := List.mem_iff_getElem.1 (ha x y v hx hy hm)
    have g0 := get i hi 0 (by omega)
    rw [Nat.add_zero] at g0
    refine ⟨i, hi, ?_, ?_, ?_⟩
    · show L.flatten.getD (i * 3) 0 = x
      rw [g0, e]; rfl
    · show L.flatten.getD (i * 3 + 1) 0 = y
      rw [get i hi 1 (by omega), e]; rfl
    · show L.flatten.getD (i * 3 + 2) 0 = v
      rw [get i hi 2 (by omega), e]; rfl
theorem puts_some {p q v : Nat → Int} {x y u : Int} : ∀ {n : Nat}, puts p q v n x y = some u → ∃ i, i < n ∧ p i = x ∧ q i = y ∧ v i = u
  | 0, h => by simp [puts] at h
  | n + 1, h => by
    unfold puts putM at h
    by_cases e : x = p n ∧ y = q n
    · rw [if_pos e] at h
      simp at h
      exact ⟨n, by omega, e.1.symm, e.2.symm, h⟩
    · rw [if_neg e] at h
      obtain ⟨i, hi, r⟩ := puts_some h
      exact ⟨i, by omega, r⟩
end
end Go.Proofs.YtnikdbebfofcaaaGreatDoor

