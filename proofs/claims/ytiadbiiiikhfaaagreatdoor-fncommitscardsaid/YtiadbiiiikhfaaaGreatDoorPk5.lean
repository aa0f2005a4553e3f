/-
 Own text, merged of CopyA, CmtD, InsV, BinW.
-/
import Derived.Test.YtiadbiiiikhfaaaGreatDoorPk4
namespace Go.Proofs.YtiadbiiiikhfaaaGreatDoor
open Go.RowKit

theorem own_kept {w w' : World} {B : Nat} {e : TypeId} {m n : Nat} {F : Nat → Int} {v : Value} (h : Own w B e m n F v) (hb : ∀ k, v.ownBlock = some k → w'.heap[k]? = w.heap[k]?) : Own w' B e m n F v := by
 refine ⟨h.1, ?_⟩
 rcases h.2 with q | ⟨g, cap, cur, rfl, hg, hw, r⟩
 ·exact Or.inl q
 ·exact Or.inr ⟨g, cap, cur, rfl, hg, (hb g rfl).trans hw, r⟩
theorem own_blk {w : World} {B : Nat} {e : TypeId} {m n : Nat} {F : Nat → Int} {v : Value} (h : Own w B e m n F v) : ∀ k, v.ownBlock = some k → B ≤ k ∧ k < w.heap.size := by
 intro k hk
 rcases h.2 with ⟨rfl, _⟩ | ⟨g, cap, cur, rfl, hg, hw, _⟩
 ·simp [Value.ownBlock] at hk
 ·simp [Value.ownBlock] at hk
  subst hk
  exact ⟨hg, (Array.getElem?_eq_some_iff.1 hw).1⟩
theorem own_cap {w : World} {B : Nat} {e : TypeId} {m n : Nat} {F : Nat → Int} {ao : Option Addr} {cp : Nat} (h : Own w B e m n F (.slice ao n cp)) : n ≤ cp := by
 rcases h.2 with ⟨q, q'⟩ | ⟨g, cap, cur, q, _, _, hnc, _⟩
 ·omega
 ·cases q; exact hnc
theorem own_far {w : World} {B : Nat} {e : TypeId} {m n : Nat} {F : Nat → Int} {v : Value} (h : Own w B e m n F v) {a : Addr} (ha : a.block < B) (u : Value) : Own (w.setCell a u) B e m n F v :=
 own_kept h fun k hk => Below.heap_setCell w a u k (fun e => by have := (own_blk h k hk).1; omega)
theorem own_congr {w : World} {B : Nat} {e : TypeId} {m n : Nat} {F G : Nat → Int} {v : Value} (h : Own w B e m n F v) (hF : ∀ p, p < n * m → F p = G p) : Own w B e m n G v := by
 have hv : vals F (n * m) = vals G (n * m) := by
  apply List.ext_getElem?
  intro p
  rcases Nat.lt_or_ge p (n * m) with q | q
  ·rw [vals_at _ _ _ q, vals_at _ _ _ q, hF p q]
  ·rw [List.getElem?_eq_none (by rw [vals_length]; exact q), List.getElem?_eq_none (by rw [vals_length]; exact q)]
 unfold Own at h ⊢
 rwa [← hv]
/-- A store whose three rows are its own: rows to which one may append. -/
def ApartB (u0 u1 u2 : Value) : Prop := (∀ k, u0.ownBlock = some k → u1.ownBlock ≠ some k) ∧ (∀ k, u0.ownBlock = some k → u2.ownBlock ≠ some k) ∧ ∀ k, u1.ownBlock = some k → u2.ownBlock ≠ some k
def OwnS (w : World) (B : Nat) (S : Sto) (v0 v1 v2 : Value) : Prop := (Own w B 93 3 S.nc S.c v0 ∧ Own w B 40 5 S.nl S.l v1 ∧ Own w B 55 4 S.nw S.k v2) ∧ ApartB v0 v1 v2
theorem OwnS.st {w : World} {B : Nat} {S : Sto} {v0 v1 v2 : Value} (h : OwnS w B S v0 v1 v2) : St w B S v0 v1 v2 := ⟨h.1.1.row.1, h.1.2.1.row.1, h.1.2.2.row.1⟩
theorem OwnS.free {w : World} {B : Nat} {S : Sto} {v0 v1 v2 : Value} (h : OwnS w B S v0 v1 v2) : FreeS w S v0 v1 v2 := ⟨h.1.1.row.2, h.1.2.1.row.2, h.1.2.2.row.2⟩
theorem OwnS.later {w w' : World} {B : Nat} {S : Sto} {v0 v1 v2 : Value} (h : OwnS w B S v0 v1 v2) (hb : Below w.heap.size w w') : OwnS w' B S v0 v1 v2 := ⟨⟨h.1.1.later hb, h.1.2.1.later hb, h.1.2.2.later hb⟩, h.2⟩
theorem OwnS.mono {w : World} {B B' : Nat} {S : Sto} {v0 v1 v2 : Value} (h : OwnS w B S v0 v1 v2) (hB : B' ≤ B) : OwnS w B' S v0 v1 v2 := ⟨⟨h.1.1.mono hB, h.1.2.1.mono hB, h.1.2.2.mono hB⟩, h.2⟩
theorem OwnS.far {w : World} {B : Nat} {S : Sto} {v0 v1 v2 : Value} (h : OwnS w B S v0 v1 v2) {a : Addr} (ha : a.block < B) (u : Value) : OwnS (w.setCell a u) B S v0 v1 v2 := ⟨⟨own_far h.1.1 ha u, own_far h.1.2.1 ha u, own_far h.1.2.2 ha u⟩, h.2⟩
theorem own_some {w : World} {B : Nat} {e : TypeId} {m n : Nat} {F : Nat → Int} {v : Value} (h : Own w B e m n F v) (hn : 0 < n) : ∃ k, v.ownBlock = some k := by
 rcases h.2 with ⟨_, q⟩ | ⟨g, cap, cur, rfl, _⟩
 ·omega
 ·exact ⟨g, rfl⟩
theorem OwnS.apart {w : World} {B : Nat} {S : Sto} {v0 v1 v2 : Value} (h : OwnS w B S v0 v1 v2) : ApartD S v0 v1 v2 := by
 refine ⟨fun a _ e => ?_, fun a _ e => ?_, fun a _ e => ?_⟩
 ·obtain ⟨k, hk⟩ := own_some h.1.1 a
  exact h.2.1 k hk (e ▸ hk)
 ·obtain ⟨k, hk⟩ := own_some h.1.1 a
  exact h.2.2.1 k hk (e ▸ hk)
 ·obtain ⟨k, hk⟩ := own_some h.1.2.1 a
  exact h.2.2.2 k hk (e ▸ hk)
theorem OwnS.all {w : World} {B : Nat} {S : Sto} {v0 v1 v2 : Value} (h : OwnS w B S v0 v1 v2) : St w B S v0 v1 v2 ∧ FreeS w S v0 v1 v2 ∧ ApartD S v0 v1 v2 := ⟨h.st, h.free, h.apart⟩
theorem OwnS.empty (w : World) (B : Nat) : OwnS w B emptyS (.slice none 0 0) (.slice none 0 0) (.slice none 0 0) := ⟨⟨Own.nil _ _ _ _ _, Own.nil _ _ _ _ _, Own.nil _ _ _ _ _⟩, fun k hk => by simp [Value.ownBlock] at hk, fun k hk => by simp [Value.ownBlock] at hk, fun k hk => by simp [Value.ownBlock] at hk⟩
/-- A call that answers a code and a store of its own. -/
def ResStoK (w : World) (c : Int) (R : Sto) (e : Ending) (w' : World) : Prop := ∃ a0 c0 a1 c1 a2 c2, e = .returned (.agg #[.int .i64 c, .slice a0 R.nc c0, .slice a1 R.nl c1, .slice a2 R.nw c2]) ∧ OwnS w' w.heap.size R (.slice a0 R.nc c0) (.slice a1 R.nl c1) (.slice a2 R.nw c2) ∧ Below w.heap.size w w'
theorem ResStoK.res {w : World} {c : Int} {R : Sto} {e : Ending} {w' : World} (h : ResStoK w c R e w') : ResSto w c R e w' := by
 obtain ⟨a0, c0, a1, c1, a2, c2, he, ho, hb⟩ := h
 exact ⟨a0, c0, a1, c1, a2, c2, he, ho.all, hb⟩
set_option maxRecDepth 100000 in
theorem l3Bad_own (c : Int) (w : World) : Calls Tryz.prog 41 #[.int .i64 c] w (ResStoK w c emptyS) := by
 unfold ResStoK
 go_enter Tryz.func41, Tryz.ntmps41
 go_wp2
 exact bodyPost_ret (v := .agg #[.int .i64 c, .slice none 0 0, .slice none 0 0, .slice none 0 0]) (by simp [results, Tryz.results41, go_sem]) rfl ⟨none, 0, none, 0, none, 0, rfl, OwnS.empty _ _, below_alloc _ _⟩
theorem run_onto (t ty e : TypeId) (i : TypeInfo) (z : Value) (m bytes : Nat) (ht : Tryz.prog.underlying t = some (.slice e)) (hi : Tryz.prog.info? e = some i) (hz : i.zero = some z) (hsize : i.size = m) (hby : i.bytes = bytes) (hzs : z.cells.size = m) (hm : 0 < m) (hb5 : bytes ≤ 1000)
  (w : World) (q B n : Nat) (F : Nat → Int) (v : Value) (h0 : w.heap[q]? = some (.cells #[] e)) (h : Row w B m n F v) (hn : n ≤ 1048576) :
  ∃ ao cp w', (Builtin.append_ #[t, t] ty #[.slice (some ⟨q, 0, none⟩) 0 0, v]).run Tryz.prog w = .ok (.slice ao n cp) w' ∧ Own w' q e m n F (.slice ao n cp) ∧ (∀ k, (Value.slice ao n cp).ownBlock = some k → (k = q ∨ w.heap.size ≤ k) ∧ k < w'.heap.size) ∧ w.grownBy w' (some q) := by
 have hq : q < w.heap.size := (Array.getElem?_eq_some_iff.1 h0).1
 have hown : w.ownsRow q e m (.slice (some ⟨q, 0, none⟩) 0 0) 0 [] := ⟨by simp, Or.inr ⟨q, 0, #[], rfl, Nat.le_refl _, h0, Nat.le_refl _, by decide, by simp, by simp⟩⟩
 have hbb : n * bytes ≤ 1048576 * 1000 := Nat.mul_le_mul hn hb5
 obtain ⟨ao, cp, rfl⟩ := h.form
 rcases Nat.eq_zero_or_pos n with e0 | e0
 ·subst e0
  have ho : Own w q e m 0 F (.slice (some ⟨q, 0, none⟩) 0 0) := by
   unfold Own
   rw [Nat.zero_mul]
   exact hown
  refine ⟨some ⟨q, 0, none⟩, 0, w, ?_, ho, fun k hk => ?_, ⟨rfl, rfl, rfl, Nat.le_refl _, fun _ _ _ => rfl⟩⟩
  ·cases ao with
   | none => simp [Builtin.append_, run_underlying ht, sizeOf, typeInfo, hi, Builtin.lenOf, Builtin.firstCells, storeCells]
   | some a => simp [Builtin.append_, run_underlying ht, sizeOf, typeInfo, hi, Builtin.lenOf, Builtin.firstCells, storeCells, loadCells, loadCellsFrom]
  ·simp [Value.ownBlock] at hk
   subst hk
   exact ⟨Or.inl rfl, hq⟩
 ·obtain ⟨g, o, rfl, _, _, _⟩ := h.at e0
  obtain ⟨b, cap, w', h1, h2, h3, h4, h5⟩ := run_append_lies (P := Tryz.prog) w t ty q e i z m bytes ht hi hz hsize hby hzs hm _ 0 [] hown ⟨g, o, none⟩ n cp (vals F (n * m)) (vals_length _ _) (row_cells h) (vals_one _ _) e0 (by unfold maxLen; omega) (by rw [Nat.zero_add]; omega) (Nat.le_of_lt hq) w.heap.size rfl
  rw [Nat.zero_add] at h1 h2
  refine ⟨_, _, w', h1, h2, fun k hk => ?_, h3⟩
  simp [Value.ownBlock] at hk
  subst hk
  refine ⟨?_, h5⟩
  rcases h4 with e | e
  ·simp [Value.ownBlock] at e; exact Or.inl e.symm
  ·exact Or.inr (by omega)
/-- An empty row in a block of its own. -/
def Em (c : World) (q : Nat) (e : TypeId) : Prop := c.heap[q]? = some (.cells #[] e)
theorem Em.lt {c : World} {q : Nat} {e : TypeId} (h : Em c q e) : q < c.heap.size := (Array.getElem?_eq_some_iff.1 h).1
theorem Em.grown {c c' : World} {q q' : Nat} {e : TypeId} (h : Em c q e) (hg : c.grownBy c' (some q')) (hne : q ≠ q') : Em c' q e := (hg.block q h.lt (by simp; exact hne)).trans h
theorem Em.later {c c' : World} {q : Nat} {e : TypeId} (h : Em c q e) (hb : Below c.heap.size c c') : Em c' q e := (hb.block q h.lt).trans h
theorem Em.new (c : World) (e : TypeId) : Em (c.alloc (.cells #[] e)) c.heap.size e := heap_alloc_new c _
/-- What the copying region stands on. -/
def Cp (w : World) (v0 v1 v2 : Value) (c : World) : Prop := Blk3 c w.heap.size v0 v1 v2 ∧ Below w.heap.size w c
theorem Cp.grown {w c c' : World} {v0 v1 v2 : Value} {q : Nat} (h : Cp w v0 v1 v2 c) (hg : c.grownBy c' (some q)) (hq : w.heap.size + 2 ≤ q) : Cp w v0 v1 v2 c' := ⟨h.1.kept (hg.block w.heap.size h.1.lt (by simp; omega)), ⟨hg.os.trans h.2.os, hg.tape.trans h.2.tape, hg.output.trans h.2.output, Nat.le_trans h.2.size hg.size, fun i hi => (hg.block i (Nat.lt_of_lt_of_le hi h.2.size) (by simp; omega)).trans (h.2.block i hi)⟩⟩
theorem Cp.later {w c c' : World} {v0 v1 v2 : Value} (h : Cp w v0 v1 v2 c) (hb : Below c.heap.size c c') : Cp w v0 v1 v2 c' := ⟨h.1.later hb, h.2.trans (hb.mono h.2.size)⟩
theorem Blk3.grown {c c' : World} {b q : Nat} {a0 a1 a2 : Value} (h : Blk3 c b a0 a1 a2) (hg : c.grownBy c' (some q)) (hne : b ≠ q) : Blk3 c' b a0 a1 a2 := h.kept (hg.block b h.lt (by simp; exact hne))
/-- A new store whose rows are its own. -/
def NewStoK (w : World) (R : Sto) (e : Ending) (w' : World) : Prop := ∃ a0 c0 a1 c1 a2 c2, e = .returned (.agg #[.slice a0 R.nc c0, .slice a1 R.nl c1, .slice a2 R.nw c2]) ∧ OwnS w' w.heap.size R (.slice a0 R.nc c0) (.slice a1 R.nl c1) (.slice a2 R.nw c2) ∧ Below w.heap.size w w'
def tyC : Nat → TypeId
 | 0 => 93
 | 1 => 40
 | _ => 55
def msC : Nat → Nat
 | 0 => 3
 | 1 => 5
 | _ => 4
def ApaC (u v : Value) : Prop := ∀ q, u.ownBlock = some q → v.ownBlock ≠ some q
theorem ApaC.symm {u v : Value} (h : ApaC u v) : ApaC v u := fun q h1 h2 => h q h2 h1
/-- Where the region stands: A: which empty rows are laid, k: how many rows are copied. -/
structure ZC (W0 : World) (a0 : Act) (N : Nat → Nat) (F : Nat → Nat → Int) (A : List Bool) (e : Bool) (k : Nat) (a : Act) (x : World) : Prop where
 one : e = true
 size : a.tmps.size = a0.tmps.size
 defers : a.defers = a0.defers
 rest : ∀ t : Nat, (∀ i : Nat, i < 3 → t ≠ 3 + 4 * i ∧ t ≠ 6 + 4 * i) → a.eval (.tmp t) = a0.eval (.tmp t)
 below : Below W0.heap.size W0 x
 alen : A.length = 3
 kle : k ≤ 3
 got : ∀ i, i < k → A.getD i false = true
 laid : ∀ i, i < 3 → k ≤ i → A.getD i false = true → ∃ q, a.eval (.tmp (3 + 4 * i)) = .slice (some ⟨q, 0, none⟩) 0 0 ∧ Em x q (tyC i) ∧ W0.heap.size ≤ q
 done : ∀ i, i < k → ∃ ao cp, a.eval (.tmp (6 + 4 * i)) = .slice ao (N i) cp ∧ Own x W0.heap.size (tyC i) (msC i) (N i) (F i) (.slice ao (N i) cp)
 apL : ∀ i j, i < 3 → j < 3 → i ≠ j → k ≤ i → k ≤ j → A.getD i false = true → A.getD j false = true → ApaC (a.eval (.tmp (3 + 4 * i))) (a.eval (.tmp (3 + 4 * j)))
 apM : ∀ i j, i < k → k ≤ j → j < 3 → A.getD j false = true → ApaC (a.eval (.tmp (6 + 4 * i))) (a.eval (.tmp (3 + 4 * j)))
 apD : ∀ i j, i < j → j < k → ApaC (a.eval (.tmp (6 + 4 * i))) (a.eval (.tmp (6 + 4 * j)))
theorem setC_self {A : List Bool} {i : Nat} (h : i < A.length) (d : Bool) : (A.set i true).getD i d = true := by
 simp [List.getD_eq_getElem?_getD, h]
theorem setC_off {A : List Bool} {i j : Nat} (h : i ≠ j) (d : Bool) : (A.set i true).getD j d = A.getD j d := by
 simp [List.getD_eq_getElem?_getD, List.getElem?_set_ne h]
section
variable {W0 : World} {a0 : Act} {N : Nat → Nat} {F : Nat → Nat → Int} {A : List Bool} {e : Bool} {k : Nat} {a : Act} {x : World}
theorem ZC.lay (h : ZC W0 a0 N F A e k a x) (hs : 15 ≤ a0.tmps.size) {i : Nat} (hi : i < 3) : ZC W0 a0 N F (A.set i true) e k (a.put (some (3 + 4 * i)) (.slice (some ⟨x.heap.size, 0, none⟩) 0 0)) (x.alloc (.cells #[] (tyC i))) where
 one := h.one
 size := by rw [sizeQ_put]; exact h.size
 defers := by rw [defersQ_put]; exact h.defers
 rest := fun u hu => by rw [Act.eval_put_ne _ _ _ _ (Ne.symm (hu i hi).1)]; exact h.rest u hu
 below := h.below.alloc h.below.size _
 alen := by rw [List.length_set]; exact h.alen
 kle := h.kle
 got := fun j hj => by
  by_cases q : i = j
  ·subst q; exact setC_self (by rw [h.alen]; exact hi) _
  ·rw [setC_off q]; exact h.got j hj
 laid := fun j hj hkj hA => by
  by_cases q : i = j
  ·subst q
   exact ⟨x.heap.size, Act.eval_put_same _ _ _ (by rw [h.size]; omega), Em.new _ _, h.below.size⟩
  ·rw [setC_off q] at hA
   obtain ⟨g, e1, e2, e3⟩ := h.laid j hj hkj hA
   exact ⟨g, by rw [Act.eval_put_ne _ _ _ _ (by omega)]; exact e1, e2.later (below_alloc _ _), e3⟩
 done := fun j hj => by
  obtain ⟨ao, cp, e1, e2⟩ := h.done j hj
  exact ⟨ao, cp, by rw [Act.eval_put_ne _ _ _ _ (by omega)]; exact e1, e2.alloc _⟩
 apL := fun j l hj hl hjl hkj hkl hA hB => by
  have key : ∀ m, m < 3 → i ≠ m → k ≤ m → (A.set i true).getD m false = true → ∀ q, (a.eval (.tmp (3 + 4 * m))).ownBlock = some q → q < x.heap.size := fun m hm him hkm hAm q hq => by
   rw [setC_off him] at hAm
   obtain ⟨g, e1, e2, _⟩ := h.laid m hm hkm hAm
   rw [e1] at hq
   cases hq
   exact e2.lt
  by_cases q : i = j
  ·subst q
   rw [Act.eval_put_same _ _ _ (by rw [h.size]; omega), Act.eval_put_ne _ _ _ _ (by omega)]
   intro q h1 h2
   cases h1
   exact absurd (key l hl hjl hkl hB _ h2) (Nat.lt_irrefl _)
  ·by_cases q2 : i = l
   ·subst q2
    rw [Act.eval_put_ne _ _ _ _ (by omega), Act.eval_put_same _ _ _ (by rw [h.size]; omega)]
    intro q h1 h2
    cases h2
    exact absurd (key j hj (Ne.symm hjl) hkj hA _ h1) (Nat.lt_irrefl _)
   ·rw [Act.eval_put_ne _ _ _ _ (by omega), Act.eval_put_ne _ _ _ _ (by omega)]
    rw [setC_off q] at hA
    rw [setC_off q2] at hB
    exact h.apL j l hj hl hjl hkj hkl hA hB
 apM := fun j l hj hkl hl hB => by
  rw [Act.eval_put_ne _ _ _ _ (by omega : (3 + 4 * i : Nat) ≠ 6 + 4 * j)]
  by_cases q : i = l
  ·subst q
   rw [Act.eval_put_same _ _ _ (by rw [h.size]; omega)]
   intro q h1 h2
   cases h2
   obtain ⟨ao, cp, e1, e2⟩ := h.done j hj
   rw [e1] at h1
   exact absurd (own_blk e2 _ h1).2 (Nat.lt_irrefl _)
  ·rw [Act.eval_put_ne _ _ _ _ (by omega)]
   rw [setC_off q] at hB
   exact h.apM j l hj hkl hl hB
 apD := fun j l hjl hl => by
  rw [Act.eval_put_ne _ _ _ _ (by omega), Act.eval_put_ne _ _ _ _ (by omega)]
  exact h.apD j l hjl hl
theorem ZC.call (h : ZC W0 a0 N F A e k a x) (hs : 15 ≤ a0.tmps.size) (hk : k < 3) (hA : A.getD k false = true) {x' : World} {q cp : Nat} {ao : Option Addr} (hq : a.eval (.tmp (3 + 4 * k)) = .slice (some ⟨q, 0, none⟩) 0 0) (hq0 : W0.heap.size ≤ q) (hqx : q < x.heap.size) (ho : Own x' q (tyC k) (msC k) (N k) (F k) (.slice ao (N k) cp)) (hb : ∀ b, (Value.slice ao (N k) cp).ownBlock = some b → (b = q ∨ x.heap.size ≤ b) ∧ b < x'.heap.size) (hg : x.grownBy x' (some q)) :
  ZC W0 a0 N F A e (k + 1) (a.put (some (6 + 4 * k)) (.slice ao (N k) cp)) x' where
 one := h.one
 size := by rw [sizeQ_put]; exact h.size
 defers := by rw [defersQ_put]; exact h.defers
 rest := fun u hu => by rw [Act.eval_put_ne _ _ _ _ (Ne.symm (hu k hk).2)]; exact h.rest u hu
 below := h.below.grown hg h.below.size (fun b e => by cases e; exact hq0)
 alen := h.alen
 kle := hk
 got := fun j hj => by
  by_cases q : j = k
  ·subst q; exact hA
  ·exact h.got j (by omega)
 laid := fun j hj hkj hB => by
  obtain ⟨g, e1, e2, e3⟩ := h.laid j hj (by omega) hB
  have hne : g ≠ q := fun r => by
   subst r
   have := h.apL k j hk hj (by omega) (Nat.le_refl _) (by omega) hA hB
   rw [hq, e1] at this
   exact this g rfl rfl
  exact ⟨g, by rw [Act.eval_put_ne _ _ _ _ (by omega)]; exact e1, e2.grown hg hne, e3⟩
 done := fun j hj => by
  by_cases r : j = k
  ·subst r
   exact ⟨ao, cp, Act.eval_put_same _ _ _ (by rw [h.size]; omega), ho.mono hq0⟩
  ·obtain ⟨ao', cp', e1, e2⟩ := h.done j (by omega)
   refine ⟨ao', cp', by rw [Act.eval_put_ne _ _ _ _ (by omega)]; exact e1, own_kept e2 (fun b hb' => hg.block b (own_blk e2 b hb').2 (fun r => ?_))⟩
   cases r
   have := h.apM j k (by omega) (Nat.le_refl _) hk hA
   rw [e1, hq] at this
   exact this q hb' rfl
 apL := fun i j hi hj hij hki hkj hB hC => by
  rw [Act.eval_put_ne _ _ _ _ (by omega), Act.eval_put_ne _ _ _ _ (by omega)]
  exact h.apL i j hi hj hij (by omega) (by omega) hB hC
 apM := fun i j hi hkj hj hB => by
  rw [Act.eval_put_ne _ _ _ _ (by omega : (6 + 4 * k : Nat) ≠ 3 + 4 * j)]
  obtain ⟨g, e1, e2, _⟩ := h.laid j hj (by omega) hB
  by_cases r : i = k
  ·subst r
   rw [Act.eval_put_same _ _ _ (by rw [h.size]; omega)]
   intro b h1 h2
   have hap := h.apL i j hk hj (by omega) (Nat.le_refl _) (by omega) hA hB
   rw [hq, e1] at hap
   rw [e1] at h2
   cases h2
   rcases (hb g h1).1 with w1 | w1
   ·exact hap g (by rw [w1]; rfl) rfl
   ·exact absurd e2.lt (by omega)
  ·rw [Act.eval_put_ne _ _ _ _ (by omega)]
   exact h.apM i j (by omega) (by omega) hj hB
 apD := fun i j hij hj => by
  rw [Act.eval_put_ne _ _ _ _ (by omega : (6 + 4 * k : Nat) ≠ 6 + 4 * i)]
  by_cases r : j = k
  ·subst r
   rw [Act.eval_put_same _ _ _ (by rw [h.size]; omega)]
   obtain ⟨ao', cp', e1, e2⟩ := h.done i hij
   intro b h1 h2
   have hap := h.apM i j hij (Nat.le_refl _) hk hA
   rw [hq] at hap
   rcases (hb b h2).1 with w1 | w1
   ·exact hap b h1 (by rw [w1]; rfl)
   ·rw [e1] at h1
    exact absurd (own_blk e2 b h1).2 (by omega)
  ·rw [Act.eval_put_ne _ _ _ _ (by omega)]
   exact h.apD i j hij (by omega)
end
theorem ZC.start {W0 : World} {a0 : Act} {N : Nat → Nat} {F : Nat → Nat → Int} : ZC W0 a0 N F [false, false, false] true 0 a0 W0 where
 one := rfl
 size := rfl
 defers := rfl
 rest := fun _ _ => rfl
 below := Below.refl _ _
 alen := rfl
 kle := Nat.zero_le _
 got := fun _ h => absurd h (Nat.not_lt_zero _)
 laid := fun i hi _ hA => by
  match i, hi with
  | 0, _ => cases hA
  | 1, _ => cases hA
  | 2, _ => cases hA
 done := fun _ h => absurd h (Nat.not_lt_zero _)
 apL := fun i _ hi _ _ _ _ hA _ => by
  match i, hi with
  | 0, _ => cases hA
  | 1, _ => cases hA
  | 2, _ => cases hA
 apM := fun _ _ h _ _ _ => absurd h (Nat.not_lt_zero _)
 apD := fun _ _ _ h => absurd h (Nat.not_lt_zero _)
/-- 'append([]T{}, row...)' at an operation. -/
theorem wp_onto {o : Oper} {d : Nat} {a : Act} {K : Act → World → Prop} {Q : Exit → Act → World → Prop} (s x : Operand) (t : TypeId) (ho : o.op = .call { callee := .builtin .append, args := #[s, x], argTypes := #[t, t] }) (hd : o.dst = some d)
  (e : TypeId) (i : TypeInfo) (z : Value) (m bytes : Nat) (ht : Tryz.prog.underlying t = some (.slice e)) (hi : Tryz.prog.info? e = some i) (hz : i.zero = some z) (hsize : i.size = m) (hby : i.bytes = bytes) (hzs : z.cells.size = m) (hm : 0 < m) (hb5 : bytes ≤ 1000)
  (w : World) (q B n : Nat) (F : Nat → Int) (v : Value) (hs : a.eval s = .slice (some ⟨q, 0, none⟩) 0 0) (hx : a.eval x = v) (h0 : w.heap[q]? = some (.cells #[] e)) (h : Row w B m n F v) (hn : n ≤ 1048576)
  (hK : ∀ ao cp w', Own w' q e m n F (.slice ao n cp) → (∀ k, (Value.slice ao n cp).ownBlock = some k → (k = q ∨ w.heap.size ≤ k) ∧ k < w'.heap.size) → w.grownBy w' (some q) → K (a.put (some d) (.slice ao n cp)) w') : Oper.wp Tryz.prog o a w K Q := by
 obtain ⟨ao, cp, w', hr, h2, h3, h4⟩ := run_onto t o.type e i z m bytes ht hi hz hsize hby hzs hm hb5 w q B n F v h0 h hn
 unfold Oper.wp execOp
 simp only [ho, resolve, invoke, builtin, Sem.run_bind, Sem.run_pure, Result.andThen_ok, List.map_toArray, List.map_cons, List.map_nil, hs, hx, hr]
 show K (a.put o.dst (.slice ao n cp)) w'
 rw [hd]
 exact hK ao cp w' h2 h3 h4
theorem run_noCell (w : World) : (Instr.buildSlice 24 0 #[]).run Tryz.prog w = .ok (.slice (some ⟨w.heap.size, 0, none⟩) 0 0) (w.alloc (.cells #[] 93)) := by
 first | kernel_rfl | rfl | go_simp
theorem wp_noCell {o : Oper} {d : Nat} {a : Act} {w : World} {K : Act → World → Prop} {Q : Exit → Act → World → Prop} (hop : o.op = .buildSlice 24 0 #[]) (hd : o.dst = some d) (h : K (a.put (some d) (.slice (some ⟨w.heap.size, 0, none⟩) 0 0)) (w.alloc (.cells #[] 93))) : Oper.wp Tryz.prog o a w K Q := by
 unfold Oper.wp execOp
 simp only [hop, List.map_toArray, List.map_nil, Sem.run_bind, run_noCell, Result.andThen_ok, Sem.run_pure]
 show K (a.put o.dst _) _
 rw [hd]
 exact h
theorem run_noLock (w : World) : (Instr.buildSlice 25 0 #[]).run Tryz.prog w = .ok (.slice (some ⟨w.heap.size, 0, none⟩) 0 0) (w.alloc (.cells #[] 40)) := by
 first | kernel_rfl | rfl | go_simp
theorem wp_noLock {o : Oper} {d : Nat} {a : Act} {w : World} {K : Act → World → Prop} {Q : Exit → Act → World → Prop} (hop : o.op = .buildSlice 25 0 #[]) (hd : o.dst = some d) (h : K (a.put (some d) (.slice (some ⟨w.heap.size, 0, none⟩) 0 0)) (w.alloc (.cells #[] 40))) : Oper.wp Tryz.prog o a w K Q := by
 unfold Oper.wp execOp
 simp only [hop, List.map_toArray, List.map_nil, Sem.run_bind, run_noLock, Result.andThen_ok, Sem.run_pure]
 show K (a.put o.dst _) _
 rw [hd]
 exact h
theorem run_noWrite (w : World) : (Instr.buildSlice 26 0 #[]).run Tryz.prog w = .ok (.slice (some ⟨w.heap.size, 0, none⟩) 0 0) (w.alloc (.cells #[] 55)) := by
 first | kernel_rfl | rfl | go_simp
theorem wp_noWrite {o : Oper} {d : Nat} {a : Act} {w : World} {K : Act → World → Prop} {Q : Exit → Act → World → Prop} (hop : o.op = .buildSlice 26 0 #[]) (hd : o.dst = some d) (h : K (a.put (some d) (.slice (some ⟨w.heap.size, 0, none⟩) 0 0)) (w.alloc (.cells #[] 55))) : Oper.wp Tryz.prog o a w K Q := by
 unfold Oper.wp execOp
 simp only [hop, List.map_toArray, List.map_nil, Sem.run_bind, run_noWrite, Result.andThen_ok, Sem.run_pure]
 show K (a.put o.dst _) _
 rw [hd]
 exact h
theorem wpAnyH_atC {P : Program} {md : Region.Mode} {ops : Array Oper} {Q : Exit → Act → World → Prop} {S : World → Prop} {n n' : Nat} {L L' : Array Bool} {a : Act} {w : World} (hn : n = n') (hL : L = L') (h : wpAnyH P md ops Q S n' L' a w) : wpAnyH P md ops Q S n L a w := by
 subst hn hL; exact h
/-- The copying region, in whatever order. -/
theorem wpAnyH_copies {ops : Array Oper} {Q : Exit → Act → World → Prop} {S : World → Prop} {L : Array Bool} {a : Act} {W : World} (f : Nat) (N : Nat → Nat) (F : Nat → Nat → Int) (hsz : 15 ≤ a.tmps.size)
  (hchk : chkQ .any ops 3 (fun i => 4 * i) (fun i => 3 + 4 * i) 1 L = true) (hL : L = L.setIfInBounds 1 true)
  (hlit : ∀ i, i < 3 → ∃ o, ops[4 * i]? = some o ∧ o.guard = none ∧ ∀ (b : Act) (x : World) (K : Act → World → Prop), K (b.put (some (3 + 4 * i)) (.slice (some ⟨x.heap.size, 0, none⟩) 0 0)) (x.alloc (.cells #[] (tyC i))) → Oper.wp Tryz.prog o b x K Q)
  (hcall : ∀ k, k < 3 → ∃ o, ops[3 + 4 * k]? = some o ∧ o.guard = none ∧ ∀ (b : Act) (x : World) (q : Nat) (K : Act → World → Prop), b.eval (.tmp (3 + 4 * k)) = .slice (some ⟨q, 0, none⟩) 0 0 → b.eval (.tmp (5 + 4 * k)) = a.eval (.tmp (5 + 4 * k)) → Em x q (tyC k) → Below W.heap.size W x → (∀ ao cp x', Own x' q (tyC k) (msC k) (N k) (F k) (.slice ao (N k) cp) → (∀ c, (Value.slice ao (N k) cp).ownBlock = some c → (c = q ∨ x.heap.size ≤ c) ∧ c < x'.heap.size) → x.grownBy x' (some q) → K (b.put (some (6 + 4 * k)) (.slice ao (N k) cp)) x') → Oper.wp Tryz.prog o b x K Q)
  (hS : ∀ x, Below W.heap.size W x → S x)
  (hend : ∀ (p0 p1 p2 : Value) (f0 f1 f2 : Option Addr) (m0 m1 m2 : Nat) (x : World), Below W.heap.size W x →
   (Own x W.heap.size 93 3 (N 0) (F 0) (.slice f0 (N 0) m0) ∧ Own x W.heap.size 40 5 (N 1) (F 1) (.slice f1 (N 1) m1) ∧ Own x W.heap.size 55 4 (N 2) (F 2) (.slice f2 (N 2) m2)) →
   (ApaC (.slice f0 (N 0) m0) (.slice f1 (N 1) m1) ∧ ApaC (.slice f0 (N 0) m0) (.slice f2 (N 2) m2) ∧ ApaC (.slice f1 (N 1) m1) (.slice f2 (N 2) m2)) →
   wpAnyH Tryz.prog .any ops Q S f (mkQ 3 (fun i => 4 * i) (fun i => 3 + 4 * i) 1 L [true, true, true] true 3) (putsQ [(3, p0), (7, p1), (11, p2), (6, .slice f0 (N 0) m0), (10, .slice f1 (N 1) m1), (14, .slice f2 (N 2) m2)] a) x) :
  wpAnyH Tryz.prog .any ops Q S (6 + f) L a W := by
 refine wpAnyH_atC (L' := mkQ 3 (fun i => 4 * i) (fun i => 3 + 4 * i) 1 L [false, false, false] true 0) rfl hL ?_
 refine wpAnyH_concs 3 (fun i => 4 * i) (fun i => 3 + 4 * i) 1 L f (ZC W a N F) hchk (fun A e k b x h => ⟨h.alen, h.kle, h.got⟩) (fun A e k b x h => hS x h.below) ?_ ?_ ?_ ?_ 6 [false, false, false] true 0 a W rfl ZC.start
 ·intro A e k b x i h hi hA
  obtain ⟨o, ho, hg, hwp⟩ := hlit i hi
  exact ⟨o, ho, hg, fun K hK => hwp b x K (hK _ _ (h.lay hsz hi))⟩
 ·intro A e k b x h hk hA
  obtain ⟨o, ho, hg, hwp⟩ := hcall k hk
  obtain ⟨q, e1, e2, e3⟩ := h.laid k hk (Nat.le_refl _) hA
  exact ⟨o, ho, hg, fun K hK => hwp b x q K e1 (h.rest (5 + 4 * k) (fun j hj => ⟨by omega, by omega⟩)) e2 h.below (fun ao cp x' h1 h2 h3 => hK _ _ (h.call hsz hk hA e1 e3 e2.lt h1 h2 h3))⟩
 ·intro A k b x h
  exact absurd h.one (by decide)
 ·intro e b x h
  obtain rfl := h.one
  have hb := putsQ_is [3, 7, 11, 6, 10, 14] a b (fun t ht => by simp at ht; omega) (by decide) h.size h.defers (fun t ht => h.rest t (fun i hi => by
   simp at ht
   match i, hi with
   | 0, _ => omega
   | 1, _ => omega
   | 2, _ => omega))
  obtain ⟨f0, m0, d0, o0⟩ := h.done 0 (by omega)
  obtain ⟨f1, m1, d1, o1⟩ := h.done 1 (by omega)
  obtain ⟨f2, m2, d2, o2⟩ := h.done 2 (by omega)
  have a01 := h.apD 0 1 (by omega) (by omega)
  have a02 := h.apD 0 2 (by omega) (by omega)
  have a12 := h.apD 1 2 (by omega) (by omega)
  rw [d0, d1] at a01
  rw [d0, d2] at a02
  rw [d1, d2] at a12
  have hq := hend (b.eval (.tmp 3)) (b.eval (.tmp 7)) (b.eval (.tmp 11)) f0 f1 f2 m0 m1 m2 x h.below ⟨o0, o1, o2⟩ ⟨a01, a02, a12⟩
  rw [← d0, ← d1, ← d2] at hq
  rw [hb]
  exact wpAnyH_atC (by unfold leftQ; simp) rfl hq
set_option maxRecDepth 100000 in
set_option maxHeartbeats 8000000 in
theorem l2Copy_own (S : Sto) (v0 v1 v2 : Value) (B : Nat) (w : World) (h : St w B S v0 v1 v2) (hn : S.nc ≤ 1048576 ∧ S.nl ≤ 1048576 ∧ S.nw ≤ 1048576) :
  Calls Tryz.prog 86 #[.agg #[v0, v1, v2]] w (NewStoK w S) := by
 obtain ⟨a0, c0, a1, c1, a2, c2, rfl, rfl, rfl⟩ := h.form
 have H : Hid (St w B S (.slice a0 S.nc c0) (.slice a1 S.nl c1) (.slice a2 S.nw c2)) := h
 have HN : Hid (S.nc ≤ 1048576 ∧ S.nl ≤ 1048576 ∧ S.nw ≤ 1048576) := hn
 have hCP : Cp w (.slice a0 S.nc c0) (.slice a1 S.nl c1) (.slice a2 S.nw c2) ((w.alloc (.cells #[.slice a0 S.nc c0, .slice a1 S.nl c1, .slice a2 S.nw c2] 28)).alloc (.cells #[.slice none 0 0, .slice none 0 0, .slice none 0 0] 28)).drew := ⟨(Blk3.new w _ _ _ _).alloc _, ((below_alloc _ _).alloc (by simp) _).drew⟩
 have hRB : Blk3 ((w.alloc (.cells #[.slice a0 S.nc c0, .slice a1 S.nl c1, .slice a2 S.nw c2] 28)).alloc (.cells #[.slice none 0 0, .slice none 0 0, .slice none 0 0] 28)).drew (w.heap.size + 1) (.slice none 0 0) (.slice none 0 0) (.slice none 0 0) := by
  have := Blk3.new (w.alloc (.cells #[.slice a0 S.nc c0, .slice a1 S.nl c1, .slice a2 S.nw c2] 28)) (.slice none 0 0) (.slice none 0 0) (.slice none 0 0) 28
  rw [World.size_alloc] at this
  exact this
 have hZ0 : ((w.alloc (.cells #[.slice a0 S.nc c0, .slice a1 S.nl c1, .slice a2 S.nw c2] 28)).alloc (.cells #[.slice none 0 0, .slice none 0 0, .slice none 0 0] 28)).drew.heap.size = w.heap.size + 2 := by simp
 clear h hn
 go_enter Tryz.func86, Tryz.ntmps86
 go_wp2_with fail
 refine wp_region_held_drew (S := Cp w (.slice a0 S.nc c0) (.slice a1 S.nl c1) (.slice a2 S.nw c2)) (by kernel_rfl) hCP (fun hS => ?_)
 generalize ((w.alloc (.cells #[.slice a0 S.nc c0, .slice a1 S.nl c1, .slice a2 S.nw c2] 28)).alloc (.cells #[.slice none 0 0, .slice none 0 0, .slice none 0 0] 28)).drew = y0 at hCP hRB hZ0 hS ⊢
 have RB : Hid (Blk3 y0 (w.heap.size + 1) (.slice none 0 0) (.slice none 0 0) (.slice none 0 0)) := hRB
 have Z0 : Hid (y0.heap.size = w.heap.size + 2) := hZ0
 have CP : Hid (Cp w (.slice a0 S.nc c0) (.slice a1 S.nl c1) (.slice a2 S.nw c2) y0) := hCP
 clear hCP hRB hZ0
 refine tkH 1 ?_ hS (fun wx hx => ?_) ?_; rotate_left
 ·obtain ⟨⟨⟨hx0, hx1, hx2⟩, _⟩, _⟩ := hx; go_simp; try with_reducible rfl
 refine tkH 2 ?_ hS (fun wx hx => ?_) ?_; rotate_left
 ·obtain ⟨⟨⟨hx0, hx1, hx2⟩, _⟩, _⟩ := hx; go_simp; try with_reducible rfl
 refine tkH 5 ?_ hS (fun wx hx => ?_) ?_; rotate_left
 ·obtain ⟨⟨⟨hx0, hx1, hx2⟩, _⟩, _⟩ := hx; go_simp; try with_reducible rfl
 refine tkH 6 ?_ hS (fun wx hx => ?_) ?_; rotate_left
 ·obtain ⟨⟨⟨hx0, hx1, hx2⟩, _⟩, _⟩ := hx; go_simp; try with_reducible rfl
 refine tkH 9 ?_ hS (fun wx hx => ?_) ?_; rotate_left
 ·obtain ⟨⟨⟨hx0, hx1, hx2⟩, _⟩, _⟩ := hx; go_simp; try with_reducible rfl
 refine tkH 10 ?_ hS (fun wx hx => ?_) ?_; rotate_left
 ·obtain ⟨⟨⟨hx0, hx1, hx2⟩, _⟩, _⟩ := hx; go_simp; try with_reducible rfl
 try simp only [Act.put, List.getElem_toArray, List.getElem_cons_zero, List.getElem_cons_succ, List.setIfInBounds_toArray, List.set_cons_succ, List.set_cons_zero]
 clear hS
 refine wpAnyH_copies 2 (fun i => match i with | 0 => S.nc | 1 => S.nl | _ => S.nw) (fun i => match i with | 0 => S.c | 1 => S.l | _ => S.k) (by simp) (by kernel_rfl) (by kernel_rfl) (fun i hi => ?_) (fun i hi => ?_) (fun x hb => CP.out.later hb) ?_
 ·match i, hi with
  | 0, _ => exact ⟨_, rfl, rfl, fun b x K h => wp_noCell rfl rfl h⟩
  | 1, _ => exact ⟨_, rfl, rfl, fun b x K h => wp_noLock rfl rfl h⟩
  | 2, _ => exact ⟨_, rfl, rfl, fun b x K h => wp_noWrite rfl rfl h⟩
 ·match i, hi with
  | 0, _ =>
   obtain ⟨i0, hi0, hz00, hz10, hz20⟩ := info_parts info_Cell
   refine ⟨_, rfl, rfl, fun b x q K e1 e2 hm hb h => ?_⟩
   exact wp_onto _ _ 24 rfl rfl 93 i0 (.agg #[.int .i64 0, .int .i64 0, .int .i64 0]) 3 24 Tryz.underlying24 hi0 hz00 hz10 hz20 rfl (by omega) (by omega) x q B S.nc S.c (.slice a0 S.nc c0) e1 e2 hm (H.out.later (CP.out.2.trans (hb.mono (by rw [Z0.out]; omega)))).1 HN.out.1 h
  | 1, _ =>
   obtain ⟨i0, hi0, hz00, hz10, hz20⟩ := info_parts info_Lock
   refine ⟨_, rfl, rfl, fun b x q K e1 e2 hm hb h => ?_⟩
   exact wp_onto _ _ 25 rfl rfl 40 i0 (.agg #[.int .i64 0, .int .i64 0, .int .i64 0, .int .i64 0, .int .i64 0]) 5 40 Tryz.underlying25 hi0 hz00 hz10 hz20 rfl (by omega) (by omega) x q B S.nl S.l (.slice a1 S.nl c1) e1 e2 hm (H.out.later (CP.out.2.trans (hb.mono (by rw [Z0.out]; omega)))).2.1 HN.out.2.1 h
  | 2, _ =>
   obtain ⟨i0, hi0, hz00, hz10, hz20⟩ := info_parts info_Write
   refine ⟨_, rfl, rfl, fun b x q K e1 e2 hm hb h => ?_⟩
   exact wp_onto _ _ 26 rfl rfl 55 i0 (.agg #[.int .i64 0, .int .i64 0, .int .i64 0, .int .i64 0]) 4 32 Tryz.underlying26 hi0 hz00 hz10 hz20 rfl (by omega) (by omega) x q B S.nw S.k (.slice a2 S.nw c2) e1 e2 hm (H.out.later (CP.out.2.trans (hb.mono (by rw [Z0.out]; omega)))).2.2 HN.out.2.2 h
 ·intro p0 p1 p2 d0 d1 d2 e0 e1 e2 x hb ho ha
  try simp only [putsQ, Act.put, List.setIfInBounds_toArray, List.set_cons_succ, List.set_cons_zero]
  have hS : Cp w (.slice a0 S.nc c0) (.slice a1 S.nl c1) (.slice a2 S.nw c2) x := CP.out.later hb
  have hlo : w.heap.size + 1 < y0.heap.size := by rw [Z0.out]; omega
  have HO : Hid (NewStoK w S (.returned (.agg #[.slice d0 S.nc e0, .slice d1 S.nl e1, .slice d2 S.nw e2])) (((x.setCell ⟨w.heap.size + 1, 0, none⟩ (.slice d0 S.nc e0)).setCell ⟨w.heap.size + 1, 1, none⟩ (.slice d1 S.nl e1)).setCell ⟨w.heap.size + 1, 2, none⟩ (.slice d2 S.nw e2))) :=
   ⟨d0, e0, d1, e1, d2, e2, rfl, ⟨⟨(own_far (own_far (own_far ho.1 (a := ⟨w.heap.size + 1, 0, none⟩) hlo _) (a := ⟨w.heap.size + 1, 1, none⟩) hlo _) (a := ⟨w.heap.size + 1, 2, none⟩) hlo _).mono (by omega), (own_far (own_far (own_far ho.2.1 (a := ⟨w.heap.size + 1, 0, none⟩) hlo _) (a := ⟨w.heap.size + 1, 1, none⟩) hlo _) (a := ⟨w.heap.size + 1, 2, none⟩) hlo _).mono (by omega), (own_far (own_far (own_far ho.2.2 (a := ⟨w.heap.size + 1, 0, none⟩) hlo _) (a := ⟨w.heap.size + 1, 1, none⟩) hlo _) (a := ⟨w.heap.size + 1, 2, none⟩) hlo _).mono (by omega)⟩, ha.1, ha.2.1, ha.2.2⟩, ((hS.2.setCell (Nat.le_succ _) _).setCell (Nat.le_succ _) _).setCell (Nat.le_succ _) _⟩
  have RX : Hid (Blk3 x (w.heap.size + 1) (.slice none 0 0) (.slice none 0 0) (.slice none 0 0)) := RB.out.later hb
  clear ho ha hb hlo CP RB
  refine wpAnyH_atC (n' := 2) (L' := #[true, true, true, true, true, true, true, true, true, true, true, true, false, false]) rfl (by kernel_rfl) ?_
  refine tkH 12 ?_ hS (fun wx hx => ?_) ?_; rotate_left
  ·obtain ⟨⟨⟨hx0, hx1, hx2⟩, _⟩, _⟩ := hx; go_simp; try with_reducible rfl
  refine rdH 13 (fun K hK => ?_)
  obtain ⟨⟨y0', y1', y2'⟩, z0', z1', z2'⟩ := RX.out
  have hS' : Cp w (.slice a0 S.nc c0) (.slice a1 S.nl c1) (.slice a2 S.nw c2) (((x.setCell ⟨w.heap.size + 1, 0, none⟩ (.slice d0 S.nc e0)).setCell ⟨w.heap.size + 1, 1, none⟩ (.slice d1 S.nl e1)).setCell ⟨w.heap.size + 1, 2, none⟩ (.slice d2 S.nw e2)) := ⟨((hS.1.setFar (p := ⟨w.heap.size + 1, 0, none⟩) (by simp) _).setFar (p := ⟨w.heap.size + 1, 1, none⟩) (by simp) _).setFar (p := ⟨w.heap.size + 1, 2, none⟩) (by simp) _, ((hS.2.setCell (Nat.le_succ _) _).setCell (Nat.le_succ _) _).setCell (Nat.le_succ _) _⟩
  go_simp
  refine hK.out _ _ hS' (fun hS => ?_)
  clear hK K hS'
  refine wpAnyH_done (by kernel_rfl) ?_ _
  go_simp
  go_wp2
  exact bodyPost_ret (v := .agg #[.slice d0 S.nc e0, .slice d1 S.nl e1, .slice d2 S.nw e2]) (by simp [results, Tryz.results86, go_sem, y0', y1', y2']) rfl HO.out
end Go.Proofs.YtiadbiiiikhfaaaGreatDoor

namespace Go.Proofs.YtiadbiiiikhfaaaGreatDoor
section
open Go.RowKit
def writeAt (k : Nat → Int) (a c : Int) (i : Nat) : Prop := k (i * 4) = a ∧ k (i * 4 + 1) = c
/-- What l3At answers. -/
def AtAns (S : Sto) (a c : Int) (w : World) (e : Ending) (w' : World) : Prop := ∃ r : Bool, e = .returned (.bool r) ∧ (r = true ↔ ∃ i, i < S.nw ∧ writeAt S.k a c i) ∧ w' = w
set_option maxRecDepth 10000 in
set_option maxHeartbeats 2000000 in
theorem l3At_anyO (S : Sto) (b oo : Nat) (v0 v1 v2 : Value) (a c : Int) (w : World) (h : LiesO w b oo S v0 v1 v2) (hn : S.nw ≤ 200) :
  Calls Tryz.prog 100 #[.pointer (some ⟨b, oo, none⟩), .int .i64 a, .int .i64 c] w (AtAns S a c w) := by
 obtain ⟨a0, c0, a1, c1, a2, c2, rfl, rfl, rfl⟩ := h.2.form
 have H : Hid (LiesO w b oo S (.slice a0 S.nc c0) (.slice a1 S.nl c1) (.slice a2 S.nw c2)) := h
 have p0 := h.1.2.2
 have hb := h.lt
 clear h
 go_enter Tryz.func100, Tryz.ntmps100
 go_wp2
 go_loop [7] (fun i => ∃ k : Nat, k ≤ S.nw ∧ i = .int .i64 k ∧ Hid (∀ j, j < k → ¬ writeAt S.k a c j)) (fun i => S.nw - (intOf i).toNat)
 case atStart => exact ⟨0, Nat.zero_le _, rfl, fun j hj => absurd hj (Nat.not_lt_zero j)⟩
 case round =>
  obtain ⟨k, hk, rfl, HS⟩ := hrel
  by_cases hlt : k < S.nw
  case neg =>
   obtain rfl : k = S.nw := by omega
   go_wp2
   refine bodyPost_ret (v := .bool false) (by simp [results, Tryz.results100, go_sem]) rfl ⟨false, rfl, ?_, rfl⟩
   exact ⟨fun q => (Bool.false_ne_true q).elim, fun ⟨i, hi, q⟩ => (HS.out i hi q).elim⟩
  obtain ⟨g, o, rfl, _, hg, x0, x1, x2, x3⟩ := H.out.2.2.2.at4 hlt
  obtain ⟨n0, N0⟩ : ∃ x, S.k (k * 4) = x := ⟨_, rfl⟩
  obtain ⟨n1, N1⟩ : ∃ x, S.k (k * 4 + 1) = x := ⟨_, rfl⟩
  rw [N0] at x0
  rw [N1] at x1
  by_cases h0 : n0 = a
  ·by_cases h1 : n1 = c
   ·have E : Hid (writeAt S.k a c k) := ⟨N0.trans h0, N1.trans h1⟩
    clear N0 N1
    subst h0 h1
    go_wp2
    refine bodyPost_ret (v := .bool true) (by simp [results, Tryz.results100, go_sem]) rfl ⟨true, rfl, ?_, rfl⟩
    exact ⟨fun _ => ⟨k, hlt, E.out⟩, fun _ => rfl⟩
   ·have E : Hid (∀ j, j < k + 1 → ¬ writeAt S.k a c j) := all_next HS.out (fun q => h1 (N1.symm.trans q.2))
    have d1 : (n1 == c) = false := beq_eq_false_iff_ne.2 h1
    clear N0 N1 HS h1
    subst h0
    go_wp2
    go_round
    case rel => exact ⟨k + 1, by omega, by go_num, E⟩
    case measure => simp [intOf]; omega
  ·have E : Hid (∀ j, j < k + 1 → ¬ writeAt S.k a c j) := all_next HS.out (fun q => h0 (N0.symm.trans q.1))
   have d0 : (n0 == a) = false := beq_eq_false_iff_ne.2 h0
   clear N0 N1 HS h0
   go_wp2
   go_round
   case rel => exact ⟨k + 1, by omega, by go_num, E⟩
   case measure => simp [intOf]; omega
/-- Is a lock that of a key and start? -/
def goneL (a s : Int) (t : List Int) : Bool := t.getD 0 0 == a && t.getD 1 0 == s
def unlL (F : Nat → Int) (a s : Int) (n : Nat) : List (List Int) := selD F 5 (goneL a s) n
set_option maxRecDepth 100000 in
set_option maxHeartbeats 4000000 in
theorem l3Unlock_any (n : Nat) (F : Nat → Int) (v : Value) (B : Nat) (a s : Int) (w : World) (h : Row w B 5 n F v) (hn : n ≤ 1000) :
  Calls Tryz.prog 101 #[v, .int .i64 a, .int .i64 s] w fun e w' => ∃ ao cp, e = .returned (.slice ao (unlL F a s n).length cp) ∧ OwnM w' w.heap.size 40 5 (.slice ao (unlL F a s n).length cp) (unlL F a s n).length (unlL F a s n).flatten ∧ Below w.heap.size w w' := by
 obtain ⟨ao0, cp0, rfl⟩ := h.form
 have H : Hid (Row w B 5 n F (.slice ao0 n cp0)) := h
 clear h
 obtain ⟨i0, hi, hz0, hz1, hz2⟩ := info_parts info_Lock
 go_enter Tryz.func101, Tryz.ntmps101
 go_wp2
 go_loopw [7, 8] (fun out i wr => ∃ (k : Nat) (ao : Option Addr) (cp : Nat), k ≤ n ∧ i = .int .i64 k ∧ out = .slice ao (unlL F a s k).length cp ∧ Hid (OwnM wr w.heap.size 40 5 (.slice ao (unlL F a s k).length cp) (unlL F a s k).length (unlL F a s k).flatten ∧ Below w.heap.size w wr)) (fun _ i _ => n - (intOf i).toNat)
 case atStart => exact ⟨0, _, _, Nat.zero_le _, rfl, rfl, OwnM.lit0 _ _ _ _ rfl, below_alloc _ _⟩
 case round =>
  obtain ⟨k, ao, cp, hk, rfl, rfl, HS⟩ := hrel
  by_cases hlt : k < n
  case neg =>
   obtain rfl : k = n := by omega
   go_wp2
   refine bodyPost_ret (v := .slice ao (unlL F a s k).length cp) (by simp [results, Tryz.results101, go_sem]) rfl ⟨ao, cp, rfl, HS.out⟩
  obtain ⟨g, o, rfl, _, hg, x0, x1, x2, x3, x4⟩ := (H.out.later HS.out.2).at5 hlt
  obtain ⟨n0, N0⟩ : ∃ x, F (k * 5) = x := ⟨_, rfl⟩
  rw [N0] at x0
  obtain ⟨n1, N1⟩ : ∃ x, F (k * 5 + 1) = x := ⟨_, rfl⟩
  rw [N1] at x1
  obtain ⟨n2, N2⟩ : ∃ x, F (k * 5 + 2) = x := ⟨_, rfl⟩
  rw [N2] at x2
  obtain ⟨n3, N3⟩ : ∃ x, F (k * 5 + 3) = x := ⟨_, rfl⟩
  rw [N3] at x3
  obtain ⟨n4, N4⟩ : ∃ x, F (k * 5 + 4) = x := ⟨_, rfl⟩
  rw [N4] at x4
  have HD : struD F 5 k = [n0, n1, n2, n3, n4] := by
   rw [← N0, ← N1, ← N2, ← N3, ← N4]
   rfl
  clear N0 N1 N2 N3 N4
  by_cases h0 : n0 = a
  ·by_cases h1 : n1 = s
   ·have HU : Hid (unlL F a s (k + 1) = unlL F a s k) := selD_gone (by rw [HD]; unfold goneL; simp [h0, h1])
    clear HD
    subst h0 h1
    obtain ⟨LL, hLL⟩ : ∃ LL, unlL F n0 n1 k = LL := ⟨_, rfl⟩
    rw [hLL] at HS HU
    have HLL : Hid (unlL F n0 n1 k = LL) := hLL
    rw [hLL]
    clear hLL
    go_wp2
    go_roundw
    case rel => exact ⟨k + 1, ao, cp, by omega, by go_num, by rw [HU.out], by rw [HU.out]; exact HS⟩
    case measure => simp [intOf]; omega
   ·have HU : Hid (unlL F a s (k + 1) = unlL F a s k ++ [[n0, n1, n2, n3, n4]]) := by
     have := selD_kept (F := F) (m := 5) (D := goneL a s) (k := k) (by rw [HD]; unfold goneL; simp [h1])
     rw [HD] at this
     exact this
    have d0 : (n1 != s) = true := by rw [bne_iff_ne]; exact h1
    clear HD h1
    subst h0
    obtain ⟨LL, hLL⟩ : ∃ LL, unlL F n0 s k = LL := ⟨_, rfl⟩
    have hle : LL.length ≤ k := by rw [← hLL]; exact selD_le _ _ _ _
    rw [hLL] at HS HU
    rw [hLL]
    clear hLL
    have hbz := HS.out.2.size
    go_wp2_with (at_builtin; refine wpList_app 40 i0 (.agg #[.int .i64 0, .int .i64 0, .int .i64 0, .int .i64 0, .int .i64 0]) 5 40 rfl _ _ 25 rfl Tryz.underlying25 hi hz0 hz1 hz2 rfl (by omega) (by omega) _ w.heap.size LL.length LL.flatten (.slice ao LL.length cp) rfl (HS.out.1.later (below_alloc _ _)) 0 1 (fun p => [n0, n1, n2, n3, n4].getD p 0) (.slice (some ⟨wr.heap.size, 0, none⟩) 1 1) rfl (row_lit5 wr n0 n1 n2 n3 n4 40) (by omega) (by simp; omega) ?_; intro ao1 cp1 w2 O2 G2)
    have HS2 : Hid (OwnM w2 w.heap.size 40 5 (.slice ao1 (unlL F n0 s (k + 1)).length cp1) (unlL F n0 s (k + 1)).length (unlL F n0 s (k + 1)).flatten ∧ Below w.heap.size w w2) := by
     unfold Hid
     rw [HU.out, List.length_append, List.length_singleton, List.flatten_append]
     refine ⟨?_, (HS.out.2.alloc hbz _).grown G2 (by simp; omega) (fun r e => (HS.out.1.block r e).1)⟩
     have e5 : nums (fun p => [n0, n1, n2, n3, n4].getD p 0) (1 * 5) = [[n0, n1, n2, n3, n4]].flatten := rfl
     rw [← e5]
     exact O2
    clear O2 G2 HS
    go_wp2
    go_roundw
    case rel => exact ⟨k + 1, ao1, cp1, by omega, by go_num, by rw [HU.out, List.length_append]; rfl, HS2⟩
    case measure => simp [intOf]; omega
  ·have HU : Hid (unlL F a s (k + 1) = unlL F a s k ++ [[n0, n1, n2, n3, n4]]) := by
    have := selD_kept (F := F) (m := 5) (D := goneL a s) (k := k) (by rw [HD]; unfold goneL; simp [h0])
    rw [HD] at this
    exact this
   have d0 : (n0 != a) = true := by rw [bne_iff_ne]; exact h0
   clear HD h0
   obtain ⟨LL, hLL⟩ : ∃ LL, unlL F a s k = LL := ⟨_, rfl⟩
   have hle : LL.length ≤ k := by rw [← hLL]; exact selD_le _ _ _ _
   rw [hLL] at HS HU
   rw [hLL]
   clear hLL
   have hbz := HS.out.2.size
   go_wp2_with (at_builtin; refine wpList_app 40 i0 (.agg #[.int .i64 0, .int .i64 0, .int .i64 0, .int .i64 0, .int .i64 0]) 5 40 rfl _ _ 25 rfl Tryz.underlying25 hi hz0 hz1 hz2 rfl (by omega) (by omega) _ w.heap.size LL.length LL.flatten (.slice ao LL.length cp) rfl (HS.out.1.later (below_alloc _ _)) 0 1 (fun p => [n0, n1, n2, n3, n4].getD p 0) (.slice (some ⟨wr.heap.size, 0, none⟩) 1 1) rfl (row_lit5 wr n0 n1 n2 n3 n4 40) (by omega) (by simp; omega) ?_; intro ao1 cp1 w2 O2 G2)
   have HS2 : Hid (OwnM w2 w.heap.size 40 5 (.slice ao1 (unlL F a s (k + 1)).length cp1) (unlL F a s (k + 1)).length (unlL F a s (k + 1)).flatten ∧ Below w.heap.size w w2) := by
    unfold Hid
    rw [HU.out, List.length_append, List.length_singleton, List.flatten_append]
    refine ⟨?_, (HS.out.2.alloc hbz _).grown G2 (by simp; omega) (fun r e => (HS.out.1.block r e).1)⟩
    have e5 : nums (fun p => [n0, n1, n2, n3, n4].getD p 0) (1 * 5) = [[n0, n1, n2, n3, n4]].flatten := rfl
    rw [← e5]
    exact O2
   clear O2 G2 HS
   go_wp2
   go_roundw
   case rel => exact ⟨k + 1, ao1, cp1, by omega, by go_num, by rw [HU.out, List.length_append]; rfl, HS2⟩
   case measure => simp [intOf]; omega
end

section
open Go.RowKit
/-- One more struct in its place. -/
def insF (F : Nat → Int) (m n k : Nat) (xs : List Int) : Nat → Int := fun p => (nums F (k * m) ++ xs ++ nums (fun p => F (k * m + p)) ((n - k) * m)).getD p 0
/-- A store of which a lock of key a and start s has become a write of kind d, at commit c; its place is k. -/
def commitS (S : Sto) (a s c d : Int) (k : Nat) : Sto := ⟨S.nc, S.c, (unlL S.l a s S.nl).length, fun p => (unlL S.l a s S.nl).flatten.getD p 0, S.nw + 1, insF S.k 4 S.nw k [a, c, s, d]⟩

/-- What l3Commit stands on: its answer (the first block), the copy (block z). -/
def CmE (w : World) (b oo : Nat) (S : Sto) (v0 v1 v2 : Value) (z : Nat) (u0 u1 u2 : Value) (x : World) : Prop :=
 Blk4 x w.heap.size (.int .i64 0) (.slice none 0 0) (.slice none 0 0) (.slice none 0 0) ∧ Blk3 x z u0 u1 u2 ∧ LiesO x b oo S v0 v1 v2 ∧ Below w.heap.size w x
theorem CmE.later {w x x' : World} {b oo z : Nat} {S : Sto} {v0 v1 v2 u0 u1 u2 : Value} (h : CmE w b oo S v0 v1 v2 z u0 u1 u2 x) (hb : Below x.heap.size x x') : CmE w b oo S v0 v1 v2 z u0 u1 u2 x' := ⟨h.1.later hb, h.2.1.later hb, h.2.2.1.later hb, h.2.2.2.trans (hb.mono h.2.2.2.size)⟩
set_option maxRecDepth 100000 in
set_option maxHeartbeats 8000000 in
theorem l3Commit_sameO (S : Sto) (b oo : Nat) (v0 v1 v2 : Value) (a s c : Int) (i : Nat) (w : World) (h : LiesO w b oo S v0 v1 v2) (hz : storeF S = 0) (hi : FirstAt (writeIs S.k a s) S.nw i) (hc : S.k (i * 4 + 1) = c) :
  Calls Tryz.prog 62 #[.pointer (some ⟨b, oo, none⟩), .int .i64 a, .int .i64 s, .int .i64 c] w (ResStoK w 0 S) := by
 have hin : i < S.nw := hi.at.1
 obtain ⟨a0, c0, a1, c1, a2, c2, rfl, rfl, rfl⟩ := h.2.form
 have H : Hid (LiesO w b oo S (.slice a0 S.nc c0) (.slice a1 S.nl c1) (.slice a2 S.nw c2)) := h
 obtain ⟨p0, p1, p2⟩ := h.1
 have hb := h.lt
 obtain ⟨⟨hn0, hn1, hn2⟩, _⟩ := storeF_zero hz
 clear h
 go_enter Tryz.func62, Tryz.ntmps62
 go_wp2_with fail
 refine (l2Copy_own S _ _ _ 0 _ (H.out.2.alloc _) ⟨by omega, by omega, by omega⟩).mono ?_
 rintro e w2 ⟨d0, e0, d1, e1, d2, e2, rfl, o2, q2⟩
 have g0 := own_cap o2.1.1
 have g1 := own_cap o2.1.2.1
 have g2 := own_cap o2.1.2.2
 obtain ⟨s2, fr2, ap2⟩ := o2.all
 simp only [World.size_alloc] at s2 q2 o2
 have BW2 : Below w.heap.size w w2 := (below_alloc w _).trans (q2.mono (Nat.le_succ _))
 have HE : Hid (CmE w b oo S (.slice a0 S.nc c0) (.slice a1 S.nl c1) (.slice a2 S.nw c2) w2.heap.size (.slice d0 S.nc e0) (.slice d1 S.nl e1) (.slice d2 S.nw e2) (w2.alloc (.cells #[.slice d0 S.nc e0, .slice d1 S.nl e1, .slice d2 S.nw e2] 28))) :=
  ⟨((Blk4.new w _ _ _ _ _).kept (q2.block w.heap.size (Nat.lt_succ_self _))).alloc _, Blk3.new _ _ _ _ _, (H.out.later BW2).later (below_alloc _ _), BW2.trans ((below_alloc w2 _).mono BW2.size)⟩
 have HS : Hid ((St w2 (w.heap.size + 1) S (.slice d0 S.nc e0) (.slice d1 S.nl e1) (.slice d2 S.nw e2) ∧ FreeS w2 S (.slice d0 S.nc e0) (.slice d1 S.nl e1) (.slice d2 S.nw e2)) ∧ ApartD S (.slice d0 S.nc e0) (.slice d1 S.nl e1) (.slice d2 S.nw e2)) := ⟨⟨s2, fr2⟩, ap2⟩
 have HOS : Hid (OwnS w2 (w.heap.size + 1) S (.slice d0 S.nc e0) (.slice d1 S.nl e1) (.slice d2 S.nw e2)) := o2
 have hzw : w.heap.size < w2.heap.size := by have := q2.size; simp at this; omega
 have B23 : Hid (Below w2.heap.size w2 (w2.alloc (.cells #[.slice d0 S.nc e0, .slice d1 S.nl e1, .slice d2 S.nw e2] 28))) := below_alloc _ _
 have hbl : b < w2.heap.size := Nat.lt_trans hb hzw
 clear o2 s2 fr2 ap2 q2 BW2 p0 p1 p2
 go_wp2_with fail
 generalize w2.alloc (.cells #[.slice d0 S.nc e0, .slice d1 S.nl e1, .slice d2 S.nw e2] 28) = w3 at HE B23 ⊢
 have hz3 : w2.heap.size < w3.heap.size := HE.out.2.1.lt
 refine (l2Write_isO S b oo _ _ _ a s i _ HE.out.2.2.1 hn2 hi).mono ?_
 rintro e w' ⟨rfl, rfl⟩
 obtain ⟨⟨⟨r0, r1, r2, r3⟩, f0, f1, f2, f3⟩, ⟨⟨t0, t1, t2⟩, _⟩, ⟨⟨p0, p1, p2⟩, pst⟩, _⟩ := HE.out
 obtain ⟨g, o, hg, _, hgl, x0, x1, x2, x3⟩ := pst.2.2.at4 hin
 subst hg
 rw [hc] at x1
 unfold ResStoK
 clear pst
 go_wp2
 have S3 : St w' (w.heap.size + 1) S (.slice d0 S.nc e0) (.slice d1 S.nl e1) (.slice d2 S.nw e2) := HS.out.1.1.later B23.out
 have O3 := HOS.out.later B23.out
 have hlo : (w.heap.size : Nat) < w.heap.size + 1 := Nat.lt_succ_self _
 exact bodyPost_ret (v := .agg #[.int .i64 0, .slice d0 S.nc e0, .slice d1 S.nl e1, .slice d2 S.nw e2]) (by simp [results, Tryz.results62, go_sem, r0, r1, r2, r3]) rfl ⟨d0, e0, d1, e1, d2, e2, rfl, ((((O3.far hlo _).far hlo _).far hlo _).far hlo _).mono (by omega), (((HE.out.2.2.2.setCell (Nat.le_refl _) _).setCell (Nat.le_refl _) _).setCell (Nat.le_refl _) _).setCell (Nat.le_refl _) _⟩
theorem bool_no {r : Bool} {P : Prop} (h : r = true ↔ P) (hn : ¬ P) : r = false := by
 cases r with
 | false => rfl
 | true => exact (hn (h.1 rfl)).elim
set_option maxRecDepth 100000 in
set_option maxHeartbeats 8000000 in
theorem l3Commit_takenO (S : Sto) (b oo : Nat) (v0 v1 v2 : Value) (a s c : Int) (i : Nat) (w : World) (h : LiesO w b oo S v0 v1 v2) (hz : storeF S = 0) (hi : FirstAt (writeIs S.k a s) S.nw i) (hc : S.k (i * 4 + 1) ≠ c) :
  Calls Tryz.prog 62 #[.pointer (some ⟨b, oo, none⟩), .int .i64 a, .int .i64 s, .int .i64 c] w (ResStoK w 6 emptyS) := by
 have hin : i < S.nw := hi.at.1
 obtain ⟨a0, c0, a1, c1, a2, c2, rfl, rfl, rfl⟩ := h.2.form
 have H : Hid (LiesO w b oo S (.slice a0 S.nc c0) (.slice a1 S.nl c1) (.slice a2 S.nw c2)) := h
 obtain ⟨p0, p1, p2⟩ := h.1
 have hb := h.lt
 obtain ⟨⟨hn0, hn1, hn2⟩, _⟩ := storeF_zero hz
 clear h
 go_enter Tryz.func62, Tryz.ntmps62
 go_wp2_with fail
 refine (l2Copy_own S _ _ _ 0 _ (H.out.2.alloc _) ⟨by omega, by omega, by omega⟩).mono ?_
 rintro e w2 ⟨d0, e0, d1, e1, d2, e2, rfl, o2, q2⟩
 have g0 := own_cap o2.1.1
 have g1 := own_cap o2.1.2.1
 have g2 := own_cap o2.1.2.2
 obtain ⟨s2, fr2, ap2⟩ := o2.all
 simp only [World.size_alloc] at s2 q2 o2
 have BW2 : Below w.heap.size w w2 := (below_alloc w _).trans (q2.mono (Nat.le_succ _))
 have HE : Hid (CmE w b oo S (.slice a0 S.nc c0) (.slice a1 S.nl c1) (.slice a2 S.nw c2) w2.heap.size (.slice d0 S.nc e0) (.slice d1 S.nl e1) (.slice d2 S.nw e2) (w2.alloc (.cells #[.slice d0 S.nc e0, .slice d1 S.nl e1, .slice d2 S.nw e2] 28))) :=
  ⟨((Blk4.new w _ _ _ _ _).kept (q2.block w.heap.size (Nat.lt_succ_self _))).alloc _, Blk3.new _ _ _ _ _, (H.out.later BW2).later (below_alloc _ _), BW2.trans ((below_alloc w2 _).mono BW2.size)⟩
 have HS : Hid ((St w2 (w.heap.size + 1) S (.slice d0 S.nc e0) (.slice d1 S.nl e1) (.slice d2 S.nw e2) ∧ FreeS w2 S (.slice d0 S.nc e0) (.slice d1 S.nl e1) (.slice d2 S.nw e2)) ∧ ApartD S (.slice d0 S.nc e0) (.slice d1 S.nl e1) (.slice d2 S.nw e2)) := ⟨⟨s2, fr2⟩, ap2⟩
 have HOS : Hid (OwnS w2 (w.heap.size + 1) S (.slice d0 S.nc e0) (.slice d1 S.nl e1) (.slice d2 S.nw e2)) := o2
 have hzw : w.heap.size < w2.heap.size := by have := q2.size; simp at this; omega
 have B23 : Hid (Below w2.heap.size w2 (w2.alloc (.cells #[.slice d0 S.nc e0, .slice d1 S.nl e1, .slice d2 S.nw e2] 28))) := below_alloc _ _
 have hbl : b < w2.heap.size := Nat.lt_trans hb hzw
 clear o2 s2 fr2 ap2 q2 BW2 p0 p1 p2
 go_wp2_with fail
 generalize w2.alloc (.cells #[.slice d0 S.nc e0, .slice d1 S.nl e1, .slice d2 S.nw e2] 28) = w3 at HE B23 ⊢
 have hz3 : w2.heap.size < w3.heap.size := HE.out.2.1.lt
 refine (l2Write_isO S b oo _ _ _ a s i _ HE.out.2.2.1 hn2 hi).mono ?_
 rintro e w' ⟨rfl, rfl⟩
 obtain ⟨⟨⟨r0, r1, r2, r3⟩, f0, f1, f2, f3⟩, ⟨⟨t0, t1, t2⟩, _⟩, ⟨⟨p0, p1, p2⟩, pst⟩, _⟩ := HE.out
 obtain ⟨g, o, hg, _, hgl, x0, x1, x2, x3⟩ := pst.2.2.at4 hin
 subst hg
 obtain ⟨y, hy⟩ : ∃ y, S.k (i * 4 + 1) = y := ⟨_, rfl⟩
 rw [hy] at x1 hc
 have dc : (y == c) = false := beq_eq_false_iff_ne.2 hc
 unfold ResStoK
 clear pst hc hy
 go_wp2_with fail
 refine (l3Bad_own 6 _).mono ?_
 rintro e w4 ⟨y0, z0, y1, z1, y2, z2, rfl, o4, q4⟩
 have S4 : Hid (OwnS w4 (w.heap.size + 1) emptyS (.slice y0 emptyS.nc z0) (.slice y1 emptyS.nl z1) (.slice y2 emptyS.nw z2)) := o4.mono (Nat.le_trans hzw (Nat.le_of_lt hz3))
 have HBW : Hid (Below w.heap.size w w4) := HE.out.2.2.2.trans (q4.mono HE.out.2.2.2.size)
 obtain ⟨⟨r0, r1, r2, r3⟩, f0, f1, f2, f3⟩ := HE.out.1.later q4
 clear o4 q4
 have hlo : (w.heap.size : Nat) < w.heap.size + 1 := Nat.lt_succ_self _
 go_wp2
 exact bodyPost_ret (v := .agg #[.int .i64 6, .slice y0 emptyS.nc z0, .slice y1 emptyS.nl z1, .slice y2 emptyS.nw z2]) (by simp [results, Tryz.results62, go_sem, r0, r1, r2, r3]) rfl ⟨y0, z0, y1, z1, y2, z2, rfl, ((((S4.out.far hlo _).far hlo _).far hlo _).far hlo _).mono (by omega), (((HBW.out.setCell (Nat.le_refl _) _).setCell (Nat.le_refl _) _).setCell (Nat.le_refl _) _).setCell (Nat.le_refl _) _⟩
set_option maxRecDepth 100000 in
set_option maxHeartbeats 8000000 in
theorem l3Commit_noneO (S : Sto) (b oo : Nat) (v0 v1 v2 : Value) (a s c : Int) (w : World) (h : LiesO w b oo S v0 v1 v2) (hz : storeF S = 0) (hi : FirstAt (writeIs S.k a s) S.nw (-1)) (hl : FirstAt (lockIs S.l a) S.nl (-1) ∨ ∃ j : Nat, FirstAt (lockIs S.l a) S.nl j ∧ S.l (j * 5 + 1) ≠ s) :
  Calls Tryz.prog 62 #[.pointer (some ⟨b, oo, none⟩), .int .i64 a, .int .i64 s, .int .i64 c] w (ResStoK w 4 emptyS) := by
 rcases hl with hl | ⟨j, hl, hj⟩
 focus
  obtain ⟨a0, c0, a1, c1, a2, c2, rfl, rfl, rfl⟩ := h.2.form
  have H : Hid (LiesO w b oo S (.slice a0 S.nc c0) (.slice a1 S.nl c1) (.slice a2 S.nw c2)) := h
  obtain ⟨p0, p1, p2⟩ := h.1
  have hb := h.lt
  obtain ⟨⟨hn0, hn1, hn2⟩, _⟩ := storeF_zero hz
  clear h
  go_enter Tryz.func62, Tryz.ntmps62
  go_wp2_with fail
  refine (l2Copy_own S _ _ _ 0 _ (H.out.2.alloc _) ⟨by omega, by omega, by omega⟩).mono ?_
  rintro e w2 ⟨d0, e0, d1, e1, d2, e2, rfl, o2, q2⟩
  have g0 := own_cap o2.1.1
  have g1 := own_cap o2.1.2.1
  have g2 := own_cap o2.1.2.2
  obtain ⟨s2, fr2, ap2⟩ := o2.all
  simp only [World.size_alloc] at s2 q2 o2
  have BW2 : Below w.heap.size w w2 := (below_alloc w _).trans (q2.mono (Nat.le_succ _))
  have HE : Hid (CmE w b oo S (.slice a0 S.nc c0) (.slice a1 S.nl c1) (.slice a2 S.nw c2) w2.heap.size (.slice d0 S.nc e0) (.slice d1 S.nl e1) (.slice d2 S.nw e2) (w2.alloc (.cells #[.slice d0 S.nc e0, .slice d1 S.nl e1, .slice d2 S.nw e2] 28))) :=
   ⟨((Blk4.new w _ _ _ _ _).kept (q2.block w.heap.size (Nat.lt_succ_self _))).alloc _, Blk3.new _ _ _ _ _, (H.out.later BW2).later (below_alloc _ _), BW2.trans ((below_alloc w2 _).mono BW2.size)⟩
  have HS : Hid ((St w2 (w.heap.size + 1) S (.slice d0 S.nc e0) (.slice d1 S.nl e1) (.slice d2 S.nw e2) ∧ FreeS w2 S (.slice d0 S.nc e0) (.slice d1 S.nl e1) (.slice d2 S.nw e2)) ∧ ApartD S (.slice d0 S.nc e0) (.slice d1 S.nl e1) (.slice d2 S.nw e2)) := ⟨⟨s2, fr2⟩, ap2⟩
  have HOS : Hid (OwnS w2 (w.heap.size + 1) S (.slice d0 S.nc e0) (.slice d1 S.nl e1) (.slice d2 S.nw e2)) := o2
  have hzw : w.heap.size < w2.heap.size := by have := q2.size; simp at this; omega
  have B23 : Hid (Below w2.heap.size w2 (w2.alloc (.cells #[.slice d0 S.nc e0, .slice d1 S.nl e1, .slice d2 S.nw e2] 28))) := below_alloc _ _
  have hbl : b < w2.heap.size := Nat.lt_trans hb hzw
  clear o2 s2 fr2 ap2 q2 BW2 p0 p1 p2
  go_wp2_with fail
  generalize w2.alloc (.cells #[.slice d0 S.nc e0, .slice d1 S.nl e1, .slice d2 S.nw e2] 28) = w3 at HE B23 ⊢
  have hz3 : w2.heap.size < w3.heap.size := HE.out.2.1.lt
  refine (l2Write_isO S b oo _ _ _ a s (-1) _ HE.out.2.2.1 hn2 hi).mono ?_
  rintro e w' ⟨rfl, rfl⟩
  go_wp2_with fail
  refine (l2Lock_isO S b oo _ _ _ a (-1) _ HE.out.2.2.1 hn1 hl).mono ?_
  rintro e w'' ⟨rfl, rfl⟩
  unfold ResStoK
 rotate_left
 focus
  have hin : j < S.nl := hl.at.1
  obtain ⟨a0, c0, a1, c1, a2, c2, rfl, rfl, rfl⟩ := h.2.form
  have H : Hid (LiesO w b oo S (.slice a0 S.nc c0) (.slice a1 S.nl c1) (.slice a2 S.nw c2)) := h
  obtain ⟨p0, p1, p2⟩ := h.1
  have hb := h.lt
  obtain ⟨⟨hn0, hn1, hn2⟩, _⟩ := storeF_zero hz
  clear h
  go_enter Tryz.func62, Tryz.ntmps62
  go_wp2_with fail
  refine (l2Copy_own S _ _ _ 0 _ (H.out.2.alloc _) ⟨by omega, by omega, by omega⟩).mono ?_
  rintro e w2 ⟨d0, e0, d1, e1, d2, e2, rfl, o2, q2⟩
  have g0 := own_cap o2.1.1
  have g1 := own_cap o2.1.2.1
  have g2 := own_cap o2.1.2.2
  obtain ⟨s2, fr2, ap2⟩ := o2.all
  simp only [World.size_alloc] at s2 q2 o2
  have BW2 : Below w.heap.size w w2 := (below_alloc w _).trans (q2.mono (Nat.le_succ _))
  have HE : Hid (CmE w b oo S (.slice a0 S.nc c0) (.slice a1 S.nl c1) (.slice a2 S.nw c2) w2.heap.size (.slice d0 S.nc e0) (.slice d1 S.nl e1) (.slice d2 S.nw e2) (w2.alloc (.cells #[.slice d0 S.nc e0, .slice d1 S.nl e1, .slice d2 S.nw e2] 28))) :=
   ⟨((Blk4.new w _ _ _ _ _).kept (q2.block w.heap.size (Nat.lt_succ_self _))).alloc _, Blk3.new _ _ _ _ _, (H.out.later BW2).later (below_alloc _ _), BW2.trans ((below_alloc w2 _).mono BW2.size)⟩
  have HS : Hid ((St w2 (w.heap.size + 1) S (.slice d0 S.nc e0) (.slice d1 S.nl e1) (.slice d2 S.nw e2) ∧ FreeS w2 S (.slice d0 S.nc e0) (.slice d1 S.nl e1) (.slice d2 S.nw e2)) ∧ ApartD S (.slice d0 S.nc e0) (.slice d1 S.nl e1) (.slice d2 S.nw e2)) := ⟨⟨s2, fr2⟩, ap2⟩
  have HOS : Hid (OwnS w2 (w.heap.size + 1) S (.slice d0 S.nc e0) (.slice d1 S.nl e1) (.slice d2 S.nw e2)) := o2
  have hzw : w.heap.size < w2.heap.size := by have := q2.size; simp at this; omega
  have B23 : Hid (Below w2.heap.size w2 (w2.alloc (.cells #[.slice d0 S.nc e0, .slice d1 S.nl e1, .slice d2 S.nw e2] 28))) := below_alloc _ _
  have hbl : b < w2.heap.size := Nat.lt_trans hb hzw
  clear o2 s2 fr2 ap2 q2 BW2 p0 p1 p2
  go_wp2_with fail
  generalize w2.alloc (.cells #[.slice d0 S.nc e0, .slice d1 S.nl e1, .slice d2 S.nw e2] 28) = w3 at HE B23 ⊢
  have hz3 : w2.heap.size < w3.heap.size := HE.out.2.1.lt
  refine (l2Write_isO S b oo _ _ _ a s (-1) _ HE.out.2.2.1 hn2 hi).mono ?_
  rintro e w' ⟨rfl, rfl⟩
  go_wp2_with fail
  refine (l2Lock_isO S b oo _ _ _ a j _ HE.out.2.2.1 hn1 hl).mono ?_
  rintro e w'' ⟨rfl, rfl⟩
  obtain ⟨⟨⟨r0, r1, r2, r3⟩, f0, f1, f2, f3⟩, ⟨⟨t0, t1, t2⟩, _⟩, ⟨⟨p0, p1, p2⟩, pst⟩, _⟩ := HE.out
  obtain ⟨g, o, hg, _, hgl, x0, x1, x2, x3, x4⟩ := pst.2.1.at5 hin
  subst hg
  obtain ⟨y, hy⟩ : ∃ y, S.l (j * 5 + 1) = y := ⟨_, rfl⟩
  rw [hy] at x1 hj
  have dc : (y != s) = true := by rw [bne_iff_ne]; exact hj
  unfold ResStoK
  clear pst hj hy
 rotate_left
 all_goals
  go_wp2_with fail
  refine (l3Bad_own 4 _).mono ?_
  rintro e w4 ⟨y0, z0, y1, z1, y2, z2, rfl, o4, q4⟩
  have S4 : Hid (OwnS w4 (w.heap.size + 1) emptyS (.slice y0 emptyS.nc z0) (.slice y1 emptyS.nl z1) (.slice y2 emptyS.nw z2)) := o4.mono (Nat.le_trans hzw (Nat.le_of_lt hz3))
  have HBW : Hid (Below w.heap.size w w4) := HE.out.2.2.2.trans (q4.mono HE.out.2.2.2.size)
  obtain ⟨⟨r0, r1, r2, r3⟩, f0, f1, f2, f3⟩ := HE.out.1.later q4
  clear o4 q4
  have hlo : (w.heap.size : Nat) < w.heap.size + 1 := Nat.lt_succ_self _
  go_wp2
  exact bodyPost_ret (v := .agg #[.int .i64 4, .slice y0 emptyS.nc z0, .slice y1 emptyS.nl z1, .slice y2 emptyS.nw z2]) (by simp [results, Tryz.results62, go_sem, r0, r1, r2, r3]) rfl ⟨y0, z0, y1, z1, y2, z2, rfl, ((((S4.out.far hlo _).far hlo _).far hlo _).far hlo _).mono (by omega), (((HBW.out.setCell (Nat.le_refl _) _).setCell (Nat.le_refl _) _).setCell (Nat.le_refl _) _).setCell (Nat.le_refl _) _⟩
set_option maxRecDepth 100000 in
set_option maxHeartbeats 8000000 in
theorem l3Commit_atO (S : Sto) (b oo : Nat) (v0 v1 v2 : Value) (a s c : Int) (j : Nat) (w : World) (h : LiesO w b oo S v0 v1 v2) (hz : storeF S = 0) (hi : FirstAt (writeIs S.k a s) S.nw (-1)) (hl : FirstAt (lockIs S.l a) S.nl j) (hj : S.l (j * 5 + 1) = s) (hat : ∃ i, i < S.nw ∧ writeAt S.k a c i) :
  Calls Tryz.prog 62 #[.pointer (some ⟨b, oo, none⟩), .int .i64 a, .int .i64 s, .int .i64 c] w (ResStoK w 6 emptyS) := by
 have hin : j < S.nl := hl.at.1
 obtain ⟨a0, c0, a1, c1, a2, c2, rfl, rfl, rfl⟩ := h.2.form
 have H : Hid (LiesO w b oo S (.slice a0 S.nc c0) (.slice a1 S.nl c1) (.slice a2 S.nw c2)) := h
 obtain ⟨p0, p1, p2⟩ := h.1
 have hb := h.lt
 obtain ⟨⟨hn0, hn1, hn2⟩, _⟩ := storeF_zero hz
 clear h
 go_enter Tryz.func62, Tryz.ntmps62
 go_wp2_with fail
 refine (l2Copy_own S _ _ _ 0 _ (H.out.2.alloc _) ⟨by omega, by omega, by omega⟩).mono ?_
 rintro e w2 ⟨d0, e0, d1, e1, d2, e2, rfl, o2, q2⟩
 have g0 := own_cap o2.1.1
 have g1 := own_cap o2.1.2.1
 have g2 := own_cap o2.1.2.2
 obtain ⟨s2, fr2, ap2⟩ := o2.all
 simp only [World.size_alloc] at s2 q2 o2
 have BW2 : Below w.heap.size w w2 := (below_alloc w _).trans (q2.mono (Nat.le_succ _))
 have HE : Hid (CmE w b oo S (.slice a0 S.nc c0) (.slice a1 S.nl c1) (.slice a2 S.nw c2) w2.heap.size (.slice d0 S.nc e0) (.slice d1 S.nl e1) (.slice d2 S.nw e2) (w2.alloc (.cells #[.slice d0 S.nc e0, .slice d1 S.nl e1, .slice d2 S.nw e2] 28))) :=
  ⟨((Blk4.new w _ _ _ _ _).kept (q2.block w.heap.size (Nat.lt_succ_self _))).alloc _, Blk3.new _ _ _ _ _, (H.out.later BW2).later (below_alloc _ _), BW2.trans ((below_alloc w2 _).mono BW2.size)⟩
 have HS : Hid ((St w2 (w.heap.size + 1) S (.slice d0 S.nc e0) (.slice d1 S.nl e1) (.slice d2 S.nw e2) ∧ FreeS w2 S (.slice d0 S.nc e0) (.slice d1 S.nl e1) (.slice d2 S.nw e2)) ∧ ApartD S (.slice d0 S.nc e0) (.slice d1 S.nl e1) (.slice d2 S.nw e2)) := ⟨⟨s2, fr2⟩, ap2⟩
 have HOS : Hid (OwnS w2 (w.heap.size + 1) S (.slice d0 S.nc e0) (.slice d1 S.nl e1) (.slice d2 S.nw e2)) := o2
 have hzw : w.heap.size < w2.heap.size := by have := q2.size; simp at this; omega
 have B23 : Hid (Below w2.heap.size w2 (w2.alloc (.cells #[.slice d0 S.nc e0, .slice d1 S.nl e1, .slice d2 S.nw e2] 28))) := below_alloc _ _
 have hbl : b < w2.heap.size := Nat.lt_trans hb hzw
 clear o2 s2 fr2 ap2 q2 BW2 p0 p1 p2
 go_wp2_with fail
 generalize w2.alloc (.cells #[.slice d0 S.nc e0, .slice d1 S.nl e1, .slice d2 S.nw e2] 28) = w3 at HE B23 ⊢
 have hz3 : w2.heap.size < w3.heap.size := HE.out.2.1.lt
 refine (l2Write_isO S b oo _ _ _ a s (-1) _ HE.out.2.2.1 hn2 hi).mono ?_
 rintro e w' ⟨rfl, rfl⟩
 go_wp2_with fail
 refine (l2Lock_isO S b oo _ _ _ a j _ HE.out.2.2.1 hn1 hl).mono ?_
 rintro e w'' ⟨rfl, rfl⟩
 obtain ⟨⟨⟨r0, r1, r2, r3⟩, f0, f1, f2, f3⟩, ⟨⟨t0, t1, t2⟩, _⟩, ⟨⟨p0, p1, p2⟩, pst⟩, _⟩ := HE.out
 obtain ⟨g, o, hg, _, hgl, x0, x1, x2, x3, x4⟩ := pst.2.1.at5 hin
 subst hg
 rw [hj] at x1
 unfold ResStoK
 clear pst
 go_wp2_with fail
 refine (l3At_anyO S b oo _ _ _ a c _ HE.out.2.2.1 hn2).mono ?_
 rintro e w5 ⟨r, rfl, hr, rfl⟩
 obtain rfl : r = true := hr.2 hat
 clear hr hat
 go_wp2_with fail
 refine (l3Bad_own 6 _).mono ?_
 rintro e w4 ⟨y0, z0, y1, z1, y2, z2, rfl, o4, q4⟩
 have S4 : Hid (OwnS w4 (w.heap.size + 1) emptyS (.slice y0 emptyS.nc z0) (.slice y1 emptyS.nl z1) (.slice y2 emptyS.nw z2)) := o4.mono (Nat.le_trans hzw (Nat.le_of_lt hz3))
 have HBW : Hid (Below w.heap.size w w4) := HE.out.2.2.2.trans (q4.mono HE.out.2.2.2.size)
 obtain ⟨⟨r0, r1, r2, r3⟩, f0, f1, f2, f3⟩ := HE.out.1.later q4
 clear o4 q4
 have hlo : (w.heap.size : Nat) < w.heap.size + 1 := Nat.lt_succ_self _
 go_wp2
 exact bodyPost_ret (v := .agg #[.int .i64 6, .slice y0 emptyS.nc z0, .slice y1 emptyS.nl z1, .slice y2 emptyS.nw z2]) (by simp [results, Tryz.results62, go_sem, r0, r1, r2, r3]) rfl ⟨y0, z0, y1, z1, y2, z2, rfl, ((((S4.out.far hlo _).far hlo _).far hlo _).far hlo _).mono (by omega), (((HBW.out.setCell (Nat.le_refl _) _).setCell (Nat.le_refl _) _).setCell (Nat.le_refl _) _).setCell (Nat.le_refl _) _⟩
set_option maxRecDepth 100000 in
set_option maxHeartbeats 8000000 in
theorem l3Commit_manyO (S : Sto) (b oo : Nat) (v0 v1 v2 : Value) (a s c : Int) (j : Nat) (w : World) (h : LiesO w b oo S v0 v1 v2) (hz : storeF S = 0) (hi : FirstAt (writeIs S.k a s) S.nw (-1)) (hl : FirstAt (lockIs S.l a) S.nl j) (hj : S.l (j * 5 + 1) = s) (hat : ¬ ∃ i, i < S.nw ∧ writeAt S.k a c i) (hm : 200 ≤ S.nw) :
  Calls Tryz.prog 62 #[.pointer (some ⟨b, oo, none⟩), .int .i64 a, .int .i64 s, .int .i64 c] w (ResStoK w 2 emptyS) := by
 have hin : j < S.nl := hl.at.1
 have dm : decide ((200 : Int) ≤ (S.nw : Int)) = true := decide_eq_true (by omega)
 clear hm
 obtain ⟨a0, c0, a1, c1, a2, c2, rfl, rfl, rfl⟩ := h.2.form
 have H : Hid (LiesO w b oo S (.slice a0 S.nc c0) (.slice a1 S.nl c1) (.slice a2 S.nw c2)) := h
 obtain ⟨p0, p1, p2⟩ := h.1
 have hb := h.lt
 obtain ⟨⟨hn0, hn1, hn2⟩, _⟩ := storeF_zero hz
 clear h
 go_enter Tryz.func62, Tryz.ntmps62
 go_wp2_with fail
 refine (l2Copy_own S _ _ _ 0 _ (H.out.2.alloc _) ⟨by omega, by omega, by omega⟩).mono ?_
 rintro e w2 ⟨d0, e0, d1, e1, d2, e2, rfl, o2, q2⟩
 have g0 := own_cap o2.1.1
 have g1 := own_cap o2.1.2.1
 have g2 := own_cap o2.1.2.2
 obtain ⟨s2, fr2, ap2⟩ := o2.all
 simp only [World.size_alloc] at s2 q2 o2
 have BW2 : Below w.heap.size w w2 := (below_alloc w _).trans (q2.mono (Nat.le_succ _))
 have HE : Hid (CmE w b oo S (.slice a0 S.nc c0) (.slice a1 S.nl c1) (.slice a2 S.nw c2) w2.heap.size (.slice d0 S.nc e0) (.slice d1 S.nl e1) (.slice d2 S.nw e2) (w2.alloc (.cells #[.slice d0 S.nc e0, .slice d1 S.nl e1, .slice d2 S.nw e2] 28))) :=
  ⟨((Blk4.new w _ _ _ _ _).kept (q2.block w.heap.size (Nat.lt_succ_self _))).alloc _, Blk3.new _ _ _ _ _, (H.out.later BW2).later (below_alloc _ _), BW2.trans ((below_alloc w2 _).mono BW2.size)⟩
 have HS : Hid ((St w2 (w.heap.size + 1) S (.slice d0 S.nc e0) (.slice d1 S.nl e1) (.slice d2 S.nw e2) ∧ FreeS w2 S (.slice d0 S.nc e0) (.slice d1 S.nl e1) (.slice d2 S.nw e2)) ∧ ApartD S (.slice d0 S.nc e0) (.slice d1 S.nl e1) (.slice d2 S.nw e2)) := ⟨⟨s2, fr2⟩, ap2⟩
 have HOS : Hid (OwnS w2 (w.heap.size + 1) S (.slice d0 S.nc e0) (.slice d1 S.nl e1) (.slice d2 S.nw e2)) := o2
 have hzw : w.heap.size < w2.heap.size := by have := q2.size; simp at this; omega
 have B23 : Hid (Below w2.heap.size w2 (w2.alloc (.cells #[.slice d0 S.nc e0, .slice d1 S.nl e1, .slice d2 S.nw e2] 28))) := below_alloc _ _
 have hbl : b < w2.heap.size := Nat.lt_trans hb hzw
 clear o2 s2 fr2 ap2 q2 BW2 p0 p1 p2
 go_wp2_with fail
 generalize w2.alloc (.cells #[.slice d0 S.nc e0, .slice d1 S.nl e1, .slice d2 S.nw e2] 28) = w3 at HE B23 ⊢
 have hz3 : w2.heap.size < w3.heap.size := HE.out.2.1.lt
 refine (l2Write_isO S b oo _ _ _ a s (-1) _ HE.out.2.2.1 hn2 hi).mono ?_
 rintro e w' ⟨rfl, rfl⟩
 go_wp2_with fail
 refine (l2Lock_isO S b oo _ _ _ a j _ HE.out.2.2.1 hn1 hl).mono ?_
 rintro e w'' ⟨rfl, rfl⟩
 obtain ⟨⟨⟨r0, r1, r2, r3⟩, f0, f1, f2, f3⟩, ⟨⟨t0, t1, t2⟩, _⟩, ⟨⟨p0, p1, p2⟩, pst⟩, _⟩ := HE.out
 obtain ⟨g, o, hg, _, hgl, x0, x1, x2, x3, x4⟩ := pst.2.1.at5 hin
 subst hg
 rw [hj] at x1
 unfold ResStoK
 clear pst
 go_wp2_with fail
 refine (l3At_anyO S b oo _ _ _ a c _ HE.out.2.2.1 hn2).mono ?_
 rintro e w5 ⟨r, rfl, hr, rfl⟩
 obtain rfl : r = false := bool_no hr hat
 clear hr hat
 go_wp2_with fail
 refine (l3Bad_own 2 _).mono ?_
 rintro e w4 ⟨y0, z0, y1, z1, y2, z2, rfl, o4, q4⟩
 have S4 : Hid (OwnS w4 (w.heap.size + 1) emptyS (.slice y0 emptyS.nc z0) (.slice y1 emptyS.nl z1) (.slice y2 emptyS.nw z2)) := o4.mono (Nat.le_trans hzw (Nat.le_of_lt hz3))
 have HBW : Hid (Below w.heap.size w w4) := HE.out.2.2.2.trans (q4.mono HE.out.2.2.2.size)
 obtain ⟨⟨r0, r1, r2, r3⟩, f0, f1, f2, f3⟩ := HE.out.1.later q4
 clear o4 q4
 have hlo : (w.heap.size : Nat) < w.heap.size + 1 := Nat.lt_succ_self _
 go_wp2
 exact bodyPost_ret (v := .agg #[.int .i64 2, .slice y0 emptyS.nc z0, .slice y1 emptyS.nl z1, .slice y2 emptyS.nw z2]) (by simp [results, Tryz.results62, go_sem, r0, r1, r2, r3]) rfl ⟨y0, z0, y1, z1, y2, z2, rfl, ((((S4.out.far hlo _).far hlo _).far hlo _).far hlo _).mono (by omega), (((HBW.out.setCell (Nat.le_refl _) _).setCell (Nat.le_refl _) _).setCell (Nat.le_refl _) _).setCell (Nat.le_refl _) _⟩
end
section
open Go.RowKit
/-- What the last drawn region of l3Commit reads. -/
def CmR (b oo g p : Nat) (v1 : Value) (d : Int) (X : World) : Prop := X.cell? ⟨b, oo + 1, none⟩ = some v1 ∧ X.cell? ⟨g, p, none⟩ = some (.int .i64 d)
theorem CmR.later {b oo g p : Nat} {v1 : Value} {d : Int} {X X' : World} (h : CmR b oo g p v1 d X) (hb : Below X.heap.size X X') : CmR b oo g p v1 d X' :=
 ⟨(hb.cell (p := ⟨b, oo + 1, none⟩) (lt_cell h.1)).trans h.1, (hb.cell (p := ⟨g, p, none⟩) (lt_cell h.2)).trans h.2⟩
theorem CmR.far {b oo g p : Nat} {v1 : Value} {d : Int} {X : World} (h : CmR b oo g p v1 d X) {z k : Nat} (hb : b ≠ z) (hg : g ≠ z) (u : Value) : CmR b oo g p v1 d (X.setCell ⟨z, k, none⟩ u) :=
 ⟨(World.cell?_setCell_other _ _ _ _ (fun q => by have := congrArg Addr.block q; simp at this; omega)).trans h.1, (World.cell?_setCell_other _ _ _ _ (fun q => by have := congrArg Addr.block q; simp at this; omega)).trans h.2⟩
theorem placeAt.one {p : Nat → Prop} {n i k : Nat} (h : placeAt p n i) (h' : placeAt p n k) : i = k := by
 rcases Nat.lt_trichotomy i k with q | q | q
 ·exact (h.2.2 (by have := h'.1; omega) (h'.2.1 i q)).elim
 ·exact q
 ·exact (h'.2.2 (by have := h.1; omega) (h.2.1 k q)).elim
set_option maxRecDepth 100000 in
set_option maxHeartbeats 8000000 in
theorem l3Commit_doneO (S : Sto) (b oo : Nat) (v0 v1 v2 : Value) (a s c : Int) (j : Nat) (w : World) (h : LiesO w b oo S v0 v1 v2) (hz : storeF S = 0) (hi : FirstAt (writeIs S.k a s) S.nw (-1)) (hl : FirstAt (lockIs S.l a) S.nl j) (hj : S.l (j * 5 + 1) = s) (hat : ¬ ∃ i, i < S.nw ∧ writeAt S.k a c i) (hm : S.nw < 200) (k : Nat) (hk : placeAt (aheadW S.k a c) S.nw k) :
  Calls Tryz.prog 62 #[.pointer (some ⟨b, oo, none⟩), .int .i64 a, .int .i64 s, .int .i64 c] w (ResStoK w 0 (commitS S a s c (S.l (j * 5 + 2)) k)) := by
 have hin : j < S.nl := hl.at.1
 have dm : decide ((200 : Int) ≤ (S.nw : Int)) = false := decide_eq_false (by omega)
 obtain ⟨d, hd⟩ : ∃ d, S.l (j * 5 + 2) = d := ⟨_, rfl⟩
 rw [hd]
 have HK : Hid (placeAt (aheadW S.k a c) S.nw k) := hk
 clear hm hk
 obtain ⟨a0, c0, a1, c1, a2, c2, rfl, rfl, rfl⟩ := h.2.form
 have H : Hid (LiesO w b oo S (.slice a0 S.nc c0) (.slice a1 S.nl c1) (.slice a2 S.nw c2)) := h
 obtain ⟨p0, p1, p2⟩ := h.1
 have hb := h.lt
 obtain ⟨⟨hn0, hn1, hn2⟩, _⟩ := storeF_zero hz
 clear h
 go_enter Tryz.func62, Tryz.ntmps62
 go_wp2_with fail
 refine (l2Copy_own S _ _ _ 0 _ (H.out.2.alloc _) ⟨by omega, by omega, by omega⟩).mono ?_
 rintro e w2 ⟨d0, e0, d1, e1, d2, e2, rfl, o2, q2⟩
 have g0 := own_cap o2.1.1
 have g1 := own_cap o2.1.2.1
 have g2 := own_cap o2.1.2.2
 obtain ⟨s2, fr2, ap2⟩ := o2.all
 simp only [World.size_alloc] at s2 q2 o2
 have BW2 : Below w.heap.size w w2 := (below_alloc w _).trans (q2.mono (Nat.le_succ _))
 have HE : Hid (CmE w b oo S (.slice a0 S.nc c0) (.slice a1 S.nl c1) (.slice a2 S.nw c2) w2.heap.size (.slice d0 S.nc e0) (.slice d1 S.nl e1) (.slice d2 S.nw e2) (w2.alloc (.cells #[.slice d0 S.nc e0, .slice d1 S.nl e1, .slice d2 S.nw e2] 28))) :=
  ⟨((Blk4.new w _ _ _ _ _).kept (q2.block w.heap.size (Nat.lt_succ_self _))).alloc _, Blk3.new _ _ _ _ _, (H.out.later BW2).later (below_alloc _ _), BW2.trans ((below_alloc w2 _).mono BW2.size)⟩
 have HS : Hid ((St w2 (w.heap.size + 1) S (.slice d0 S.nc e0) (.slice d1 S.nl e1) (.slice d2 S.nw e2) ∧ FreeS w2 S (.slice d0 S.nc e0) (.slice d1 S.nl e1) (.slice d2 S.nw e2)) ∧ ApartD S (.slice d0 S.nc e0) (.slice d1 S.nl e1) (.slice d2 S.nw e2)) := ⟨⟨s2, fr2⟩, ap2⟩
 have HOS : Hid (OwnS w2 (w.heap.size + 1) S (.slice d0 S.nc e0) (.slice d1 S.nl e1) (.slice d2 S.nw e2)) := o2
 have hzw : w.heap.size < w2.heap.size := by have := q2.size; simp at this; omega
 have B23 : Hid (Below w2.heap.size w2 (w2.alloc (.cells #[.slice d0 S.nc e0, .slice d1 S.nl e1, .slice d2 S.nw e2] 28))) := below_alloc _ _
 have hbl : b < w2.heap.size := Nat.lt_trans hb hzw
 clear o2 s2 fr2 ap2 q2 BW2 p0 p1 p2
 go_wp2_with fail
 generalize w2.alloc (.cells #[.slice d0 S.nc e0, .slice d1 S.nl e1, .slice d2 S.nw e2] 28) = w3 at HE B23 ⊢
 have hz3 : w2.heap.size < w3.heap.size := HE.out.2.1.lt
 refine (l2Write_isO S b oo _ _ _ a s (-1) _ HE.out.2.2.1 hn2 hi).mono ?_
 rintro e w' ⟨rfl, rfl⟩
 go_wp2_with fail
 refine (l2Lock_isO S b oo _ _ _ a j _ HE.out.2.2.1 hn1 hl).mono ?_
 rintro e w'' ⟨rfl, rfl⟩
 obtain ⟨⟨⟨r0, r1, r2, r3⟩, f0, f1, f2, f3⟩, ⟨⟨t0, t1, t2⟩, ft0, ft1, ft2⟩, ⟨⟨p0, p1, p2⟩, pst⟩, _⟩ := HE.out
 obtain ⟨g, o, hg, _, hgl, _, x1, x2, _, _⟩ := H.out.2.2.1.at5 hin
 subst hg
 rw [hj] at x1
 rw [hd] at x2
 replace x1 := (HE.out.2.2.2.cell (p := ⟨g, o + j * 5 + 1, none⟩) hgl).trans x1
 replace x2 := (HE.out.2.2.2.cell (p := ⟨g, o + j * 5 + 2, none⟩) hgl).trans x2
 clear pst
 go_wp2_with fail
 refine (l3At_anyO S b oo _ _ _ a c _ HE.out.2.2.1 hn2).mono ?_
 rintro e w5 ⟨r, rfl, hr, rfl⟩
 obtain rfl : r = false := bool_no hr hat
 clear hr hat
 go_wp2_with fail
 refine (l3Unlock_any S.nl S.l _ (w.heap.size + 1) a s _ (HS.out.1.1.later B23.out).2.1 (by omega)).mono ?_
 rintro e w6 ⟨y1, z1, rfl, O6, q6⟩
 have ft1' : w6.frozen? ⟨w2.heap.size, 1, none⟩ = false := (q6.frozen (p := ⟨w2.heap.size, 1, none⟩) hz3).trans ft1
 have t1' : w6.cell? ⟨w2.heap.size, 1, none⟩ = some (.slice d1 S.nl e1) := (q6.cell (p := ⟨w2.heap.size, 1, none⟩) hz3).trans t1
 have HE6 : Hid (CmE w b oo S (.slice a0 S.nc c0) (.slice (some ⟨g, o, none⟩) S.nl c1) (.slice a2 S.nw c2) w2.heap.size (.slice d0 S.nc e0) (.slice d1 S.nl e1) (.slice d2 S.nw e2) w6) := HE.out.later q6
 have B26 : Hid (Below w2.heap.size w2 w6) := B23.out.trans (q6.mono (Nat.le_of_lt hz3))
 have hgl2 : Hid (w6.cell? ⟨g, o + j * 5 + 2, none⟩ = some (.int .i64 d)) := (q6.cell (p := ⟨g, o + j * 5 + 2, none⟩) (Nat.lt_trans hgl (Nat.lt_trans hzw hz3))).trans x2
 obtain ⟨U, hU⟩ : ∃ U, unlL S.l a s S.nl = U := ⟨_, rfl⟩
 have HU : Hid (unlL S.l a s S.nl = U) := hU
 rw [hU] at O6 ⊢
 have O6' : Hid (OwnM w6 w5.heap.size 40 5 (.slice y1 U.length z1) U.length U.flatten) := O6
 have hz6 : w5.heap.size ≤ w6.heap.size := q6.size
 clear O6 q6 hU r0 r1 r2 r3 f0 f1 f2 f3 t0 t1 t2 ft0 ft1 ft2 p0 p1 p2 x1 x2
 go_upto_region 15 with fail
 -- the world behind the store of the locks
 have BX : Hid (Below w.heap.size w (w6.setCell ⟨w2.heap.size, 1, none⟩ (.slice y1 U.length z1))) := HE6.out.2.2.2.setCell (Nat.le_of_lt hzw) _
 have B2X : Hid (Below w2.heap.size w2 (w6.setCell ⟨w2.heap.size, 1, none⟩ (.slice y1 U.length z1))) := B26.out.setCell (Nat.le_refl _) _
 have RX : Hid (Blk4 (w6.setCell ⟨w2.heap.size, 1, none⟩ (.slice y1 U.length z1)) w.heap.size (.int .i64 0) (.slice none 0 0) (.slice none 0 0) (.slice none 0 0)) := HE6.out.1.kept (Below.heap_setCell _ _ _ _ (Nat.ne_of_lt hzw))
 have TX : Hid (Blk3 (w6.setCell ⟨w2.heap.size, 1, none⟩ (.slice y1 U.length z1)) w2.heap.size (.slice d0 S.nc e0) (.slice y1 U.length z1) (.slice d2 S.nw e2)) := HE6.out.2.1.set1 _
 have OX : Hid (OwnM (w6.setCell ⟨w2.heap.size, 1, none⟩ (.slice y1 U.length z1)) w5.heap.size 40 5 (.slice y1 U.length z1) U.length U.flatten) := O6'.out.far hz3 _
 have LX : Hid (LiesO (w6.setCell ⟨w2.heap.size, 1, none⟩ (.slice y1 U.length z1)) b oo S (.slice a0 S.nc c0) (.slice (some ⟨g, o, none⟩) S.nl c1) (.slice a2 S.nw c2)) := H.out.later BX.out
 have GX : Hid ((w6.setCell ⟨w2.heap.size, 1, none⟩ (.slice y1 U.length z1)).cell? ⟨g, o + j * 5 + 2, none⟩ = some (.int .i64 d)) := (World.cell?_setCell_other _ _ _ _ (fun q => by have := congrArg Addr.block q; simp at this; omega)).trans hgl2.out
 have zX : w2.heap.size < (w6.setCell ⟨w2.heap.size, 1, none⟩ (.slice y1 U.length z1)).heap.size := TX.out.lt
 have z5X : w5.heap.size ≤ (w6.setCell ⟨w2.heap.size, 1, none⟩ (.slice y1 U.length z1)).heap.size := by simpa [World.setCell] using hz6
 generalize w6.setCell ⟨w2.heap.size, 1, none⟩ (.slice y1 U.length z1) = X0 at BX B2X RX TX OX LX GX zX z5X ⊢
 clear HE6 O6' B26 hgl2 hz6 t1' ft1' HE
 refine wp_region_held_drew (S := CmR b oo g (o + j * 5 + 2) (.slice (some ⟨g, o, none⟩) S.nl c1) d) (by kernel_rfl) ⟨LX.out.1.2.1, GX.out⟩ (fun hS => ?_)
 refine tkH 0 ?_ hS (fun wx hx => ?_) ?_; rotate_left
 ·obtain ⟨hx0, hx1⟩ := hx; go_simp; try with_reducible rfl
 refine tkH 2 ?_ hS (fun wx hx => ?_) ?_; rotate_left
 ·obtain ⟨hx0, hx1⟩ := hx; go_simp; try with_reducible rfl
 refine tkH 3 ?_ hS (fun wx hx => ?_) ?_; rotate_left
 ·obtain ⟨hx0, hx1⟩ := hx; go_simp; try with_reducible rfl
 refine tkH 4 ?_ hS (fun wx hx => ?_) ?_; rotate_left
 ·obtain ⟨hx0, hx1⟩ := hx; go_simp; try with_reducible rfl
 refine tkH 5 ?_ hS (fun wx hx => ?_) ?_; rotate_left
 ·obtain ⟨hx0, hx1⟩ := hx; go_simp; try with_reducible rfl
 refine tkH 6 ?_ hS (fun wx hx => ?_) ?_; rotate_left
 ·obtain ⟨hx0, hx1⟩ := hx; go_simp; try with_reducible rfl
 refine tkH 7 ?_ hS (fun wx hx => ?_) ?_; rotate_left
 ·obtain ⟨hx0, hx1⟩ := hx; go_simp; try with_reducible rfl
 refine tkH 8 ?_ hS (fun wx hx => ?_) ?_; rotate_left
 ·obtain ⟨hx0, hx1⟩ := hx; go_simp; try with_reducible rfl
 refine tkH 9 ?_ hS (fun wx hx => ?_) ?_; rotate_left
 ·obtain ⟨hx0, hx1⟩ := hx; go_simp; try with_reducible rfl
 refine tkH 10 ?_ hS (fun wx hx => ?_) ?_; rotate_left
 ·obtain ⟨hx0, hx1⟩ := hx; go_simp; try with_reducible rfl
 refine tkH 11 ?_ hS (fun wx hx => ?_) ?_; rotate_left
 ·obtain ⟨hx0, hx1⟩ := hx; go_simp; try with_reducible rfl
 refine tkH 12 ?_ hS (fun wx hx => ?_) ?_; rotate_left
 ·obtain ⟨hx0, hx1⟩ := hx; go_simp; try with_reducible rfl
 refine tkH 13 ?_ hS (fun wx hx => ?_) ?_; rotate_left
 ·obtain ⟨hx0, hx1⟩ := hx; go_simp; try with_reducible rfl
 have tx2 : X0.cell? ⟨w2.heap.size, 2, none⟩ = some (.slice d2 S.nw e2) := TX.out.1.2.2
 refine rdH 1 (fun K hK => ?_)
 go_simp
 refine hK.out _ _ hS (fun hS => ?_)
 clear hK K tx2
 refine rdH 14 (fun K hK => ?_)
 go_simp
 go_wp2_with fail
 refine (l2AddWrite_any S.nw S.k d2 e2 (w.heap.size + 1) a c s d _ ((HS.out.1.1.2.2.later B2X.out).drewN 1) (by omega) g2).mono ?_
 rintro e w7 ⟨k', y2, z2, hk', rfl, O7, q70⟩
 have q7 : Below X0.heap.size X0 w7 := ⟨q70.os, q70.tape, q70.output, q70.size, q70.block⟩
 clear q70
 obtain rfl : k' = k := hk'.one HK.out
 have BY : Hid (Below w.heap.size w w7) := BX.out.trans (q7.mono BX.out.size)
 have B2Y : Hid (Below w2.heap.size w2 w7) := B2X.out.trans (q7.mono (Nat.le_of_lt zX))
 have RY : Hid (Blk4 w7 w.heap.size (.int .i64 0) (.slice none 0 0) (.slice none 0 0) (.slice none 0 0)) := RX.out.later q7
 have TY : Hid (Blk3 w7 w2.heap.size (.slice d0 S.nc e0) (.slice y1 U.length z1) (.slice d2 S.nw e2)) := TX.out.later q7
 have OY : Hid (OwnM w7 w5.heap.size 40 5 (.slice y1 U.length z1) U.length U.flatten) := OX.out.later q7
 have hob : Hid (∀ q, (Value.slice y1 U.length z1).ownBlock = some q → w5.heap.size ≤ q ∧ q < X0.heap.size) := OX.out.block
 have PY : Hid (OwnM w7 X0.heap.size 55 4 (.slice y2 (S.nw + 1) z2) (S.nw + 1) (nums S.k (k' * 4) ++ [a, c, s, d] ++ nums (fun p => S.k (k' * 4 + p)) ((S.nw - k') * 4))) := O7
 have S7 := CmR.later (X := X0) hS q7
 have hkn : k' ≤ S.nw := hk'.1
 clear O7 q7 hk' OX RX TX LX GX BX B2X hS HK
 go_wp2_with fail
 refine hK.out _ _ S7 (fun hS => ?_)
 clear hK K S7
 refine tkH 15 ?_ hS (fun wx hx => ?_) ?_; rotate_left
 ·obtain ⟨hx0, hx1⟩ := hx; go_simp; try with_reducible rfl
 obtain ⟨⟨t0, t1, t2⟩, ft0, ft1, ft2⟩ := TY.out
 refine rdH 16 (fun K hK => ?_)
 go_simp
 refine hK.out _ _ (hS.far (Nat.ne_of_lt hbl) (Nat.ne_of_lt (Nat.lt_trans hgl hzw)) _) (fun hS => ?_)
 clear hK K
 have RZ := RY.out.kept (Below.heap_setCell w7 ⟨w2.heap.size, 2, none⟩ (.slice y2 (S.nw + 1) z2) _ (Nat.ne_of_lt hzw))
 have TZ := TY.out.set2 (.slice y2 (S.nw + 1) z2)
 have BZ : Hid (Below w.heap.size w (w7.setCell ⟨w2.heap.size, 2, none⟩ (.slice y2 (S.nw + 1) z2))) := BY.out.setCell (Nat.le_of_lt hzw) _
 have B2Z : Hid (Below w2.heap.size w2 (w7.setCell ⟨w2.heap.size, 2, none⟩ (.slice y2 (S.nw + 1) z2))) := B2Y.out.setCell (Nat.le_refl _) _
 have OZ : Hid (OwnM (w7.setCell ⟨w2.heap.size, 2, none⟩ (.slice y2 (S.nw + 1) z2)) w5.heap.size 40 5 (.slice y1 U.length z1) U.length U.flatten) := OY.out.far hz3 _
 have PZ : Hid (OwnM (w7.setCell ⟨w2.heap.size, 2, none⟩ (.slice y2 (S.nw + 1) z2)) X0.heap.size 55 4 (.slice y2 (S.nw + 1) z2) (S.nw + 1) (nums S.k (k' * 4) ++ [a, c, s, d] ++ nums (fun p => S.k (k' * 4 + p)) ((S.nw - k') * 4))) := PY.out.far zX _
 generalize w7.setCell ⟨w2.heap.size, 2, none⟩ (.slice y2 (S.nw + 1) z2) = w8 at RZ TZ BZ B2Z OZ PZ hS ⊢
 clear t0 t1 t2 ft0 ft1 ft2 RY TY BY B2Y OY PY
 refine wpAnyH_done (by kernel_rfl) ?_ _
 go_simp
 obtain ⟨⟨r0, r1, r2, r3⟩, f0, f1, f2, f3⟩ := RZ
 obtain ⟨⟨t0, t1, t2⟩, _⟩ := TZ
 go_wp2
 have lenL : U.flatten.length = U.length * 5 := flat_len U (by rw [← HU.out]; exact selD_len _ _ _ _)
 have lenW : (nums S.k (k' * 4) ++ [a, c, s, d] ++ nums (fun p => S.k (k' * 4 + p)) ((S.nw - k') * 4)).length = (S.nw + 1) * 4 := by
  rw [List.length_append, List.length_append, nums_length, nums_length]
  simp only [List.length_cons, List.length_nil]
  omega
 have rC : Row w8 (w.heap.size + 1) 3 S.nc S.c (.slice d0 S.nc e0) := HS.out.1.1.1.later B2Z.out
 have fC : Free w8 (S.nc * 3) (.slice d0 S.nc e0) := HS.out.1.2.1.ofRow HS.out.1.1.1 B2Z.out
 have rL := (OZ.out.own lenL).row
 have rW := (PZ.out.own lenW).row
 have O8 : OwnS w8 (w.heap.size + 1) (commitS S a s c d k') (.slice d0 S.nc e0) (.slice y1 U.length z1) (.slice y2 (S.nw + 1) z2) := by
  unfold commitS
  rw [HU.out]
  exact ⟨⟨HOS.out.1.1.later B2Z.out, (OZ.out.own lenL).mono (by omega), (PZ.out.own lenW).mono (by omega)⟩, fun q a b => by have h1 := (own_blk HOS.out.1.1 q a).2; have h2 := (hob.out q b).1; omega, fun q a b => by have h1 := (own_blk HOS.out.1.1 q a).2; have h2 := (PZ.out.block q b).1; omega, fun q a b => by have h1 := (hob.out q a).2; have h2 := (PZ.out.block q b).1; omega⟩
 have hlo : (w.heap.size : Nat) < w.heap.size + 1 := Nat.lt_succ_self _
 have hul : (commitS S a s c d k').nl = U.length := by unfold commitS; rw [HU.out]
 refine bodyPost_ret (v := .agg #[.int .i64 0, .slice d0 S.nc e0, .slice y1 U.length z1, .slice y2 (S.nw + 1) z2]) (by simp [results, Tryz.results62, go_sem, r0, r1, r2, r3]) rfl ?_
 refine ⟨d0, e0, y1, z1, y2, z2, ?_, ?_, (((BZ.out.setCell (Nat.le_refl _) _).setCell (Nat.le_refl _) _).setCell (Nat.le_refl _) _).setCell (Nat.le_refl _) _⟩
 ·rw [hul]; rfl
 ·rw [hul]
  exact ((((O8.far hlo _).far hlo _).far hlo _).far hlo _).mono (by omega)
end
section
open Go.RowKit
/-- What a commit comes to on a store without a fault: a code and a store. -/
def CommitRes (S : Sto) (a s c : Int) (r : Int) (R : Sto) : Prop :=
 (∃ i : Nat, FirstAt (writeIs S.k a s) S.nw i ∧ S.k (i * 4 + 1) = c ∧ r = 0 ∧ R = S) ∨
 (∃ i : Nat, FirstAt (writeIs S.k a s) S.nw i ∧ S.k (i * 4 + 1) ≠ c ∧ r = 6 ∧ R = emptyS) ∨
 (FirstAt (writeIs S.k a s) S.nw (-1) ∧ (FirstAt (lockIs S.l a) S.nl (-1) ∨ ∃ j : Nat, FirstAt (lockIs S.l a) S.nl j ∧ S.l (j * 5 + 1) ≠ s) ∧ r = 4 ∧ R = emptyS) ∨
 (∃ j : Nat, FirstAt (writeIs S.k a s) S.nw (-1) ∧ FirstAt (lockIs S.l a) S.nl j ∧ S.l (j * 5 + 1) = s ∧ (∃ i, i < S.nw ∧ writeAt S.k a c i) ∧ r = 6 ∧ R = emptyS) ∨
 (∃ j : Nat, FirstAt (writeIs S.k a s) S.nw (-1) ∧ FirstAt (lockIs S.l a) S.nl j ∧ S.l (j * 5 + 1) = s ∧ (¬ ∃ i, i < S.nw ∧ writeAt S.k a c i) ∧ 200 ≤ S.nw ∧ r = 2 ∧ R = emptyS) ∨
 (∃ j k : Nat, FirstAt (writeIs S.k a s) S.nw (-1) ∧ FirstAt (lockIs S.l a) S.nl j ∧ S.l (j * 5 + 1) = s ∧ (¬ ∃ i, i < S.nw ∧ writeAt S.k a c i) ∧ S.nw < 200 ∧ placeAt (aheadW S.k a c) S.nw k ∧ r = 0 ∧ R = commitS S a s c (S.l (j * 5 + 2)) k)
theorem l3Commit_ownO (S : Sto) (b oo : Nat) (v0 v1 v2 : Value) (a s c r : Int) (R : Sto) (w : World) (h : LiesO w b oo S v0 v1 v2) (hz : storeF S = 0) (hA : CommitRes S a s c r R) :
  Calls Tryz.prog 62 #[.pointer (some ⟨b, oo, none⟩), .int .i64 a, .int .i64 s, .int .i64 c] w (ResStoK w r R) := by
 rcases hA with ⟨i, h1, h2, rfl, rfl⟩ | ⟨i, h1, h2, rfl, rfl⟩ | ⟨h1, h2, rfl, rfl⟩ | ⟨j, h1, h2, h3, h4, rfl, rfl⟩ | ⟨j, h1, h2, h3, h4, h5, rfl, rfl⟩ | ⟨j, k, h1, h2, h3, h4, h5, h6, rfl, rfl⟩
 ·exact l3Commit_sameO _ b oo v0 v1 v2 a s c i w h hz h1 h2
 ·exact l3Commit_takenO S b oo v0 v1 v2 a s c i w h hz h1 h2
 ·exact l3Commit_noneO S b oo v0 v1 v2 a s c w h hz h1 h2
 ·exact l3Commit_atO S b oo v0 v1 v2 a s c j w h hz h1 h2 h3 h4
 ·exact l3Commit_manyO S b oo v0 v1 v2 a s c j w h hz h1 h2 h3 h4 h5
 ·exact l3Commit_doneO S b oo v0 v1 v2 a s c j w h hz h1 h2 h3 h4 h5 k h6
def CommitAns (S : Sto) (a s c : Int) (r : Int) (R : Sto) : Prop :=
 (askF S a ≠ 0 ∧ r = askF S a ∧ R = emptyS) ∨ (askF S a = 0 ∧ ¬ isT s ∧ r = 3 ∧ R = emptyS) ∨ (askF S a = 0 ∧ isT s ∧ ¬ isT c ∧ r = 3 ∧ R = emptyS) ∨ (askF S a = 0 ∧ isT s ∧ isT c ∧ c ≤ s ∧ r = 1 ∧ R = emptyS) ∨ (askF S a = 0 ∧ isT s ∧ isT c ∧ s < c ∧ CommitRes S a s c r R)
set_option maxRecDepth 100000 in
set_option maxHeartbeats 8000000 in
theorem specCommitKey_own (S : Sto) (v0 v1 v2 : Value) (a s c r : Int) (R : Sto) (B : Nat) (w : World) (h : St w B S v0 v1 v2) (hA : CommitAns S a s c r R) :
  Calls Tryz.prog 19 #[.agg #[v0, v1, v2], .int .i64 a, .int .i64 s, .int .i64 c] w (ResStoK w r R) := by
 obtain ⟨a0, c0, a1, c1, a2, c2, rfl, rfl, rfl⟩ := h.form
 have HE : Hid (CallSto w B S (.slice a0 S.nc c0) (.slice a1 S.nl c1) (.slice a2 S.nw c2) ((w.alloc (.cells #[.slice a0 S.nc c0, .slice a1 S.nl c1, .slice a2 S.nw c2] 28)).alloc (.cells #[.int .i64 0, .slice none 0 0, .slice none 0 0, .slice none 0 0] 32))) := CallSto.new h _ _
 clear h
 unfold ResStoK
 rcases hA with ⟨hz, rfl, rfl⟩ | ⟨hz, ht, rfl, rfl⟩ | ⟨hz, ht, ht2, rfl, rfl⟩ | ⟨hz, ht, ht2, hc, rfl, rfl⟩ | ⟨hz, ht, ht2, hc, hR⟩
 ·obtain ⟨f, hf⟩ : ∃ f, askF S a = f := ⟨_, rfl⟩
  have HF : Hid (askF S a = f) := hf
  have hfn : (f == 0) = false := beq_eq_false_iff_ne.2 (by rw [← hf]; exact hz)
  have hfn' : (f != 0) = true := by rw [bne_iff_ne, ← hf]; exact hz
  rw [hf]
  clear hz hf
  go_enter Tryz.func19, Tryz.ntmps19
  go_wp2_with fail
  refine (asked_any S w.heap.size _ _ _ _ _ ⟨HE.out.1.1, HE.out.2.2.1.mono (Nat.zero_le _)⟩).mono ?_
  rw [HF.out]
  rintro e w1 ⟨rfl, q1⟩
  have HE : Hid (CallSto w B S (.slice a0 S.nc c0) (.slice a1 S.nl c1) (.slice a2 S.nw c2) w1) := HE.out.later q1
  obtain ⟨⟨⟨p0, p1, p2⟩, _⟩, ⟨⟨r0, r1, r2, r3⟩, f0, f1, f2, f3⟩, _⟩ := HE.out
  clear q1
  go_wp2_with fail
  refine (l3Bad_own f _).mono ?_
  rintro e w4 ⟨d0, e0, d1, e1, d2, e2, rfl, o3, q4⟩
  have z3 : Hid (w.heap.size + 2 ≤ w1.heap.size) := HE.out.2.1.lt
  have S3 : Hid (OwnS w4 (w.heap.size + 2) emptyS (.slice d0 (emptyS).nc e0) (.slice d1 (emptyS).nl e1) (.slice d2 (emptyS).nw e2)) := o3.mono z3.out
  have HBW : Hid (Below w.heap.size w w4) := HE.out.2.2.2.trans (q4.mono HE.out.2.2.2.size)
  obtain ⟨⟨r0, r1, r2, r3⟩, f0, f1, f2, f3⟩ := HE.out.2.1.later q4
  clear o3 q4
  have hlo : (w.heap.size + 1 : Nat) < w.heap.size + 2 := Nat.lt_succ_self _
  go_wp2
  exact bodyPost_ret (v := .agg #[.int .i64 f, .slice d0 (emptyS).nc e0, .slice d1 (emptyS).nl e1, .slice d2 (emptyS).nw e2]) (by simp [results, Tryz.results19, go_sem, r0, r1, r2, r3]) rfl ⟨d0, e0, d1, e1, d2, e2, rfl, ((((S3.out.far hlo _).far hlo _).far hlo _).far hlo _).mono (by omega), (((HBW.out.setCell (Nat.le_succ _) _).setCell (Nat.le_succ _) _).setCell (Nat.le_succ _) _).setCell (Nat.le_succ _) _⟩
 ·have HA : Hid (askF S a = 0) := hz
  have HT : Hid (decide (1 ≤ s ∧ s ≤ 100000) = false) := decide_eq_false ht
  clear hz ht
  go_enter Tryz.func19, Tryz.ntmps19
  go_wp2_with fail
  refine (asked_any S w.heap.size _ _ _ _ _ ⟨HE.out.1.1, HE.out.2.2.1.mono (Nat.zero_le _)⟩).mono ?_
  rw [HA.out]
  rintro e w1 ⟨rfl, q1⟩
  have HE : Hid (CallSto w B S (.slice a0 S.nc c0) (.slice a1 S.nl c1) (.slice a2 S.nw c2) w1) := HE.out.later q1
  obtain ⟨⟨⟨p0, p1, p2⟩, _⟩, ⟨⟨r0, r1, r2, r3⟩, f0, f1, f2, f3⟩, _⟩ := HE.out
  clear q1
  go_wp2_with fail
  refine (l2Ts_is s false HT.out _).mono ?_
  rintro e w1' ⟨rfl, rfl⟩
  go_wp2_with fail
  refine (l3Bad_own 3 _).mono ?_
  rintro e w4 ⟨d0, e0, d1, e1, d2, e2, rfl, o3, q4⟩
  have z3 : Hid (w.heap.size + 2 ≤ w1'.heap.size) := HE.out.2.1.lt
  have S3 : Hid (OwnS w4 (w.heap.size + 2) emptyS (.slice d0 (emptyS).nc e0) (.slice d1 (emptyS).nl e1) (.slice d2 (emptyS).nw e2)) := o3.mono z3.out
  have HBW : Hid (Below w.heap.size w w4) := HE.out.2.2.2.trans (q4.mono HE.out.2.2.2.size)
  obtain ⟨⟨r0, r1, r2, r3⟩, f0, f1, f2, f3⟩ := HE.out.2.1.later q4
  clear o3 q4
  have hlo : (w.heap.size + 1 : Nat) < w.heap.size + 2 := Nat.lt_succ_self _
  go_wp2
  exact bodyPost_ret (v := .agg #[.int .i64 3, .slice d0 (emptyS).nc e0, .slice d1 (emptyS).nl e1, .slice d2 (emptyS).nw e2]) (by simp [results, Tryz.results19, go_sem, r0, r1, r2, r3]) rfl ⟨d0, e0, d1, e1, d2, e2, rfl, ((((S3.out.far hlo _).far hlo _).far hlo _).far hlo _).mono (by omega), (((HBW.out.setCell (Nat.le_succ _) _).setCell (Nat.le_succ _) _).setCell (Nat.le_succ _) _).setCell (Nat.le_succ _) _⟩
 ·have HA : Hid (askF S a = 0) := hz
  have HT : Hid (decide (1 ≤ s ∧ s ≤ 100000) = true) := decide_eq_true ht
  have HT2 : Hid (decide (1 ≤ c ∧ c ≤ 100000) = false) := decide_eq_false ht2
  clear hz ht ht2
  go_enter Tryz.func19, Tryz.ntmps19
  go_wp2_with fail
  refine (asked_any S w.heap.size _ _ _ _ _ ⟨HE.out.1.1, HE.out.2.2.1.mono (Nat.zero_le _)⟩).mono ?_
  rw [HA.out]
  rintro e w1 ⟨rfl, q1⟩
  have HE : Hid (CallSto w B S (.slice a0 S.nc c0) (.slice a1 S.nl c1) (.slice a2 S.nw c2) w1) := HE.out.later q1
  obtain ⟨⟨⟨p0, p1, p2⟩, _⟩, ⟨⟨r0, r1, r2, r3⟩, f0, f1, f2, f3⟩, _⟩ := HE.out
  clear q1
  go_wp2_with fail
  refine (l2Ts_is s true HT.out _).mono ?_
  rintro e w1' ⟨rfl, rfl⟩
  go_wp2_with fail
  refine (l2Ts_is c false HT2.out _).mono ?_
  rintro e w1' ⟨rfl, rfl⟩
  go_wp2_with fail
  refine (l3Bad_own 3 _).mono ?_
  rintro e w4 ⟨d0, e0, d1, e1, d2, e2, rfl, o3, q4⟩
  have z3 : Hid (w.heap.size + 2 ≤ w1'.heap.size) := HE.out.2.1.lt
  have S3 : Hid (OwnS w4 (w.heap.size + 2) emptyS (.slice d0 (emptyS).nc e0) (.slice d1 (emptyS).nl e1) (.slice d2 (emptyS).nw e2)) := o3.mono z3.out
  have HBW : Hid (Below w.heap.size w w4) := HE.out.2.2.2.trans (q4.mono HE.out.2.2.2.size)
  obtain ⟨⟨r0, r1, r2, r3⟩, f0, f1, f2, f3⟩ := HE.out.2.1.later q4
  clear o3 q4
  have hlo : (w.heap.size + 1 : Nat) < w.heap.size + 2 := Nat.lt_succ_self _
  go_wp2
  exact bodyPost_ret (v := .agg #[.int .i64 3, .slice d0 (emptyS).nc e0, .slice d1 (emptyS).nl e1, .slice d2 (emptyS).nw e2]) (by simp [results, Tryz.results19, go_sem, r0, r1, r2, r3]) rfl ⟨d0, e0, d1, e1, d2, e2, rfl, ((((S3.out.far hlo _).far hlo _).far hlo _).far hlo _).mono (by omega), (((HBW.out.setCell (Nat.le_succ _) _).setCell (Nat.le_succ _) _).setCell (Nat.le_succ _) _).setCell (Nat.le_succ _) _⟩
 ·have HA : Hid (askF S a = 0) := hz
  have HT : Hid (decide (1 ≤ s ∧ s ≤ 100000) = true) := decide_eq_true ht
  have HT2 : Hid (decide (1 ≤ c ∧ c ≤ 100000) = true) := decide_eq_true ht2
  have dc : decide (c ≤ s) = true := decide_eq_true hc
  clear hz ht ht2 hc
  go_enter Tryz.func19, Tryz.ntmps19
  go_wp2_with fail
  refine (asked_any S w.heap.size _ _ _ _ _ ⟨HE.out.1.1, HE.out.2.2.1.mono (Nat.zero_le _)⟩).mono ?_
  rw [HA.out]
  rintro e w1 ⟨rfl, q1⟩
  have HE : Hid (CallSto w B S (.slice a0 S.nc c0) (.slice a1 S.nl c1) (.slice a2 S.nw c2) w1) := HE.out.later q1
  obtain ⟨⟨⟨p0, p1, p2⟩, _⟩, ⟨⟨r0, r1, r2, r3⟩, f0, f1, f2, f3⟩, _⟩ := HE.out
  clear q1
  go_wp2_with fail
  refine (l2Ts_is s true HT.out _).mono ?_
  rintro e w1' ⟨rfl, rfl⟩
  go_wp2_with fail
  refine (l2Ts_is c true HT2.out _).mono ?_
  rintro e w1' ⟨rfl, rfl⟩
  go_wp2_with fail
  refine (l3Bad_own 1 _).mono ?_
  rintro e w4 ⟨d0, e0, d1, e1, d2, e2, rfl, o3, q4⟩
  have z3 : Hid (w.heap.size + 2 ≤ w1'.heap.size) := HE.out.2.1.lt
  have S3 : Hid (OwnS w4 (w.heap.size + 2) emptyS (.slice d0 (emptyS).nc e0) (.slice d1 (emptyS).nl e1) (.slice d2 (emptyS).nw e2)) := o3.mono z3.out
  have HBW : Hid (Below w.heap.size w w4) := HE.out.2.2.2.trans (q4.mono HE.out.2.2.2.size)
  obtain ⟨⟨r0, r1, r2, r3⟩, f0, f1, f2, f3⟩ := HE.out.2.1.later q4
  clear o3 q4
  have hlo : (w.heap.size + 1 : Nat) < w.heap.size + 2 := Nat.lt_succ_self _
  go_wp2
  exact bodyPost_ret (v := .agg #[.int .i64 1, .slice d0 (emptyS).nc e0, .slice d1 (emptyS).nl e1, .slice d2 (emptyS).nw e2]) (by simp [results, Tryz.results19, go_sem, r0, r1, r2, r3]) rfl ⟨d0, e0, d1, e1, d2, e2, rfl, ((((S3.out.far hlo _).far hlo _).far hlo _).far hlo _).mono (by omega), (((HBW.out.setCell (Nat.le_succ _) _).setCell (Nat.le_succ _) _).setCell (Nat.le_succ _) _).setCell (Nat.le_succ _) _⟩
 ·have HA : Hid (askF S a = 0) := hz
  have HT : Hid (decide (1 ≤ s ∧ s ≤ 100000) = true) := decide_eq_true ht
  have HT2 : Hid (decide (1 ≤ c ∧ c ≤ 100000) = true) := decide_eq_true ht2
  have dc : decide (c ≤ s) = false := decide_eq_false (by omega)
  have HP : Hid (∀ (b : Nat) (u0 u1 u2 : Value) (x : World), Lies x b S u0 u1 u2 → Calls Tryz.prog 62 #[.pointer (some ⟨b, 0, none⟩), .int .i64 a, .int .i64 s, .int .i64 c] x (ResStoK x r R)) := fun b u0 u1 u2 x hx => l3Commit_ownO S b 0 u0 u1 u2 a s c r R x hx (askF_zero hz).1 hR
  clear hz ht ht2 hc hR
  go_enter Tryz.func19, Tryz.ntmps19
  go_wp2_with fail
  refine (asked_any S w.heap.size _ _ _ _ _ ⟨HE.out.1.1, HE.out.2.2.1.mono (Nat.zero_le _)⟩).mono ?_
  rw [HA.out]
  rintro e w1 ⟨rfl, q1⟩
  have HE : Hid (CallSto w B S (.slice a0 S.nc c0) (.slice a1 S.nl c1) (.slice a2 S.nw c2) w1) := HE.out.later q1
  obtain ⟨⟨⟨p0, p1, p2⟩, _⟩, ⟨⟨r0, r1, r2, r3⟩, f0, f1, f2, f3⟩, _⟩ := HE.out
  clear q1
  go_wp2_with fail
  refine (l2Ts_is s true HT.out _).mono ?_
  rintro e w1' ⟨rfl, rfl⟩
  go_wp2_with fail
  refine (l2Ts_is c true HT2.out _).mono ?_
  rintro e w1' ⟨rfl, rfl⟩
  go_wp2_with fail
  refine (HP.out w.heap.size _ _ _ _ ⟨HE.out.1.1, HE.out.2.2.1.mono (Nat.zero_le _)⟩).mono ?_
  rintro e w4 ⟨d0, e0, d1, e1, d2, e2, rfl, o3, q4⟩
  have z3 : Hid (w.heap.size + 2 ≤ w1'.heap.size) := HE.out.2.1.lt
  have S3 : Hid (OwnS w4 (w.heap.size + 2) R (.slice d0 (R).nc e0) (.slice d1 (R).nl e1) (.slice d2 (R).nw e2)) := o3.mono z3.out
  have HBW : Hid (Below w.heap.size w w4) := HE.out.2.2.2.trans (q4.mono HE.out.2.2.2.size)
  obtain ⟨⟨r0, r1, r2, r3⟩, f0, f1, f2, f3⟩ := HE.out.2.1.later q4
  clear o3 q4
  have hlo : (w.heap.size + 1 : Nat) < w.heap.size + 2 := Nat.lt_succ_self _
  go_wp2
  exact bodyPost_ret (v := .agg #[.int .i64 r, .slice d0 (R).nc e0, .slice d1 (R).nl e1, .slice d2 (R).nw e2]) (by simp [results, Tryz.results19, go_sem, r0, r1, r2, r3]) rfl ⟨d0, e0, d1, e1, d2, e2, rfl, ((((S3.out.far hlo _).far hlo _).far hlo _).far hlo _).mono (by omega), (((HBW.out.setCell (Nat.le_succ _) _).setCell (Nat.le_succ _) _).setCell (Nat.le_succ _) _).setCell (Nat.le_succ _) _⟩
theorem specCommitKey_is (S : Sto) (v0 v1 v2 : Value) (a s c r : Int) (R : Sto) (B : Nat) (w : World) (h : St w B S v0 v1 v2) (hA : CommitAns S a s c r R) :
  Calls Tryz.prog 19 #[.agg #[v0, v1, v2], .int .i64 a, .int .i64 s, .int .i64 c] w (ResSto w r R) := (specCommitKey_own S v0 v1 v2 a s c r R B w h hA).mono fun _ _ q => q.res
end
end Go.Proofs.YtiadbiiiikhfaaaGreatDoor

namespace Go.Proofs.YtiadbiiiikhfaaaGreatDoor
section
open Go.RowKit Go.Lib
/-- 'copy(d, s)' at slices of structs of m cells: what s held goes over. -/
theorem run_copyM (w : World) (dT sT ty elem : TypeId) (m b o dLen dCap : Nat) (a : Addr) (sLen sCap : Nat) (cs : List Value)
  (hu : Tryz.prog.underlying dT = some (.slice elem)) (hs : (Tryz.prog.info? elem).map (·.size) = some m) (hn : cs.length = Nat.min sLen dLen * m)
  (hsrc : ∀ j v, cs[j]? = some v → w.cell? (a.add j) = some v) (hc : ∀ j, j < cs.length → (w.cell? ⟨b, o + j, none⟩).isSome = true) (hf : ∀ j, j < cs.length → w.frozen? ⟨b, o + j, none⟩ = false) (h1 : ∀ v ∈ cs, v.oneCell' = true) :
  (Builtin.copy_ #[dT, sT] ty #[.slice (some ⟨b, o, none⟩) dLen dCap, .slice (some a) sLen sCap]).run Tryz.prog w = .ok (goInt (Nat.min sLen dLen)) (w.setCells b o cs) := by
 have hl := run_loadCells_list (P := Tryz.prog) w a cs hsrc
 have hst := run_storeCells_cells (P := Tryz.prog) b o cs 0 w (by simpa using hc) (by simpa using hf) h1
 cases hq : Tryz.prog.info? elem with
 | none => simp [hq] at hs
 | some i =>
  have hi : i.size = m := by simpa [hq] using hs
  simp [Builtin.copy_, run_underlying hu, Builtin.lenOf, Builtin.firstCells, sizeOf, typeInfo, hq, hi, ← hn, hl, hst]
theorem wpList_appM (w : World) {ops : Array Oper} {rest : List Oper} {o : Oper} {a : Act} {Q : Exit → Act → World → Prop} (hgd : o.guard = none) (d s : Operand) (t t' : TypeId)
  (ho : o.op = .call { callee := .builtin .append, args := #[d, s], argTypes := #[t, t'] }) (v u : Value) (hd : a.eval d = v) (hs : a.eval s = u) {v' : Value} {w' : World}
  (hr : (Builtin.append_ #[t, t'] o.type #[v, u]).run Tryz.prog w = .ok v' w') (h : wpList Tryz.prog ops Q rest (a.put o.dst v') w') : wpList Tryz.prog ops Q (o :: rest) a w := by
 refine wpList_plain hgd fun K hK => ?_
 unfold Oper.wp execOp
 simp only [ho, resolve, invoke, builtin, Sem.run_bind, Sem.run_pure, Result.andThen_ok, List.map_toArray, List.map_cons, List.map_nil, hd, hs, hr]
 exact hK _ _ h
theorem step_copyM {ops : Array Oper} {o : Oper} {a : Act} {w : World} {K : Act → World → Prop} {Q : Exit → Act → World → Prop} {E : Prop}
  (hg : o.guard = none) (d x : Operand) (dT sT : TypeId) (hop : o.op = Op.call { callee := Callee.builtin Builtin.copy, args := #[d, x], argTypes := #[dT, sT] })
  (v u : Value) (hd : a.eval d = v) (hx : a.eval x = u) {v' : Value} {w' : World} (hr : (Builtin.copy_ #[dT, sT] o.type #[v, u]).run Tryz.prog w = .ok v' w') (hK : K (a.put o.dst v') w') :
  if Region.wanted o (yielded ops a.tmps) = true then Oper.wp Tryz.prog o a w K Q else E := by
 have hw : Region.wanted o (yielded ops a.tmps) = true := by simp [Region.wanted, hg]
 rw [if_pos hw]
 unfold Oper.wp
 simp [execOp, hop, resolve, invoke, builtin, hd, hx, hr, Result.andThen]
 exact hK
theorem grown_drew (w : World) (r : Option Nat) : w.grownBy w.drew r := ⟨rfl, rfl, rfl, Nat.le_refl _, fun _ _ _ => rfl⟩
theorem grown_over {a b c : World} {r : Option Nat} {z : Nat} (h : a.grownBy b r) (h' : b.grownBy c (some z)) (hz : a.heap.size ≤ z) : a.grownBy c r :=
 ⟨h'.os.trans h.os, h'.tape.trans h.tape, h'.output.trans h.output, Nat.le_trans h.size h'.size, fun i hi hne => (h'.block i (Nat.lt_of_lt_of_le hi h.size) (fun e => by cases e; omega)).trans (h.block i hi hne)⟩
theorem grown_alloc (w : World) (o : Obj) (r : Option Nat) : w.grownBy (w.alloc o) r := ⟨rfl, rfl, rfl, by simp, fun i hi _ => Below.block (below_alloc w o) i hi⟩
theorem Blkk.frozen {x : World} {g : Nat} {e : TypeId} {N : Nat} (h : Blkk x g e N) (p : Nat) : x.frozen? ⟨g, p, none⟩ = false := by
 obtain ⟨cur, h1, _⟩ := h
 simp [World.frozen?, h1]
theorem drew_cell (x : World) (a : Addr) : x.drew.cell? a = x.cell? a := rfl
theorem Blkk.drew {x : World} {g : Nat} {e : TypeId} {N : Nat} (h : Blkk x g e N) : Blkk x.drew g e N := h
theorem Blkk.made (w : World) (ROW : Array Value) (e : TypeId) (N : Nat) (h : ROW.size = N) : Blkk (w.alloc (.cells ROW e)) w.heap.size e N := ⟨ROW, by show (w.heap.push _)[w.heap.size]? = _; simp, h⟩
theorem Blkk.any {x : World} {g : Nat} {e : TypeId} {N : Nat} (h : Blkk x g e N) {p : Nat} (hp : p < N) : (x.cell? ⟨g, p, none⟩).isSome = true := by
 obtain ⟨u, hu⟩ := (h.cell hp).1
 rw [hu]; rfl
theorem Blkk.shape {x : World} {g : Nat} {e : TypeId} {N : Nat} (h : Blkk x g e N) : x.shape? g = some (e, N) := by
 obtain ⟨cur, h1, h2⟩ := h
 simp [World.shape?, h1, h2]
theorem insF_lt {F : Nat → Int} {m n i p : Nat} {xs : List Int} (hp : p < i * m) : insF F m n i xs p = F p := by
 unfold insF
 rw [List.append_assoc, List.getD_eq_getElem?_getD, List.getElem?_append_left (by rw [nums_length]; exact hp)]
 simp [nums, hp]
theorem insF_at {F : Nat → Int} {m n i p : Nat} {xs : List Int} (hx : xs.length = m) (hp : p < m) : insF F m n i xs (i * m + p) = xs.getD p 0 := by
 unfold insF
 rw [List.append_assoc, List.getD_eq_getElem?_getD, List.getElem?_append_right (by rw [nums_length]; omega), nums_length, Nat.add_sub_cancel_left, List.getElem?_append_left (by omega), List.getD_eq_getElem?_getD]
theorem insF_gt {F : Nat → Int} {m n i p : Nat} {xs : List Int} (hx : xs.length = m) (hp : p < (n - i) * m) : insF F m n i xs ((i + 1) * m + p) = F (i * m + p) := by
 unfold insF
 have e : (i + 1) * m = i * m + m := Nat.succ_mul _ _
 rw [List.append_assoc, List.getD_eq_getElem?_getD, List.getElem?_append_right (by rw [nums_length]; omega), nums_length, List.getElem?_append_right (by omega), show (i + 1) * m + p - i * m - xs.length = p by omega]
 simp [nums, hp]
/-- The cells of a row into which a struct was put. -/
theorem ins_cells {x : World} {g m n i : Nat} {F : Nat → Int} {xs : List Int} (hx : xs.length = m) (hi : i ≤ n) (h1 : ∀ p, p < i * m → x.cell? ⟨g, p, none⟩ = some (.int .i64 (F p))) (h2 : ∀ p, p < m → x.cell? ⟨g, i * m + p, none⟩ = some (.int .i64 (xs.getD p 0)))
  (h3 : ∀ p, p < (n - i) * m → x.cell? ⟨g, (i + 1) * m + p, none⟩ = some (.int .i64 (F (i * m + p)))) : ∀ p, p < (n + 1) * m → x.cell? ⟨g, p, none⟩ = some (.int .i64 (insF F m n i xs p)) := by
 intro p hp
 have e : (i + 1) * m = i * m + m := Nat.succ_mul _ _
 have e2 : (n + 1) * m = (i + 1) * m + (n - i) * m := by rw [← Nat.add_mul]; congr 1; omega
 by_cases a1 : p < i * m
 ·rw [h1 p a1, insF_lt a1]
 ·by_cases a2 : p < (i + 1) * m
  ·have := h2 (p - i * m) (by omega)
   rw [← insF_at (F := F) (n := n) (i := i) hx (by omega), show i * m + (p - i * m) = p by omega] at this
   exact this
  ·have := h3 (p - (i + 1) * m) (by omega)
   rw [← insF_gt (F := F) (n := n) (xs := xs) hx (by omega), show (i + 1) * m + (p - (i + 1) * m) = p by omega] at this
   exact this
theorem sets_in (g o N : Nat) (F : Nat → Int) (w : World) (h : ∀ j, j < N → (w.cell? ⟨g, o + j, none⟩).isSome = true) {p : Nat} (hp : p < N) : (w.setCells g o (vals F N)).cell? ⟨g, o + p, none⟩ = some (.int .i64 (F p)) := by
 rw [World.cell?_setCells_in g (vals F N) o w (fun j hj => h j (by rwa [vals_length] at hj)) p (by rw [vals_length]; exact hp)]
 simp [vals]
/-- An append of one struct lies in the row's own block or in a new one. -/
theorem app_block (t ty e : TypeId) (i : TypeInfo) (z : Value) (m bytes : Nat) (ht : Tryz.prog.underlying t = some (.slice e)) (hi : Tryz.prog.info? e = some i) (hz : i.zero = some z) (hsize : i.size = m) (hby : i.bytes = bytes) (hb5 : bytes ≤ 1000)
  (w : World) (B n : Nat) (F X : Nat → Int) (v : Value) (h : Own w B e m n F v) (hn : n < 1048576) (a : Addr) (vc : Nat) (hx : ∀ p, p < m → w.cell? (a.add p) = some (.int .i64 (X p))) {v' : Value} {w' : World}
  (hr : (Builtin.append_ #[t, t] ty #[v, .slice (some a) 1 vc]).run Tryz.prog w = .ok v' w') : ∀ q, v'.ownBlock = some q → v.ownBlock = some q ∨ w.heap.size ≤ q := by
 have hbb : (n + 1) * bytes ≤ 1048576 * 1000 := Nat.mul_le_mul (by omega) hb5
 have hc : ∀ j u, (vals X m)[j]? = some u → w.cell? (a.add j) = some u := fun j u hj => by obtain ⟨h1, rfl⟩ := vals_inv hj; exact hx j h1
 have hsrc : Go.Src Tryz.prog i.size t (.slice (some a) 1 vc) 1 (vals X m) w := Go.Src.ofSlice w ht a 1 vc _ (by rw [vals_length, hsize, Nat.one_mul]) hc (vals_one _ _)
 rcases h.parts with ⟨rfl, rfl⟩ | ⟨g, c, rfl, hg, hnc, hcm, hb, hF⟩
 ·have h2 := run_append_grow_src w t t ty e i z ht hi hz none 0 0 [] (run_firstCells_none w.drew _ 0 0 0) _ 1 _ hsrc (by omega) (by omega) (by rw [hby]; exact growslice_fits (by omega) (by omega))
  rw [h2] at hr
  cases hr
  intro q hq
  cases hq
  exact Or.inr (Nat.le_refl _)
 ·by_cases hroom : n + 1 ≤ c
  ·have hm1 : (n + 1) * m ≤ c * m := Nat.mul_le_mul_right m hroom
   have e1 : (n + 1) * m = n * m + m := Nat.succ_mul _ _
   have h2 := run_append_room_cells w t ty e i ht hi g 0 n c a 1 vc (vals X m) (by rw [vals_length, hsize, Nat.one_mul]) hc (vals_one _ _) hroom (fun j hj => by rw [vals_length] at hj; rw [hsize]; exact hb.any (by omega)) (fun j hj => hb.frozen _)
   rw [h2] at hr
   cases hr
   intro q hq
   exact Or.inl hq
  ·have h2 := run_append_grow_src w t t ty e i z ht hi hz (some ⟨g, 0, none⟩) n c (vals F (n * m)) (by rw [hsize]; exact run_firstCells_some w.drew m n _ n c _ (vals_length _ _) (fun j u hj => by obtain ⟨h1, rfl⟩ := vals_inv hj; rw [Addr.add_lit, Nat.zero_add]; exact hF j h1)) _ 1 _ hsrc (by omega) (by omega) (by rw [hby]; exact growslice_fits (by omega) (by omega))
   rw [h2] at hr
   cases hr
   intro q hq
   cases hq
   exact Or.inr (Nat.le_refl _)
end

section
open Go.RowKit Go.Lib
theorem sizeW : (Tryz.prog.info? 55).map (·.size) = some 4 := by kernel_rfl
theorem underW : Tryz.prog.underlying 26 = some (.slice 55) := by kernel_rfl

set_option maxHeartbeats 4000000 in
set_option maxRecDepth 100000 in
/-- There is room, i is a place ahead of the end: in place. -/
theorem insW_shift (w : World) (g n c i vb vc : Nat) (F : Nat → Int) (X : Nat → Int) (hb : Blkk w g 55 (c * 4)) (hroom : n + 1 ≤ c) (hc63 : c ≤ 9223372036854775807) (hi : i < n) (hF : ∀ p, p < n * 4 → w.cell? ⟨g, p, none⟩ = some (.int .i64 (F p)))
  (hvb : vb ≠ g) (hv : Blkk w vb 55 4) (hxs : ∀ p, p < 4 → w.cell? ⟨vb, p, none⟩ = some (.int .i64 (X p))) :
  Calls Tryz.prog 115 #[.slice (some ⟨g, 0, none⟩) n c, .int .i64 i, .slice (some ⟨vb, 0, none⟩) 1 vc] w fun e w' =>
   e = .returned (.slice (some ⟨g, 0, none⟩) (n + 1) c) ∧ w' = (w.drew.setCells g ((i + 1) * 4) (vals (fun p => F (i * 4 + p)) ((n - i) * 4))).setCells g (i * 4) (vals X 4) := by
 have hz2 : ¬ ((i : Int) = (n : Int)) := by omega
 have hov : ∀ lb cb, (callFunc 127 #[.slice (some ⟨vb, 0, none⟩) 1 vc, .slice (some ⟨g, (i + 1) * 4, none⟩) lb cb]).run Tryz.prog w = .ok (.value (.bool false)) w := fun lb cb => by
  rw [run_callFunc_extern Tryz.func127 (by kernel_rfl) (by kernel_rfl) (by kernel_rfl) (e := Extern.SlicesOverlaps.overlaps #[26, 26] #[4]) (by kernel_rfl),
   Lib.run_overlaps_apart w _ _ 55 underW 4 (fun w => by kernel_rfl) ⟨vb, 0, none⟩ ⟨g, (i + 1) * 4, none⟩ 1 vc lb cb hvb _ _ _ _ hv.shape hb.shape (by omega) (hv.frozen _) (hv.frozen _)]
  rfl
 have hw1 : IntKind.i64.wrap ((i : Int) + 1) = (i : Int) + 1 := by rw [IntKind.wrap_i64]; omega
 have hw2 : IntKind.i64.wrap ((n : Int) + 1) = (n : Int) + 1 := by rw [IntKind.wrap_i64]; omega
 have hb1 : (0 : Int) ≤ (i : Int) + 1 := by omega
 have hin : i ≤ n := by omega
 have htn : ((i : Int) + 1).toNat = i + 1 := by omega
 have htn' : ((n : Int) + 1).toNat = n + 1 := by omega
 have hb2 : ¬ (c = i + 1) := by omega
 have hb3 : (i : Int) ≤ (n : Int) + 1 := by omega
 have hb4 : ¬ (c = i) := by omega
 have hb5 : ¬ ((c : Int) < (n : Int) + 1) := by omega
 have hb6 : (0 : Int) ≤ (n : Int) + 1 := by omega
 have hb7 : (n : Int) + 1 ≤ (c : Int) := by omega
 have hb8 : (i : Int) + 1 ≤ (n : Int) + 1 := by omega
 have hm1 : (n + 1) * 4 ≤ c * 4 := Nat.mul_le_mul_right 4 hroom
 have hcp1 : ∀ ty dc sc, (Builtin.copy_ #[26, 26] ty #[.slice (some ⟨g, (i + 1) * 4, none⟩) (n - i) dc, .slice (some ⟨g, i * 4, none⟩) (n + 1 - i) sc]).run Tryz.prog w.drew = .ok (goInt (Nat.min (n + 1 - i) (n - i))) (w.drew.setCells g ((i + 1) * 4) (vals (fun p => F (i * 4 + p)) ((n - i) * 4))) := fun ty dc sc =>
  run_copyM w.drew _ _ ty 55 4 g _ _ dc ⟨g, i * 4, none⟩ _ sc _ underW sizeW (by rw [vals_length]; congr 1; simp only [Nat.min_def]; split <;> omega)
   (fun j v hj => by obtain ⟨h1, rfl⟩ := vals_inv hj; rw [Addr.add_lit]; exact hF _ (by omega))
   (fun j hj => by rw [vals_length] at hj; exact hb.any (by omega)) (fun j hj => hb.frozen _) (vals_one _ _)
 obtain ⟨W1, hW1⟩ : ∃ W1, W1 = w.drew.setCells g ((i + 1) * 4) (vals (fun p => F (i * 4 + p)) ((n - i) * 4)) := ⟨_, rfl⟩
 have hbW : Blkk W1 g 55 (c * 4) := by rw [hW1]; exact Blkk.sets _ _ _ hb
 have hcp2 : ∀ ty dc, (Builtin.copy_ #[26, 26] ty #[.slice (some ⟨g, i * 4, none⟩) (n + 1 - i) dc, .slice (some ⟨vb, 0, none⟩) 1 vc]).run Tryz.prog W1 = .ok (goInt (Nat.min 1 (n + 1 - i))) (W1.setCells g (i * 4) (vals X 4)) := fun ty dc =>
  run_copyM W1 _ _ ty 55 4 g _ _ dc ⟨vb, 0, none⟩ 1 vc _ underW sizeW (by rw [vals_length]; simp only [Nat.min_def]; split <;> omega)
   (fun j v hj => by
    obtain ⟨h1, rfl⟩ := vals_inv hj
    rw [Addr.add_lit, hW1, World.cell?_setCells_out g _ _ _ _ (fun h _ => absurd h hvb), Nat.zero_add]
    exact hxs j h1)
   (fun j hj => by rw [vals_length] at hj; exact hbW.any (by omega)) (fun j hj => hbW.frozen _) (vals_one _ _)
 subst hW1
 clear hF hxs hb hv hbW
 go_enter Tryz.func115, Tryz.ntmps115
 go_wp2_with (simp only [hov])
 go_region_law (refine step_copyM rfl _ _ 26 26 rfl _ _ (by simp [Act.eval, Act.put]) (by simp [Act.eval, Act.put]) (hcp1 _ _ _) ?_)
 go_wp2_with (simp only [hcp2])
 go_ret
 exact ⟨rfl, rfl⟩

set_option maxHeartbeats 4000000 in
set_option maxRecDepth 100000 in
/-- There is no room, i is a place ahead of the end: a new row. -/
theorem insW_grow (w : World) (g n c i vb vc : Nat) (F : Nat → Int) (X : Nat → Int) (hb : Blkk w g 55 (c * 4)) (hnc : n ≤ c) (hroom : c < n + 1) (hn : n ≤ 1048576) (hi : i < n) (hF : ∀ p, p < n * 4 → w.cell? ⟨g, p, none⟩ = some (.int .i64 (F p)))
  (hv : Blkk w vb 55 4) (hxs : ∀ p, p < 4 → w.cell? ⟨vb, p, none⟩ = some (.int .i64 (X p))) :
  Calls Tryz.prog 115 #[.slice (some ⟨g, 0, none⟩) n c, .int .i64 i, .slice (some ⟨vb, 0, none⟩) 1 vc] w fun e w' =>
   ∃ G ROW, (G ≤ maxLen ∧ n + 1 ≤ G ∧ ROW.size = G * 4 ∧ (∀ p, p < i * 4 → ROW[p]? = some (.int .i64 (F p)))) ∧ e = .returned (.slice (some ⟨w.heap.size, 0, none⟩) (n + 1) G) ∧ w' = (((w.alloc (.cells ROW 55)).drew.setCells w.heap.size (i * 4) (vals X 4)).drew).setCells w.heap.size ((i + 1) * 4) (vals (fun p => F (i * 4 + p)) ((n - i) * 4)) := by
 have hz2 : ¬ ((i : Int) = (n : Int)) := by omega
 have hz3 : (c : Int) < (n : Int) + 1 := by omega
 obtain ⟨i0, hi0, hz0, hzs, hzb⟩ := info_parts infoz_Write
 have hgw := hb.lt
 have hvw := hv.lt
 have hkk : (n : Int) + 1 - (i : Int) = ((n + 1 - i : Nat) : Int) := by omega
 have hik : i + (n + 1 - i) = n + 1 := by omega
 have hmi : i * 4 ≤ n * 4 := Nat.mul_le_mul_right 4 (by omega)
 have hold : (Builtin.firstCells i0.size i (.slice (some ⟨g, 0, none⟩) i c)).run Tryz.prog w.drew = .ok (vals F (i * 4)).toArray w.drew := by
  rw [hzs]
  exact run_firstCells_some w.drew 4 i ⟨g, 0, none⟩ i c (vals F (i * 4)) (by rw [vals_length]) (fun j v hj => by
   obtain ⟨h1, rfl⟩ := vals_inv hj
   rw [Addr.add_lit, Nat.zero_add]
   exact hF j (by omega))
 have hrz : ∀ ty, ∃ G ROW, (G ≤ maxLen ∧ n + 1 ≤ G ∧ ROW.size = G * 4 ∧ (∀ p, p < i * 4 → ROW[p]? = some (.int .i64 (F p)))) ∧ (Builtin.append_ #[26, 3] ty #[.slice (some ⟨g, 0, none⟩) i c, .int .i64 ((n : Int) + 1 - (i : Int))]).run Tryz.prog w = .ok (.slice (some ⟨w.heap.size, 0, none⟩) (n + 1) G) (w.drew.alloc (.cells ROW 55)) := fun ty => by
  have h := Lib.run_append_grow_zeros w 26 3 ty 55 i0 _ .i64 .i64 underW (by kernel_rfl) hi0 hz0 (some ⟨g, 0, none⟩) i c (vals F (i * 4)) hold (n + 1 - i) (by omega) (by omega) (by omega) (by omega) (by rw [hzb]; omega) (by rw [hzb, hik]; exact growslice_fits hroom (by omega))
  rw [hik] at h
  rw [hkk]
  have hG1 := grownCap_ge w (n + 1) c 55
  have hG2 := grownCap_le_maxLen w (n + 1) c 55 (by unfold maxLen; omega)
  refine ⟨_, _, ⟨hG2, hG1, ?_, ?_⟩, h⟩
  ·simp [Builtin.zeroCells, Value.cells, vals_length]
   omega
  ·intro p hp
   rw [Array.append_assoc, Array.getElem?_append_left (by simp [vals_length]; exact hp)]
   simp [vals, hp]
 obtain ⟨G, ROW, hG, hrw⟩ := hrz 26
 clear hrz
 obtain ⟨hG63, hGn, hRl, hR⟩ := hG
 have hm1 : (n + 1) * 4 ≤ G * 4 := Nat.mul_le_mul_right 4 hGn
 have hN : Blkk (w.alloc (.cells ROW 55)).drew w.heap.size 55 (G * 4) := (Blkk.made w ROW _ _ hRl).drew
 have hOb : ∀ j b, b < w.heap.size → (w.alloc (.cells ROW 55)).drew.cell? ⟨b, j, none⟩ = w.cell? ⟨b, j, none⟩ := fun j b h => by rw [drew_cell]; exact World.cell?_alloc_past (w := w) _ b j h
 have hcpA' : ∀ ty dc, (Builtin.copy_ #[26, 26] ty #[.slice (some ⟨w.heap.size, i * 4, none⟩) (n + 1 - i) dc, .slice (some ⟨vb, 0, none⟩) 1 vc]).run Tryz.prog (w.alloc (.cells ROW 55)).drew = .ok (goInt (Nat.min 1 (n + 1 - i))) ((w.alloc (.cells ROW 55)).drew.setCells w.heap.size (i * 4) (vals X 4)) := fun ty dc =>
  run_copyM _ _ _ ty 55 4 w.heap.size _ _ dc ⟨vb, 0, none⟩ 1 vc _ underW sizeW (by rw [vals_length]; simp only [Nat.min_def]; split <;> omega)
   (fun j v hj => by
    obtain ⟨h1, rfl⟩ := vals_inv hj
    rw [Addr.add_lit, hOb _ _ hvw, Nat.zero_add]
    exact hxs j h1)
   (fun j hj => by rw [vals_length] at hj; exact hN.any (by omega)) (fun j hj => hN.frozen _) (vals_one _ _)
 obtain ⟨W2, hW2⟩ : ∃ W2, W2 = (w.alloc (.cells ROW 55)).drew.setCells w.heap.size (i * 4) (vals X 4) := ⟨_, rfl⟩
 have hN2 : Blkk W2.drew w.heap.size 55 (G * 4) := by rw [hW2]; exact (Blkk.sets _ _ _ hN).drew
 have hcpB' : ∀ ty dc sc, (Builtin.copy_ #[26, 26] ty #[.slice (some ⟨w.heap.size, (i + 1) * 4, none⟩) (n - i) dc, .slice (some ⟨g, i * 4, none⟩) (n - i) sc]).run Tryz.prog W2.drew = .ok (goInt (Nat.min (n - i) (n - i))) (W2.drew.setCells w.heap.size ((i + 1) * 4) (vals (fun p => F (i * 4 + p)) ((n - i) * 4))) := fun ty dc sc =>
  run_copyM _ _ _ ty 55 4 w.heap.size _ _ dc ⟨g, i * 4, none⟩ _ sc _ underW sizeW (by rw [vals_length]; congr 1; simp only [Nat.min_def]; split <;> omega)
   (fun j v hj => by
    obtain ⟨h1, rfl⟩ := vals_inv hj
    rw [Addr.add_lit, drew_cell, hW2, World.cell?_setCells_out _ _ _ _ _ (fun h _ => absurd h (show g ≠ w.heap.size by omega)), hOb _ _ hgw]
    exact hF _ (by omega))
   (fun j hj => by rw [vals_length] at hj; exact hN2.any (by omega)) (fun j hj => hN2.frozen _) (vals_one _ _)
 clear hN2
 subst hW2
 have hG63' : G ≤ 9223372036854775807 := by unfold maxLen at hG63; omega
 have hGi : ¬ (G = i) := by omega
 have hGim : ¬ (G = i + 1) := by omega
 have hci : ¬ (c = i) := by omega
 have hw1 : IntKind.i64.wrap ((i : Int) + 1) = (i : Int) + 1 := by rw [IntKind.wrap_i64]; omega
 have hw2 : IntKind.i64.wrap ((n : Int) + 1) = (n : Int) + 1 := by rw [IntKind.wrap_i64]; omega
 have hw3 : IntKind.i64.wrap ((n : Int) + 1 - (i : Int)) = (n : Int) + 1 - (i : Int) := by rw [IntKind.wrap_i64]; omega
 have hb1 : (0 : Int) ≤ (i : Int) + 1 := by omega
 have hin : i ≤ n := by omega
 have htn : ((i : Int) + 1).toNat = i + 1 := by omega
 have hb3 : (i : Int) ≤ (n : Int) := by omega
 have hb8 : (i : Int) + 1 ≤ (n : Int) + 1 := by omega
 have hb9 : (i : Int) ≤ (n : Int) + 1 := by omega
 refine Calls.mono (R := fun e w' => e = .returned (.slice (some ⟨w.heap.size, 0, none⟩) (n + 1) G) ∧ w' = (((w.alloc (.cells ROW 55)).drew.setCells w.heap.size (i * 4) (vals X 4)).drew).setCells w.heap.size ((i + 1) * 4) (vals (fun p => F (i * 4 + p)) ((n - i) * 4))) ?_ (fun e w' h => ⟨G, ROW, ⟨hG63, hGn, hRl, hR⟩, h.1, h.2⟩)
 clear hkk hik hold hRl hR hG63 hN hOb hF hxs hb hv hi0 hz0 hzs hzb hm1 hmi
 go_enter Tryz.func115, Tryz.ntmps115
 go_wp2_with (first | (at_builtin; refine wpList_appM _ rfl _ _ 26 3 rfl (.slice (some ⟨g, 0, none⟩) i c) (.int .i64 ((n : Int) + 1 - (i : Int))) rfl rfl hrw ?_) | (simp only [hcpA']))
 go_region_law (refine step_copyM rfl _ _ 26 26 rfl _ _ (by simp [Act.eval, Act.put]) (by simp [Act.eval, Act.put]) (hcpB' _ _ _) ?_)
 go_wp2
 go_ret
 exact ⟨rfl, rfl⟩
end

section
open Go.RowKit Go.Lib
/-- What slices.Insert answers: the row with the struct at place i; nothing else has turned but the row's own block. -/
def InsW (w : World) (B n i : Nat) (F : Nat → Int) (xs : List Int) (v : Value) (e : Ending) (w' : World) : Prop :=
 ∃ ao cp, e = .returned (.slice ao (n + 1) cp) ∧ Own w' B 55 4 (n + 1) (insF F 4 n i xs) (.slice ao (n + 1) cp) ∧ w.grownBy w' v.ownBlock ∧ ∀ q, (Value.slice ao (n + 1) cp).ownBlock = some q → v.ownBlock = some q ∨ w.heap.size ≤ q
set_option maxHeartbeats 4000000 in
set_option maxRecDepth 100000 in
theorem insW_end (w : World) (B n vb vc : Nat) (F : Nat → Int) (xs : List Int) (v : Value) (hx : xs.length = 4) (h : Own w B 55 4 n F v) (hB : B ≤ w.heap.size) (hn : n < 1048576)
  (hv : Blkk w vb 55 4) (hxs : ∀ p, p < 4 → w.cell? ⟨vb, p, none⟩ = some (.int .i64 (xs.getD p 0))) :
  Calls Tryz.prog 115 #[v, .int .i64 n, .slice (some ⟨vb, 0, none⟩) 1 vc] w (InsW w B n n F xs v) := by
 have hrow : Row w 0 4 1 (fun p => xs.getD p 0) (.slice (some ⟨vb, 0, none⟩) 1 vc) := ⟨_, _, rfl, fun _ => ⟨vb, 0, rfl, Nat.zero_le _, hv.lt, fun p hp => by rw [Nat.zero_add]; exact hxs p (by omega)⟩⟩
 have hown : OwnM w B 55 4 v n (nums F (n * 4)) := by unfold OwnM; rw [nums_vals]; exact h
 obtain ⟨i0, hi0, hz0, hzs, hzb⟩ := info_parts infoz_Write
 have hend : ∀ ao cp w', OwnM w' B 55 4 (.slice ao (n + 1) cp) (n + 1) (nums F (n * 4) ++ nums (fun p => xs.getD p 0) (1 * 4)) → w.grownBy w' v.ownBlock → (∀ q, (Value.slice ao (n + 1) cp).ownBlock = some q → v.ownBlock = some q ∨ w.heap.size ≤ q) → InsW w B n n F xs v (.returned (.slice ao (n + 1) cp)) w' := fun ao cp w' h1 h2 h3 => by
  refine ⟨ao, cp, rfl, (h1.own (by simp [nums_length]; omega)).congr (fun p hp => ?_), h2, h3⟩
  by_cases a1 : p < n * 4
  ·rw [insF_lt a1, List.getD_eq_getElem?_getD, List.getElem?_append_left (by rw [nums_length]; exact a1)]
   simp [nums, a1]
  ·have := insF_at (F := F) (n := n) (i := n) (p := p - n * 4) hx (by omega)
   rw [show n * 4 + (p - n * 4) = p by omega] at this
   rw [this, List.getD_eq_getElem?_getD, List.getElem?_append_right (by rw [nums_length]; omega), nums_length]
   simp [nums, show p - n * 4 < 4 by omega]
 obtain ⟨POST, hP⟩ : ∃ POST, POST = InsW w B n n F xs v := ⟨_, rfl⟩
 rw [← hP] at hend ⊢
 obtain ⟨ao, cp, rfl⟩ := h.form
 have hrun : ∀ ty, ∃ ao' cp' w', (Builtin.append_ #[26, 26] ty #[.slice ao n cp, .slice (some ⟨vb, 0, none⟩) 1 vc]).run Tryz.prog w = .ok (.slice ao' (n + 1) cp') w' ∧ POST (.returned (.slice ao' (n + 1) cp')) w' := fun ty => by
  obtain ⟨ao', cp', w', h1, h2, h3⟩ := run_app 26 ty 55 i0 _ 4 _ underW hi0 hz0 hzs hzb rfl (by omega) (by omega) w B n _ _ hown 0 1 _ _ hrow (by omega) hB
  have h4 := app_block 26 ty 55 i0 _ 4 _ underW hi0 hz0 hzs hzb (by omega) w B n F (fun p => xs.getD p 0) _ h (by omega) ⟨vb, 0, none⟩ vc (fun p hp => by rw [Addr.add_lit, Nat.zero_add]; exact hxs p hp) h1
  exact ⟨ao', cp', w', h1, hend _ _ _ h2 h3 h4⟩
 obtain ⟨ao', cp', w', hr, hfin⟩ := hrun 26
 clear hrun hend hown hrow hv hxs hP hi0 hz0 hzs hzb
 rcases h.parts with ⟨q, rfl⟩ | ⟨g, cap, q, _, hnc, hcm, _⟩
 ·cases q
  clear h
  go_enter Tryz.func115, Tryz.ntmps115
  go_wp2_with (at_builtin; refine wpList_appM _ rfl _ _ 26 26 rfl (.slice none 0 0) (.slice (some ⟨vb, 0, none⟩) 1 vc) rfl rfl hr ?_)
  exact hfin
 ·cases q
  clear h
  unfold maxLen at hcm
  by_cases hcn : cp = n
  ·subst hcn
   go_enter Tryz.func115, Tryz.ntmps115
   go_wp2_with (at_builtin; refine wpList_appM _ rfl _ _ 26 26 rfl (.slice (some ⟨g, 0, none⟩) cp cp) (.slice (some ⟨vb, 0, none⟩) 1 vc) rfl rfl hr ?_)
   exact hfin
  ·go_enter Tryz.func115, Tryz.ntmps115
   go_wp2_with (at_builtin; refine wpList_appM _ rfl _ _ 26 26 rfl (.slice (some ⟨g, 0, none⟩) n cp) (.slice (some ⟨vb, 0, none⟩) 1 vc) rfl rfl hr ?_)
   exact hfin
/-- slices.Insert of one struct. -/
theorem insW_any (w : World) (B n i vb vc : Nat) (F : Nat → Int) (xs : List Int) (v : Value) (hx : xs.length = 4) (h : Own w B 55 4 n F v) (hB : B ≤ w.heap.size) (hn : n < 1048576) (hi : i ≤ n)
  (hvb : v.ownBlock ≠ some vb) (hv : Blkk w vb 55 4) (hxs : ∀ p, p < 4 → w.cell? ⟨vb, p, none⟩ = some (.int .i64 (xs.getD p 0))) :
  Calls Tryz.prog 115 #[v, .int .i64 i, .slice (some ⟨vb, 0, none⟩) 1 vc] w (InsW w B n i F xs v) := by
 rcases Nat.eq_or_lt_of_le hi with rfl | hi
 ·exact insW_end w B _ vb vc F xs v hx h hB hn hv hxs
 ·rcases h.parts with ⟨rfl, rfl⟩ | ⟨g, c, rfl, hg, hnc, hcm, hb, hF⟩
  ·exact absurd hi (Nat.not_lt_zero _)
  ·have hgv : vb ≠ g := fun e => hvb (by rw [e]; rfl)
   have hm3 : (n - i) * 4 + i * 4 = n * 4 := by rw [← Nat.add_mul]; congr 1; omega
   by_cases hr : n + 1 ≤ c
   ·have hm1 : (n + 1) * 4 ≤ c * 4 := Nat.mul_le_mul_right 4 hr
    refine (insW_shift w g n c i vb vc F (fun p => xs.getD p 0) hb hr (by unfold maxLen at hcm; omega) hi hF hgv hv hxs).mono ?_
    rintro e w' ⟨rfl, rfl⟩
    have hb1 := Blkk.sets (vals (fun p => F (i * 4 + p)) ((n - i) * 4)) ((i + 1) * 4) w.drew hb
    refine ⟨_, _, rfl, own_of (Blkk.sets _ _ _ hb1) hg hr hcm (ins_cells hx (Nat.le_of_lt hi) (fun p hp => ?_) (fun p hp => ?_) (fun p hp => ?_)), ?_⟩
    ·rw [World.cell?_setCells_out g _ _ _ _ (fun _ _ => Or.inl hp), World.cell?_setCells_out g _ _ _ _ (fun _ _ => Or.inl (by show p < _; omega))]
     exact hF p (by omega)
    ·exact sets_in g (i * 4) 4 (fun p => xs.getD p 0) _ (fun j hj => hb1.any (by omega)) hp
    ·rw [World.cell?_setCells_out g _ _ _ _ (fun _ _ => Or.inr (by rw [vals_length]; show _ ≤ (i + 1) * 4 + p; omega))]
     exact sets_in g ((i + 1) * 4) ((n - i) * 4) (fun p => F (i * 4 + p)) w.drew (fun j hj => hb.drew.any (by omega)) hp
    ·exact ⟨grown_trans (grown_trans (grown_drew w _) (grown_sets g _ _ _)) (grown_sets g _ _ _), fun q hq => Or.inl hq⟩
   ·refine (insW_grow w g n c i vb vc F (fun p => xs.getD p 0) hb hnc (by omega) (by omega) hi hF hv hxs).mono ?_
    rintro e w' ⟨G, ROW, ⟨hG1, hG2, hG3, hG4⟩, rfl, rfl⟩
    have hm1 : (n + 1) * 4 ≤ G * 4 := Nat.mul_le_mul_right 4 hG2
    have hN : Blkk (w.alloc (.cells ROW 55)).drew w.heap.size 55 (G * 4) := (Blkk.made w ROW _ _ hG3).drew
    have hb1 : Blkk (((w.alloc (.cells ROW 55)).drew.setCells w.heap.size (i * 4) (vals (fun p => xs.getD p 0) 4)).drew) w.heap.size 55 (G * 4) := (Blkk.sets (vals (fun p => xs.getD p 0) 4) (i * 4) _ hN).drew
    refine ⟨_, _, rfl, own_of (Blkk.sets _ _ _ hb1) hB hG2 hG1 (ins_cells hx (Nat.le_of_lt hi) (fun p hp => ?_) (fun p hp => ?_) (fun p hp => ?_)), ?_⟩
    ·rw [World.cell?_setCells_out _ _ _ _ _ (fun _ _ => Or.inl (by show p < _; omega))]
     rw [drew_cell, World.cell?_setCells_out _ _ _ _ _ (fun _ _ => Or.inl hp), drew_cell, World.cell?_alloc_at (w := w) ROW _ w.heap.size p rfl]
     exact hG4 p hp
    ·rw [World.cell?_setCells_out _ _ _ _ _ (fun _ _ => Or.inl (by show i * 4 + p < _; omega))]
     rw [drew_cell]
     exact sets_in w.heap.size (i * 4) 4 (fun p => xs.getD p 0) ((w.alloc (.cells ROW 55)).drew) (fun j hj => hN.any (by omega)) hp
    ·exact sets_in w.heap.size ((i + 1) * 4) ((n - i) * 4) (fun p => F (i * 4 + p)) _ (fun j hj => hb1.any (by omega)) hp
    ·have g1 : w.grownBy (w.alloc (.cells ROW 55)).drew (some g) := grown_trans (grown_alloc w _ _) (grown_drew _ _)
     have g2 := grown_over g1 (grown_sets w.heap.size (vals (fun p => xs.getD p 0) 4) (i * 4) _) (Nat.le_refl _)
     have g3 := grown_trans g2 (grown_drew _ _)
     exact ⟨grown_over g3 (grown_sets w.heap.size (vals (fun p => F (i * 4 + p)) ((n - i) * 4)) ((i + 1) * 4) _) (Nat.le_refl _), fun q hq => by cases hq; exact Or.inr (Nat.le_refl _)⟩
end
end Go.Proofs.YtiadbiiiikhfaaaGreatDoor

namespace Go.Proofs.YtiadbiiiikhfaaaGreatDoor
section
open Go.RowKit
theorem AW.later {w X X' : World} {B n : Nat} {F : Nat → Int} {ao : Option Addr} {cp : Nat} {x0 x1 x2 x3 : Int} (h : AW w B n F ao cp x0 x1 x2 x3 X) (h0 : Row w B 4 n F (.slice ao n cp)) (hb : Below X.heap.size X X') : AW w B n F ao cp x0 x1 x2 x3 X' :=
 h.grown h0 (row := none) ⟨hb.os, hb.tape, hb.output, hb.size, fun k hk _ => hb.block k hk⟩ (fun r e => by cases e)
theorem or_neg (a b x y : Int) : orOf (cmpOf a x) (cmpOf b y) < 0 ↔ a < x ∨ a = x ∧ b < y := by
 unfold orOf cmpOf
 constructor
 ·intro h
  by_cases h1 : a < x
  ·exact Or.inl h1
  ·by_cases h2 : x < a
   ·simp [h1, h2] at h
   ·refine Or.inr ⟨by omega, ?_⟩
    simp [h1, h2] at h
    by_cases h3 : b < y
    ·exact h3
    ·simp [h3] at h
     split at h <;> omega
 ·intro h
  rcases h with h | ⟨rfl, h⟩
  ·simp [h]
  ·simp [h]
theorem or_zero (a b x y : Int) : orOf (cmpOf a x) (cmpOf b y) = 0 ↔ a = x ∧ b = y := by
 unfold orOf cmpOf
 constructor
 ·intro h
  by_cases h1 : a < x
  ·simp [h1] at h
  ·by_cases h2 : x < a
   ·simp [h1, h2] at h
   ·refine ⟨by omega, ?_⟩
    simp [h1, h2] at h
    by_cases h3 : b < y
    ·simp [h3] at h
    ·by_cases h4 : y < b
     ·simp [h3, h4] at h
     ·omega
 ·rintro ⟨rfl, rfl⟩
  simp
/-- What the search answers. -/
def FoundW (w : World) (n : Nat) (F : Nat → Int) (x0 x1 : Int) (e : Ending) (w' : World) : Prop := ∃ (k : Nat) (r : Bool), e = .returned (.tuple #[.int .i64 k, .bool r]) ∧ placeAt (aheadW F x0 x1) n k ∧ (r = true ↔ k < n ∧ F (k * 4) = x0 ∧ F (k * 4 + 1) = x1) ∧ Below w.heap.size w w'
set_option maxRecDepth 100000 in
set_option maxHeartbeats 4000000 in
theorem searchW_any (n : Nat) (F : Nat → Int) (ao : Option Addr) (cp : Nat) (B : Nat) (x0 x1 x2 x3 : Int) (w : World) (h : Row w B 4 n F (.slice ao n cp)) (hn : n ≤ 1000) (hmono : ∀ i j, i ≤ j → j < n → aheadW F x0 x1 j → aheadW F x0 x1 i) :
  Calls Tryz.prog 114 #[.slice ao n cp, .agg #[.int .i64 x0, .int .i64 x1, .int .i64 x2, .int .i64 x3], .func (.func 93) #[] #[]] w (FoundW w n F x0 x1) := by
 have H : Hid (Row w B 4 n F (.slice ao n cp)) := h
 have HM : Hid (∀ i j, i ≤ j → j < n → aheadW F x0 x1 j → aheadW F x0 x1 i) := hmono
 clear h hmono
 go_enter Tryz.func114, Tryz.ntmps114
 go_wp2
 go_loopw [9, 10] (fun a b wr => ∃ i j : Nat, i ≤ j ∧ j ≤ n ∧ a = .int .i64 i ∧ b = .int .i64 j ∧ Hid (∀ q, q < i → aheadW F x0 x1 q) ∧ Hid (∀ q, j ≤ q → q < n → ¬ aheadW F x0 x1 q) ∧ Hid (AW w B n F ao cp x0 x1 x2 x3 wr)) (fun a b _ => (intOf b).toNat - (intOf a).toNat)
 case atStart =>
  refine ⟨0, n, Nat.zero_le _, Nat.le_refl _, rfl, rfl, fun q hq => absurd hq (Nat.not_lt_zero q), fun q h1 h2 => absurd h2 (Nat.not_lt.2 h1), ?_⟩
  exact ⟨⟨World.cell?_alloc_mark w _ _ _ 0, World.cell?_alloc_mark w _ _ _ 1, World.cell?_alloc_mark w _ _ _ 2, World.cell?_alloc_mark w _ _ _ 3⟩, H.out.alloc _, below_alloc _ _⟩
 case round =>
  obtain ⟨i, j, hij, hj, rfl, rfl, HA, HB, HS⟩ := hrel
  by_cases hlt : i < j
  case neg =>
   obtain rfl : i = j := by omega
   have HP : Hid (placeAt (aheadW F x0 x1) n i) := ⟨hj, HA.out, fun q => HB.out i (Nat.le_refl _) q⟩
   clear HA HB hij hlt
   go_upto_region 8 with fail
   by_cases hin : i < n
   ·obtain ⟨g, o, hao, _, hg, y0, y1, y2, y3⟩ := HS.out.2.1.at4 hin
    subst hao
    obtain ⟨n0, N0⟩ : ∃ x, F (i * 4) = x := ⟨_, rfl⟩
    rw [N0] at y0
    obtain ⟨n1, N1⟩ : ∃ x, F (i * 4 + 1) = x := ⟨_, rfl⟩
    rw [N1] at y1
    obtain ⟨n2, N2⟩ : ∃ x, F (i * 4 + 2) = x := ⟨_, rfl⟩
    rw [N2] at y2
    obtain ⟨n3, N3⟩ : ∃ x, F (i * 4 + 3) = x := ⟨_, rfl⟩
    rw [N3] at y3
    have HN : Hid (F (i * 4) = n0 ∧ F (i * 4 + 1) = n1) := ⟨N0, N1⟩
    clear N0 N1 N2 N3
    have dn : decide (i < n) = true := decide_eq_true hin
    refine wp_region_held_drew (S := fun X => (X.cell? ⟨w.heap.size, 0, none⟩ = some (.int .i64 x0) ∧ X.cell? ⟨w.heap.size, 1, none⟩ = some (.int .i64 x1) ∧ X.cell? ⟨w.heap.size, 2, none⟩ = some (.int .i64 x2) ∧ X.cell? ⟨w.heap.size, 3, none⟩ = some (.int .i64 x3)) ∧ (X.cell? ⟨g, o + i * 4, none⟩ = some (.int .i64 n0) ∧ X.cell? ⟨g, o + i * 4 + 1, none⟩ = some (.int .i64 n1) ∧ X.cell? ⟨g, o + i * 4 + 2, none⟩ = some (.int .i64 n2) ∧ X.cell? ⟨g, o + i * 4 + 3, none⟩ = some (.int .i64 n3)) ∧ AW w B n F (some ⟨g, o, none⟩) cp x0 x1 x2 x3 X) (by kernel_rfl) ⟨HS.out.1, ⟨y0, y1, y2, y3⟩, HS.out.drew⟩ (fun hS => ?_)
    refine tkH 0 ?_ hS (fun wx hx => ?_) ?_; rotate_left
    ·obtain ⟨⟨hx0, hx1, hx2, hx3⟩, ⟨hx4, hx5, hx6, hx7⟩, _⟩ := hx; go_simp; try with_reducible rfl
    refine tkH 1 ?_ hS (fun wx hx => ?_) ?_; rotate_left
    ·obtain ⟨⟨hx0, hx1, hx2, hx3⟩, ⟨hx4, hx5, hx6, hx7⟩, _⟩ := hx; go_simp; try with_reducible rfl
    refine tkH 2 ?_ hS (fun wx hx => ?_) ?_; rotate_left
    ·obtain ⟨⟨hx0, hx1, hx2, hx3⟩, ⟨hx4, hx5, hx6, hx7⟩, _⟩ := hx; go_simp; try with_reducible rfl
    refine tkH 3 ?_ hS (fun wx hx => ?_) ?_; rotate_left
    ·obtain ⟨⟨hx0, hx1, hx2, hx3⟩, ⟨hx4, hx5, hx6, hx7⟩, _⟩ := hx; go_simp; try with_reducible rfl
    refine tkH 4 ?_ hS (fun wx hx => ?_) ?_; rotate_left
    ·obtain ⟨⟨hx0, hx1, hx2, hx3⟩, ⟨hx4, hx5, hx6, hx7⟩, _⟩ := hx; go_simp; try with_reducible rfl
    refine tkH 5 ?_ hS (fun wx hx => ?_) ?_; rotate_left
    ·obtain ⟨⟨hx0, hx1, hx2, hx3⟩, ⟨hx4, hx5, hx6, hx7⟩, _⟩ := hx; go_simp; try with_reducible rfl
    refine tkH 6 ?_ hS (fun wx hx => ?_) ?_; rotate_left
    ·obtain ⟨⟨hx0, hx1, hx2, hx3⟩, ⟨hx4, hx5, hx6, hx7⟩, _⟩ := hx; go_simp; try with_reducible rfl
    refine tkH 7 ?_ hS (fun wx hx => ?_) ?_; rotate_left
    ·obtain ⟨⟨hx0, hx1, hx2, hx3⟩, ⟨hx4, hx5, hx6, hx7⟩, _⟩ := hx; go_simp; try with_reducible rfl
    refine tkH 8 ?_ hS (fun wx hx => ?_) ?_; rotate_left
    ·obtain ⟨⟨hx0, hx1, hx2, hx3⟩, ⟨hx4, hx5, hx6, hx7⟩, _⟩ := hx; go_simp; try with_reducible rfl
    refine tkH 9 ?_ hS (fun wx hx => ?_) ?_; rotate_left
    ·obtain ⟨⟨hx0, hx1, hx2, hx3⟩, ⟨hx4, hx5, hx6, hx7⟩, _⟩ := hx; go_simp; try with_reducible rfl
    refine tkH 10 ?_ hS (fun wx hx => ?_) ?_; rotate_left
    ·obtain ⟨⟨hx0, hx1, hx2, hx3⟩, ⟨hx4, hx5, hx6, hx7⟩, _⟩ := hx; go_simp; try with_reducible rfl
    refine rdH 11 (fun K hK => ?_)
    go_simp
    go_wp2_with fail
    obtain ⟨r, hr⟩ : ∃ r, orOf (cmpOf n0 x0) (cmpOf n1 x1) = r := ⟨_, rfl⟩
    refine (compareWrites_is n0 n1 n2 n3 x0 x1 x2 x3 r hr _).mono ?_
    rintro e w1 ⟨rfl, q1⟩
    have S1 : AW w B n F (some ⟨g, o, none⟩) cp x0 x1 x2 x3 w1 := hS.2.2.later H.out q1
    obtain ⟨_, ⟨y0, y1, y2, y3⟩, _⟩ := hS
    have y0' := (q1.cell (p := ⟨g, o + i * 4, none⟩) (lt_cell y0)).trans y0
    have y1' := (q1.cell (p := ⟨g, o + i * 4 + 1, none⟩) (lt_cell y1)).trans y1
    have y2' := (q1.cell (p := ⟨g, o + i * 4 + 2, none⟩) (lt_cell y2)).trans y2
    have y3' := (q1.cell (p := ⟨g, o + i * 4 + 3, none⟩) (lt_cell y3)).trans y3
    go_wp2_with fail
    refine hK.out _ _ ⟨S1.1, ⟨y0', y1', y2', y3'⟩, S1⟩ (fun hS => ?_)
    clear hK K y0 y1 y2 y3 y0' y1' y2' y3' q1 S1 HS
    by_cases ha : n0 = x0 ∧ n1 = x1
    ·obtain rfl : r = 0 := by rw [← hr]; exact (or_zero n0 n1 x0 x1).2 ha
     have HR : Hid (F (i * 4) = x0 ∧ F (i * 4 + 1) = x1) := ⟨HN.out.1.trans ha.1, HN.out.2.trans ha.2⟩
     clear ha hr HN
     refine tkH 12 ?_ hS (fun wx hx => ?_) ?_; rotate_left
     ·obtain ⟨⟨hx0, hx1, hx2, hx3⟩, ⟨hx4, hx5, hx6, hx7⟩, _⟩ := hx; go_simp; try with_reducible rfl
     refine tkH 13 ?_ hS (fun wx hx => ?_) ?_; rotate_left
     ·obtain ⟨⟨hx0, hx1, hx2, hx3⟩, ⟨hx4, hx5, hx6, hx7⟩, _⟩ := hx; go_simp; try with_reducible rfl
     refine tkH 14 ?_ hS (fun wx hx => ?_) ?_; rotate_left
     ·obtain ⟨⟨hx0, hx1, hx2, hx3⟩, ⟨hx4, hx5, hx6, hx7⟩, _⟩ := hx; go_simp; try with_reducible rfl
     refine tkH 15 ?_ hS (fun wx hx => ?_) ?_; rotate_left
     ·obtain ⟨⟨hx0, hx1, hx2, hx3⟩, ⟨hx4, hx5, hx6, hx7⟩, _⟩ := hx; go_simp; try with_reducible rfl
     refine wpAnyH_done (by kernel_rfl) ?_ _
     go_simp
     go_wp2
     go_ret2
     exact ⟨i, true, rfl, HP.out, ⟨fun _ => ⟨hin, HR.out⟩, fun _ => rfl⟩, hS.2.2.2.2⟩
    ·have dr : (r == 0) = false := beq_eq_false_iff_ne.2 (by rw [← hr]; exact fun q => ha ((or_zero n0 n1 x0 x1).1 q))
     have HR : Hid (¬ (F (i * 4) = x0 ∧ F (i * 4 + 1) = x1)) := fun q => ha ⟨HN.out.1.symm.trans q.1, HN.out.2.symm.trans q.2⟩
     clear ha hr HN
     refine tkH 12 ?_ hS (fun wx hx => ?_) ?_; rotate_left
     ·obtain ⟨⟨hx0, hx1, hx2, hx3⟩, ⟨hx4, hx5, hx6, hx7⟩, _⟩ := hx; go_simp; try with_reducible rfl
     refine tkH 13 ?_ hS (fun wx hx => ?_) ?_; rotate_left
     ·obtain ⟨⟨hx0, hx1, hx2, hx3⟩, ⟨hx4, hx5, hx6, hx7⟩, _⟩ := hx; go_simp; try with_reducible rfl
     refine tkH 14 ?_ hS (fun wx hx => ?_) ?_; rotate_left
     ·obtain ⟨⟨hx0, hx1, hx2, hx3⟩, ⟨hx4, hx5, hx6, hx7⟩, _⟩ := hx; go_simp; try with_reducible rfl
     refine tkH 15 ?_ hS (fun wx hx => ?_) ?_; rotate_left
     ·obtain ⟨⟨hx0, hx1, hx2, hx3⟩, ⟨hx4, hx5, hx6, hx7⟩, _⟩ := hx; go_simp; try with_reducible rfl
     refine wpAnyH_done (by kernel_rfl) ?_ _
     go_simp
     go_wp2
     go_ret2
     exact ⟨i, false, rfl, HP.out, ⟨fun q => (Bool.false_ne_true q).elim, fun q => (HR.out q.2).elim⟩, hS.2.2.2.2⟩
   ·have dn : decide (i < n) = false := decide_eq_false hin
    refine wp_region_held_drew (S := AW w B n F ao cp x0 x1 x2 x3) (by kernel_rfl) HS.out.drew (fun hS => ?_)
    refine tkH 0 ?_ hS (fun wx hx => ?_) ?_; rotate_left
    ·go_simp; try with_reducible rfl
    refine tkH 1 ?_ hS (fun wx hx => ?_) ?_; rotate_left
    ·go_simp; try with_reducible rfl
    refine tkH 2 ?_ hS (fun wx hx => ?_) ?_; rotate_left
    ·go_simp; try with_reducible rfl
    refine tkH 3 ?_ hS (fun wx hx => ?_) ?_; rotate_left
    ·go_simp; try with_reducible rfl
    refine tkH 4 ?_ hS (fun wx hx => ?_) ?_; rotate_left
    ·go_simp; try with_reducible rfl
    refine noH 5 hS ?_
    refine noH 6 hS ?_
    refine noH 7 hS ?_
    refine noH 8 hS ?_
    refine noH 9 hS ?_
    refine noH 10 hS ?_
    refine noH 11 hS ?_
    refine noH 12 hS ?_
    refine tkH 13 ?_ hS (fun wx hx => ?_) ?_; rotate_left
    ·go_simp; try with_reducible rfl
    refine tkH 14 ?_ hS (fun wx hx => ?_) ?_; rotate_left
    ·go_simp; try with_reducible rfl
    refine tkH 15 ?_ hS (fun wx hx => ?_) ?_; rotate_left
    ·go_simp; try with_reducible rfl
    refine wpAnyH_done (by kernel_rfl) ?_ _
    go_simp
    go_wp2
    go_ret2
    exact ⟨i, false, rfl, HP.out, ⟨fun q => (Bool.false_ne_true q).elim, fun q => (hin q.1).elim⟩, hS.2.2⟩
  go_upto_region 5 with fail
  obtain ⟨m, hm⟩ : ∃ m : Nat, ((i : Int) + j) / 2 = m := ⟨(i + j) / 2, by omega⟩
  have hm1 : i ≤ m ∧ m < j := by omega
  rw [hm]
  clear hm
  obtain ⟨hm1, hm2⟩ := hm1
  have hmn : m < n := by omega
  obtain ⟨g, o, hao, _, hg, y0, y1, y2, y3⟩ := HS.out.2.1.at4 hmn
  subst hao
  obtain ⟨n0, N0⟩ : ∃ x, F (m * 4) = x := ⟨_, rfl⟩
  rw [N0] at y0
  obtain ⟨n1, N1⟩ : ∃ x, F (m * 4 + 1) = x := ⟨_, rfl⟩
  rw [N1] at y1
  obtain ⟨n2, N2⟩ : ∃ x, F (m * 4 + 2) = x := ⟨_, rfl⟩
  rw [N2] at y2
  obtain ⟨n3, N3⟩ : ∃ x, F (m * 4 + 3) = x := ⟨_, rfl⟩
  rw [N3] at y3
  have HC : Hid (aheadW F x0 x1 m ↔ n0 < x0 ∨ n0 = x0 ∧ n1 < x1) := by unfold aheadW; rw [N0, N1]; exact Iff.rfl
  clear N0 N1 N2 N3
  refine wp_region_held_drew (S := fun X => (X.cell? ⟨w.heap.size, 0, none⟩ = some (.int .i64 x0) ∧ X.cell? ⟨w.heap.size, 1, none⟩ = some (.int .i64 x1) ∧ X.cell? ⟨w.heap.size, 2, none⟩ = some (.int .i64 x2) ∧ X.cell? ⟨w.heap.size, 3, none⟩ = some (.int .i64 x3)) ∧ (X.cell? ⟨g, o + m * 4, none⟩ = some (.int .i64 n0) ∧ X.cell? ⟨g, o + m * 4 + 1, none⟩ = some (.int .i64 n1) ∧ X.cell? ⟨g, o + m * 4 + 2, none⟩ = some (.int .i64 n2) ∧ X.cell? ⟨g, o + m * 4 + 3, none⟩ = some (.int .i64 n3)) ∧ AW w B n F (some ⟨g, o, none⟩) cp x0 x1 x2 x3 X) (by kernel_rfl) ⟨HS.out.1, ⟨y0, y1, y2, y3⟩, HS.out.drew⟩ (fun hS => ?_)
  refine tkH 0 ?_ hS (fun wx hx => ?_) ?_; rotate_left
  ·obtain ⟨⟨hx0, hx1, hx2, hx3⟩, ⟨hx4, hx5, hx6, hx7⟩, _⟩ := hx; go_simp; try with_reducible rfl
  refine tkH 1 ?_ hS (fun wx hx => ?_) ?_; rotate_left
  ·obtain ⟨⟨hx0, hx1, hx2, hx3⟩, ⟨hx4, hx5, hx6, hx7⟩, _⟩ := hx; go_simp; try with_reducible rfl
  refine tkH 2 ?_ hS (fun wx hx => ?_) ?_; rotate_left
  ·obtain ⟨⟨hx0, hx1, hx2, hx3⟩, ⟨hx4, hx5, hx6, hx7⟩, _⟩ := hx; go_simp; try with_reducible rfl
  refine tkH 3 ?_ hS (fun wx hx => ?_) ?_; rotate_left
  ·obtain ⟨⟨hx0, hx1, hx2, hx3⟩, ⟨hx4, hx5, hx6, hx7⟩, _⟩ := hx; go_simp; try with_reducible rfl
  refine tkH 4 ?_ hS (fun wx hx => ?_) ?_; rotate_left
  ·obtain ⟨⟨hx0, hx1, hx2, hx3⟩, ⟨hx4, hx5, hx6, hx7⟩, _⟩ := hx; go_simp; try with_reducible rfl
  refine tkH 5 ?_ hS (fun wx hx => ?_) ?_; rotate_left
  ·obtain ⟨⟨hx0, hx1, hx2, hx3⟩, ⟨hx4, hx5, hx6, hx7⟩, _⟩ := hx; go_simp; try with_reducible rfl
  refine rdH 6 (fun K hK => ?_)
  go_simp
  go_wp2_with fail
  obtain ⟨r, hr⟩ : ∃ r, orOf (cmpOf n0 x0) (cmpOf n1 x1) = r := ⟨_, rfl⟩
  refine (compareWrites_is n0 n1 n2 n3 x0 x1 x2 x3 r hr _).mono ?_
  rintro e w1 ⟨rfl, q1⟩
  have S1 : AW w B n F (some ⟨g, o, none⟩) cp x0 x1 x2 x3 w1 := hS.2.2.later H.out q1
  obtain ⟨_, ⟨y0, y1, y2, y3⟩, _⟩ := hS
  have y0' := (q1.cell (p := ⟨g, o + m * 4, none⟩) (lt_cell y0)).trans y0
  have y1' := (q1.cell (p := ⟨g, o + m * 4 + 1, none⟩) (lt_cell y1)).trans y1
  have y2' := (q1.cell (p := ⟨g, o + m * 4 + 2, none⟩) (lt_cell y2)).trans y2
  have y3' := (q1.cell (p := ⟨g, o + m * 4 + 3, none⟩) (lt_cell y3)).trans y3
  go_wp2_with fail
  refine hK.out _ _ ⟨S1.1, ⟨y0', y1', y2', y3'⟩, S1⟩ (fun hS => ?_)
  clear hK K y0 y1 y2 y3 y0' y1' y2' y3' q1 S1 HS
  by_cases ha : n0 < x0 ∨ n0 = x0 ∧ n1 < x1
  ·have dr : decide (r < 0) = true := decide_eq_true (by rw [← hr]; exact (or_neg n0 n1 x0 x1).2 ha)
   have HA1 : Hid (∀ q, q < m + 1 → aheadW F x0 x1 q) := fun q hq => HM.out q m (by omega) hmn (HC.out.2 ha)
   clear ha hr HC HA
   refine tkH 7 ?_ hS (fun wx hx => ?_) ?_; rotate_left
   ·obtain ⟨⟨hx0, hx1, hx2, hx3⟩, ⟨hx4, hx5, hx6, hx7⟩, _⟩ := hx; go_simp; try with_reducible rfl
   refine wpAnyH_done (by kernel_rfl) ?_ _
   go_simp
   go_wp2
   go_roundw
   case rel => exact ⟨m + 1, j, by omega, hj, by go_num, rfl, HA1, HB, hS.2.2⟩
   case measure => simp [intOf]; omega
  ·have dr : decide (r < 0) = false := decide_eq_false (by rw [← hr]; exact fun q => ha ((or_neg n0 n1 x0 x1).1 q))
   have HB1 : Hid (∀ q, m ≤ q → q < n → ¬ aheadW F x0 x1 q) := fun q h1 h2 h3 => ha (HC.out.1 (HM.out m q h1 h2 h3))
   clear ha hr HC HB
   refine tkH 7 ?_ hS (fun wx hx => ?_) ?_; rotate_left
   ·obtain ⟨⟨hx0, hx1, hx2, hx3⟩, ⟨hx4, hx5, hx6, hx7⟩, _⟩ := hx; go_simp; try with_reducible rfl
   refine wpAnyH_done (by kernel_rfl) ?_ _
   go_simp
   go_wp2
   go_roundw
   case rel => exact ⟨i, m, hm1, by omega, rfl, rfl, HA, HB1, hS.2.2⟩
   case measure => simp [intOf]; omega
end

section
open Go.RowKit
theorem AL.later {w X X' : World} {B n : Nat} {F : Nat → Int} {ao : Option Addr} {cp : Nat} {x0 x1 x2 x3 x4 : Int} (h : AL w B n F ao cp x0 x1 x2 x3 x4 X) (h0 : Row w B 5 n F (.slice ao n cp)) (hb : Below X.heap.size X X') : AL w B n F ao cp x0 x1 x2 x3 x4 X' :=
 h.grown h0 (row := none) ⟨hb.os, hb.tape, hb.output, hb.size, fun k hk _ => hb.block k hk⟩ (fun r e => by cases e)
end
end Go.Proofs.YtiadbiiiikhfaaaGreatDoor

