/-
  Own text, merged of CopyA.
-/
import Derived.Test.YtgedodcojalidaaGreatPk5
namespace Go.Proofs.YtgedodcojalidaaGreat
open Go.RowKit

theorem own_kept {w w' : World} {B : Nat} {e : TypeId} {m n : Nat} {F : Nat → Int} {v : Value} (h : Own w B e m n F v) (hb : ∀ k, v.ownBlock = some k → w'.heap[k]? = w.heap[k]?) : Own w' B e m n F v := by
  refine ⟨h.1, ?_⟩
  rcases h.2 with q | ⟨g, cap, cur, rfl, hg, hw, r⟩
  · exact Or.inl q
  · exact Or.inr ⟨g, cap, cur, rfl, hg, (hb g rfl).trans hw, r⟩
theorem own_blk {w : World} {B : Nat} {e : TypeId} {m n : Nat} {F : Nat → Int} {v : Value} (h : Own w B e m n F v) : ∀ k, v.ownBlock = some k → B ≤ k ∧ k < w.heap.size := by
  intro k hk
  rcases h.2 with ⟨rfl, _⟩ | ⟨g, cap, cur, rfl, hg, hw, _⟩
  · simp [Value.ownBlock] at hk
  · simp [Value.ownBlock] at hk
    subst hk
    exact ⟨hg, (Array.getElem?_eq_some_iff.1 hw).1⟩
theorem own_cap {w : World} {B : Nat} {e : TypeId} {m n : Nat} {F : Nat → Int} {ao : Option Addr} {cp : Nat} (h : Own w B e m n F (.slice ao n cp)) : n ≤ cp := by
  rcases h.2 with ⟨q, q'⟩ | ⟨g, cap, cur, q, _, _, hnc, _⟩
  · omega
  · cases q; exact hnc
theorem own_far {w : World} {B : Nat} {e : TypeId} {m n : Nat} {F : Nat → Int} {v : Value} (h : Own w B e m n F v) {a : Addr} (ha : a.block < B) (u : Value) : Own (w.setCell a u) B e m n F v :=
  own_kept h fun k hk => Below.heap_setCell w a u k (fun e => by have := (own_blk h k hk).1; omega)
theorem own_congr {w : World} {B : Nat} {e : TypeId} {m n : Nat} {F G : Nat → Int} {v : Value} (h : Own w B e m n F v) (hF : ∀ p, p < n * m → F p = G p) : Own w B e m n G v := by
  have hv : vals F (n * m) = vals G (n * m) := by
    apply List.ext_getElem?
    intro p
    rcases Nat.lt_or_ge p (n * m) with q | q
    · rw [vals_at _ _ _ q, vals_at _ _ _ q, hF p q]
    · rw [List.getElem?_eq_none (by rw [vals_length]; exact q), List.getElem?_eq_none (by rw [vals_length]; exact q)]
  unfold Own at h ⊢
  rwa [← hv]
/-- A store whose three rows are its own: rows to which one may append. -/
def ApartB (u0 u1 u2 : Value) : Prop := (∀ k, u0.ownBlock = some k → u1.ownBlock ≠ some k) ∧ (∀ k, u0.ownBlock = some k → u2.ownBlock ≠ some k) ∧ ∀ k, u1.ownBlock = some k → u2.ownBlock ≠ some k
def OwnS (w : World) (B : Nat) (S : Sto) (v0 v1 v2 : Value) : Prop := (Own w B 59 3 S.nc S.c v0 ∧ Own w B 62 5 S.nl S.l v1 ∧ Own w B 36 4 S.nw S.k v2) ∧ ApartB v0 v1 v2
theorem OwnS.st {w : World} {B : Nat} {S : Sto} {v0 v1 v2 : Value} (h : OwnS w B S v0 v1 v2) : St w B S v0 v1 v2 := ⟨h.1.1.row.1, h.1.2.1.row.1, h.1.2.2.row.1⟩
theorem OwnS.free {w : World} {B : Nat} {S : Sto} {v0 v1 v2 : Value} (h : OwnS w B S v0 v1 v2) : FreeS w S v0 v1 v2 := ⟨h.1.1.row.2, h.1.2.1.row.2, h.1.2.2.row.2⟩
theorem OwnS.later {w w' : World} {B : Nat} {S : Sto} {v0 v1 v2 : Value} (h : OwnS w B S v0 v1 v2) (hb : Below w.heap.size w w') : OwnS w' B S v0 v1 v2 := ⟨⟨h.1.1.later hb, h.1.2.1.later hb, h.1.2.2.later hb⟩, h.2⟩
theorem OwnS.mono {w : World} {B B' : Nat} {S : Sto} {v0 v1 v2 : Value} (h : OwnS w B S v0 v1 v2) (hB : B' ≤ B) : OwnS w B' S v0 v1 v2 := ⟨⟨h.1.1.mono hB, h.1.2.1.mono hB, h.1.2.2.mono hB⟩, h.2⟩
theorem OwnS.far {w : World} {B : Nat} {S : Sto} {v0 v1 v2 : Value} (h : OwnS w B S v0 v1 v2) {a : Addr} (ha : a.block < B) (u : Value) : OwnS (w.setCell a u) B S v0 v1 v2 := ⟨⟨own_far h.1.1 ha u, own_far h.1.2.1 ha u, own_far h.1.2.2 ha u⟩, h.2⟩
theorem own_some {w : World} {B : Nat} {e : TypeId} {m n : Nat} {F : Nat → Int} {v : Value} (h : Own w B e m n F v) (hn : 0 < n) : ∃ k, v.ownBlock = some k := by
  rcases h.2 with ⟨_, q⟩ | ⟨g, cap, cur, rfl, _⟩
  · omega
  · exact ⟨g, rfl⟩
theorem OwnS.apart {w : World} {B : Nat} {S : Sto} {v0 v1 v2 : Value} (h : OwnS w B S v0 v1 v2) : ApartD S v0 v1 v2 := by
  refine ⟨fun a _ e => ?_, fun a _ e => ?_, fun a _ e => ?_⟩
  · obtain ⟨k, hk⟩ := own_some h.1.1 a
    exact h.2.1 k hk (e ▸ hk)
  · obtain ⟨k, hk⟩ := own_some h.1.1 a
    exact h.2.2.1 k hk (e ▸ hk)
  · obtain ⟨k, hk⟩ := own_some h.1.2.1 a
    exact h.2.2.2 k hk (e ▸ hk)
theorem OwnS.all {w : World} {B : Nat} {S : Sto} {v0 v1 v2 : Value} (h : OwnS w B S v0 v1 v2) : St w B S v0 v1 v2 ∧ FreeS w S v0 v1 v2 ∧ ApartD S v0 v1 v2 := ⟨h.st, h.free, h.apart⟩
theorem OwnS.empty (w : World) (B : Nat) : OwnS w B emptyS (.slice none 0 0) (.slice none 0 0) (.slice none 0 0) := ⟨⟨Own.nil _ _ _ _ _, Own.nil _ _ _ _ _, Own.nil _ _ _ _ _⟩, fun k hk => by simp [Value.ownBlock] at hk, fun k hk => by simp [Value.ownBlock] at hk, fun k hk => by simp [Value.ownBlock] at hk⟩
/-- A call that answers a code and a store of its own. -/
def ResStoK (w : World) (c : Int) (R : Sto) (e : Ending) (w' : World) : Prop := ∃ a0 c0 a1 c1 a2 c2, e = .returned (.agg #[.int .i64 c, .slice a0 R.nc c0, .slice a1 R.nl c1, .slice a2 R.nw c2]) ∧ OwnS w' w.heap.size R (.slice a0 R.nc c0) (.slice a1 R.nl c1) (.slice a2 R.nw c2) ∧ Below w.heap.size w w'
theorem ResStoK.res {w : World} {c : Int} {R : Sto} {e : Ending} {w' : World} (h : ResStoK w c R e w') : ResSto w c R e w' := by
  obtain ⟨a0, c0, a1, c1, a2, c2, he, ho, hb⟩ := h
  exact ⟨a0, c0, a1, c1, a2, c2, he, ho.all, hb⟩
set_option maxRecDepth 100000 in
theorem l3Bad_own (c : Int) (w : World) : Calls Tryz.prog 86 #[.int .i64 c] w (ResStoK w c emptyS) := by
  unfold ResStoK
  go_enter Tryz.func86, Tryz.ntmps86
  go_wp2
  exact bodyPost_ret (v := .agg #[.int .i64 c, .slice none 0 0, .slice none 0 0, .slice none 0 0]) (by simp [results, Tryz.results86, go_sem]) rfl ⟨none, 0, none, 0, none, 0, rfl, OwnS.empty _ _, below_alloc _ _⟩
theorem run_onto (t ty e : TypeId) (i : TypeInfo) (z : Value) (m bytes : Nat) (ht : Tryz.prog.underlying t = some (.slice e)) (hi : Tryz.prog.info? e = some i) (hz : i.zero = some z) (hsize : i.size = m) (hby : i.bytes = bytes) (hzs : z.cells.size = m) (hm : 0 < m) (hb5 : bytes ≤ 1000)
    (w : World) (q B n : Nat) (F : Nat → Int) (v : Value) (h0 : w.heap[q]? = some (.cells #[] e)) (h : Row w B m n F v) (hn : n ≤ 1048576) :
    ∃ ao cp w', (Builtin.append_ #[t, t] ty #[.slice (some ⟨q, 0, none⟩) 0 0, v]).run Tryz.prog w = .ok (.slice ao n cp) w' ∧ Own w' q e m n F (.slice ao n cp) ∧ (∀ k, (Value.slice ao n cp).ownBlock = some k → (k = q ∨ w.heap.size ≤ k) ∧ k < w'.heap.size) ∧ w.grownBy w' (some q) := by
  have hq : q < w.heap.size := (Array.getElem?_eq_some_iff.1 h0).1
  have hown : w.ownsRow q e m (.slice (some ⟨q, 0, none⟩) 0 0) 0 [] := ⟨by simp, Or.inr ⟨q, 0, #[], rfl, Nat.le_refl _, h0, Nat.le_refl _, by decide, by simp, by simp⟩⟩
  have hbb : n * bytes ≤ 1048576 * 1000 := Nat.mul_le_mul hn hb5
  obtain ⟨ao, cp, rfl⟩ := h.form
  rcases Nat.eq_zero_or_pos n with e0 | e0
  · subst e0
    have ho : Own w q e m 0 F (.slice (some ⟨q, 0, none⟩) 0 0) := by
      unfold Own
      rw [Nat.zero_mul]
      exact hown
    refine ⟨some ⟨q, 0, none⟩, 0, w, ?_, ho, fun k hk => ?_, ⟨rfl, rfl, rfl, Nat.le_refl _, fun _ _ _ => rfl⟩⟩
    · cases ao with
      | none => simp [Builtin.append_, run_underlying ht, sizeOf, typeInfo, hi, Builtin.lenOf, Builtin.firstCells, storeCells]
      | some a => simp [Builtin.append_, run_underlying ht, sizeOf, typeInfo, hi, Builtin.lenOf, Builtin.firstCells, storeCells, loadCells, loadCellsFrom]
    · simp [Value.ownBlock] at hk
      subst hk
      exact ⟨Or.inl rfl, hq⟩
  · obtain ⟨g, o, rfl, _, _, _⟩ := h.at e0
    obtain ⟨b, cap, w', h1, h2, h3, h4, h5⟩ := run_append_lies (P := Tryz.prog) w t ty q e i z m bytes ht hi hz hsize hby hzs hm _ 0 [] hown ⟨g, o, none⟩ n cp (vals F (n * m)) (vals_length _ _) (row_cells h) (vals_one _ _) e0 (by unfold maxLen; omega) (by rw [Nat.zero_add]; omega) (Nat.le_of_lt hq) w.heap.size rfl
    rw [Nat.zero_add] at h1 h2
    refine ⟨_, _, w', h1, h2, fun k hk => ?_, h3⟩
    simp [Value.ownBlock] at hk
    subst hk
    refine ⟨?_, h5⟩
    rcases h4 with e | e
    · simp [Value.ownBlock] at e; exact Or.inl e.symm
    · exact Or.inr (by omega)
/-- 'append([]T{}, row...)' at a step of a region that draws its order. -/
theorem step_onto {ops : Array Oper} {o : Oper} {a : Act} {K : Act → World → Prop} {Q : Exit → Act → World → Prop} {E : Prop} (hgd : o.guard = none) (s x : Operand) (t : TypeId) (ho : o.op = .call { callee := .builtin .append, args := #[s, x], argTypes := #[t, t] })
    (e : TypeId) (i : TypeInfo) (z : Value) (m bytes : Nat) (ht : Tryz.prog.underlying t = some (.slice e)) (hi : Tryz.prog.info? e = some i) (hz : i.zero = some z) (hsize : i.size = m) (hby : i.bytes = bytes) (hzs : z.cells.size = m) (hm : 0 < m) (hb5 : bytes ≤ 1000)
    (w : World) (q B n : Nat) (F : Nat → Int) (v : Value) (hs : a.eval s = .slice (some ⟨q, 0, none⟩) 0 0) (hx : a.eval x = v) (h0 : w.heap[q]? = some (.cells #[] e)) (h : Row w B m n F v) (hn : n ≤ 1048576)
    (hK : ∀ ao cp w', Own w' q e m n F (.slice ao n cp) → (∀ k, (Value.slice ao n cp).ownBlock = some k → (k = q ∨ w.heap.size ≤ k) ∧ k < w'.heap.size) → w.grownBy w' (some q) → K (a.put o.dst (.slice ao n cp)) w') :
    if Region.wanted o (yielded ops a.tmps) = true then Oper.wp Tryz.prog o a w K Q else E := by
  have hw : Region.wanted o (yielded ops a.tmps) = true := by simp [Region.wanted, hgd]
  rw [if_pos hw]
  obtain ⟨ao, cp, w', hr, h2, h3, h4⟩ := run_onto t o.type e i z m bytes ht hi hz hsize hby hzs hm hb5 w q B n F v h0 h hn
  unfold Oper.wp execOp
  simp only [ho, resolve, invoke, builtin, Sem.run_bind, Sem.run_pure, Result.andThen_ok, List.map_toArray, List.map_cons, List.map_nil, hs, hx, hr]
  exact hK ao cp w' h2 h3 h4
/-- An empty row in a block of its own. -/
def Em (c : World) (q : Nat) (e : TypeId) : Prop := c.heap[q]? = some (.cells #[] e)
theorem Em.lt {c : World} {q : Nat} {e : TypeId} (h : Em c q e) : q < c.heap.size := (Array.getElem?_eq_some_iff.1 h).1
theorem Em.grown {c c' : World} {q q' : Nat} {e : TypeId} (h : Em c q e) (hg : c.grownBy c' (some q')) (hne : q ≠ q') : Em c' q e := (hg.block q h.lt (by simp; exact hne)).trans h
theorem Em.later {c c' : World} {q : Nat} {e : TypeId} (h : Em c q e) (hb : Below c.heap.size c c') : Em c' q e := (hb.block q h.lt).trans h
theorem Em.new (c : World) (e : TypeId) : Em (c.alloc (.cells #[] e)) c.heap.size e := heap_alloc_new c _
/-- A row that an append has made: in the empty row's block q, or in one from s on; below t. -/
def Mk (c : World) (e : TypeId) (m n : Nat) (F : Nat → Int) (v : Value) (q s t : Nat) : Prop := Own c q e m n F v ∧ ∀ k, v.ownBlock = some k → (k = q ∨ s ≤ k) ∧ k < t
theorem Mk.later {c c' : World} {e : TypeId} {m n : Nat} {F : Nat → Int} {v : Value} {q s t : Nat} (h : Mk c e m n F v q s t) (hb : Below c.heap.size c c') : Mk c' e m n F v q s t := ⟨h.1.later hb, h.2⟩
theorem Mk.grown {c c' : World} {e : TypeId} {m n : Nat} {F : Nat → Int} {v : Value} {q s t q' : Nat} (h : Mk c e m n F v q s t) (hg : c.grownBy c' (some q')) (hne : ∀ k, (k = q ∨ s ≤ k) ∧ k < t → k ≠ q') : Mk c' e m n F v q s t :=
  ⟨own_kept h.1 (fun k hk => hg.block k (own_blk h.1 k hk).2 (fun e => hne k (h.2 k hk) (by simpa using e))), h.2⟩
/-- What the copying region stands on. -/
def Cp (w : World) (v0 v1 v2 : Value) (c : World) : Prop := Blk3 c w.heap.size v0 v1 v2 ∧ Below w.heap.size w c
theorem Cp.grown {w c c' : World} {v0 v1 v2 : Value} {q : Nat} (h : Cp w v0 v1 v2 c) (hg : c.grownBy c' (some q)) (hq : w.heap.size + 2 ≤ q) : Cp w v0 v1 v2 c' := ⟨h.1.kept (hg.block w.heap.size h.1.lt (by simp; omega)), ⟨hg.os.trans h.2.os, hg.tape.trans h.2.tape, hg.output.trans h.2.output, Nat.le_trans h.2.size hg.size, fun i hi => (hg.block i (Nat.lt_of_lt_of_le hi h.2.size) (by simp; omega)).trans (h.2.block i hi)⟩⟩
theorem Cp.later {w c c' : World} {v0 v1 v2 : Value} (h : Cp w v0 v1 v2 c) (hb : Below c.heap.size c c') : Cp w v0 v1 v2 c' := ⟨h.1.later hb, h.2.trans (hb.mono h.2.size)⟩
theorem Blk3.grown {c c' : World} {b q : Nat} {a0 a1 a2 : Value} (h : Blk3 c b a0 a1 a2) (hg : c.grownBy c' (some q)) (hne : b ≠ q) : Blk3 c' b a0 a1 a2 := h.kept (hg.block b h.lt (by simp; exact hne))
/-- A new store whose rows are its own. -/
def NewStoK (w : World) (R : Sto) (e : Ending) (w' : World) : Prop := ∃ a0 c0 a1 c1 a2 c2, e = .returned (.agg #[.slice a0 R.nc c0, .slice a1 R.nl c1, .slice a2 R.nw c2]) ∧ OwnS w' w.heap.size R (.slice a0 R.nc c0) (.slice a1 R.nl c1) (.slice a2 R.nw c2) ∧ Below w.heap.size w w'
/-- The store is copied: its three rows are told. -/
theorem copy_leaf {w c : World} {S : Sto} {d0 d1 d2 : Option Addr} {e0 e1 e2 : Nat} {x0 x1 x2 : Value} {q0 s0 t0 q1 s1 t1 q2 s2 t2 : Nat} (hb : Below w.heap.size w c) (h0 : Mk c 59 3 S.nc S.c (.slice d0 S.nc e0) q0 s0 t0) (h1 : Mk c 62 5 S.nl S.l (.slice d1 S.nl e1) q1 s1 t1) (h2 : Mk c 36 4 S.nw S.k (.slice d2 S.nw e2) q2 s2 t2) (hq : w.heap.size + 2 ≤ q0 ∧ w.heap.size + 2 ≤ q1 ∧ w.heap.size + 2 ≤ q2)
    (h01 : ∀ k, (k = q0 ∨ s0 ≤ k) ∧ k < t0 → (k = q1 ∨ s1 ≤ k) ∧ k < t1 → False) (h02 : ∀ k, (k = q0 ∨ s0 ≤ k) ∧ k < t0 → (k = q2 ∨ s2 ≤ k) ∧ k < t2 → False) (h12 : ∀ k, (k = q1 ∨ s1 ≤ k) ∧ k < t1 → (k = q2 ∨ s2 ≤ k) ∧ k < t2 → False) :
    NewStoK w S (.returned (.agg #[.slice d0 S.nc e0, .slice d1 S.nl e1, .slice d2 S.nw e2])) (((c.setCell ⟨w.heap.size + 1, 0, none⟩ x0).setCell ⟨w.heap.size + 1, 1, none⟩ x1).setCell ⟨w.heap.size + 1, 2, none⟩ x2) := by
  have hlo : ∀ {q : Nat}, w.heap.size + 2 ≤ q → w.heap.size + 1 < q := fun h => h
  refine ⟨d0, e0, d1, e1, d2, e2, rfl, ⟨⟨(own_far (own_far (own_far h0.1 (a := ⟨w.heap.size + 1, 0, none⟩) (hlo hq.1) _) (a := ⟨w.heap.size + 1, 1, none⟩) (hlo hq.1) _) (a := ⟨w.heap.size + 1, 2, none⟩) (hlo hq.1) _).mono (by omega), (own_far (own_far (own_far h1.1 (a := ⟨w.heap.size + 1, 0, none⟩) (hlo hq.2.1) _) (a := ⟨w.heap.size + 1, 1, none⟩) (hlo hq.2.1) _) (a := ⟨w.heap.size + 1, 2, none⟩) (hlo hq.2.1) _).mono (by omega), (own_far (own_far (own_far h2.1 (a := ⟨w.heap.size + 1, 0, none⟩) (hlo hq.2.2) _) (a := ⟨w.heap.size + 1, 1, none⟩) (hlo hq.2.2) _) (a := ⟨w.heap.size + 1, 2, none⟩) (hlo hq.2.2) _).mono (by omega)⟩, ?_, ?_, ?_⟩, ((hb.setCell (Nat.le_succ _) _).setCell (Nat.le_succ _) _).setCell (Nat.le_succ _) _⟩
  · exact fun k a b => h01 k (h0.2 k a) (h1.2 k b)
  · exact fun k a b => h02 k (h0.2 k a) (h2.2 k b)
  · exact fun k a b => h12 k (h1.2 k a) (h2.2 k b)
set_option maxRecDepth 100000 in
set_option maxHeartbeats 32000000 in
theorem l2Copy_own (S : Sto) (v0 v1 v2 : Value) (B : Nat) (w : World) (h : St w B S v0 v1 v2) (hn : S.nc ≤ 1048576 ∧ S.nl ≤ 1048576 ∧ S.nw ≤ 1048576) :
    Calls Tryz.prog 119 #[.agg #[v0, v1, v2]] w (NewStoK w S) := by
  obtain ⟨a0, c0, a1, c1, a2, c2, rfl, rfl, rfl⟩ := h.form
  have H : Hid (St w B S (.slice a0 S.nc c0) (.slice a1 S.nl c1) (.slice a2 S.nw c2)) := h
  obtain ⟨hn0, hn1, hn2⟩ := hn
  obtain ⟨i0, hi0, hz00, hz10, hz20⟩ := info_parts info_Cell
  obtain ⟨i1, hi1, hz01, hz11, hz21⟩ := info_parts info_Lock
  obtain ⟨i2, hi2, hz02, hz12, hz22⟩ := info_parts info_Write
  have hCP : Cp w (.slice a0 S.nc c0) (.slice a1 S.nl c1) (.slice a2 S.nw c2) ((w.alloc (.cells #[.slice a0 S.nc c0, .slice a1 S.nl c1, .slice a2 S.nw c2] 28)).alloc (.cells #[.slice none 0 0, .slice none 0 0, .slice none 0 0] 28)).drew := ⟨(Blk3.new w _ _ _ _).alloc _, ((below_alloc _ _).alloc (by simp) _).drew⟩
  have hRB : Blk3 ((w.alloc (.cells #[.slice a0 S.nc c0, .slice a1 S.nl c1, .slice a2 S.nw c2] 28)).alloc (.cells #[.slice none 0 0, .slice none 0 0, .slice none 0 0] 28)).drew (w.heap.size + 1) (.slice none 0 0) (.slice none 0 0) (.slice none 0 0) := by
    have := Blk3.new (w.alloc (.cells #[.slice a0 S.nc c0, .slice a1 S.nl c1, .slice a2 S.nw c2] 28)) (.slice none 0 0) (.slice none 0 0) (.slice none 0 0) 28
    rw [World.size_alloc] at this
    exact this
  have hZ0 : ((w.alloc (.cells #[.slice a0 S.nc c0, .slice a1 S.nl c1, .slice a2 S.nw c2] 28)).alloc (.cells #[.slice none 0 0, .slice none 0 0, .slice none 0 0] 28)).drew.heap.size = w.heap.size + 2 := by simp
  clear h
  go_enter Tryz.func119, Tryz.ntmps119
  go_wp2_with fail
  refine wp_region_held_drew (S := Cp w (.slice a0 S.nc c0) (.slice a1 S.nl c1) (.slice a2 S.nw c2)) (by kernel_rfl) hCP (fun hS => ?_)
  generalize ((w.alloc (.cells #[.slice a0 S.nc c0, .slice a1 S.nl c1, .slice a2 S.nw c2] 28)).alloc (.cells #[.slice none 0 0, .slice none 0 0, .slice none 0 0] 28)).drew = y0 at hCP hRB hZ0 hS ⊢
  have RB : Hid (Blk3 y0 (w.heap.size + 1) (.slice none 0 0) (.slice none 0 0) (.slice none 0 0)) := hRB
  have Z0 : Hid (y0.heap.size = w.heap.size + 2) := hZ0
  clear hCP hRB hZ0
  refine tkH 1 ?_ hS (fun wx hx => ?_) ?_; rotate_left
  · obtain ⟨⟨⟨hx0, hx1, hx2⟩, _⟩, _⟩ := hx; go_simp; try with_reducible rfl
  refine tkH 2 ?_ hS (fun wx hx => ?_) ?_; rotate_left
  · obtain ⟨⟨⟨hx0, hx1, hx2⟩, _⟩, _⟩ := hx; go_simp; try with_reducible rfl
  refine tkH 5 ?_ hS (fun wx hx => ?_) ?_; rotate_left
  · obtain ⟨⟨⟨hx0, hx1, hx2⟩, _⟩, _⟩ := hx; go_simp; try with_reducible rfl
  refine tkH 6 ?_ hS (fun wx hx => ?_) ?_; rotate_left
  · obtain ⟨⟨⟨hx0, hx1, hx2⟩, _⟩, _⟩ := hx; go_simp; try with_reducible rfl
  refine tkH 9 ?_ hS (fun wx hx => ?_) ?_; rotate_left
  · obtain ⟨⟨⟨hx0, hx1, hx2⟩, _⟩, _⟩ := hx; go_simp; try with_reducible rfl
  refine tkH 10 ?_ hS (fun wx hx => ?_) ?_; rotate_left
  · obtain ⟨⟨⟨hx0, hx1, hx2⟩, _⟩, _⟩ := hx; go_simp; try with_reducible rfl
  refine wpAnyH_ready (rs := [0, 4, 8]) (by kernel_rfl) (by simp) ?_
  refine AllReadyH.cons rfl (fun K hK => ?_) (AllReadyH.cons rfl (fun K hK => ?_) (AllReadyH.cons rfl (fun K hK => ?_) AllReadyH.nil))
  · have hS' : Cp w (.slice a0 S.nc c0) (.slice a1 S.nl c1) (.slice a2 S.nw c2) (y0.alloc (.cells #[] 59)) := hS.later (below_alloc _ _)
    have RB2 : Hid (Blk3 (y0.alloc (.cells #[] 59)) (w.heap.size + 1) (.slice none 0 0) (.slice none 0 0) (.slice none 0 0)) := RB.out.alloc _
    have Z1 : Hid ((y0.alloc (.cells #[] 59)).heap.size = y0.heap.size + 1) := World.size_alloc _ _
    have E0' : Hid (Em (y0.alloc (.cells #[] 59)) y0.heap.size 59) := Em.new _ _
    go_simp
    refine hK.out _ _ hS' (fun hS => ?_)
    clear hK K hS' RB
    generalize y0.alloc (.cells #[] 59) = y1 at RB2 Z1 hS E0' ⊢
    have RB := RB2
    clear RB2
    have E0 := E0'
    clear E0'
    refine wpAnyH_ready (rs := [3, 4, 8]) (by kernel_rfl) (by simp) ?_
    refine AllReadyH.cons rfl (fun K hK => ?_) (AllReadyH.cons rfl (fun K hK => ?_) (AllReadyH.cons rfl (fun K hK => ?_) AllReadyH.nil))
    · refine step_onto (by rfl) _ _ 24 (by rfl) 59 i0 (.agg #[.int .i64 0, .int .i64 0, .int .i64 0]) 3 24 Tryz.underlying24 hi0 hz00 hz10 hz20 rfl (by omega) (by omega) y1 (y0.heap.size) B S.nc S.c (.slice a0 S.nc c0) (by rfl) (by rfl) E0.out (H.out.later hS.2).1 (by omega) ?_
      intro d0 e0 y2 hrow hblk hg
      have hS' : Cp w (.slice a0 S.nc c0) (.slice a1 S.nl c1) (.slice a2 S.nw c2) y2 := hS.grown hg (by have := Z0.out; have := Z1.out; omega)
      have RB2 : Hid (Blk3 y2 (w.heap.size + 1) (.slice none 0 0) (.slice none 0 0) (.slice none 0 0)) := RB.out.grown hg (by have := Z0.out; have := Z1.out; omega)
      have Z2 : Hid (y1.heap.size ≤ y2.heap.size) := hg.size
      have R0' : Hid (Mk y2 59 3 S.nc S.c (.slice d0 S.nc e0) (y0.heap.size) (y1.heap.size) (y2.heap.size)) := ⟨hrow, hblk⟩
      clear hrow hblk hg RB E0 
      have RB := RB2
      clear RB2
      have R0 := R0'
      clear R0'
      go_simp
      refine hK.out _ _ hS' (fun hS => ?_)
      clear hK K hS'
      refine wpAnyH_ready (rs := [4, 8]) (by kernel_rfl) (by simp) ?_
      refine AllReadyH.cons rfl (fun K hK => ?_) (AllReadyH.cons rfl (fun K hK => ?_) AllReadyH.nil)
      · have hS' : Cp w (.slice a0 S.nc c0) (.slice a1 S.nl c1) (.slice a2 S.nw c2) (y2.alloc (.cells #[] 62)) := hS.later (below_alloc _ _)
        have RB2 : Hid (Blk3 (y2.alloc (.cells #[] 62)) (w.heap.size + 1) (.slice none 0 0) (.slice none 0 0) (.slice none 0 0)) := RB.out.alloc _
        have Z3 : Hid ((y2.alloc (.cells #[] 62)).heap.size = y2.heap.size + 1) := World.size_alloc _ _
        have R0' : Hid (Mk (y2.alloc (.cells #[] 62)) 59 3 S.nc S.c (.slice d0 S.nc e0) (y0.heap.size) (y1.heap.size) (y2.heap.size)) := R0.out.later (below_alloc _ _)
        have E1' : Hid (Em (y2.alloc (.cells #[] 62)) y2.heap.size 62) := Em.new _ _
        go_simp
        refine hK.out _ _ hS' (fun hS => ?_)
        clear hK K hS' RB R0
        generalize y2.alloc (.cells #[] 62) = y3 at RB2 Z3 hS R0' E1' ⊢
        have RB := RB2
        clear RB2
        have R0 := R0'
        clear R0'
        have E1 := E1'
        clear E1'
        refine wpAnyH_ready (rs := [7, 8]) (by kernel_rfl) (by simp) ?_
        refine AllReadyH.cons rfl (fun K hK => ?_) (AllReadyH.cons rfl (fun K hK => ?_) AllReadyH.nil)
        · refine step_onto (by rfl) _ _ 25 (by rfl) 62 i1 (.agg #[.int .i64 0, .int .i64 0, .int .i64 0, .int .i64 0, .int .i64 0]) 5 40 Tryz.underlying25 hi1 hz01 hz11 hz21 rfl (by omega) (by omega) y3 (y2.heap.size) B S.nl S.l (.slice a1 S.nl c1) (by rfl) (by rfl) E1.out (H.out.later hS.2).2.1 (by omega) ?_
          intro d1 e1 y4 hrow hblk hg
          have hS' : Cp w (.slice a0 S.nc c0) (.slice a1 S.nl c1) (.slice a2 S.nw c2) y4 := hS.grown hg (by have := Z0.out; have := Z1.out; have := Z2.out; have := Z3.out; omega)
          have RB2 : Hid (Blk3 y4 (w.heap.size + 1) (.slice none 0 0) (.slice none 0 0) (.slice none 0 0)) := RB.out.grown hg (by have := Z0.out; have := Z1.out; have := Z2.out; have := Z3.out; omega)
          have Z4 : Hid (y3.heap.size ≤ y4.heap.size) := hg.size
          have R0' : Hid (Mk y4 59 3 S.nc S.c (.slice d0 S.nc e0) (y0.heap.size) (y1.heap.size) (y2.heap.size)) := R0.out.grown hg (fun k hk => by have := Z0.out; have := Z1.out; have := Z2.out; have := Z3.out; omega)
          have R1' : Hid (Mk y4 62 5 S.nl S.l (.slice d1 S.nl e1) (y2.heap.size) (y3.heap.size) (y4.heap.size)) := ⟨hrow, hblk⟩
          clear hrow hblk hg RB E1 R0
          have RB := RB2
          clear RB2
          have R0 := R0'
          clear R0'
          have R1 := R1'
          clear R1'
          go_simp
          refine hK.out _ _ hS' (fun hS => ?_)
          clear hK K hS'
          refine rdH 8 (fun K hK => ?_)
          have hS' : Cp w (.slice a0 S.nc c0) (.slice a1 S.nl c1) (.slice a2 S.nw c2) (y4.alloc (.cells #[] 36)) := hS.later (below_alloc _ _)
          have RB2 : Hid (Blk3 (y4.alloc (.cells #[] 36)) (w.heap.size + 1) (.slice none 0 0) (.slice none 0 0) (.slice none 0 0)) := RB.out.alloc _
          have Z5 : Hid ((y4.alloc (.cells #[] 36)).heap.size = y4.heap.size + 1) := World.size_alloc _ _
          have R0' : Hid (Mk (y4.alloc (.cells #[] 36)) 59 3 S.nc S.c (.slice d0 S.nc e0) (y0.heap.size) (y1.heap.size) (y2.heap.size)) := R0.out.later (below_alloc _ _)
          have R1' : Hid (Mk (y4.alloc (.cells #[] 36)) 62 5 S.nl S.l (.slice d1 S.nl e1) (y2.heap.size) (y3.heap.size) (y4.heap.size)) := R1.out.later (below_alloc _ _)
          have E2' : Hid (Em (y4.alloc (.cells #[] 36)) y4.heap.size 36) := Em.new _ _
          go_simp
          refine hK.out _ _ hS' (fun hS => ?_)
          clear hK K hS' RB R0 R1
          generalize y4.alloc (.cells #[] 36) = y5 at RB2 Z5 hS R0' R1' E2' ⊢
          have RB := RB2
          clear RB2
          have R0 := R0'
          clear R0'
          have R1 := R1'
          clear R1'
          have E2 := E2'
          clear E2'
          refine rdH 11 (fun K hK => ?_)
          refine step_onto (by rfl) _ _ 26 (by rfl) 36 i2 (.agg #[.int .i64 0, .int .i64 0, .int .i64 0, .int .i64 0]) 4 32 Tryz.underlying26 hi2 hz02 hz12 hz22 rfl (by omega) (by omega) y5 (y4.heap.size) B S.nw S.k (.slice a2 S.nw c2) (by rfl) (by rfl) E2.out (H.out.later hS.2).2.2 (by omega) ?_
          intro d2 e2 y6 hrow hblk hg
          have hS' : Cp w (.slice a0 S.nc c0) (.slice a1 S.nl c1) (.slice a2 S.nw c2) y6 := hS.grown hg (by have := Z0.out; have := Z1.out; have := Z2.out; have := Z3.out; have := Z4.out; have := Z5.out; omega)
          have RB2 : Hid (Blk3 y6 (w.heap.size + 1) (.slice none 0 0) (.slice none 0 0) (.slice none 0 0)) := RB.out.grown hg (by have := Z0.out; have := Z1.out; have := Z2.out; have := Z3.out; have := Z4.out; have := Z5.out; omega)
          have Z6 : Hid (y5.heap.size ≤ y6.heap.size) := hg.size
          have R0' : Hid (Mk y6 59 3 S.nc S.c (.slice d0 S.nc e0) (y0.heap.size) (y1.heap.size) (y2.heap.size)) := R0.out.grown hg (fun k hk => by have := Z0.out; have := Z1.out; have := Z2.out; have := Z3.out; have := Z4.out; have := Z5.out; omega)
          have R1' : Hid (Mk y6 62 5 S.nl S.l (.slice d1 S.nl e1) (y2.heap.size) (y3.heap.size) (y4.heap.size)) := R1.out.grown hg (fun k hk => by have := Z0.out; have := Z1.out; have := Z2.out; have := Z3.out; have := Z4.out; have := Z5.out; omega)
          have R2' : Hid (Mk y6 36 4 S.nw S.k (.slice d2 S.nw e2) (y4.heap.size) (y5.heap.size) (y6.heap.size)) := ⟨hrow, hblk⟩
          clear hrow hblk hg RB E2 R0 R1
          have RB := RB2
          clear RB2
          have R0 := R0'
          clear R0'
          have R1 := R1'
          clear R1'
          have R2 := R2'
          clear R2'
          go_simp
          refine hK.out _ _ hS' (fun hS => ?_)
          clear hK K hS'
          refine tkH 12 ?_ hS (fun wx hx => ?_) ?_; rotate_left
          · obtain ⟨⟨⟨hx0, hx1, hx2⟩, _⟩, _⟩ := hx; go_simp; try with_reducible rfl
          refine rdH 13 (fun K hK => ?_)
          obtain ⟨⟨y0', y1', y2'⟩, z0', z1', z2'⟩ := RB.out
          have LF : Hid (NewStoK w S (.returned (.agg #[.slice d0 S.nc e0, .slice d1 S.nl e1, .slice d2 S.nw e2])) (((y6.setCell ⟨w.heap.size + 1, 0, none⟩ (.slice d0 S.nc e0)).setCell ⟨w.heap.size + 1, 1, none⟩ (.slice d1 S.nl e1)).setCell ⟨w.heap.size + 1, 2, none⟩ (.slice d2 S.nw e2))) := copy_leaf hS.2 R0.out R1.out R2.out (by have := Z0.out; have := Z1.out; have := Z2.out; have := Z3.out; have := Z4.out; have := Z5.out; have := Z6.out; omega) (fun k h1 h2 => by have := Z0.out; have := Z1.out; have := Z2.out; have := Z3.out; have := Z4.out; have := Z5.out; have := Z6.out; omega) (fun k h1 h2 => by have := Z0.out; have := Z1.out; have := Z2.out; have := Z3.out; have := Z4.out; have := Z5.out; have := Z6.out; omega) (fun k h1 h2 => by have := Z0.out; have := Z1.out; have := Z2.out; have := Z3.out; have := Z4.out; have := Z5.out; have := Z6.out; omega)
          have hS' : Cp w (.slice a0 S.nc c0) (.slice a1 S.nl c1) (.slice a2 S.nw c2) (((y6.setCell ⟨w.heap.size + 1, 0, none⟩ (.slice d0 S.nc e0)).setCell ⟨w.heap.size + 1, 1, none⟩ (.slice d1 S.nl e1)).setCell ⟨w.heap.size + 1, 2, none⟩ (.slice d2 S.nw e2)) := ⟨((hS.1.setFar (p := ⟨w.heap.size + 1, 0, none⟩) (by simp) _).setFar (p := ⟨w.heap.size + 1, 1, none⟩) (by simp) _).setFar (p := ⟨w.heap.size + 1, 2, none⟩) (by simp) _, ((hS.2.setCell (Nat.le_succ _) _).setCell (Nat.le_succ _) _).setCell (Nat.le_succ _) _⟩
          go_simp
          refine hK.out _ _ hS' (fun hS => ?_)
          clear hK K hS'
          refine wpAnyH_done (by kernel_rfl) ?_ _
          go_simp
          go_wp2
          exact bodyPost_ret (v := .agg #[.slice d0 S.nc e0, .slice d1 S.nl e1, .slice d2 S.nw e2]) (by simp [results, Tryz.results119, go_sem, y0', y1', y2']) rfl LF.out
        · have hS' : Cp w (.slice a0 S.nc c0) (.slice a1 S.nl c1) (.slice a2 S.nw c2) (y3.alloc (.cells #[] 36)) := hS.later (below_alloc _ _)
          have RB2 : Hid (Blk3 (y3.alloc (.cells #[] 36)) (w.heap.size + 1) (.slice none 0 0) (.slice none 0 0) (.slice none 0 0)) := RB.out.alloc _
          have Z7 : Hid ((y3.alloc (.cells #[] 36)).heap.size = y3.heap.size + 1) := World.size_alloc _ _
          have R0' : Hid (Mk (y3.alloc (.cells #[] 36)) 59 3 S.nc S.c (.slice d0 S.nc e0) (y0.heap.size) (y1.heap.size) (y2.heap.size)) := R0.out.later (below_alloc _ _)
          have E1' : Hid (Em (y3.alloc (.cells #[] 36)) y2.heap.size 62) := E1.out.later (below_alloc _ _)
          have E2' : Hid (Em (y3.alloc (.cells #[] 36)) y3.heap.size 36) := Em.new _ _
          go_simp
          refine hK.out _ _ hS' (fun hS => ?_)
          clear hK K hS' RB E1 R0
          generalize y3.alloc (.cells #[] 36) = y7 at RB2 Z7 hS R0' E1' E2' ⊢
          have RB := RB2
          clear RB2
          have R0 := R0'
          clear R0'
          have E1 := E1'
          clear E1'
          have E2 := E2'
          clear E2'
          refine rdH 7 (fun K hK => ?_)
          refine step_onto (by rfl) _ _ 25 (by rfl) 62 i1 (.agg #[.int .i64 0, .int .i64 0, .int .i64 0, .int .i64 0, .int .i64 0]) 5 40 Tryz.underlying25 hi1 hz01 hz11 hz21 rfl (by omega) (by omega) y7 (y2.heap.size) B S.nl S.l (.slice a1 S.nl c1) (by rfl) (by rfl) E1.out (H.out.later hS.2).2.1 (by omega) ?_
          intro d1 e1 y8 hrow hblk hg
          have hS' : Cp w (.slice a0 S.nc c0) (.slice a1 S.nl c1) (.slice a2 S.nw c2) y8 := hS.grown hg (by have := Z0.out; have := Z1.out; have := Z2.out; have := Z3.out; have := Z7.out; omega)
          have RB2 : Hid (Blk3 y8 (w.heap.size + 1) (.slice none 0 0) (.slice none 0 0) (.slice none 0 0)) := RB.out.grown hg (by have := Z0.out; have := Z1.out; have := Z2.out; have := Z3.out; have := Z7.out; omega)
          have Z8 : Hid (y7.heap.size ≤ y8.heap.size) := hg.size
          have R0' : Hid (Mk y8 59 3 S.nc S.c (.slice d0 S.nc e0) (y0.heap.size) (y1.heap.size) (y2.heap.size)) := R0.out.grown hg (fun k hk => by have := Z0.out; have := Z1.out; have := Z2.out; have := Z3.out; have := Z7.out; omega)
          have E2' : Hid (Em y8 y3.heap.size 36) := E2.out.grown hg (by have := Z0.out; have := Z1.out; have := Z2.out; have := Z3.out; have := Z7.out; omega)
          have R1' : Hid (Mk y8 62 5 S.nl S.l (.slice d1 S.nl e1) (y2.heap.size) (y7.heap.size) (y8.heap.size)) := ⟨hrow, hblk⟩
          clear hrow hblk hg RB E1 R0 E2
          have RB := RB2
          clear RB2
          have R0 := R0'
          clear R0'
          have E2 := E2'
          clear E2'
          have R1 := R1'
          clear R1'
          go_simp
          refine hK.out _ _ hS' (fun hS => ?_)
          clear hK K hS'
          refine rdH 11 (fun K hK => ?_)
          refine step_onto (by rfl) _ _ 26 (by rfl) 36 i2 (.agg #[.int .i64 0, .int .i64 0, .int .i64 0, .int .i64 0]) 4 32 Tryz.underlying26 hi2 hz02 hz12 hz22 rfl (by omega) (by omega) y8 (y3.heap.size) B S.nw S.k (.slice a2 S.nw c2) (by rfl) (by rfl) E2.out (H.out.later hS.2).2.2 (by omega) ?_
          intro d2 e2 y9 hrow hblk hg
          have hS' : Cp w (.slice a0 S.nc c0) (.slice a1 S.nl c1) (.slice a2 S.nw c2) y9 := hS.grown hg (by have := Z0.out; have := Z1.out; have := Z2.out; have := Z3.out; have := Z7.out; have := Z8.out; omega)
          have RB2 : Hid (Blk3 y9 (w.heap.size + 1) (.slice none 0 0) (.slice none 0 0) (.slice none 0 0)) := RB.out.grown hg (by have := Z0.out; have := Z1.out; have := Z2.out; have := Z3.out; have := Z7.out; have := Z8.out; omega)
          have Z9 : Hid (y8.heap.size ≤ y9.heap.size) := hg.size
          have R0' : Hid (Mk y9 59 3 S.nc S.c (.slice d0 S.nc e0) (y0.heap.size) (y1.heap.size) (y2.heap.size)) := R0.out.grown hg (fun k hk => by have := Z0.out; have := Z1.out; have := Z2.out; have := Z3.out; have := Z7.out; have := Z8.out; omega)
          have R1' : Hid (Mk y9 62 5 S.nl S.l (.slice d1 S.nl e1) (y2.heap.size) (y7.heap.size) (y8.heap.size)) := R1.out.grown hg (fun k hk => by have := Z0.out; have := Z1.out; have := Z2.out; have := Z3.out; have := Z7.out; have := Z8.out; omega)
          have R2' : Hid (Mk y9 36 4 S.nw S.k (.slice d2 S.nw e2) (y3.heap.size) (y8.heap.size) (y9.heap.size)) := ⟨hrow, hblk⟩
          clear hrow hblk hg RB E2 R0 R1
          have RB := RB2
          clear RB2
          have R0 := R0'
          clear R0'
          have R1 := R1'
          clear R1'
          have R2 := R2'
          clear R2'
          go_simp
          refine hK.out _ _ hS' (fun hS => ?_)
          clear hK K hS'
          refine tkH 12 ?_ hS (fun wx hx => ?_) ?_; rotate_left
          · obtain ⟨⟨⟨hx0, hx1, hx2⟩, _⟩, _⟩ := hx; go_simp; try with_reducible rfl
          refine rdH 13 (fun K hK => ?_)
          obtain ⟨⟨y0', y1', y2'⟩, z0', z1', z2'⟩ := RB.out
          have LF : Hid (NewStoK w S (.returned (.agg #[.slice d0 S.nc e0, .slice d1 S.nl e1, .slice d2 S.nw e2])) (((y9.setCell ⟨w.heap.size + 1, 0, none⟩ (.slice d0 S.nc e0)).setCell ⟨w.heap.size + 1, 1, none⟩ (.slice d1 S.nl e1)).setCell ⟨w.heap.size + 1, 2, none⟩ (.slice d2 S.nw e2))) := copy_leaf hS.2 R0.out R1.out R2.out (by have := Z0.out; have := Z1.out; have := Z2.out; have := Z3.out; have := Z7.out; have := Z8.out; have := Z9.out; omega) (fun k h1 h2 => by have := Z0.out; have := Z1.out; have := Z2.out; have := Z3.out; have := Z7.out; have := Z8.out; have := Z9.out; omega) (fun k h1 h2 => by have := Z0.out; have := Z1.out; have := Z2.out; have := Z3.out; have := Z7.out; have := Z8.out; have := Z9.out; omega) (fun k h1 h2 => by have := Z0.out; have := Z1.out; have := Z2.out; have := Z3.out; have := Z7.out; have := Z8.out; have := Z9.out; omega)
          have hS' : Cp w (.slice a0 S.nc c0) (.slice a1 S.nl c1) (.slice a2 S.nw c2) (((y9.setCell ⟨w.heap.size + 1, 0, none⟩ (.slice d0 S.nc e0)).setCell ⟨w.heap.size + 1, 1, none⟩ (.slice d1 S.nl e1)).setCell ⟨w.heap.size + 1, 2, none⟩ (.slice d2 S.nw e2)) := ⟨((hS.1.setFar (p := ⟨w.heap.size + 1, 0, none⟩) (by simp) _).setFar (p := ⟨w.heap.size + 1, 1, none⟩) (by simp) _).setFar (p := ⟨w.heap.size + 1, 2, none⟩) (by simp) _, ((hS.2.setCell (Nat.le_succ _) _).setCell (Nat.le_succ _) _).setCell (Nat.le_succ _) _⟩
          go_simp
          refine hK.out _ _ hS' (fun hS => ?_)
          clear hK K hS'
          refine wpAnyH_done (by kernel_rfl) ?_ _
          go_simp
          go_wp2
          exact bodyPost_ret (v := .agg #[.slice d0 S.nc e0, .slice d1 S.nl e1, .slice d2 S.nw e2]) (by simp [results, Tryz.results119, go_sem, y0', y1', y2']) rfl LF.out
      · have hS' : Cp w (.slice a0 S.nc c0) (.slice a1 S.nl c1) (.slice a2 S.nw c2) (y2.alloc (.cells #[] 36)) := hS.later (below_alloc _ _)
        have RB2 : Hid (Blk3 (y2.alloc (.cells #[] 36)) (w.heap.size + 1) (.slice none 0 0) (.slice none 0 0) (.slice none 0 0)) := RB.out.alloc _
        have Z10 : Hid ((y2.alloc (.cells #[] 36)).heap.size = y2.heap.size + 1) := World.size_alloc _ _
        have R0' : Hid (Mk (y2.alloc (.cells #[] 36)) 59 3 S.nc S.c (.slice d0 S.nc e0) (y0.heap.size) (y1.heap.size) (y2.heap.size)) := R0.out.later (below_alloc _ _)
        have E2' : Hid (Em (y2.alloc (.cells #[] 36)) y2.heap.size 36) := Em.new _ _
        go_simp
        refine hK.out _ _ hS' (fun hS => ?_)
        clear hK K hS' RB R0
        generalize y2.alloc (.cells #[] 36) = y10 at RB2 Z10 hS R0' E2' ⊢
        have RB := RB2
        clear RB2
        have R0 := R0'
        clear R0'
        have E2 := E2'
        clear E2'
        refine rdH 4 (fun K hK => ?_)
        have hS' : Cp w (.slice a0 S.nc c0) (.slice a1 S.nl c1) (.slice a2 S.nw c2) (y10.alloc (.cells #[] 62)) := hS.later (below_alloc _ _)
        have RB2 : Hid (Blk3 (y10.alloc (.cells #[] 62)) (w.heap.size + 1) (.slice none 0 0) (.slice none 0 0) (.slice none 0 0)) := RB.out.alloc _
        have Z11 : Hid ((y10.alloc (.cells #[] 62)).heap.size = y10.heap.size + 1) := World.size_alloc _ _
        have R0' : Hid (Mk (y10.alloc (.cells #[] 62)) 59 3 S.nc S.c (.slice d0 S.nc e0) (y0.heap.size) (y1.heap.size) (y2.heap.size)) := R0.out.later (below_alloc _ _)
        have E2' : Hid (Em (y10.alloc (.cells #[] 62)) y2.heap.size 36) := E2.out.later (below_alloc _ _)
        have E1' : Hid (Em (y10.alloc (.cells #[] 62)) y10.heap.size 62) := Em.new _ _
        go_simp
        refine hK.out _ _ hS' (fun hS => ?_)
        clear hK K hS' RB E2 R0
        generalize y10.alloc (.cells #[] 62) = y11 at RB2 Z11 hS R0' E2' E1' ⊢
        have RB := RB2
        clear RB2
        have R0 := R0'
        clear R0'
        have E1 := E1'
        clear E1'
        have E2 := E2'
        clear E2'
        refine rdH 7 (fun K hK => ?_)
        refine step_onto (by rfl) _ _ 25 (by rfl) 62 i1 (.agg #[.int .i64 0, .int .i64 0, .int .i64 0, .int .i64 0, .int .i64 0]) 5 40 Tryz.underlying25 hi1 hz01 hz11 hz21 rfl (by omega) (by omega) y11 (y10.heap.size) B S.nl S.l (.slice a1 S.nl c1) (by rfl) (by rfl) E1.out (H.out.later hS.2).2.1 (by omega) ?_
        intro d1 e1 y12 hrow hblk hg
        have hS' : Cp w (.slice a0 S.nc c0) (.slice a1 S.nl c1) (.slice a2 S.nw c2) y12 := hS.grown hg (by have := Z0.out; have := Z1.out; have := Z2.out; have := Z10.out; have := Z11.out; omega)
        have RB2 : Hid (Blk3 y12 (w.heap.size + 1) (.slice none 0 0) (.slice none 0 0) (.slice none 0 0)) := RB.out.grown hg (by have := Z0.out; have := Z1.out; have := Z2.out; have := Z10.out; have := Z11.out; omega)
        have Z12 : Hid (y11.heap.size ≤ y12.heap.size) := hg.size
        have R0' : Hid (Mk y12 59 3 S.nc S.c (.slice d0 S.nc e0) (y0.heap.size) (y1.heap.size) (y2.heap.size)) := R0.out.grown hg (fun k hk => by have := Z0.out; have := Z1.out; have := Z2.out; have := Z10.out; have := Z11.out; omega)
        have E2' : Hid (Em y12 y2.heap.size 36) := E2.out.grown hg (by have := Z0.out; have := Z1.out; have := Z2.out; have := Z10.out; have := Z11.out; omega)
        have R1' : Hid (Mk y12 62 5 S.nl S.l (.slice d1 S.nl e1) (y10.heap.size) (y11.heap.size) (y12.heap.size)) := ⟨hrow, hblk⟩
        clear hrow hblk hg RB E1 R0 E2
        have RB := RB2
        clear RB2
        have R0 := R0'
        clear R0'
        have E2 := E2'
        clear E2'
        have R1 := R1'
        clear R1'
        go_simp
        refine hK.out _ _ hS' (fun hS => ?_)
        clear hK K hS'
        refine rdH 11 (fun K hK => ?_)
        refine step_onto (by rfl) _ _ 26 (by rfl) 36 i2 (.agg #[.int .i64 0, .int .i64 0, .int .i64 0, .int .i64 0]) 4 32 Tryz.underlying26 hi2 hz02 hz12 hz22 rfl (by omega) (by omega) y12 (y2.heap.size) B S.nw S.k (.slice a2 S.nw c2) (by rfl) (by rfl) E2.out (H.out.later hS.2).2.2 (by omega) ?_
        intro d2 e2 y13 hrow hblk hg
        have hS' : Cp w (.slice a0 S.nc c0) (.slice a1 S.nl c1) (.slice a2 S.nw c2) y13 := hS.grown hg (by have := Z0.out; have := Z1.out; have := Z2.out; have := Z10.out; have := Z11.out; have := Z12.out; omega)
        have RB2 : Hid (Blk3 y13 (w.heap.size + 1) (.slice none 0 0) (.slice none 0 0) (.slice none 0 0)) := RB.out.grown hg (by have := Z0.out; have := Z1.out; have := Z2.out; have := Z10.out; have := Z11.out; have := Z12.out; omega)
        have Z13 : Hid (y12.heap.size ≤ y13.heap.size) := hg.size
        have R0' : Hid (Mk y13 59 3 S.nc S.c (.slice d0 S.nc e0) (y0.heap.size) (y1.heap.size) (y2.heap.size)) := R0.out.grown hg (fun k hk => by have := Z0.out; have := Z1.out; have := Z2.out; have := Z10.out; have := Z11.out; have := Z12.out; omega)
        have R1' : Hid (Mk y13 62 5 S.nl S.l (.slice d1 S.nl e1) (y10.heap.size) (y11.heap.size) (y12.heap.size)) := R1.out.grown hg (fun k hk => by have := Z0.out; have := Z1.out; have := Z2.out; have := Z10.out; have := Z11.out; have := Z12.out; omega)
        have R2' : Hid (Mk y13 36 4 S.nw S.k (.slice d2 S.nw e2) (y2.heap.size) (y12.heap.size) (y13.heap.size)) := ⟨hrow, hblk⟩
        clear hrow hblk hg RB E2 R0 R1
        have RB := RB2
        clear RB2
        have R0 := R0'
        clear R0'
        have R1 := R1'
        clear R1'
        have R2 := R2'
        clear R2'
        go_simp
        refine hK.out _ _ hS' (fun hS => ?_)
        clear hK K hS'
        refine tkH 12 ?_ hS (fun wx hx => ?_) ?_; rotate_left
        · obtain ⟨⟨⟨hx0, hx1, hx2⟩, _⟩, _⟩ := hx; go_simp; try with_reducible rfl
        refine rdH 13 (fun K hK => ?_)
        obtain ⟨⟨y0', y1', y2'⟩, z0', z1', z2'⟩ := RB.out
        have LF : Hid (NewStoK w S (.returned (.agg #[.slice d0 S.nc e0, .slice d1 S.nl e1, .slice d2 S.nw e2])) (((y13.setCell ⟨w.heap.size + 1, 0, none⟩ (.slice d0 S.nc e0)).setCell ⟨w.heap.size + 1, 1, none⟩ (.slice d1 S.nl e1)).setCell ⟨w.heap.size + 1, 2, none⟩ (.slice d2 S.nw e2))) := copy_leaf hS.2 R0.out R1.out R2.out (by have := Z0.out; have := Z1.out; have := Z2.out; have := Z10.out; have := Z11.out; have := Z12.out; have := Z13.out; omega) (fun k h1 h2 => by have := Z0.out; have := Z1.out; have := Z2.out; have := Z10.out; have := Z11.out; have := Z12.out; have := Z13.out; omega) (fun k h1 h2 => by have := Z0.out; have := Z1.out; have := Z2.out; have := Z10.out; have := Z11.out; have := Z12.out; have := Z13.out; omega) (fun k h1 h2 => by have := Z0.out; have := Z1.out; have := Z2.out; have := Z10.out; have := Z11.out; have := Z12.out; have := Z13.out; omega)
        have hS' : Cp w (.slice a0 S.nc c0) (.slice a1 S.nl c1) (.slice a2 S.nw c2) (((y13.setCell ⟨w.heap.size + 1, 0, none⟩ (.slice d0 S.nc e0)).setCell ⟨w.heap.size + 1, 1, none⟩ (.slice d1 S.nl e1)).setCell ⟨w.heap.size + 1, 2, none⟩ (.slice d2 S.nw e2)) := ⟨((hS.1.setFar (p := ⟨w.heap.size + 1, 0, none⟩) (by simp) _).setFar (p := ⟨w.heap.size + 1, 1, none⟩) (by simp) _).setFar (p := ⟨w.heap.size + 1, 2, none⟩) (by simp) _, ((hS.2.setCell (Nat.le_succ _) _).setCell (Nat.le_succ _) _).setCell (Nat.le_succ _) _⟩
        go_simp
        refine hK.out _ _ hS' (fun hS => ?_)
        clear hK K hS'
        refine wpAnyH_done (by kernel_rfl) ?_ _
        go_simp
        go_wp2
        exact bodyPost_ret (v := .agg #[.slice d0 S.nc e0, .slice d1 S.nl e1, .slice d2 S.nw e2]) (by simp [results, Tryz.results119, go_sem, y0', y1', y2']) rfl LF.out
    · have hS' : Cp w (.slice a0 S.nc c0) (.slice a1 S.nl c1) (.slice a2 S.nw c2) (y1.alloc (.cells #[] 62)) := hS.later (below_alloc _ _)
      have RB2 : Hid (Blk3 (y1.alloc (.cells #[] 62)) (w.heap.size + 1) (.slice none 0 0) (.slice none 0 0) (.slice none 0 0)) := RB.out.alloc _
      have Z14 : Hid ((y1.alloc (.cells #[] 62)).heap.size = y1.heap.size + 1) := World.size_alloc _ _
      have E0' : Hid (Em (y1.alloc (.cells #[] 62)) y0.heap.size 59) := E0.out.later (below_alloc _ _)
      have E1' : Hid (Em (y1.alloc (.cells #[] 62)) y1.heap.size 62) := Em.new _ _
      go_simp
      refine hK.out _ _ hS' (fun hS => ?_)
      clear hK K hS' RB E0
      generalize y1.alloc (.cells #[] 62) = y14 at RB2 Z14 hS E0' E1' ⊢
      have RB := RB2
      clear RB2
      have E0 := E0'
      clear E0'
      have E1 := E1'
      clear E1'
      refine wpAnyH_ready (rs := [3, 8]) (by kernel_rfl) (by simp) ?_
      refine AllReadyH.cons rfl (fun K hK => ?_) (AllReadyH.cons rfl (fun K hK => ?_) AllReadyH.nil)
      · refine step_onto (by rfl) _ _ 24 (by rfl) 59 i0 (.agg #[.int .i64 0, .int .i64 0, .int .i64 0]) 3 24 Tryz.underlying24 hi0 hz00 hz10 hz20 rfl (by omega) (by omega) y14 (y0.heap.size) B S.nc S.c (.slice a0 S.nc c0) (by rfl) (by rfl) E0.out (H.out.later hS.2).1 (by omega) ?_
        intro d0 e0 y15 hrow hblk hg
        have hS' : Cp w (.slice a0 S.nc c0) (.slice a1 S.nl c1) (.slice a2 S.nw c2) y15 := hS.grown hg (by have := Z0.out; have := Z1.out; have := Z14.out; omega)
        have RB2 : Hid (Blk3 y15 (w.heap.size + 1) (.slice none 0 0) (.slice none 0 0) (.slice none 0 0)) := RB.out.grown hg (by have := Z0.out; have := Z1.out; have := Z14.out; omega)
        have Z15 : Hid (y14.heap.size ≤ y15.heap.size) := hg.size
        have E1' : Hid (Em y15 y1.heap.size 62) := E1.out.grown hg (by have := Z0.out; have := Z1.out; have := Z14.out; omega)
        have R0' : Hid (Mk y15 59 3 S.nc S.c (.slice d0 S.nc e0) (y0.heap.size) (y14.heap.size) (y15.heap.size)) := ⟨hrow, hblk⟩
        clear hrow hblk hg RB E0 E1
        have RB := RB2
        clear RB2
        have E1 := E1'
        clear E1'
        have R0 := R0'
        clear R0'
        go_simp
        refine hK.out _ _ hS' (fun hS => ?_)
        clear hK K hS'
        refine wpAnyH_ready (rs := [7, 8]) (by kernel_rfl) (by simp) ?_
        refine AllReadyH.cons rfl (fun K hK => ?_) (AllReadyH.cons rfl (fun K hK => ?_) AllReadyH.nil)
        · refine step_onto (by rfl) _ _ 25 (by rfl) 62 i1 (.agg #[.int .i64 0, .int .i64 0, .int .i64 0, .int .i64 0, .int .i64 0]) 5 40 Tryz.underlying25 hi1 hz01 hz11 hz21 rfl (by omega) (by omega) y15 (y1.heap.size) B S.nl S.l (.slice a1 S.nl c1) (by rfl) (by rfl) E1.out (H.out.later hS.2).2.1 (by omega) ?_
          intro d1 e1 y16 hrow hblk hg
          have hS' : Cp w (.slice a0 S.nc c0) (.slice a1 S.nl c1) (.slice a2 S.nw c2) y16 := hS.grown hg (by have := Z0.out; have := Z1.out; have := Z14.out; have := Z15.out; omega)
          have RB2 : Hid (Blk3 y16 (w.heap.size + 1) (.slice none 0 0) (.slice none 0 0) (.slice none 0 0)) := RB.out.grown hg (by have := Z0.out; have := Z1.out; have := Z14.out; have := Z15.out; omega)
          have Z16 : Hid (y15.heap.size ≤ y16.heap.size) := hg.size
          have R0' : Hid (Mk y16 59 3 S.nc S.c (.slice d0 S.nc e0) (y0.heap.size) (y14.heap.size) (y15.heap.size)) := R0.out.grown hg (fun k hk => by have := Z0.out; have := Z1.out; have := Z14.out; have := Z15.out; omega)
          have R1' : Hid (Mk y16 62 5 S.nl S.l (.slice d1 S.nl e1) (y1.heap.size) (y15.heap.size) (y16.heap.size)) := ⟨hrow, hblk⟩
          clear hrow hblk hg RB E1 R0
          have RB := RB2
          clear RB2
          have R0 := R0'
          clear R0'
          have R1 := R1'
          clear R1'
          go_simp
          refine hK.out _ _ hS' (fun hS => ?_)
          clear hK K hS'
          refine rdH 8 (fun K hK => ?_)
          have hS' : Cp w (.slice a0 S.nc c0) (.slice a1 S.nl c1) (.slice a2 S.nw c2) (y16.alloc (.cells #[] 36)) := hS.later (below_alloc _ _)
          have RB2 : Hid (Blk3 (y16.alloc (.cells #[] 36)) (w.heap.size + 1) (.slice none 0 0) (.slice none 0 0) (.slice none 0 0)) := RB.out.alloc _
          have Z17 : Hid ((y16.alloc (.cells #[] 36)).heap.size = y16.heap.size + 1) := World.size_alloc _ _
          have R0' : Hid (Mk (y16.alloc (.cells #[] 36)) 59 3 S.nc S.c (.slice d0 S.nc e0) (y0.heap.size) (y14.heap.size) (y15.heap.size)) := R0.out.later (below_alloc _ _)
          have R1' : Hid (Mk (y16.alloc (.cells #[] 36)) 62 5 S.nl S.l (.slice d1 S.nl e1) (y1.heap.size) (y15.heap.size) (y16.heap.size)) := R1.out.later (below_alloc _ _)
          have E2' : Hid (Em (y16.alloc (.cells #[] 36)) y16.heap.size 36) := Em.new _ _
          go_simp
          refine hK.out _ _ hS' (fun hS => ?_)
          clear hK K hS' RB R0 R1
          generalize y16.alloc (.cells #[] 36) = y17 at RB2 Z17 hS R0' R1' E2' ⊢
          have RB := RB2
          clear RB2
          have R0 := R0'
          clear R0'
          have R1 := R1'
          clear R1'
          have E2 := E2'
          clear E2'
          refine rdH 11 (fun K hK => ?_)
          refine step_onto (by rfl) _ _ 26 (by rfl) 36 i2 (.agg #[.int .i64 0, .int .i64 0, .int .i64 0, .int .i64 0]) 4 32 Tryz.underlying26 hi2 hz02 hz12 hz22 rfl (by omega) (by omega) y17 (y16.heap.size) B S.nw S.k (.slice a2 S.nw c2) (by rfl) (by rfl) E2.out (H.out.later hS.2).2.2 (by omega) ?_
          intro d2 e2 y18 hrow hblk hg
          have hS' : Cp w (.slice a0 S.nc c0) (.slice a1 S.nl c1) (.slice a2 S.nw c2) y18 := hS.grown hg (by have := Z0.out; have := Z1.out; have := Z14.out; have := Z15.out; have := Z16.out; have := Z17.out; omega)
          have RB2 : Hid (Blk3 y18 (w.heap.size + 1) (.slice none 0 0) (.slice none 0 0) (.slice none 0 0)) := RB.out.grown hg (by have := Z0.out; have := Z1.out; have := Z14.out; have := Z15.out; have := Z16.out; have := Z17.out; omega)
          have Z18 : Hid (y17.heap.size ≤ y18.heap.size) := hg.size
          have R0' : Hid (Mk y18 59 3 S.nc S.c (.slice d0 S.nc e0) (y0.heap.size) (y14.heap.size) (y15.heap.size)) := R0.out.grown hg (fun k hk => by have := Z0.out; have := Z1.out; have := Z14.out; have := Z15.out; have := Z16.out; have := Z17.out; omega)
          have R1' : Hid (Mk y18 62 5 S.nl S.l (.slice d1 S.nl e1) (y1.heap.size) (y15.heap.size) (y16.heap.size)) := R1.out.grown hg (fun k hk => by have := Z0.out; have := Z1.out; have := Z14.out; have := Z15.out; have := Z16.out; have := Z17.out; omega)
          have R2' : Hid (Mk y18 36 4 S.nw S.k (.slice d2 S.nw e2) (y16.heap.size) (y17.heap.size) (y18.heap.size)) := ⟨hrow, hblk⟩
          clear hrow hblk hg RB E2 R0 R1
          have RB := RB2
          clear RB2
          have R0 := R0'
          clear R0'
          have R1 := R1'
          clear R1'
          have R2 := R2'
          clear R2'
          go_simp
          refine hK.out _ _ hS' (fun hS => ?_)
          clear hK K hS'
          refine tkH 12 ?_ hS (fun wx hx => ?_) ?_; rotate_left
          · obtain ⟨⟨⟨hx0, hx1, hx2⟩, _⟩, _⟩ := hx; go_simp; try with_reducible rfl
          refine rdH 13 (fun K hK => ?_)
          obtain ⟨⟨y0', y1', y2'⟩, z0', z1', z2'⟩ := RB.out
          have LF : Hid (NewStoK w S (.returned (.agg #[.slice d0 S.nc e0, .slice d1 S.nl e1, .slice d2 S.nw e2])) (((y18.setCell ⟨w.heap.size + 1, 0, none⟩ (.slice d0 S.nc e0)).setCell ⟨w.heap.size + 1, 1, none⟩ (.slice d1 S.nl e1)).setCell ⟨w.heap.size + 1, 2, none⟩ (.slice d2 S.nw e2))) := copy_leaf hS.2 R0.out R1.out R2.out (by have := Z0.out; have := Z1.out; have := Z14.out; have := Z15.out; have := Z16.out; have := Z17.out; have := Z18.out; omega) (fun k h1 h2 => by have := Z0.out; have := Z1.out; have := Z14.out; have := Z15.out; have := Z16.out; have := Z17.out; have := Z18.out; omega) (fun k h1 h2 => by have := Z0.out; have := Z1.out; have := Z14.out; have := Z15.out; have := Z16.out; have := Z17.out; have := Z18.out; omega) (fun k h1 h2 => by have := Z0.out; have := Z1.out; have := Z14.out; have := Z15.out; have := Z16.out; have := Z17.out; have := Z18.out; omega)
          have hS' : Cp w (.slice a0 S.nc c0) (.slice a1 S.nl c1) (.slice a2 S.nw c2) (((y18.setCell ⟨w.heap.size + 1, 0, none⟩ (.slice d0 S.nc e0)).setCell ⟨w.heap.size + 1, 1, none⟩ (.slice d1 S.nl e1)).setCell ⟨w.heap.size + 1, 2, none⟩ (.slice d2 S.nw e2)) := ⟨((hS.1.setFar (p := ⟨w.heap.size + 1, 0, none⟩) (by simp) _).setFar (p := ⟨w.heap.size + 1, 1, none⟩) (by simp) _).setFar (p := ⟨w.heap.size + 1, 2, none⟩) (by simp) _, ((hS.2.setCell (Nat.le_succ _) _).setCell (Nat.le_succ _) _).setCell (Nat.le_succ _) _⟩
          go_simp
          refine hK.out _ _ hS' (fun hS => ?_)
          clear hK K hS'
          refine wpAnyH_done (by kernel_rfl) ?_ _
          go_simp
          go_wp2
          exact bodyPost_ret (v := .agg #[.slice d0 S.nc e0, .slice d1 S.nl e1, .slice d2 S.nw e2]) (by simp [results, Tryz.results119, go_sem, y0', y1', y2']) rfl LF.out
        · have hS' : Cp w (.slice a0 S.nc c0) (.slice a1 S.nl c1) (.slice a2 S.nw c2) (y15.alloc (.cells #[] 36)) := hS.later (below_alloc _ _)
          have RB2 : Hid (Blk3 (y15.alloc (.cells #[] 36)) (w.heap.size + 1) (.slice none 0 0) (.slice none 0 0) (.slice none 0 0)) := RB.out.alloc _
          have Z19 : Hid ((y15.alloc (.cells #[] 36)).heap.size = y15.heap.size + 1) := World.size_alloc _ _
          have R0' : Hid (Mk (y15.alloc (.cells #[] 36)) 59 3 S.nc S.c (.slice d0 S.nc e0) (y0.heap.size) (y14.heap.size) (y15.heap.size)) := R0.out.later (below_alloc _ _)
          have E1' : Hid (Em (y15.alloc (.cells #[] 36)) y1.heap.size 62) := E1.out.later (below_alloc _ _)
          have E2' : Hid (Em (y15.alloc (.cells #[] 36)) y15.heap.size 36) := Em.new _ _
          go_simp
          refine hK.out _ _ hS' (fun hS => ?_)
          clear hK K hS' RB E1 R0
          generalize y15.alloc (.cells #[] 36) = y19 at RB2 Z19 hS R0' E1' E2' ⊢
          have RB := RB2
          clear RB2
          have R0 := R0'
          clear R0'
          have E1 := E1'
          clear E1'
          have E2 := E2'
          clear E2'
          refine rdH 7 (fun K hK => ?_)
          refine step_onto (by rfl) _ _ 25 (by rfl) 62 i1 (.agg #[.int .i64 0, .int .i64 0, .int .i64 0, .int .i64 0, .int .i64 0]) 5 40 Tryz.underlying25 hi1 hz01 hz11 hz21 rfl (by omega) (by omega) y19 (y1.heap.size) B S.nl S.l (.slice a1 S.nl c1) (by rfl) (by rfl) E1.out (H.out.later hS.2).2.1 (by omega) ?_
          intro d1 e1 y20 hrow hblk hg
          have hS' : Cp w (.slice a0 S.nc c0) (.slice a1 S.nl c1) (.slice a2 S.nw c2) y20 := hS.grown hg (by have := Z0.out; have := Z1.out; have := Z14.out; have := Z15.out; have := Z19.out; omega)
          have RB2 : Hid (Blk3 y20 (w.heap.size + 1) (.slice none 0 0) (.slice none 0 0) (.slice none 0 0)) := RB.out.grown hg (by have := Z0.out; have := Z1.out; have := Z14.out; have := Z15.out; have := Z19.out; omega)
          have Z20 : Hid (y19.heap.size ≤ y20.heap.size) := hg.size
          have R0' : Hid (Mk y20 59 3 S.nc S.c (.slice d0 S.nc e0) (y0.heap.size) (y14.heap.size) (y15.heap.size)) := R0.out.grown hg (fun k hk => by have := Z0.out; have := Z1.out; have := Z14.out; have := Z15.out; have := Z19.out; omega)
          have E2' : Hid (Em y20 y15.heap.size 36) := E2.out.grown hg (by have := Z0.out; have := Z1.out; have := Z14.out; have := Z15.out; have := Z19.out; omega)
          have R1' : Hid (Mk y20 62 5 S.nl S.l (.slice d1 S.nl e1) (y1.heap.size) (y19.heap.size) (y20.heap.size)) := ⟨hrow, hblk⟩
          clear hrow hblk hg RB E1 R0 E2
          have RB := RB2
          clear RB2
          have R0 := R0'
          clear R0'
          have E2 := E2'
          clear E2'
          have R1 := R1'
          clear R1'
          go_simp
          refine hK.out _ _ hS' (fun hS => ?_)
          clear hK K hS'
          refine rdH 11 (fun K hK => ?_)
          refine step_onto (by rfl) _ _ 26 (by rfl) 36 i2 (.agg #[.int .i64 0, .int .i64 0, .int .i64 0, .int .i64 0]) 4 32 Tryz.underlying26 hi2 hz02 hz12 hz22 rfl (by omega) (by omega) y20 (y15.heap.size) B S.nw S.k (.slice a2 S.nw c2) (by rfl) (by rfl) E2.out (H.out.later hS.2).2.2 (by omega) ?_
          intro d2 e2 y21 hrow hblk hg
          have hS' : Cp w (.slice a0 S.nc c0) (.slice a1 S.nl c1) (.slice a2 S.nw c2) y21 := hS.grown hg (by have := Z0.out; have := Z1.out; have := Z14.out; have := Z15.out; have := Z19.out; have := Z20.out; omega)
          have RB2 : Hid (Blk3 y21 (w.heap.size + 1) (.slice none 0 0) (.slice none 0 0) (.slice none 0 0)) := RB.out.grown hg (by have := Z0.out; have := Z1.out; have := Z14.out; have := Z15.out; have := Z19.out; have := Z20.out; omega)
          have Z21 : Hid (y20.heap.size ≤ y21.heap.size) := hg.size
          have R0' : Hid (Mk y21 59 3 S.nc S.c (.slice d0 S.nc e0) (y0.heap.size) (y14.heap.size) (y15.heap.size)) := R0.out.grown hg (fun k hk => by have := Z0.out; have := Z1.out; have := Z14.out; have := Z15.out; have := Z19.out; have := Z20.out; omega)
          have R1' : Hid (Mk y21 62 5 S.nl S.l (.slice d1 S.nl e1) (y1.heap.size) (y19.heap.size) (y20.heap.size)) := R1.out.grown hg (fun k hk => by have := Z0.out; have := Z1.out; have := Z14.out; have := Z15.out; have := Z19.out; have := Z20.out; omega)
          have R2' : Hid (Mk y21 36 4 S.nw S.k (.slice d2 S.nw e2) (y15.heap.size) (y20.heap.size) (y21.heap.size)) := ⟨hrow, hblk⟩
          clear hrow hblk hg RB E2 R0 R1
          have RB := RB2
          clear RB2
          have R0 := R0'
          clear R0'
          have R1 := R1'
          clear R1'
          have R2 := R2'
          clear R2'
          go_simp
          refine hK.out _ _ hS' (fun hS => ?_)
          clear hK K hS'
          refine tkH 12 ?_ hS (fun wx hx => ?_) ?_; rotate_left
          · obtain ⟨⟨⟨hx0, hx1, hx2⟩, _⟩, _⟩ := hx; go_simp; try with_reducible rfl
          refine rdH 13 (fun K hK => ?_)
          obtain ⟨⟨y0', y1', y2'⟩, z0', z1', z2'⟩ := RB.out
          have LF : Hid (NewStoK w S (.returned (.agg #[.slice d0 S.nc e0, .slice d1 S.nl e1, .slice d2 S.nw e2])) (((y21.setCell ⟨w.heap.size + 1, 0, none⟩ (.slice d0 S.nc e0)).setCell ⟨w.heap.size + 1, 1, none⟩ (.slice d1 S.nl e1)).setCell ⟨w.heap.size + 1, 2, none⟩ (.slice d2 S.nw e2))) := copy_leaf hS.2 R0.out R1.out R2.out (by have := Z0.out; have := Z1.out; have := Z14.out; have := Z15.out; have := Z19.out; have := Z20.out; have := Z21.out; omega) (fun k h1 h2 => by have := Z0.out; have := Z1.out; have := Z14.out; have := Z15.out; have := Z19.out; have := Z20.out; have := Z21.out; omega) (fun k h1 h2 => by have := Z0.out; have := Z1.out; have := Z14.out; have := Z15.out; have := Z19.out; have := Z20.out; have := Z21.out; omega) (fun k h1 h2 => by have := Z0.out; have := Z1.out; have := Z14.out; have := Z15.out; have := Z19.out; have := Z20.out; have := Z21.out; omega)
          have hS' : Cp w (.slice a0 S.nc c0) (.slice a1 S.nl c1) (.slice a2 S.nw c2) (((y21.setCell ⟨w.heap.size + 1, 0, none⟩ (.slice d0 S.nc e0)).setCell ⟨w.heap.size + 1, 1, none⟩ (.slice d1 S.nl e1)).setCell ⟨w.heap.size + 1, 2, none⟩ (.slice d2 S.nw e2)) := ⟨((hS.1.setFar (p := ⟨w.heap.size + 1, 0, none⟩) (by simp) _).setFar (p := ⟨w.heap.size + 1, 1, none⟩) (by simp) _).setFar (p := ⟨w.heap.size + 1, 2, none⟩) (by simp) _, ((hS.2.setCell (Nat.le_succ _) _).setCell (Nat.le_succ _) _).setCell (Nat.le_succ _) _⟩
          go_simp
          refine hK.out _ _ hS' (fun hS => ?_)
          clear hK K hS'
          refine wpAnyH_done (by kernel_rfl) ?_ _
          go_simp
          go_wp2
          exact bodyPost_ret (v := .agg #[.slice d0 S.nc e0, .slice d1 S.nl e1, .slice d2 S.nw e2]) (by simp [results, Tryz.results119, go_sem, y0', y1', y2']) rfl LF.out
      · have hS' : Cp w (.slice a0 S.nc c0) (.slice a1 S.nl c1) (.slice a2 S.nw c2) (y14.alloc (.cells #[] 36)) := hS.later (below_alloc _ _)
        have RB2 : Hid (Blk3 (y14.alloc (.cells #[] 36)) (w.heap.size + 1) (.slice none 0 0) (.slice none 0 0) (.slice none 0 0)) := RB.out.alloc _
        have Z22 : Hid ((y14.alloc (.cells #[] 36)).heap.size = y14.heap.size + 1) := World.size_alloc _ _
        have E0' : Hid (Em (y14.alloc (.cells #[] 36)) y0.heap.size 59) := E0.out.later (below_alloc _ _)
        have E1' : Hid (Em (y14.alloc (.cells #[] 36)) y1.heap.size 62) := E1.out.later (below_alloc _ _)
        have E2' : Hid (Em (y14.alloc (.cells #[] 36)) y14.heap.size 36) := Em.new _ _
        go_simp
        refine hK.out _ _ hS' (fun hS => ?_)
        clear hK K hS' RB E0 E1
        generalize y14.alloc (.cells #[] 36) = y22 at RB2 Z22 hS E0' E1' E2' ⊢
        have RB := RB2
        clear RB2
        have E0 := E0'
        clear E0'
        have E1 := E1'
        clear E1'
        have E2 := E2'
        clear E2'
        refine rdH 3 (fun K hK => ?_)
        refine step_onto (by rfl) _ _ 24 (by rfl) 59 i0 (.agg #[.int .i64 0, .int .i64 0, .int .i64 0]) 3 24 Tryz.underlying24 hi0 hz00 hz10 hz20 rfl (by omega) (by omega) y22 (y0.heap.size) B S.nc S.c (.slice a0 S.nc c0) (by rfl) (by rfl) E0.out (H.out.later hS.2).1 (by omega) ?_
        intro d0 e0 y23 hrow hblk hg
        have hS' : Cp w (.slice a0 S.nc c0) (.slice a1 S.nl c1) (.slice a2 S.nw c2) y23 := hS.grown hg (by have := Z0.out; have := Z1.out; have := Z14.out; have := Z22.out; omega)
        have RB2 : Hid (Blk3 y23 (w.heap.size + 1) (.slice none 0 0) (.slice none 0 0) (.slice none 0 0)) := RB.out.grown hg (by have := Z0.out; have := Z1.out; have := Z14.out; have := Z22.out; omega)
        have Z23 : Hid (y22.heap.size ≤ y23.heap.size) := hg.size
        have E1' : Hid (Em y23 y1.heap.size 62) := E1.out.grown hg (by have := Z0.out; have := Z1.out; have := Z14.out; have := Z22.out; omega)
        have E2' : Hid (Em y23 y14.heap.size 36) := E2.out.grown hg (by have := Z0.out; have := Z1.out; have := Z14.out; have := Z22.out; omega)
        have R0' : Hid (Mk y23 59 3 S.nc S.c (.slice d0 S.nc e0) (y0.heap.size) (y22.heap.size) (y23.heap.size)) := ⟨hrow, hblk⟩
        clear hrow hblk hg RB E0 E1 E2
        have RB := RB2
        clear RB2
        have E1 := E1'
        clear E1'
        have E2 := E2'
        clear E2'
        have R0 := R0'
        clear R0'
        go_simp
        refine hK.out _ _ hS' (fun hS => ?_)
        clear hK K hS'
        refine rdH 7 (fun K hK => ?_)
        refine step_onto (by rfl) _ _ 25 (by rfl) 62 i1 (.agg #[.int .i64 0, .int .i64 0, .int .i64 0, .int .i64 0, .int .i64 0]) 5 40 Tryz.underlying25 hi1 hz01 hz11 hz21 rfl (by omega) (by omega) y23 (y1.heap.size) B S.nl S.l (.slice a1 S.nl c1) (by rfl) (by rfl) E1.out (H.out.later hS.2).2.1 (by omega) ?_
        intro d1 e1 y24 hrow hblk hg
        have hS' : Cp w (.slice a0 S.nc c0) (.slice a1 S.nl c1) (.slice a2 S.nw c2) y24 := hS.grown hg (by have := Z0.out; have := Z1.out; have := Z14.out; have := Z22.out; have := Z23.out; omega)
        have RB2 : Hid (Blk3 y24 (w.heap.size + 1) (.slice none 0 0) (.slice none 0 0) (.slice none 0 0)) := RB.out.grown hg (by have := Z0.out; have := Z1.out; have := Z14.out; have := Z22.out; have := Z23.out; omega)
        have Z24 : Hid (y23.heap.size ≤ y24.heap.size) := hg.size
        have R0' : Hid (Mk y24 59 3 S.nc S.c (.slice d0 S.nc e0) (y0.heap.size) (y22.heap.size) (y23.heap.size)) := R0.out.grown hg (fun k hk => by have := Z0.out; have := Z1.out; have := Z14.out; have := Z22.out; have := Z23.out; omega)
        have E2' : Hid (Em y24 y14.heap.size 36) := E2.out.grown hg (by have := Z0.out; have := Z1.out; have := Z14.out; have := Z22.out; have := Z23.out; omega)
        have R1' : Hid (Mk y24 62 5 S.nl S.l (.slice d1 S.nl e1) (y1.heap.size) (y23.heap.size) (y24.heap.size)) := ⟨hrow, hblk⟩
        clear hrow hblk hg RB E1 R0 E2
        have RB := RB2
        clear RB2
        have R0 := R0'
        clear R0'
        have E2 := E2'
        clear E2'
        have R1 := R1'
        clear R1'
        go_simp
        refine hK.out _ _ hS' (fun hS => ?_)
        clear hK K hS'
        refine rdH 11 (fun K hK => ?_)
        refine step_onto (by rfl) _ _ 26 (by rfl) 36 i2 (.agg #[.int .i64 0, .int .i64 0, .int .i64 0, .int .i64 0]) 4 32 Tryz.underlying26 hi2 hz02 hz12 hz22 rfl (by omega) (by omega) y24 (y14.heap.size) B S.nw S.k (.slice a2 S.nw c2) (by rfl) (by rfl) E2.out (H.out.later hS.2).2.2 (by omega) ?_
        intro d2 e2 y25 hrow hblk hg
        have hS' : Cp w (.slice a0 S.nc c0) (.slice a1 S.nl c1) (.slice a2 S.nw c2) y25 := hS.grown hg (by have := Z0.out; have := Z1.out; have := Z14.out; have := Z22.out; have := Z23.out; have := Z24.out; omega)
        have RB2 : Hid (Blk3 y25 (w.heap.size + 1) (.slice none 0 0) (.slice none 0 0) (.slice none 0 0)) := RB.out.grown hg (by have := Z0.out; have := Z1.out; have := Z14.out; have := Z22.out; have := Z23.out; have := Z24.out; omega)
        have Z25 : Hid (y24.heap.size ≤ y25.heap.size) := hg.size
        have R0' : Hid (Mk y25 59 3 S.nc S.c (.slice d0 S.nc e0) (y0.heap.size) (y22.heap.size) (y23.heap.size)) := R0.out.grown hg (fun k hk => by have := Z0.out; have := Z1.out; have := Z14.out; have := Z22.out; have := Z23.out; have := Z24.out; omega)
        have R1' : Hid (Mk y25 62 5 S.nl S.l (.slice d1 S.nl e1) (y1.heap.size) (y23.heap.size) (y24.heap.size)) := R1.out.grown hg (fun k hk => by have := Z0.out; have := Z1.out; have := Z14.out; have := Z22.out; have := Z23.out; have := Z24.out; omega)
        have R2' : Hid (Mk y25 36 4 S.nw S.k (.slice d2 S.nw e2) (y14.heap.size) (y24.heap.size) (y25.heap.size)) := ⟨hrow, hblk⟩
        clear hrow hblk hg RB E2 R0 R1
        have RB := RB2
        clear RB2
        have R0 := R0'
        clear R0'
        have R1 := R1'
        clear R1'
        have R2 := R2'
        clear R2'
        go_simp
        refine hK.out _ _ hS' (fun hS => ?_)
        clear hK K hS'
        refine tkH 12 ?_ hS (fun wx hx => ?_) ?_; rotate_left
        · obtain ⟨⟨⟨hx0, hx1, hx2⟩, _⟩, _⟩ := hx; go_simp; try with_reducible rfl
        refine rdH 13 (fun K hK => ?_)
        obtain ⟨⟨y0', y1', y2'⟩, z0', z1', z2'⟩ := RB.out
        have LF : Hid (NewStoK w S (.returned (.agg #[.slice d0 S.nc e0, .slice d1 S.nl e1, .slice d2 S.nw e2])) (((y25.setCell ⟨w.heap.size + 1, 0, none⟩ (.slice d0 S.nc e0)).setCell ⟨w.heap.size + 1, 1, none⟩ (.slice d1 S.nl e1)).setCell ⟨w.heap.size + 1, 2, none⟩ (.slice d2 S.nw e2))) := copy_leaf hS.2 R0.out R1.out R2.out (by have := Z0.out; have := Z1.out; have := Z14.out; have := Z22.out; have := Z23.out; have := Z24.out; have := Z25.out; omega) (fun k h1 h2 => by have := Z0.out; have := Z1.out; have := Z14.out; have := Z22.out; have := Z23.out; have := Z24.out; have := Z25.out; omega) (fun k h1 h2 => by have := Z0.out; have := Z1.out; have := Z14.out; have := Z22.out; have := Z23.out; have := Z24.out; have := Z25.out; omega) (fun k h1 h2 => by have := Z0.out; have := Z1.out; have := Z14.out; have := Z22.out; have := Z23.out; have := Z24.out; have := Z25.out; omega)
        have hS' : Cp w (.slice a0 S.nc c0) (.slice a1 S.nl c1) (.slice a2 S.nw c2) (((y25.setCell ⟨w.heap.size + 1, 0, none⟩ (.slice d0 S.nc e0)).setCell ⟨w.heap.size + 1, 1, none⟩ (.slice d1 S.nl e1)).setCell ⟨w.heap.size + 1, 2, none⟩ (.slice d2 S.nw e2)) := ⟨((hS.1.setFar (p := ⟨w.heap.size + 1, 0, none⟩) (by simp) _).setFar (p := ⟨w.heap.size + 1, 1, none⟩) (by simp) _).setFar (p := ⟨w.heap.size + 1, 2, none⟩) (by simp) _, ((hS.2.setCell (Nat.le_succ _) _).setCell (Nat.le_succ _) _).setCell (Nat.le_succ _) _⟩
        go_simp
        refine hK.out _ _ hS' (fun hS => ?_)
        clear hK K hS'
        refine wpAnyH_done (by kernel_rfl) ?_ _
        go_simp
        go_wp2
        exact bodyPost_ret (v := .agg #[.slice d0 S.nc e0, .slice d1 S.nl e1, .slice d2 S.nw e2]) (by simp [results, Tryz.results119, go_sem, y0', y1', y2']) rfl LF.out
    · have hS' : Cp w (.slice a0 S.nc c0) (.slice a1 S.nl c1) (.slice a2 S.nw c2) (y1.alloc (.cells #[] 36)) := hS.later (below_alloc _ _)
      have RB2 : Hid (Blk3 (y1.alloc (.cells #[] 36)) (w.heap.size + 1) (.slice none 0 0) (.slice none 0 0) (.slice none 0 0)) := RB.out.alloc _
      have Z26 : Hid ((y1.alloc (.cells #[] 36)).heap.size = y1.heap.size + 1) := World.size_alloc _ _
      have E0' : Hid (Em (y1.alloc (.cells #[] 36)) y0.heap.size 59) := E0.out.later (below_alloc _ _)
      have E2' : Hid (Em (y1.alloc (.cells #[] 36)) y1.heap.size 36) := Em.new _ _
      go_simp
      refine hK.out _ _ hS' (fun hS => ?_)
      clear hK K hS' RB E0
      generalize y1.alloc (.cells #[] 36) = y26 at RB2 Z26 hS E0' E2' ⊢
      have RB := RB2
      clear RB2
      have E0 := E0'
      clear E0'
      have E2 := E2'
      clear E2'
      refine wpAnyH_ready (rs := [3, 4]) (by kernel_rfl) (by simp) ?_
      refine AllReadyH.cons rfl (fun K hK => ?_) (AllReadyH.cons rfl (fun K hK => ?_) AllReadyH.nil)
      · refine step_onto (by rfl) _ _ 24 (by rfl) 59 i0 (.agg #[.int .i64 0, .int .i64 0, .int .i64 0]) 3 24 Tryz.underlying24 hi0 hz00 hz10 hz20 rfl (by omega) (by omega) y26 (y0.heap.size) B S.nc S.c (.slice a0 S.nc c0) (by rfl) (by rfl) E0.out (H.out.later hS.2).1 (by omega) ?_
        intro d0 e0 y27 hrow hblk hg
        have hS' : Cp w (.slice a0 S.nc c0) (.slice a1 S.nl c1) (.slice a2 S.nw c2) y27 := hS.grown hg (by have := Z0.out; have := Z1.out; have := Z26.out; omega)
        have RB2 : Hid (Blk3 y27 (w.heap.size + 1) (.slice none 0 0) (.slice none 0 0) (.slice none 0 0)) := RB.out.grown hg (by have := Z0.out; have := Z1.out; have := Z26.out; omega)
        have Z27 : Hid (y26.heap.size ≤ y27.heap.size) := hg.size
        have E2' : Hid (Em y27 y1.heap.size 36) := E2.out.grown hg (by have := Z0.out; have := Z1.out; have := Z26.out; omega)
        have R0' : Hid (Mk y27 59 3 S.nc S.c (.slice d0 S.nc e0) (y0.heap.size) (y26.heap.size) (y27.heap.size)) := ⟨hrow, hblk⟩
        clear hrow hblk hg RB E0 E2
        have RB := RB2
        clear RB2
        have E2 := E2'
        clear E2'
        have R0 := R0'
        clear R0'
        go_simp
        refine hK.out _ _ hS' (fun hS => ?_)
        clear hK K hS'
        refine rdH 4 (fun K hK => ?_)
        have hS' : Cp w (.slice a0 S.nc c0) (.slice a1 S.nl c1) (.slice a2 S.nw c2) (y27.alloc (.cells #[] 62)) := hS.later (below_alloc _ _)
        have RB2 : Hid (Blk3 (y27.alloc (.cells #[] 62)) (w.heap.size + 1) (.slice none 0 0) (.slice none 0 0) (.slice none 0 0)) := RB.out.alloc _
        have Z28 : Hid ((y27.alloc (.cells #[] 62)).heap.size = y27.heap.size + 1) := World.size_alloc _ _
        have R0' : Hid (Mk (y27.alloc (.cells #[] 62)) 59 3 S.nc S.c (.slice d0 S.nc e0) (y0.heap.size) (y26.heap.size) (y27.heap.size)) := R0.out.later (below_alloc _ _)
        have E2' : Hid (Em (y27.alloc (.cells #[] 62)) y1.heap.size 36) := E2.out.later (below_alloc _ _)
        have E1' : Hid (Em (y27.alloc (.cells #[] 62)) y27.heap.size 62) := Em.new _ _
        go_simp
        refine hK.out _ _ hS' (fun hS => ?_)
        clear hK K hS' RB E2 R0
        generalize y27.alloc (.cells #[] 62) = y28 at RB2 Z28 hS R0' E2' E1' ⊢
        have RB := RB2
        clear RB2
        have R0 := R0'
        clear R0'
        have E1 := E1'
        clear E1'
        have E2 := E2'
        clear E2'
        refine rdH 7 (fun K hK => ?_)
        refine step_onto (by rfl) _ _ 25 (by rfl) 62 i1 (.agg #[.int .i64 0, .int .i64 0, .int .i64 0, .int .i64 0, .int .i64 0]) 5 40 Tryz.underlying25 hi1 hz01 hz11 hz21 rfl (by omega) (by omega) y28 (y27.heap.size) B S.nl S.l (.slice a1 S.nl c1) (by rfl) (by rfl) E1.out (H.out.later hS.2).2.1 (by omega) ?_
        intro d1 e1 y29 hrow hblk hg
        have hS' : Cp w (.slice a0 S.nc c0) (.slice a1 S.nl c1) (.slice a2 S.nw c2) y29 := hS.grown hg (by have := Z0.out; have := Z1.out; have := Z26.out; have := Z27.out; have := Z28.out; omega)
        have RB2 : Hid (Blk3 y29 (w.heap.size + 1) (.slice none 0 0) (.slice none 0 0) (.slice none 0 0)) := RB.out.grown hg (by have := Z0.out; have := Z1.out; have := Z26.out; have := Z27.out; have := Z28.out; omega)
        have Z29 : Hid (y28.heap.size ≤ y29.heap.size) := hg.size
        have R0' : Hid (Mk y29 59 3 S.nc S.c (.slice d0 S.nc e0) (y0.heap.size) (y26.heap.size) (y27.heap.size)) := R0.out.grown hg (fun k hk => by have := Z0.out; have := Z1.out; have := Z26.out; have := Z27.out; have := Z28.out; omega)
        have E2' : Hid (Em y29 y1.heap.size 36) := E2.out.grown hg (by have := Z0.out; have := Z1.out; have := Z26.out; have := Z27.out; have := Z28.out; omega)
        have R1' : Hid (Mk y29 62 5 S.nl S.l (.slice d1 S.nl e1) (y27.heap.size) (y28.heap.size) (y29.heap.size)) := ⟨hrow, hblk⟩
        clear hrow hblk hg RB E1 R0 E2
        have RB := RB2
        clear RB2
        have R0 := R0'
        clear R0'
        have E2 := E2'
        clear E2'
        have R1 := R1'
        clear R1'
        go_simp
        refine hK.out _ _ hS' (fun hS => ?_)
        clear hK K hS'
        refine rdH 11 (fun K hK => ?_)
        refine step_onto (by rfl) _ _ 26 (by rfl) 36 i2 (.agg #[.int .i64 0, .int .i64 0, .int .i64 0, .int .i64 0]) 4 32 Tryz.underlying26 hi2 hz02 hz12 hz22 rfl (by omega) (by omega) y29 (y1.heap.size) B S.nw S.k (.slice a2 S.nw c2) (by rfl) (by rfl) E2.out (H.out.later hS.2).2.2 (by omega) ?_
        intro d2 e2 y30 hrow hblk hg
        have hS' : Cp w (.slice a0 S.nc c0) (.slice a1 S.nl c1) (.slice a2 S.nw c2) y30 := hS.grown hg (by have := Z0.out; have := Z1.out; have := Z26.out; have := Z27.out; have := Z28.out; have := Z29.out; omega)
        have RB2 : Hid (Blk3 y30 (w.heap.size + 1) (.slice none 0 0) (.slice none 0 0) (.slice none 0 0)) := RB.out.grown hg (by have := Z0.out; have := Z1.out; have := Z26.out; have := Z27.out; have := Z28.out; have := Z29.out; omega)
        have Z30 : Hid (y29.heap.size ≤ y30.heap.size) := hg.size
        have R0' : Hid (Mk y30 59 3 S.nc S.c (.slice d0 S.nc e0) (y0.heap.size) (y26.heap.size) (y27.heap.size)) := R0.out.grown hg (fun k hk => by have := Z0.out; have := Z1.out; have := Z26.out; have := Z27.out; have := Z28.out; have := Z29.out; omega)
        have R1' : Hid (Mk y30 62 5 S.nl S.l (.slice d1 S.nl e1) (y27.heap.size) (y28.heap.size) (y29.heap.size)) := R1.out.grown hg (fun k hk => by have := Z0.out; have := Z1.out; have := Z26.out; have := Z27.out; have := Z28.out; have := Z29.out; omega)
        have R2' : Hid (Mk y30 36 4 S.nw S.k (.slice d2 S.nw e2) (y1.heap.size) (y29.heap.size) (y30.heap.size)) := ⟨hrow, hblk⟩
        clear hrow hblk hg RB E2 R0 R1
        have RB := RB2
        clear RB2
        have R0 := R0'
        clear R0'
        have R1 := R1'
        clear R1'
        have R2 := R2'
        clear R2'
        go_simp
        refine hK.out _ _ hS' (fun hS => ?_)
        clear hK K hS'
        refine tkH 12 ?_ hS (fun wx hx => ?_) ?_; rotate_left
        · obtain ⟨⟨⟨hx0, hx1, hx2⟩, _⟩, _⟩ := hx; go_simp; try with_reducible rfl
        refine rdH 13 (fun K hK => ?_)
        obtain ⟨⟨y0', y1', y2'⟩, z0', z1', z2'⟩ := RB.out
        have LF : Hid (NewStoK w S (.returned (.agg #[.slice d0 S.nc e0, .slice d1 S.nl e1, .slice d2 S.nw e2])) (((y30.setCell ⟨w.heap.size + 1, 0, none⟩ (.slice d0 S.nc e0)).setCell ⟨w.heap.size + 1, 1, none⟩ (.slice d1 S.nl e1)).setCell ⟨w.heap.size + 1, 2, none⟩ (.slice d2 S.nw e2))) := copy_leaf hS.2 R0.out R1.out R2.out (by have := Z0.out; have := Z1.out; have := Z26.out; have := Z27.out; have := Z28.out; have := Z29.out; have := Z30.out; omega) (fun k h1 h2 => by have := Z0.out; have := Z1.out; have := Z26.out; have := Z27.out; have := Z28.out; have := Z29.out; have := Z30.out; omega) (fun k h1 h2 => by have := Z0.out; have := Z1.out; have := Z26.out; have := Z27.out; have := Z28.out; have := Z29.out; have := Z30.out; omega) (fun k h1 h2 => by have := Z0.out; have := Z1.out; have := Z26.out; have := Z27.out; have := Z28.out; have := Z29.out; have := Z30.out; omega)
        have hS' : Cp w (.slice a0 S.nc c0) (.slice a1 S.nl c1) (.slice a2 S.nw c2) (((y30.setCell ⟨w.heap.size + 1, 0, none⟩ (.slice d0 S.nc e0)).setCell ⟨w.heap.size + 1, 1, none⟩ (.slice d1 S.nl e1)).setCell ⟨w.heap.size + 1, 2, none⟩ (.slice d2 S.nw e2)) := ⟨((hS.1.setFar (p := ⟨w.heap.size + 1, 0, none⟩) (by simp) _).setFar (p := ⟨w.heap.size + 1, 1, none⟩) (by simp) _).setFar (p := ⟨w.heap.size + 1, 2, none⟩) (by simp) _, ((hS.2.setCell (Nat.le_succ _) _).setCell (Nat.le_succ _) _).setCell (Nat.le_succ _) _⟩
        go_simp
        refine hK.out _ _ hS' (fun hS => ?_)
        clear hK K hS'
        refine wpAnyH_done (by kernel_rfl) ?_ _
        go_simp
        go_wp2
        exact bodyPost_ret (v := .agg #[.slice d0 S.nc e0, .slice d1 S.nl e1, .slice d2 S.nw e2]) (by simp [results, Tryz.results119, go_sem, y0', y1', y2']) rfl LF.out
      · have hS' : Cp w (.slice a0 S.nc c0) (.slice a1 S.nl c1) (.slice a2 S.nw c2) (y26.alloc (.cells #[] 62)) := hS.later (below_alloc _ _)
        have RB2 : Hid (Blk3 (y26.alloc (.cells #[] 62)) (w.heap.size + 1) (.slice none 0 0) (.slice none 0 0) (.slice none 0 0)) := RB.out.alloc _
        have Z31 : Hid ((y26.alloc (.cells #[] 62)).heap.size = y26.heap.size + 1) := World.size_alloc _ _
        have E0' : Hid (Em (y26.alloc (.cells #[] 62)) y0.heap.size 59) := E0.out.later (below_alloc _ _)
        have E2' : Hid (Em (y26.alloc (.cells #[] 62)) y1.heap.size 36) := E2.out.later (below_alloc _ _)
        have E1' : Hid (Em (y26.alloc (.cells #[] 62)) y26.heap.size 62) := Em.new _ _
        go_simp
        refine hK.out _ _ hS' (fun hS => ?_)
        clear hK K hS' RB E0 E2
        generalize y26.alloc (.cells #[] 62) = y31 at RB2 Z31 hS E0' E2' E1' ⊢
        have RB := RB2
        clear RB2
        have E0 := E0'
        clear E0'
        have E1 := E1'
        clear E1'
        have E2 := E2'
        clear E2'
        refine rdH 3 (fun K hK => ?_)
        refine step_onto (by rfl) _ _ 24 (by rfl) 59 i0 (.agg #[.int .i64 0, .int .i64 0, .int .i64 0]) 3 24 Tryz.underlying24 hi0 hz00 hz10 hz20 rfl (by omega) (by omega) y31 (y0.heap.size) B S.nc S.c (.slice a0 S.nc c0) (by rfl) (by rfl) E0.out (H.out.later hS.2).1 (by omega) ?_
        intro d0 e0 y32 hrow hblk hg
        have hS' : Cp w (.slice a0 S.nc c0) (.slice a1 S.nl c1) (.slice a2 S.nw c2) y32 := hS.grown hg (by have := Z0.out; have := Z1.out; have := Z26.out; have := Z31.out; omega)
        have RB2 : Hid (Blk3 y32 (w.heap.size + 1) (.slice none 0 0) (.slice none 0 0) (.slice none 0 0)) := RB.out.grown hg (by have := Z0.out; have := Z1.out; have := Z26.out; have := Z31.out; omega)
        have Z32 : Hid (y31.heap.size ≤ y32.heap.size) := hg.size
        have E1' : Hid (Em y32 y26.heap.size 62) := E1.out.grown hg (by have := Z0.out; have := Z1.out; have := Z26.out; have := Z31.out; omega)
        have E2' : Hid (Em y32 y1.heap.size 36) := E2.out.grown hg (by have := Z0.out; have := Z1.out; have := Z26.out; have := Z31.out; omega)
        have R0' : Hid (Mk y32 59 3 S.nc S.c (.slice d0 S.nc e0) (y0.heap.size) (y31.heap.size) (y32.heap.size)) := ⟨hrow, hblk⟩
        clear hrow hblk hg RB E0 E1 E2
        have RB := RB2
        clear RB2
        have E1 := E1'
        clear E1'
        have E2 := E2'
        clear E2'
        have R0 := R0'
        clear R0'
        go_simp
        refine hK.out _ _ hS' (fun hS => ?_)
        clear hK K hS'
        refine rdH 7 (fun K hK => ?_)
        refine step_onto (by rfl) _ _ 25 (by rfl) 62 i1 (.agg #[.int .i64 0, .int .i64 0, .int .i64 0, .int .i64 0, .int .i64 0]) 5 40 Tryz.underlying25 hi1 hz01 hz11 hz21 rfl (by omega) (by omega) y32 (y26.heap.size) B S.nl S.l (.slice a1 S.nl c1) (by rfl) (by rfl) E1.out (H.out.later hS.2).2.1 (by omega) ?_
        intro d1 e1 y33 hrow hblk hg
        have hS' : Cp w (.slice a0 S.nc c0) (.slice a1 S.nl c1) (.slice a2 S.nw c2) y33 := hS.grown hg (by have := Z0.out; have := Z1.out; have := Z26.out; have := Z31.out; have := Z32.out; omega)
        have RB2 : Hid (Blk3 y33 (w.heap.size + 1) (.slice none 0 0) (.slice none 0 0) (.slice none 0 0)) := RB.out.grown hg (by have := Z0.out; have := Z1.out; have := Z26.out; have := Z31.out; have := Z32.out; omega)
        have Z33 : Hid (y32.heap.size ≤ y33.heap.size) := hg.size
        have R0' : Hid (Mk y33 59 3 S.nc S.c (.slice d0 S.nc e0) (y0.heap.size) (y31.heap.size) (y32.heap.size)) := R0.out.grown hg (fun k hk => by have := Z0.out; have := Z1.out; have := Z26.out; have := Z31.out; have := Z32.out; omega)
        have E2' : Hid (Em y33 y1.heap.size 36) := E2.out.grown hg (by have := Z0.out; have := Z1.out; have := Z26.out; have := Z31.out; have := Z32.out; omega)
        have R1' : Hid (Mk y33 62 5 S.nl S.l (.slice d1 S.nl e1) (y26.heap.size) (y32.heap.size) (y33.heap.size)) := ⟨hrow, hblk⟩
        clear hrow hblk hg RB E1 R0 E2
        have RB := RB2
        clear RB2
        have R0 := R0'
        clear R0'
        have E2 := E2'
        clear E2'
        have R1 := R1'
        clear R1'
        go_simp
        refine hK.out _ _ hS' (fun hS => ?_)
        clear hK K hS'
        refine rdH 11 (fun K hK => ?_)
        refine step_onto (by rfl) _ _ 26 (by rfl) 36 i2 (.agg #[.int .i64 0, .int .i64 0, .int .i64 0, .int .i64 0]) 4 32 Tryz.underlying26 hi2 hz02 hz12 hz22 rfl (by omega) (by omega) y33 (y1.heap.size) B S.nw S.k (.slice a2 S.nw c2) (by rfl) (by rfl) E2.out (H.out.later hS.2).2.2 (by omega) ?_
        intro d2 e2 y34 hrow hblk hg
        have hS' : Cp w (.slice a0 S.nc c0) (.slice a1 S.nl c1) (.slice a2 S.nw c2) y34 := hS.grown hg (by have := Z0.out; have := Z1.out; have := Z26.out; have := Z31.out; have := Z32.out; have := Z33.out; omega)
        have RB2 : Hid (Blk3 y34 (w.heap.size + 1) (.slice none 0 0) (.slice none 0 0) (.slice none 0 0)) := RB.out.grown hg (by have := Z0.out; have := Z1.out; have := Z26.out; have := Z31.out; have := Z32.out; have := Z33.out; omega)
        have Z34 : Hid (y33.heap.size ≤ y34.heap.size) := hg.size
        have R0' : Hid (Mk y34 59 3 S.nc S.c (.slice d0 S.nc e0) (y0.heap.size) (y31.heap.size) (y32.heap.size)) := R0.out.grown hg (fun k hk => by have := Z0.out; have := Z1.out; have := Z26.out; have := Z31.out; have := Z32.out; have := Z33.out; omega)
        have R1' : Hid (Mk y34 62 5 S.nl S.l (.slice d1 S.nl e1) (y26.heap.size) (y32.heap.size) (y33.heap.size)) := R1.out.grown hg (fun k hk => by have := Z0.out; have := Z1.out; have := Z26.out; have := Z31.out; have := Z32.out; have := Z33.out; omega)
        have R2' : Hid (Mk y34 36 4 S.nw S.k (.slice d2 S.nw e2) (y1.heap.size) (y33.heap.size) (y34.heap.size)) := ⟨hrow, hblk⟩
        clear hrow hblk hg RB E2 R0 R1
        have RB := RB2
        clear RB2
        have R0 := R0'
        clear R0'
        have R1 := R1'
        clear R1'
        have R2 := R2'
        clear R2'
        go_simp
        refine hK.out _ _ hS' (fun hS => ?_)
        clear hK K hS'
        refine tkH 12 ?_ hS (fun wx hx => ?_) ?_; rotate_left
        · obtain ⟨⟨⟨hx0, hx1, hx2⟩, _⟩, _⟩ := hx; go_simp; try with_reducible rfl
        refine rdH 13 (fun K hK => ?_)
        obtain ⟨⟨y0', y1', y2'⟩, z0', z1', z2'⟩ := RB.out
        have LF : Hid (NewStoK w S (.returned (.agg #[.slice d0 S.nc e0, .slice d1 S.nl e1, .slice d2 S.nw e2])) (((y34.setCell ⟨w.heap.size + 1, 0, none⟩ (.slice d0 S.nc e0)).setCell ⟨w.heap.size + 1, 1, none⟩ (.slice d1 S.nl e1)).setCell ⟨w.heap.size + 1, 2, none⟩ (.slice d2 S.nw e2))) := copy_leaf hS.2 R0.out R1.out R2.out (by have := Z0.out; have := Z1.out; have := Z26.out; have := Z31.out; have := Z32.out; have := Z33.out; have := Z34.out; omega) (fun k h1 h2 => by have := Z0.out; have := Z1.out; have := Z26.out; have := Z31.out; have := Z32.out; have := Z33.out; have := Z34.out; omega) (fun k h1 h2 => by have := Z0.out; have := Z1.out; have := Z26.out; have := Z31.out; have := Z32.out; have := Z33.out; have := Z34.out; omega) (fun k h1 h2 => by have := Z0.out; have := Z1.out; have := Z26.out; have := Z31.out; have := Z32.out; have := Z33.out; have := Z34.out; omega)
        have hS' : Cp w (.slice a0 S.nc c0) (.slice a1 S.nl c1) (.slice a2 S.nw c2) (((y34.setCell ⟨w.heap.size + 1, 0, none⟩ (.slice d0 S.nc e0)).setCell ⟨w.heap.size + 1, 1, none⟩ (.slice d1 S.nl e1)).setCell ⟨w.heap.size + 1, 2, none⟩ (.slice d2 S.nw e2)) := ⟨((hS.1.setFar (p := ⟨w.heap.size + 1, 0, none⟩) (by simp) _).setFar (p := ⟨w.heap.size + 1, 1, none⟩) (by simp) _).setFar (p := ⟨w.heap.size + 1, 2, none⟩) (by simp) _, ((hS.2.setCell (Nat.le_succ _) _).setCell (Nat.le_succ _) _).setCell (Nat.le_succ _) _⟩
        go_simp
        refine hK.out _ _ hS' (fun hS => ?_)
        clear hK K hS'
        refine wpAnyH_done (by kernel_rfl) ?_ _
        go_simp
        go_wp2
        exact bodyPost_ret (v := .agg #[.slice d0 S.nc e0, .slice d1 S.nl e1, .slice d2 S.nw e2]) (by simp [results, Tryz.results119, go_sem, y0', y1', y2']) rfl LF.out
  · have hS' : Cp w (.slice a0 S.nc c0) (.slice a1 S.nl c1) (.slice a2 S.nw c2) (y0.alloc (.cells #[] 62)) := hS.later (below_alloc _ _)
    have RB2 : Hid (Blk3 (y0.alloc (.cells #[] 62)) (w.heap.size + 1) (.slice none 0 0) (.slice none 0 0) (.slice none 0 0)) := RB.out.alloc _
    have Z35 : Hid ((y0.alloc (.cells #[] 62)).heap.size = y0.heap.size + 1) := World.size_alloc _ _
    have E1' : Hid (Em (y0.alloc (.cells #[] 62)) y0.heap.size 62) := Em.new _ _
    go_simp
    refine hK.out _ _ hS' (fun hS => ?_)
    clear hK K hS' RB
    generalize y0.alloc (.cells #[] 62) = y35 at RB2 Z35 hS E1' ⊢
    have RB := RB2
    clear RB2
    have E1 := E1'
    clear E1'
    refine wpAnyH_ready (rs := [0, 8]) (by kernel_rfl) (by simp) ?_
    refine AllReadyH.cons rfl (fun K hK => ?_) (AllReadyH.cons rfl (fun K hK => ?_) AllReadyH.nil)
    · have hS' : Cp w (.slice a0 S.nc c0) (.slice a1 S.nl c1) (.slice a2 S.nw c2) (y35.alloc (.cells #[] 59)) := hS.later (below_alloc _ _)
      have RB2 : Hid (Blk3 (y35.alloc (.cells #[] 59)) (w.heap.size + 1) (.slice none 0 0) (.slice none 0 0) (.slice none 0 0)) := RB.out.alloc _
      have Z36 : Hid ((y35.alloc (.cells #[] 59)).heap.size = y35.heap.size + 1) := World.size_alloc _ _
      have E1' : Hid (Em (y35.alloc (.cells #[] 59)) y0.heap.size 62) := E1.out.later (below_alloc _ _)
      have E0' : Hid (Em (y35.alloc (.cells #[] 59)) y35.heap.size 59) := Em.new _ _
      go_simp
      refine hK.out _ _ hS' (fun hS => ?_)
      clear hK K hS' RB E1
      generalize y35.alloc (.cells #[] 59) = y36 at RB2 Z36 hS E1' E0' ⊢
      have RB := RB2
      clear RB2
      have E0 := E0'
      clear E0'
      have E1 := E1'
      clear E1'
      refine wpAnyH_ready (rs := [3, 8]) (by kernel_rfl) (by simp) ?_
      refine AllReadyH.cons rfl (fun K hK => ?_) (AllReadyH.cons rfl (fun K hK => ?_) AllReadyH.nil)
      · refine step_onto (by rfl) _ _ 24 (by rfl) 59 i0 (.agg #[.int .i64 0, .int .i64 0, .int .i64 0]) 3 24 Tryz.underlying24 hi0 hz00 hz10 hz20 rfl (by omega) (by omega) y36 (y35.heap.size) B S.nc S.c (.slice a0 S.nc c0) (by rfl) (by rfl) E0.out (H.out.later hS.2).1 (by omega) ?_
        intro d0 e0 y37 hrow hblk hg
        have hS' : Cp w (.slice a0 S.nc c0) (.slice a1 S.nl c1) (.slice a2 S.nw c2) y37 := hS.grown hg (by have := Z0.out; have := Z35.out; have := Z36.out; omega)
        have RB2 : Hid (Blk3 y37 (w.heap.size + 1) (.slice none 0 0) (.slice none 0 0) (.slice none 0 0)) := RB.out.grown hg (by have := Z0.out; have := Z35.out; have := Z36.out; omega)
        have Z37 : Hid (y36.heap.size ≤ y37.heap.size) := hg.size
        have E1' : Hid (Em y37 y0.heap.size 62) := E1.out.grown hg (by have := Z0.out; have := Z35.out; have := Z36.out; omega)
        have R0' : Hid (Mk y37 59 3 S.nc S.c (.slice d0 S.nc e0) (y35.heap.size) (y36.heap.size) (y37.heap.size)) := ⟨hrow, hblk⟩
        clear hrow hblk hg RB E0 E1
        have RB := RB2
        clear RB2
        have E1 := E1'
        clear E1'
        have R0 := R0'
        clear R0'
        go_simp
        refine hK.out _ _ hS' (fun hS => ?_)
        clear hK K hS'
        refine wpAnyH_ready (rs := [7, 8]) (by kernel_rfl) (by simp) ?_
        refine AllReadyH.cons rfl (fun K hK => ?_) (AllReadyH.cons rfl (fun K hK => ?_) AllReadyH.nil)
        · refine step_onto (by rfl) _ _ 25 (by rfl) 62 i1 (.agg #[.int .i64 0, .int .i64 0, .int .i64 0, .int .i64 0, .int .i64 0]) 5 40 Tryz.underlying25 hi1 hz01 hz11 hz21 rfl (by omega) (by omega) y37 (y0.heap.size) B S.nl S.l (.slice a1 S.nl c1) (by rfl) (by rfl) E1.out (H.out.later hS.2).2.1 (by omega) ?_
          intro d1 e1 y38 hrow hblk hg
          have hS' : Cp w (.slice a0 S.nc c0) (.slice a1 S.nl c1) (.slice a2 S.nw c2) y38 := hS.grown hg (by have := Z0.out; have := Z35.out; have := Z36.out; have := Z37.out; omega)
          have RB2 : Hid (Blk3 y38 (w.heap.size + 1) (.slice none 0 0) (.slice none 0 0) (.slice none 0 0)) := RB.out.grown hg (by have := Z0.out; have := Z35.out; have := Z36.out; have := Z37.out; omega)
          have Z38 : Hid (y37.heap.size ≤ y38.heap.size) := hg.size
          have R0' : Hid (Mk y38 59 3 S.nc S.c (.slice d0 S.nc e0) (y35.heap.size) (y36.heap.size) (y37.heap.size)) := R0.out.grown hg (fun k hk => by have := Z0.out; have := Z35.out; have := Z36.out; have := Z37.out; omega)
          have R1' : Hid (Mk y38 62 5 S.nl S.l (.slice d1 S.nl e1) (y0.heap.size) (y37.heap.size) (y38.heap.size)) := ⟨hrow, hblk⟩
          clear hrow hblk hg RB E1 R0
          have RB := RB2
          clear RB2
          have R0 := R0'
          clear R0'
          have R1 := R1'
          clear R1'
          go_simp
          refine hK.out _ _ hS' (fun hS => ?_)
          clear hK K hS'
          refine rdH 8 (fun K hK => ?_)
          have hS' : Cp w (.slice a0 S.nc c0) (.slice a1 S.nl c1) (.slice a2 S.nw c2) (y38.alloc (.cells #[] 36)) := hS.later (below_alloc _ _)
          have RB2 : Hid (Blk3 (y38.alloc (.cells #[] 36)) (w.heap.size + 1) (.slice none 0 0) (.slice none 0 0) (.slice none 0 0)) := RB.out.alloc _
          have Z39 : Hid ((y38.alloc (.cells #[] 36)).heap.size = y38.heap.size + 1) := World.size_alloc _ _
          have R0' : Hid (Mk (y38.alloc (.cells #[] 36)) 59 3 S.nc S.c (.slice d0 S.nc e0) (y35.heap.size) (y36.heap.size) (y37.heap.size)) := R0.out.later (below_alloc _ _)
          have R1' : Hid (Mk (y38.alloc (.cells #[] 36)) 62 5 S.nl S.l (.slice d1 S.nl e1) (y0.heap.size) (y37.heap.size) (y38.heap.size)) := R1.out.later (below_alloc _ _)
          have E2' : Hid (Em (y38.alloc (.cells #[] 36)) y38.heap.size 36) := Em.new _ _
          go_simp
          refine hK.out _ _ hS' (fun hS => ?_)
          clear hK K hS' RB R0 R1
          generalize y38.alloc (.cells #[] 36) = y39 at RB2 Z39 hS R0' R1' E2' ⊢
          have RB := RB2
          clear RB2
          have R0 := R0'
          clear R0'
          have R1 := R1'
          clear R1'
          have E2 := E2'
          clear E2'
          refine rdH 11 (fun K hK => ?_)
          refine step_onto (by rfl) _ _ 26 (by rfl) 36 i2 (.agg #[.int .i64 0, .int .i64 0, .int .i64 0, .int .i64 0]) 4 32 Tryz.underlying26 hi2 hz02 hz12 hz22 rfl (by omega) (by omega) y39 (y38.heap.size) B S.nw S.k (.slice a2 S.nw c2) (by rfl) (by rfl) E2.out (H.out.later hS.2).2.2 (by omega) ?_
          intro d2 e2 y40 hrow hblk hg
          have hS' : Cp w (.slice a0 S.nc c0) (.slice a1 S.nl c1) (.slice a2 S.nw c2) y40 := hS.grown hg (by have := Z0.out; have := Z35.out; have := Z36.out; have := Z37.out; have := Z38.out; have := Z39.out; omega)
          have RB2 : Hid (Blk3 y40 (w.heap.size + 1) (.slice none 0 0) (.slice none 0 0) (.slice none 0 0)) := RB.out.grown hg (by have := Z0.out; have := Z35.out; have := Z36.out; have := Z37.out; have := Z38.out; have := Z39.out; omega)
          have Z40 : Hid (y39.heap.size ≤ y40.heap.size) := hg.size
          have R0' : Hid (Mk y40 59 3 S.nc S.c (.slice d0 S.nc e0) (y35.heap.size) (y36.heap.size) (y37.heap.size)) := R0.out.grown hg (fun k hk => by have := Z0.out; have := Z35.out; have := Z36.out; have := Z37.out; have := Z38.out; have := Z39.out; omega)
          have R1' : Hid (Mk y40 62 5 S.nl S.l (.slice d1 S.nl e1) (y0.heap.size) (y37.heap.size) (y38.heap.size)) := R1.out.grown hg (fun k hk => by have := Z0.out; have := Z35.out; have := Z36.out; have := Z37.out; have := Z38.out; have := Z39.out; omega)
          have R2' : Hid (Mk y40 36 4 S.nw S.k (.slice d2 S.nw e2) (y38.heap.size) (y39.heap.size) (y40.heap.size)) := ⟨hrow, hblk⟩
          clear hrow hblk hg RB E2 R0 R1
          have RB := RB2
          clear RB2
          have R0 := R0'
          clear R0'
          have R1 := R1'
          clear R1'
          have R2 := R2'
          clear R2'
          go_simp
          refine hK.out _ _ hS' (fun hS => ?_)
          clear hK K hS'
          refine tkH 12 ?_ hS (fun wx hx => ?_) ?_; rotate_left
          · obtain ⟨⟨⟨hx0, hx1, hx2⟩, _⟩, _⟩ := hx; go_simp; try with_reducible rfl
          refine rdH 13 (fun K hK => ?_)
          obtain ⟨⟨y0', y1', y2'⟩, z0', z1', z2'⟩ := RB.out
          have LF : Hid (NewStoK w S (.returned (.agg #[.slice d0 S.nc e0, .slice d1 S.nl e1, .slice d2 S.nw e2])) (((y40.setCell ⟨w.heap.size + 1, 0, none⟩ (.slice d0 S.nc e0)).setCell ⟨w.heap.size + 1, 1, none⟩ (.slice d1 S.nl e1)).setCell ⟨w.heap.size + 1, 2, none⟩ (.slice d2 S.nw e2))) := copy_leaf hS.2 R0.out R1.out R2.out (by have := Z0.out; have := Z35.out; have := Z36.out; have := Z37.out; have := Z38.out; have := Z39.out; have := Z40.out; omega) (fun k h1 h2 => by have := Z0.out; have := Z35.out; have := Z36.out; have := Z37.out; have := Z38.out; have := Z39.out; have := Z40.out; omega) (fun k h1 h2 => by have := Z0.out; have := Z35.out; have := Z36.out; have := Z37.out; have := Z38.out; have := Z39.out; have := Z40.out; omega) (fun k h1 h2 => by have := Z0.out; have := Z35.out; have := Z36.out; have := Z37.out; have := Z38.out; have := Z39.out; have := Z40.out; omega)
          have hS' : Cp w (.slice a0 S.nc c0) (.slice a1 S.nl c1) (.slice a2 S.nw c2) (((y40.setCell ⟨w.heap.size + 1, 0, none⟩ (.slice d0 S.nc e0)).setCell ⟨w.heap.size + 1, 1, none⟩ (.slice d1 S.nl e1)).setCell ⟨w.heap.size + 1, 2, none⟩ (.slice d2 S.nw e2)) := ⟨((hS.1.setFar (p := ⟨w.heap.size + 1, 0, none⟩) (by simp) _).setFar (p := ⟨w.heap.size + 1, 1, none⟩) (by simp) _).setFar (p := ⟨w.heap.size + 1, 2, none⟩) (by simp) _, ((hS.2.setCell (Nat.le_succ _) _).setCell (Nat.le_succ _) _).setCell (Nat.le_succ _) _⟩
          go_simp
          refine hK.out _ _ hS' (fun hS => ?_)
          clear hK K hS'
          refine wpAnyH_done (by kernel_rfl) ?_ _
          go_simp
          go_wp2
          exact bodyPost_ret (v := .agg #[.slice d0 S.nc e0, .slice d1 S.nl e1, .slice d2 S.nw e2]) (by simp [results, Tryz.results119, go_sem, y0', y1', y2']) rfl LF.out
        · have hS' : Cp w (.slice a0 S.nc c0) (.slice a1 S.nl c1) (.slice a2 S.nw c2) (y37.alloc (.cells #[] 36)) := hS.later (below_alloc _ _)
          have RB2 : Hid (Blk3 (y37.alloc (.cells #[] 36)) (w.heap.size + 1) (.slice none 0 0) (.slice none 0 0) (.slice none 0 0)) := RB.out.alloc _
          have Z41 : Hid ((y37.alloc (.cells #[] 36)).heap.size = y37.heap.size + 1) := World.size_alloc _ _
          have R0' : Hid (Mk (y37.alloc (.cells #[] 36)) 59 3 S.nc S.c (.slice d0 S.nc e0) (y35.heap.size) (y36.heap.size) (y37.heap.size)) := R0.out.later (below_alloc _ _)
          have E1' : Hid (Em (y37.alloc (.cells #[] 36)) y0.heap.size 62) := E1.out.later (below_alloc _ _)
          have E2' : Hid (Em (y37.alloc (.cells #[] 36)) y37.heap.size 36) := Em.new _ _
          go_simp
          refine hK.out _ _ hS' (fun hS => ?_)
          clear hK K hS' RB E1 R0
          generalize y37.alloc (.cells #[] 36) = y41 at RB2 Z41 hS R0' E1' E2' ⊢
          have RB := RB2
          clear RB2
          have R0 := R0'
          clear R0'
          have E1 := E1'
          clear E1'
          have E2 := E2'
          clear E2'
          refine rdH 7 (fun K hK => ?_)
          refine step_onto (by rfl) _ _ 25 (by rfl) 62 i1 (.agg #[.int .i64 0, .int .i64 0, .int .i64 0, .int .i64 0, .int .i64 0]) 5 40 Tryz.underlying25 hi1 hz01 hz11 hz21 rfl (by omega) (by omega) y41 (y0.heap.size) B S.nl S.l (.slice a1 S.nl c1) (by rfl) (by rfl) E1.out (H.out.later hS.2).2.1 (by omega) ?_
          intro d1 e1 y42 hrow hblk hg
          have hS' : Cp w (.slice a0 S.nc c0) (.slice a1 S.nl c1) (.slice a2 S.nw c2) y42 := hS.grown hg (by have := Z0.out; have := Z35.out; have := Z36.out; have := Z37.out; have := Z41.out; omega)
          have RB2 : Hid (Blk3 y42 (w.heap.size + 1) (.slice none 0 0) (.slice none 0 0) (.slice none 0 0)) := RB.out.grown hg (by have := Z0.out; have := Z35.out; have := Z36.out; have := Z37.out; have := Z41.out; omega)
          have Z42 : Hid (y41.heap.size ≤ y42.heap.size) := hg.size
          have R0' : Hid (Mk y42 59 3 S.nc S.c (.slice d0 S.nc e0) (y35.heap.size) (y36.heap.size) (y37.heap.size)) := R0.out.grown hg (fun k hk => by have := Z0.out; have := Z35.out; have := Z36.out; have := Z37.out; have := Z41.out; omega)
          have E2' : Hid (Em y42 y37.heap.size 36) := E2.out.grown hg (by have := Z0.out; have := Z35.out; have := Z36.out; have := Z37.out; have := Z41.out; omega)
          have R1' : Hid (Mk y42 62 5 S.nl S.l (.slice d1 S.nl e1) (y0.heap.size) (y41.heap.size) (y42.heap.size)) := ⟨hrow, hblk⟩
          clear hrow hblk hg RB E1 R0 E2
          have RB := RB2
          clear RB2
          have R0 := R0'
          clear R0'
          have E2 := E2'
          clear E2'
          have R1 := R1'
          clear R1'
          go_simp
          refine hK.out _ _ hS' (fun hS => ?_)
          clear hK K hS'
          refine rdH 11 (fun K hK => ?_)
          refine step_onto (by rfl) _ _ 26 (by rfl) 36 i2 (.agg #[.int .i64 0, .int .i64 0, .int .i64 0, .int .i64 0]) 4 32 Tryz.underlying26 hi2 hz02 hz12 hz22 rfl (by omega) (by omega) y42 (y37.heap.size) B S.nw S.k (.slice a2 S.nw c2) (by rfl) (by rfl) E2.out (H.out.later hS.2).2.2 (by omega) ?_
          intro d2 e2 y43 hrow hblk hg
          have hS' : Cp w (.slice a0 S.nc c0) (.slice a1 S.nl c1) (.slice a2 S.nw c2) y43 := hS.grown hg (by have := Z0.out; have := Z35.out; have := Z36.out; have := Z37.out; have := Z41.out; have := Z42.out; omega)
          have RB2 : Hid (Blk3 y43 (w.heap.size + 1) (.slice none 0 0) (.slice none 0 0) (.slice none 0 0)) := RB.out.grown hg (by have := Z0.out; have := Z35.out; have := Z36.out; have := Z37.out; have := Z41.out; have := Z42.out; omega)
          have Z43 : Hid (y42.heap.size ≤ y43.heap.size) := hg.size
          have R0' : Hid (Mk y43 59 3 S.nc S.c (.slice d0 S.nc e0) (y35.heap.size) (y36.heap.size) (y37.heap.size)) := R0.out.grown hg (fun k hk => by have := Z0.out; have := Z35.out; have := Z36.out; have := Z37.out; have := Z41.out; have := Z42.out; omega)
          have R1' : Hid (Mk y43 62 5 S.nl S.l (.slice d1 S.nl e1) (y0.heap.size) (y41.heap.size) (y42.heap.size)) := R1.out.grown hg (fun k hk => by have := Z0.out; have := Z35.out; have := Z36.out; have := Z37.out; have := Z41.out; have := Z42.out; omega)
          have R2' : Hid (Mk y43 36 4 S.nw S.k (.slice d2 S.nw e2) (y37.heap.size) (y42.heap.size) (y43.heap.size)) := ⟨hrow, hblk⟩
          clear hrow hblk hg RB E2 R0 R1
          have RB := RB2
          clear RB2
          have R0 := R0'
          clear R0'
          have R1 := R1'
          clear R1'
          have R2 := R2'
          clear R2'
          go_simp
          refine hK.out _ _ hS' (fun hS => ?_)
          clear hK K hS'
          refine tkH 12 ?_ hS (fun wx hx => ?_) ?_; rotate_left
          · obtain ⟨⟨⟨hx0, hx1, hx2⟩, _⟩, _⟩ := hx; go_simp; try with_reducible rfl
          refine rdH 13 (fun K hK => ?_)
          obtain ⟨⟨y0', y1', y2'⟩, z0', z1', z2'⟩ := RB.out
          have LF : Hid (NewStoK w S (.returned (.agg #[.slice d0 S.nc e0, .slice d1 S.nl e1, .slice d2 S.nw e2])) (((y43.setCell ⟨w.heap.size + 1, 0, none⟩ (.slice d0 S.nc e0)).setCell ⟨w.heap.size + 1, 1, none⟩ (.slice d1 S.nl e1)).setCell ⟨w.heap.size + 1, 2, none⟩ (.slice d2 S.nw e2))) := copy_leaf hS.2 R0.out R1.out R2.out (by have := Z0.out; have := Z35.out; have := Z36.out; have := Z37.out; have := Z41.out; have := Z42.out; have := Z43.out; omega) (fun k h1 h2 => by have := Z0.out; have := Z35.out; have := Z36.out; have := Z37.out; have := Z41.out; have := Z42.out; have := Z43.out; omega) (fun k h1 h2 => by have := Z0.out; have := Z35.out; have := Z36.out; have := Z37.out; have := Z41.out; have := Z42.out; have := Z43.out; omega) (fun k h1 h2 => by have := Z0.out; have := Z35.out; have := Z36.out; have := Z37.out; have := Z41.out; have := Z42.out; have := Z43.out; omega)
          have hS' : Cp w (.slice a0 S.nc c0) (.slice a1 S.nl c1) (.slice a2 S.nw c2) (((y43.setCell ⟨w.heap.size + 1, 0, none⟩ (.slice d0 S.nc e0)).setCell ⟨w.heap.size + 1, 1, none⟩ (.slice d1 S.nl e1)).setCell ⟨w.heap.size + 1, 2, none⟩ (.slice d2 S.nw e2)) := ⟨((hS.1.setFar (p := ⟨w.heap.size + 1, 0, none⟩) (by simp) _).setFar (p := ⟨w.heap.size + 1, 1, none⟩) (by simp) _).setFar (p := ⟨w.heap.size + 1, 2, none⟩) (by simp) _, ((hS.2.setCell (Nat.le_succ _) _).setCell (Nat.le_succ _) _).setCell (Nat.le_succ _) _⟩
          go_simp
          refine hK.out _ _ hS' (fun hS => ?_)
          clear hK K hS'
          refine wpAnyH_done (by kernel_rfl) ?_ _
          go_simp
          go_wp2
          exact bodyPost_ret (v := .agg #[.slice d0 S.nc e0, .slice d1 S.nl e1, .slice d2 S.nw e2]) (by simp [results, Tryz.results119, go_sem, y0', y1', y2']) rfl LF.out
      · have hS' : Cp w (.slice a0 S.nc c0) (.slice a1 S.nl c1) (.slice a2 S.nw c2) (y36.alloc (.cells #[] 36)) := hS.later (below_alloc _ _)
        have RB2 : Hid (Blk3 (y36.alloc (.cells #[] 36)) (w.heap.size + 1) (.slice none 0 0) (.slice none 0 0) (.slice none 0 0)) := RB.out.alloc _
        have Z44 : Hid ((y36.alloc (.cells #[] 36)).heap.size = y36.heap.size + 1) := World.size_alloc _ _
        have E0' : Hid (Em (y36.alloc (.cells #[] 36)) y35.heap.size 59) := E0.out.later (below_alloc _ _)
        have E1' : Hid (Em (y36.alloc (.cells #[] 36)) y0.heap.size 62) := E1.out.later (below_alloc _ _)
        have E2' : Hid (Em (y36.alloc (.cells #[] 36)) y36.heap.size 36) := Em.new _ _
        go_simp
        refine hK.out _ _ hS' (fun hS => ?_)
        clear hK K hS' RB E0 E1
        generalize y36.alloc (.cells #[] 36) = y44 at RB2 Z44 hS E0' E1' E2' ⊢
        have RB := RB2
        clear RB2
        have E0 := E0'
        clear E0'
        have E1 := E1'
        clear E1'
        have E2 := E2'
        clear E2'
        refine rdH 3 (fun K hK => ?_)
        refine step_onto (by rfl) _ _ 24 (by rfl) 59 i0 (.agg #[.int .i64 0, .int .i64 0, .int .i64 0]) 3 24 Tryz.underlying24 hi0 hz00 hz10 hz20 rfl (by omega) (by omega) y44 (y35.heap.size) B S.nc S.c (.slice a0 S.nc c0) (by rfl) (by rfl) E0.out (H.out.later hS.2).1 (by omega) ?_
        intro d0 e0 y45 hrow hblk hg
        have hS' : Cp w (.slice a0 S.nc c0) (.slice a1 S.nl c1) (.slice a2 S.nw c2) y45 := hS.grown hg (by have := Z0.out; have := Z35.out; have := Z36.out; have := Z44.out; omega)
        have RB2 : Hid (Blk3 y45 (w.heap.size + 1) (.slice none 0 0) (.slice none 0 0) (.slice none 0 0)) := RB.out.grown hg (by have := Z0.out; have := Z35.out; have := Z36.out; have := Z44.out; omega)
        have Z45 : Hid (y44.heap.size ≤ y45.heap.size) := hg.size
        have E1' : Hid (Em y45 y0.heap.size 62) := E1.out.grown hg (by have := Z0.out; have := Z35.out; have := Z36.out; have := Z44.out; omega)
        have E2' : Hid (Em y45 y36.heap.size 36) := E2.out.grown hg (by have := Z0.out; have := Z35.out; have := Z36.out; have := Z44.out; omega)
        have R0' : Hid (Mk y45 59 3 S.nc S.c (.slice d0 S.nc e0) (y35.heap.size) (y44.heap.size) (y45.heap.size)) := ⟨hrow, hblk⟩
        clear hrow hblk hg RB E0 E1 E2
        have RB := RB2
        clear RB2
        have E1 := E1'
        clear E1'
        have E2 := E2'
        clear E2'
        have R0 := R0'
        clear R0'
        go_simp
        refine hK.out _ _ hS' (fun hS => ?_)
        clear hK K hS'
        refine rdH 7 (fun K hK => ?_)
        refine step_onto (by rfl) _ _ 25 (by rfl) 62 i1 (.agg #[.int .i64 0, .int .i64 0, .int .i64 0, .int .i64 0, .int .i64 0]) 5 40 Tryz.underlying25 hi1 hz01 hz11 hz21 rfl (by omega) (by omega) y45 (y0.heap.size) B S.nl S.l (.slice a1 S.nl c1) (by rfl) (by rfl) E1.out (H.out.later hS.2).2.1 (by omega) ?_
        intro d1 e1 y46 hrow hblk hg
        have hS' : Cp w (.slice a0 S.nc c0) (.slice a1 S.nl c1) (.slice a2 S.nw c2) y46 := hS.grown hg (by have := Z0.out; have := Z35.out; have := Z36.out; have := Z44.out; have := Z45.out; omega)
        have RB2 : Hid (Blk3 y46 (w.heap.size + 1) (.slice none 0 0) (.slice none 0 0) (.slice none 0 0)) := RB.out.grown hg (by have := Z0.out; have := Z35.out; have := Z36.out; have := Z44.out; have := Z45.out; omega)
        have Z46 : Hid (y45.heap.size ≤ y46.heap.size) := hg.size
        have R0' : Hid (Mk y46 59 3 S.nc S.c (.slice d0 S.nc e0) (y35.heap.size) (y44.heap.size) (y45.heap.size)) := R0.out.grown hg (fun k hk => by have := Z0.out; have := Z35.out; have := Z36.out; have := Z44.out; have := Z45.out; omega)
        have E2' : Hid (Em y46 y36.heap.size 36) := E2.out.grown hg (by have := Z0.out; have := Z35.out; have := Z36.out; have := Z44.out; have := Z45.out; omega)
        have R1' : Hid (Mk y46 62 5 S.nl S.l (.slice d1 S.nl e1) (y0.heap.size) (y45.heap.size) (y46.heap.size)) := ⟨hrow, hblk⟩
        clear hrow hblk hg RB E1 R0 E2
        have RB := RB2
        clear RB2
        have R0 := R0'
        clear R0'
        have E2 := E2'
        clear E2'
        have R1 := R1'
        clear R1'
        go_simp
        refine hK.out _ _ hS' (fun hS => ?_)
        clear hK K hS'
        refine rdH 11 (fun K hK => ?_)
        refine step_onto (by rfl) _ _ 26 (by rfl) 36 i2 (.agg #[.int .i64 0, .int .i64 0, .int .i64 0, .int .i64 0]) 4 32 Tryz.underlying26 hi2 hz02 hz12 hz22 rfl (by omega) (by omega) y46 (y36.heap.size) B S.nw S.k (.slice a2 S.nw c2) (by rfl) (by rfl) E2.out (H.out.later hS.2).2.2 (by omega) ?_
        intro d2 e2 y47 hrow hblk hg
        have hS' : Cp w (.slice a0 S.nc c0) (.slice a1 S.nl c1) (.slice a2 S.nw c2) y47 := hS.grown hg (by have := Z0.out; have := Z35.out; have := Z36.out; have := Z44.out; have := Z45.out; have := Z46.out; omega)
        have RB2 : Hid (Blk3 y47 (w.heap.size + 1) (.slice none 0 0) (.slice none 0 0) (.slice none 0 0)) := RB.out.grown hg (by have := Z0.out; have := Z35.out; have := Z36.out; have := Z44.out; have := Z45.out; have := Z46.out; omega)
        have Z47 : Hid (y46.heap.size ≤ y47.heap.size) := hg.size
        have R0' : Hid (Mk y47 59 3 S.nc S.c (.slice d0 S.nc e0) (y35.heap.size) (y44.heap.size) (y45.heap.size)) := R0.out.grown hg (fun k hk => by have := Z0.out; have := Z35.out; have := Z36.out; have := Z44.out; have := Z45.out; have := Z46.out; omega)
        have R1' : Hid (Mk y47 62 5 S.nl S.l (.slice d1 S.nl e1) (y0.heap.size) (y45.heap.size) (y46.heap.size)) := R1.out.grown hg (fun k hk => by have := Z0.out; have := Z35.out; have := Z36.out; have := Z44.out; have := Z45.out; have := Z46.out; omega)
        have R2' : Hid (Mk y47 36 4 S.nw S.k (.slice d2 S.nw e2) (y36.heap.size) (y46.heap.size) (y47.heap.size)) := ⟨hrow, hblk⟩
        clear hrow hblk hg RB E2 R0 R1
        have RB := RB2
        clear RB2
        have R0 := R0'
        clear R0'
        have R1 := R1'
        clear R1'
        have R2 := R2'
        clear R2'
        go_simp
        refine hK.out _ _ hS' (fun hS => ?_)
        clear hK K hS'
        refine tkH 12 ?_ hS (fun wx hx => ?_) ?_; rotate_left
        · obtain ⟨⟨⟨hx0, hx1, hx2⟩, _⟩, _⟩ := hx; go_simp; try with_reducible rfl
        refine rdH 13 (fun K hK => ?_)
        obtain ⟨⟨y0', y1', y2'⟩, z0', z1', z2'⟩ := RB.out
        have LF : Hid (NewStoK w S (.returned (.agg #[.slice d0 S.nc e0, .slice d1 S.nl e1, .slice d2 S.nw e2])) (((y47.setCell ⟨w.heap.size + 1, 0, none⟩ (.slice d0 S.nc e0)).setCell ⟨w.heap.size + 1, 1, none⟩ (.slice d1 S.nl e1)).setCell ⟨w.heap.size + 1, 2, none⟩ (.slice d2 S.nw e2))) := copy_leaf hS.2 R0.out R1.out R2.out (by have := Z0.out; have := Z35.out; have := Z36.out; have := Z44.out; have := Z45.out; have := Z46.out; have := Z47.out; omega) (fun k h1 h2 => by have := Z0.out; have := Z35.out; have := Z36.out; have := Z44.out; have := Z45.out; have := Z46.out; have := Z47.out; omega) (fun k h1 h2 => by have := Z0.out; have := Z35.out; have := Z36.out; have := Z44.out; have := Z45.out; have := Z46.out; have := Z47.out; omega) (fun k h1 h2 => by have := Z0.out; have := Z35.out; have := Z36.out; have := Z44.out; have := Z45.out; have := Z46.out; have := Z47.out; omega)
        have hS' : Cp w (.slice a0 S.nc c0) (.slice a1 S.nl c1) (.slice a2 S.nw c2) (((y47.setCell ⟨w.heap.size + 1, 0, none⟩ (.slice d0 S.nc e0)).setCell ⟨w.heap.size + 1, 1, none⟩ (.slice d1 S.nl e1)).setCell ⟨w.heap.size + 1, 2, none⟩ (.slice d2 S.nw e2)) := ⟨((hS.1.setFar (p := ⟨w.heap.size + 1, 0, none⟩) (by simp) _).setFar (p := ⟨w.heap.size + 1, 1, none⟩) (by simp) _).setFar (p := ⟨w.heap.size + 1, 2, none⟩) (by simp) _, ((hS.2.setCell (Nat.le_succ _) _).setCell (Nat.le_succ _) _).setCell (Nat.le_succ _) _⟩
        go_simp
        refine hK.out _ _ hS' (fun hS => ?_)
        clear hK K hS'
        refine wpAnyH_done (by kernel_rfl) ?_ _
        go_simp
        go_wp2
        exact bodyPost_ret (v := .agg #[.slice d0 S.nc e0, .slice d1 S.nl e1, .slice d2 S.nw e2]) (by simp [results, Tryz.results119, go_sem, y0', y1', y2']) rfl LF.out
    · have hS' : Cp w (.slice a0 S.nc c0) (.slice a1 S.nl c1) (.slice a2 S.nw c2) (y35.alloc (.cells #[] 36)) := hS.later (below_alloc _ _)
      have RB2 : Hid (Blk3 (y35.alloc (.cells #[] 36)) (w.heap.size + 1) (.slice none 0 0) (.slice none 0 0) (.slice none 0 0)) := RB.out.alloc _
      have Z48 : Hid ((y35.alloc (.cells #[] 36)).heap.size = y35.heap.size + 1) := World.size_alloc _ _
      have E1' : Hid (Em (y35.alloc (.cells #[] 36)) y0.heap.size 62) := E1.out.later (below_alloc _ _)
      have E2' : Hid (Em (y35.alloc (.cells #[] 36)) y35.heap.size 36) := Em.new _ _
      go_simp
      refine hK.out _ _ hS' (fun hS => ?_)
      clear hK K hS' RB E1
      generalize y35.alloc (.cells #[] 36) = y48 at RB2 Z48 hS E1' E2' ⊢
      have RB := RB2
      clear RB2
      have E1 := E1'
      clear E1'
      have E2 := E2'
      clear E2'
      refine rdH 0 (fun K hK => ?_)
      have hS' : Cp w (.slice a0 S.nc c0) (.slice a1 S.nl c1) (.slice a2 S.nw c2) (y48.alloc (.cells #[] 59)) := hS.later (below_alloc _ _)
      have RB2 : Hid (Blk3 (y48.alloc (.cells #[] 59)) (w.heap.size + 1) (.slice none 0 0) (.slice none 0 0) (.slice none 0 0)) := RB.out.alloc _
      have Z49 : Hid ((y48.alloc (.cells #[] 59)).heap.size = y48.heap.size + 1) := World.size_alloc _ _
      have E1' : Hid (Em (y48.alloc (.cells #[] 59)) y0.heap.size 62) := E1.out.later (below_alloc _ _)
      have E2' : Hid (Em (y48.alloc (.cells #[] 59)) y35.heap.size 36) := E2.out.later (below_alloc _ _)
      have E0' : Hid (Em (y48.alloc (.cells #[] 59)) y48.heap.size 59) := Em.new _ _
      go_simp
      refine hK.out _ _ hS' (fun hS => ?_)
      clear hK K hS' RB E1 E2
      generalize y48.alloc (.cells #[] 59) = y49 at RB2 Z49 hS E1' E2' E0' ⊢
      have RB := RB2
      clear RB2
      have E0 := E0'
      clear E0'
      have E1 := E1'
      clear E1'
      have E2 := E2'
      clear E2'
      refine rdH 3 (fun K hK => ?_)
      refine step_onto (by rfl) _ _ 24 (by rfl) 59 i0 (.agg #[.int .i64 0, .int .i64 0, .int .i64 0]) 3 24 Tryz.underlying24 hi0 hz00 hz10 hz20 rfl (by omega) (by omega) y49 (y48.heap.size) B S.nc S.c (.slice a0 S.nc c0) (by rfl) (by rfl) E0.out (H.out.later hS.2).1 (by omega) ?_
      intro d0 e0 y50 hrow hblk hg
      have hS' : Cp w (.slice a0 S.nc c0) (.slice a1 S.nl c1) (.slice a2 S.nw c2) y50 := hS.grown hg (by have := Z0.out; have := Z35.out; have := Z48.out; have := Z49.out; omega)
      have RB2 : Hid (Blk3 y50 (w.heap.size + 1) (.slice none 0 0) (.slice none 0 0) (.slice none 0 0)) := RB.out.grown hg (by have := Z0.out; have := Z35.out; have := Z48.out; have := Z49.out; omega)
      have Z50 : Hid (y49.heap.size ≤ y50.heap.size) := hg.size
      have E1' : Hid (Em y50 y0.heap.size 62) := E1.out.grown hg (by have := Z0.out; have := Z35.out; have := Z48.out; have := Z49.out; omega)
      have E2' : Hid (Em y50 y35.heap.size 36) := E2.out.grown hg (by have := Z0.out; have := Z35.out; have := Z48.out; have := Z49.out; omega)
      have R0' : Hid (Mk y50 59 3 S.nc S.c (.slice d0 S.nc e0) (y48.heap.size) (y49.heap.size) (y50.heap.size)) := ⟨hrow, hblk⟩
      clear hrow hblk hg RB E0 E1 E2
      have RB := RB2
      clear RB2
      have E1 := E1'
      clear E1'
      have E2 := E2'
      clear E2'
      have R0 := R0'
      clear R0'
      go_simp
      refine hK.out _ _ hS' (fun hS => ?_)
      clear hK K hS'
      refine rdH 7 (fun K hK => ?_)
      refine step_onto (by rfl) _ _ 25 (by rfl) 62 i1 (.agg #[.int .i64 0, .int .i64 0, .int .i64 0, .int .i64 0, .int .i64 0]) 5 40 Tryz.underlying25 hi1 hz01 hz11 hz21 rfl (by omega) (by omega) y50 (y0.heap.size) B S.nl S.l (.slice a1 S.nl c1) (by rfl) (by rfl) E1.out (H.out.later hS.2).2.1 (by omega) ?_
      intro d1 e1 y51 hrow hblk hg
      have hS' : Cp w (.slice a0 S.nc c0) (.slice a1 S.nl c1) (.slice a2 S.nw c2) y51 := hS.grown hg (by have := Z0.out; have := Z35.out; have := Z48.out; have := Z49.out; have := Z50.out; omega)
      have RB2 : Hid (Blk3 y51 (w.heap.size + 1) (.slice none 0 0) (.slice none 0 0) (.slice none 0 0)) := RB.out.grown hg (by have := Z0.out; have := Z35.out; have := Z48.out; have := Z49.out; have := Z50.out; omega)
      have Z51 : Hid (y50.heap.size ≤ y51.heap.size) := hg.size
      have R0' : Hid (Mk y51 59 3 S.nc S.c (.slice d0 S.nc e0) (y48.heap.size) (y49.heap.size) (y50.heap.size)) := R0.out.grown hg (fun k hk => by have := Z0.out; have := Z35.out; have := Z48.out; have := Z49.out; have := Z50.out; omega)
      have E2' : Hid (Em y51 y35.heap.size 36) := E2.out.grown hg (by have := Z0.out; have := Z35.out; have := Z48.out; have := Z49.out; have := Z50.out; omega)
      have R1' : Hid (Mk y51 62 5 S.nl S.l (.slice d1 S.nl e1) (y0.heap.size) (y50.heap.size) (y51.heap.size)) := ⟨hrow, hblk⟩
      clear hrow hblk hg RB E1 R0 E2
      have RB := RB2
      clear RB2
      have R0 := R0'
      clear R0'
      have E2 := E2'
      clear E2'
      have R1 := R1'
      clear R1'
      go_simp
      refine hK.out _ _ hS' (fun hS => ?_)
      clear hK K hS'
      refine rdH 11 (fun K hK => ?_)
      refine step_onto (by rfl) _ _ 26 (by rfl) 36 i2 (.agg #[.int .i64 0, .int .i64 0, .int .i64 0, .int .i64 0]) 4 32 Tryz.underlying26 hi2 hz02 hz12 hz22 rfl (by omega) (by omega) y51 (y35.heap.size) B S.nw S.k (.slice a2 S.nw c2) (by rfl) (by rfl) E2.out (H.out.later hS.2).2.2 (by omega) ?_
      intro d2 e2 y52 hrow hblk hg
      have hS' : Cp w (.slice a0 S.nc c0) (.slice a1 S.nl c1) (.slice a2 S.nw c2) y52 := hS.grown hg (by have := Z0.out; have := Z35.out; have := Z48.out; have := Z49.out; have := Z50.out; have := Z51.out; omega)
      have RB2 : Hid (Blk3 y52 (w.heap.size + 1) (.slice none 0 0) (.slice none 0 0) (.slice none 0 0)) := RB.out.grown hg (by have := Z0.out; have := Z35.out; have := Z48.out; have := Z49.out; have := Z50.out; have := Z51.out; omega)
      have Z52 : Hid (y51.heap.size ≤ y52.heap.size) := hg.size
      have R0' : Hid (Mk y52 59 3 S.nc S.c (.slice d0 S.nc e0) (y48.heap.size) (y49.heap.size) (y50.heap.size)) := R0.out.grown hg (fun k hk => by have := Z0.out; have := Z35.out; have := Z48.out; have := Z49.out; have := Z50.out; have := Z51.out; omega)
      have R1' : Hid (Mk y52 62 5 S.nl S.l (.slice d1 S.nl e1) (y0.heap.size) (y50.heap.size) (y51.heap.size)) := R1.out.grown hg (fun k hk => by have := Z0.out; have := Z35.out; have := Z48.out; have := Z49.out; have := Z50.out; have := Z51.out; omega)
      have R2' : Hid (Mk y52 36 4 S.nw S.k (.slice d2 S.nw e2) (y35.heap.size) (y51.heap.size) (y52.heap.size)) := ⟨hrow, hblk⟩
      clear hrow hblk hg RB E2 R0 R1
      have RB := RB2
      clear RB2
      have R0 := R0'
      clear R0'
      have R1 := R1'
      clear R1'
      have R2 := R2'
      clear R2'
      go_simp
      refine hK.out _ _ hS' (fun hS => ?_)
      clear hK K hS'
      refine tkH 12 ?_ hS (fun wx hx => ?_) ?_; rotate_left
      · obtain ⟨⟨⟨hx0, hx1, hx2⟩, _⟩, _⟩ := hx; go_simp; try with_reducible rfl
      refine rdH 13 (fun K hK => ?_)
      obtain ⟨⟨y0', y1', y2'⟩, z0', z1', z2'⟩ := RB.out
      have LF : Hid (NewStoK w S (.returned (.agg #[.slice d0 S.nc e0, .slice d1 S.nl e1, .slice d2 S.nw e2])) (((y52.setCell ⟨w.heap.size + 1, 0, none⟩ (.slice d0 S.nc e0)).setCell ⟨w.heap.size + 1, 1, none⟩ (.slice d1 S.nl e1)).setCell ⟨w.heap.size + 1, 2, none⟩ (.slice d2 S.nw e2))) := copy_leaf hS.2 R0.out R1.out R2.out (by have := Z0.out; have := Z35.out; have := Z48.out; have := Z49.out; have := Z50.out; have := Z51.out; have := Z52.out; omega) (fun k h1 h2 => by have := Z0.out; have := Z35.out; have := Z48.out; have := Z49.out; have := Z50.out; have := Z51.out; have := Z52.out; omega) (fun k h1 h2 => by have := Z0.out; have := Z35.out; have := Z48.out; have := Z49.out; have := Z50.out; have := Z51.out; have := Z52.out; omega) (fun k h1 h2 => by have := Z0.out; have := Z35.out; have := Z48.out; have := Z49.out; have := Z50.out; have := Z51.out; have := Z52.out; omega)
      have hS' : Cp w (.slice a0 S.nc c0) (.slice a1 S.nl c1) (.slice a2 S.nw c2) (((y52.setCell ⟨w.heap.size + 1, 0, none⟩ (.slice d0 S.nc e0)).setCell ⟨w.heap.size + 1, 1, none⟩ (.slice d1 S.nl e1)).setCell ⟨w.heap.size + 1, 2, none⟩ (.slice d2 S.nw e2)) := ⟨((hS.1.setFar (p := ⟨w.heap.size + 1, 0, none⟩) (by simp) _).setFar (p := ⟨w.heap.size + 1, 1, none⟩) (by simp) _).setFar (p := ⟨w.heap.size + 1, 2, none⟩) (by simp) _, ((hS.2.setCell (Nat.le_succ _) _).setCell (Nat.le_succ _) _).setCell (Nat.le_succ _) _⟩
      go_simp
      refine hK.out _ _ hS' (fun hS => ?_)
      clear hK K hS'
      refine wpAnyH_done (by kernel_rfl) ?_ _
      go_simp
      go_wp2
      exact bodyPost_ret (v := .agg #[.slice d0 S.nc e0, .slice d1 S.nl e1, .slice d2 S.nw e2]) (by simp [results, Tryz.results119, go_sem, y0', y1', y2']) rfl LF.out
  · have hS' : Cp w (.slice a0 S.nc c0) (.slice a1 S.nl c1) (.slice a2 S.nw c2) (y0.alloc (.cells #[] 36)) := hS.later (below_alloc _ _)
    have RB2 : Hid (Blk3 (y0.alloc (.cells #[] 36)) (w.heap.size + 1) (.slice none 0 0) (.slice none 0 0) (.slice none 0 0)) := RB.out.alloc _
    have Z53 : Hid ((y0.alloc (.cells #[] 36)).heap.size = y0.heap.size + 1) := World.size_alloc _ _
    have E2' : Hid (Em (y0.alloc (.cells #[] 36)) y0.heap.size 36) := Em.new _ _
    go_simp
    refine hK.out _ _ hS' (fun hS => ?_)
    clear hK K hS' RB
    generalize y0.alloc (.cells #[] 36) = y53 at RB2 Z53 hS E2' ⊢
    have RB := RB2
    clear RB2
    have E2 := E2'
    clear E2'
    refine wpAnyH_ready (rs := [0, 4]) (by kernel_rfl) (by simp) ?_
    refine AllReadyH.cons rfl (fun K hK => ?_) (AllReadyH.cons rfl (fun K hK => ?_) AllReadyH.nil)
    · have hS' : Cp w (.slice a0 S.nc c0) (.slice a1 S.nl c1) (.slice a2 S.nw c2) (y53.alloc (.cells #[] 59)) := hS.later (below_alloc _ _)
      have RB2 : Hid (Blk3 (y53.alloc (.cells #[] 59)) (w.heap.size + 1) (.slice none 0 0) (.slice none 0 0) (.slice none 0 0)) := RB.out.alloc _
      have Z54 : Hid ((y53.alloc (.cells #[] 59)).heap.size = y53.heap.size + 1) := World.size_alloc _ _
      have E2' : Hid (Em (y53.alloc (.cells #[] 59)) y0.heap.size 36) := E2.out.later (below_alloc _ _)
      have E0' : Hid (Em (y53.alloc (.cells #[] 59)) y53.heap.size 59) := Em.new _ _
      go_simp
      refine hK.out _ _ hS' (fun hS => ?_)
      clear hK K hS' RB E2
      generalize y53.alloc (.cells #[] 59) = y54 at RB2 Z54 hS E2' E0' ⊢
      have RB := RB2
      clear RB2
      have E0 := E0'
      clear E0'
      have E2 := E2'
      clear E2'
      refine wpAnyH_ready (rs := [3, 4]) (by kernel_rfl) (by simp) ?_
      refine AllReadyH.cons rfl (fun K hK => ?_) (AllReadyH.cons rfl (fun K hK => ?_) AllReadyH.nil)
      · refine step_onto (by rfl) _ _ 24 (by rfl) 59 i0 (.agg #[.int .i64 0, .int .i64 0, .int .i64 0]) 3 24 Tryz.underlying24 hi0 hz00 hz10 hz20 rfl (by omega) (by omega) y54 (y53.heap.size) B S.nc S.c (.slice a0 S.nc c0) (by rfl) (by rfl) E0.out (H.out.later hS.2).1 (by omega) ?_
        intro d0 e0 y55 hrow hblk hg
        have hS' : Cp w (.slice a0 S.nc c0) (.slice a1 S.nl c1) (.slice a2 S.nw c2) y55 := hS.grown hg (by have := Z0.out; have := Z53.out; have := Z54.out; omega)
        have RB2 : Hid (Blk3 y55 (w.heap.size + 1) (.slice none 0 0) (.slice none 0 0) (.slice none 0 0)) := RB.out.grown hg (by have := Z0.out; have := Z53.out; have := Z54.out; omega)
        have Z55 : Hid (y54.heap.size ≤ y55.heap.size) := hg.size
        have E2' : Hid (Em y55 y0.heap.size 36) := E2.out.grown hg (by have := Z0.out; have := Z53.out; have := Z54.out; omega)
        have R0' : Hid (Mk y55 59 3 S.nc S.c (.slice d0 S.nc e0) (y53.heap.size) (y54.heap.size) (y55.heap.size)) := ⟨hrow, hblk⟩
        clear hrow hblk hg RB E0 E2
        have RB := RB2
        clear RB2
        have E2 := E2'
        clear E2'
        have R0 := R0'
        clear R0'
        go_simp
        refine hK.out _ _ hS' (fun hS => ?_)
        clear hK K hS'
        refine rdH 4 (fun K hK => ?_)
        have hS' : Cp w (.slice a0 S.nc c0) (.slice a1 S.nl c1) (.slice a2 S.nw c2) (y55.alloc (.cells #[] 62)) := hS.later (below_alloc _ _)
        have RB2 : Hid (Blk3 (y55.alloc (.cells #[] 62)) (w.heap.size + 1) (.slice none 0 0) (.slice none 0 0) (.slice none 0 0)) := RB.out.alloc _
        have Z56 : Hid ((y55.alloc (.cells #[] 62)).heap.size = y55.heap.size + 1) := World.size_alloc _ _
        have R0' : Hid (Mk (y55.alloc (.cells #[] 62)) 59 3 S.nc S.c (.slice d0 S.nc e0) (y53.heap.size) (y54.heap.size) (y55.heap.size)) := R0.out.later (below_alloc _ _)
        have E2' : Hid (Em (y55.alloc (.cells #[] 62)) y0.heap.size 36) := E2.out.later (below_alloc _ _)
        have E1' : Hid (Em (y55.alloc (.cells #[] 62)) y55.heap.size 62) := Em.new _ _
        go_simp
        refine hK.out _ _ hS' (fun hS => ?_)
        clear hK K hS' RB E2 R0
        generalize y55.alloc (.cells #[] 62) = y56 at RB2 Z56 hS R0' E2' E1' ⊢
        have RB := RB2
        clear RB2
        have R0 := R0'
        clear R0'
        have E1 := E1'
        clear E1'
        have E2 := E2'
        clear E2'
        refine rdH 7 (fun K hK => ?_)
        refine step_onto (by rfl) _ _ 25 (by rfl) 62 i1 (.agg #[.int .i64 0, .int .i64 0, .int .i64 0, .int .i64 0, .int .i64 0]) 5 40 Tryz.underlying25 hi1 hz01 hz11 hz21 rfl (by omega) (by omega) y56 (y55.heap.size) B S.nl S.l (.slice a1 S.nl c1) (by rfl) (by rfl) E1.out (H.out.later hS.2).2.1 (by omega) ?_
        intro d1 e1 y57 hrow hblk hg
        have hS' : Cp w (.slice a0 S.nc c0) (.slice a1 S.nl c1) (.slice a2 S.nw c2) y57 := hS.grown hg (by have := Z0.out; have := Z53.out; have := Z54.out; have := Z55.out; have := Z56.out; omega)
        have RB2 : Hid (Blk3 y57 (w.heap.size + 1) (.slice none 0 0) (.slice none 0 0) (.slice none 0 0)) := RB.out.grown hg (by have := Z0.out; have := Z53.out; have := Z54.out; have := Z55.out; have := Z56.out; omega)
        have Z57 : Hid (y56.heap.size ≤ y57.heap.size) := hg.size
        have R0' : Hid (Mk y57 59 3 S.nc S.c (.slice d0 S.nc e0) (y53.heap.size) (y54.heap.size) (y55.heap.size)) := R0.out.grown hg (fun k hk => by have := Z0.out; have := Z53.out; have := Z54.out; have := Z55.out; have := Z56.out; omega)
        have E2' : Hid (Em y57 y0.heap.size 36) := E2.out.grown hg (by have := Z0.out; have := Z53.out; have := Z54.out; have := Z55.out; have := Z56.out; omega)
        have R1' : Hid (Mk y57 62 5 S.nl S.l (.slice d1 S.nl e1) (y55.heap.size) (y56.heap.size) (y57.heap.size)) := ⟨hrow, hblk⟩
        clear hrow hblk hg RB E1 R0 E2
        have RB := RB2
        clear RB2
        have R0 := R0'
        clear R0'
        have E2 := E2'
        clear E2'
        have R1 := R1'
        clear R1'
        go_simp
        refine hK.out _ _ hS' (fun hS => ?_)
        clear hK K hS'
        refine rdH 11 (fun K hK => ?_)
        refine step_onto (by rfl) _ _ 26 (by rfl) 36 i2 (.agg #[.int .i64 0, .int .i64 0, .int .i64 0, .int .i64 0]) 4 32 Tryz.underlying26 hi2 hz02 hz12 hz22 rfl (by omega) (by omega) y57 (y0.heap.size) B S.nw S.k (.slice a2 S.nw c2) (by rfl) (by rfl) E2.out (H.out.later hS.2).2.2 (by omega) ?_
        intro d2 e2 y58 hrow hblk hg
        have hS' : Cp w (.slice a0 S.nc c0) (.slice a1 S.nl c1) (.slice a2 S.nw c2) y58 := hS.grown hg (by have := Z0.out; have := Z53.out; have := Z54.out; have := Z55.out; have := Z56.out; have := Z57.out; omega)
        have RB2 : Hid (Blk3 y58 (w.heap.size + 1) (.slice none 0 0) (.slice none 0 0) (.slice none 0 0)) := RB.out.grown hg (by have := Z0.out; have := Z53.out; have := Z54.out; have := Z55.out; have := Z56.out; have := Z57.out; omega)
        have Z58 : Hid (y57.heap.size ≤ y58.heap.size) := hg.size
        have R0' : Hid (Mk y58 59 3 S.nc S.c (.slice d0 S.nc e0) (y53.heap.size) (y54.heap.size) (y55.heap.size)) := R0.out.grown hg (fun k hk => by have := Z0.out; have := Z53.out; have := Z54.out; have := Z55.out; have := Z56.out; have := Z57.out; omega)
        have R1' : Hid (Mk y58 62 5 S.nl S.l (.slice d1 S.nl e1) (y55.heap.size) (y56.heap.size) (y57.heap.size)) := R1.out.grown hg (fun k hk => by have := Z0.out; have := Z53.out; have := Z54.out; have := Z55.out; have := Z56.out; have := Z57.out; omega)
        have R2' : Hid (Mk y58 36 4 S.nw S.k (.slice d2 S.nw e2) (y0.heap.size) (y57.heap.size) (y58.heap.size)) := ⟨hrow, hblk⟩
        clear hrow hblk hg RB E2 R0 R1
        have RB := RB2
        clear RB2
        have R0 := R0'
        clear R0'
        have R1 := R1'
        clear R1'
        have R2 := R2'
        clear R2'
        go_simp
        refine hK.out _ _ hS' (fun hS => ?_)
        clear hK K hS'
        refine tkH 12 ?_ hS (fun wx hx => ?_) ?_; rotate_left
        · obtain ⟨⟨⟨hx0, hx1, hx2⟩, _⟩, _⟩ := hx; go_simp; try with_reducible rfl
        refine rdH 13 (fun K hK => ?_)
        obtain ⟨⟨y0', y1', y2'⟩, z0', z1', z2'⟩ := RB.out
        have LF : Hid (NewStoK w S (.returned (.agg #[.slice d0 S.nc e0, .slice d1 S.nl e1, .slice d2 S.nw e2])) (((y58.setCell ⟨w.heap.size + 1, 0, none⟩ (.slice d0 S.nc e0)).setCell ⟨w.heap.size + 1, 1, none⟩ (.slice d1 S.nl e1)).setCell ⟨w.heap.size + 1, 2, none⟩ (.slice d2 S.nw e2))) := copy_leaf hS.2 R0.out R1.out R2.out (by have := Z0.out; have := Z53.out; have := Z54.out; have := Z55.out; have := Z56.out; have := Z57.out; have := Z58.out; omega) (fun k h1 h2 => by have := Z0.out; have := Z53.out; have := Z54.out; have := Z55.out; have := Z56.out; have := Z57.out; have := Z58.out; omega) (fun k h1 h2 => by have := Z0.out; have := Z53.out; have := Z54.out; have := Z55.out; have := Z56.out; have := Z57.out; have := Z58.out; omega) (fun k h1 h2 => by have := Z0.out; have := Z53.out; have := Z54.out; have := Z55.out; have := Z56.out; have := Z57.out; have := Z58.out; omega)
        have hS' : Cp w (.slice a0 S.nc c0) (.slice a1 S.nl c1) (.slice a2 S.nw c2) (((y58.setCell ⟨w.heap.size + 1, 0, none⟩ (.slice d0 S.nc e0)).setCell ⟨w.heap.size + 1, 1, none⟩ (.slice d1 S.nl e1)).setCell ⟨w.heap.size + 1, 2, none⟩ (.slice d2 S.nw e2)) := ⟨((hS.1.setFar (p := ⟨w.heap.size + 1, 0, none⟩) (by simp) _).setFar (p := ⟨w.heap.size + 1, 1, none⟩) (by simp) _).setFar (p := ⟨w.heap.size + 1, 2, none⟩) (by simp) _, ((hS.2.setCell (Nat.le_succ _) _).setCell (Nat.le_succ _) _).setCell (Nat.le_succ _) _⟩
        go_simp
        refine hK.out _ _ hS' (fun hS => ?_)
        clear hK K hS'
        refine wpAnyH_done (by kernel_rfl) ?_ _
        go_simp
        go_wp2
        exact bodyPost_ret (v := .agg #[.slice d0 S.nc e0, .slice d1 S.nl e1, .slice d2 S.nw e2]) (by simp [results, Tryz.results119, go_sem, y0', y1', y2']) rfl LF.out
      · have hS' : Cp w (.slice a0 S.nc c0) (.slice a1 S.nl c1) (.slice a2 S.nw c2) (y54.alloc (.cells #[] 62)) := hS.later (below_alloc _ _)
        have RB2 : Hid (Blk3 (y54.alloc (.cells #[] 62)) (w.heap.size + 1) (.slice none 0 0) (.slice none 0 0) (.slice none 0 0)) := RB.out.alloc _
        have Z59 : Hid ((y54.alloc (.cells #[] 62)).heap.size = y54.heap.size + 1) := World.size_alloc _ _
        have E0' : Hid (Em (y54.alloc (.cells #[] 62)) y53.heap.size 59) := E0.out.later (below_alloc _ _)
        have E2' : Hid (Em (y54.alloc (.cells #[] 62)) y0.heap.size 36) := E2.out.later (below_alloc _ _)
        have E1' : Hid (Em (y54.alloc (.cells #[] 62)) y54.heap.size 62) := Em.new _ _
        go_simp
        refine hK.out _ _ hS' (fun hS => ?_)
        clear hK K hS' RB E0 E2
        generalize y54.alloc (.cells #[] 62) = y59 at RB2 Z59 hS E0' E2' E1' ⊢
        have RB := RB2
        clear RB2
        have E0 := E0'
        clear E0'
        have E1 := E1'
        clear E1'
        have E2 := E2'
        clear E2'
        refine rdH 3 (fun K hK => ?_)
        refine step_onto (by rfl) _ _ 24 (by rfl) 59 i0 (.agg #[.int .i64 0, .int .i64 0, .int .i64 0]) 3 24 Tryz.underlying24 hi0 hz00 hz10 hz20 rfl (by omega) (by omega) y59 (y53.heap.size) B S.nc S.c (.slice a0 S.nc c0) (by rfl) (by rfl) E0.out (H.out.later hS.2).1 (by omega) ?_
        intro d0 e0 y60 hrow hblk hg
        have hS' : Cp w (.slice a0 S.nc c0) (.slice a1 S.nl c1) (.slice a2 S.nw c2) y60 := hS.grown hg (by have := Z0.out; have := Z53.out; have := Z54.out; have := Z59.out; omega)
        have RB2 : Hid (Blk3 y60 (w.heap.size + 1) (.slice none 0 0) (.slice none 0 0) (.slice none 0 0)) := RB.out.grown hg (by have := Z0.out; have := Z53.out; have := Z54.out; have := Z59.out; omega)
        have Z60 : Hid (y59.heap.size ≤ y60.heap.size) := hg.size
        have E1' : Hid (Em y60 y54.heap.size 62) := E1.out.grown hg (by have := Z0.out; have := Z53.out; have := Z54.out; have := Z59.out; omega)
        have E2' : Hid (Em y60 y0.heap.size 36) := E2.out.grown hg (by have := Z0.out; have := Z53.out; have := Z54.out; have := Z59.out; omega)
        have R0' : Hid (Mk y60 59 3 S.nc S.c (.slice d0 S.nc e0) (y53.heap.size) (y59.heap.size) (y60.heap.size)) := ⟨hrow, hblk⟩
        clear hrow hblk hg RB E0 E1 E2
        have RB := RB2
        clear RB2
        have E1 := E1'
        clear E1'
        have E2 := E2'
        clear E2'
        have R0 := R0'
        clear R0'
        go_simp
        refine hK.out _ _ hS' (fun hS => ?_)
        clear hK K hS'
        refine rdH 7 (fun K hK => ?_)
        refine step_onto (by rfl) _ _ 25 (by rfl) 62 i1 (.agg #[.int .i64 0, .int .i64 0, .int .i64 0, .int .i64 0, .int .i64 0]) 5 40 Tryz.underlying25 hi1 hz01 hz11 hz21 rfl (by omega) (by omega) y60 (y54.heap.size) B S.nl S.l (.slice a1 S.nl c1) (by rfl) (by rfl) E1.out (H.out.later hS.2).2.1 (by omega) ?_
        intro d1 e1 y61 hrow hblk hg
        have hS' : Cp w (.slice a0 S.nc c0) (.slice a1 S.nl c1) (.slice a2 S.nw c2) y61 := hS.grown hg (by have := Z0.out; have := Z53.out; have := Z54.out; have := Z59.out; have := Z60.out; omega)
        have RB2 : Hid (Blk3 y61 (w.heap.size + 1) (.slice none 0 0) (.slice none 0 0) (.slice none 0 0)) := RB.out.grown hg (by have := Z0.out; have := Z53.out; have := Z54.out; have := Z59.out; have := Z60.out; omega)
        have Z61 : Hid (y60.heap.size ≤ y61.heap.size) := hg.size
        have R0' : Hid (Mk y61 59 3 S.nc S.c (.slice d0 S.nc e0) (y53.heap.size) (y59.heap.size) (y60.heap.size)) := R0.out.grown hg (fun k hk => by have := Z0.out; have := Z53.out; have := Z54.out; have := Z59.out; have := Z60.out; omega)
        have E2' : Hid (Em y61 y0.heap.size 36) := E2.out.grown hg (by have := Z0.out; have := Z53.out; have := Z54.out; have := Z59.out; have := Z60.out; omega)
        have R1' : Hid (Mk y61 62 5 S.nl S.l (.slice d1 S.nl e1) (y54.heap.size) (y60.heap.size) (y61.heap.size)) := ⟨hrow, hblk⟩
        clear hrow hblk hg RB E1 R0 E2
        have RB := RB2
        clear RB2
        have R0 := R0'
        clear R0'
        have E2 := E2'
        clear E2'
        have R1 := R1'
        clear R1'
        go_simp
        refine hK.out _ _ hS' (fun hS => ?_)
        clear hK K hS'
        refine rdH 11 (fun K hK => ?_)
        refine step_onto (by rfl) _ _ 26 (by rfl) 36 i2 (.agg #[.int .i64 0, .int .i64 0, .int .i64 0, .int .i64 0]) 4 32 Tryz.underlying26 hi2 hz02 hz12 hz22 rfl (by omega) (by omega) y61 (y0.heap.size) B S.nw S.k (.slice a2 S.nw c2) (by rfl) (by rfl) E2.out (H.out.later hS.2).2.2 (by omega) ?_
        intro d2 e2 y62 hrow hblk hg
        have hS' : Cp w (.slice a0 S.nc c0) (.slice a1 S.nl c1) (.slice a2 S.nw c2) y62 := hS.grown hg (by have := Z0.out; have := Z53.out; have := Z54.out; have := Z59.out; have := Z60.out; have := Z61.out; omega)
        have RB2 : Hid (Blk3 y62 (w.heap.size + 1) (.slice none 0 0) (.slice none 0 0) (.slice none 0 0)) := RB.out.grown hg (by have := Z0.out; have := Z53.out; have := Z54.out; have := Z59.out; have := Z60.out; have := Z61.out; omega)
        have Z62 : Hid (y61.heap.size ≤ y62.heap.size) := hg.size
        have R0' : Hid (Mk y62 59 3 S.nc S.c (.slice d0 S.nc e0) (y53.heap.size) (y59.heap.size) (y60.heap.size)) := R0.out.grown hg (fun k hk => by have := Z0.out; have := Z53.out; have := Z54.out; have := Z59.out; have := Z60.out; have := Z61.out; omega)
        have R1' : Hid (Mk y62 62 5 S.nl S.l (.slice d1 S.nl e1) (y54.heap.size) (y60.heap.size) (y61.heap.size)) := R1.out.grown hg (fun k hk => by have := Z0.out; have := Z53.out; have := Z54.out; have := Z59.out; have := Z60.out; have := Z61.out; omega)
        have R2' : Hid (Mk y62 36 4 S.nw S.k (.slice d2 S.nw e2) (y0.heap.size) (y61.heap.size) (y62.heap.size)) := ⟨hrow, hblk⟩
        clear hrow hblk hg RB E2 R0 R1
        have RB := RB2
        clear RB2
        have R0 := R0'
        clear R0'
        have R1 := R1'
        clear R1'
        have R2 := R2'
        clear R2'
        go_simp
        refine hK.out _ _ hS' (fun hS => ?_)
        clear hK K hS'
        refine tkH 12 ?_ hS (fun wx hx => ?_) ?_; rotate_left
        · obtain ⟨⟨⟨hx0, hx1, hx2⟩, _⟩, _⟩ := hx; go_simp; try with_reducible rfl
        refine rdH 13 (fun K hK => ?_)
        obtain ⟨⟨y0', y1', y2'⟩, z0', z1', z2'⟩ := RB.out
        have LF : Hid (NewStoK w S (.returned (.agg #[.slice d0 S.nc e0, .slice d1 S.nl e1, .slice d2 S.nw e2])) (((y62.setCell ⟨w.heap.size + 1, 0, none⟩ (.slice d0 S.nc e0)).setCell ⟨w.heap.size + 1, 1, none⟩ (.slice d1 S.nl e1)).setCell ⟨w.heap.size + 1, 2, none⟩ (.slice d2 S.nw e2))) := copy_leaf hS.2 R0.out R1.out R2.out (by have := Z0.out; have := Z53.out; have := Z54.out; have := Z59.out; have := Z60.out; have := Z61.out; have := Z62.out; omega) (fun k h1 h2 => by have := Z0.out; have := Z53.out; have := Z54.out; have := Z59.out; have := Z60.out; have := Z61.out; have := Z62.out; omega) (fun k h1 h2 => by have := Z0.out; have := Z53.out; have := Z54.out; have := Z59.out; have := Z60.out; have := Z61.out; have := Z62.out; omega) (fun k h1 h2 => by have := Z0.out; have := Z53.out; have := Z54.out; have := Z59.out; have := Z60.out; have := Z61.out; have := Z62.out; omega)
        have hS' : Cp w (.slice a0 S.nc c0) (.slice a1 S.nl c1) (.slice a2 S.nw c2) (((y62.setCell ⟨w.heap.size + 1, 0, none⟩ (.slice d0 S.nc e0)).setCell ⟨w.heap.size + 1, 1, none⟩ (.slice d1 S.nl e1)).setCell ⟨w.heap.size + 1, 2, none⟩ (.slice d2 S.nw e2)) := ⟨((hS.1.setFar (p := ⟨w.heap.size + 1, 0, none⟩) (by simp) _).setFar (p := ⟨w.heap.size + 1, 1, none⟩) (by simp) _).setFar (p := ⟨w.heap.size + 1, 2, none⟩) (by simp) _, ((hS.2.setCell (Nat.le_succ _) _).setCell (Nat.le_succ _) _).setCell (Nat.le_succ _) _⟩
        go_simp
        refine hK.out _ _ hS' (fun hS => ?_)
        clear hK K hS'
        refine wpAnyH_done (by kernel_rfl) ?_ _
        go_simp
        go_wp2
        exact bodyPost_ret (v := .agg #[.slice d0 S.nc e0, .slice d1 S.nl e1, .slice d2 S.nw e2]) (by simp [results, Tryz.results119, go_sem, y0', y1', y2']) rfl LF.out
    · have hS' : Cp w (.slice a0 S.nc c0) (.slice a1 S.nl c1) (.slice a2 S.nw c2) (y53.alloc (.cells #[] 62)) := hS.later (below_alloc _ _)
      have RB2 : Hid (Blk3 (y53.alloc (.cells #[] 62)) (w.heap.size + 1) (.slice none 0 0) (.slice none 0 0) (.slice none 0 0)) := RB.out.alloc _
      have Z63 : Hid ((y53.alloc (.cells #[] 62)).heap.size = y53.heap.size + 1) := World.size_alloc _ _
      have E2' : Hid (Em (y53.alloc (.cells #[] 62)) y0.heap.size 36) := E2.out.later (below_alloc _ _)
      have E1' : Hid (Em (y53.alloc (.cells #[] 62)) y53.heap.size 62) := Em.new _ _
      go_simp
      refine hK.out _ _ hS' (fun hS => ?_)
      clear hK K hS' RB E2
      generalize y53.alloc (.cells #[] 62) = y63 at RB2 Z63 hS E2' E1' ⊢
      have RB := RB2
      clear RB2
      have E1 := E1'
      clear E1'
      have E2 := E2'
      clear E2'
      refine rdH 0 (fun K hK => ?_)
      have hS' : Cp w (.slice a0 S.nc c0) (.slice a1 S.nl c1) (.slice a2 S.nw c2) (y63.alloc (.cells #[] 59)) := hS.later (below_alloc _ _)
      have RB2 : Hid (Blk3 (y63.alloc (.cells #[] 59)) (w.heap.size + 1) (.slice none 0 0) (.slice none 0 0) (.slice none 0 0)) := RB.out.alloc _
      have Z64 : Hid ((y63.alloc (.cells #[] 59)).heap.size = y63.heap.size + 1) := World.size_alloc _ _
      have E1' : Hid (Em (y63.alloc (.cells #[] 59)) y53.heap.size 62) := E1.out.later (below_alloc _ _)
      have E2' : Hid (Em (y63.alloc (.cells #[] 59)) y0.heap.size 36) := E2.out.later (below_alloc _ _)
      have E0' : Hid (Em (y63.alloc (.cells #[] 59)) y63.heap.size 59) := Em.new _ _
      go_simp
      refine hK.out _ _ hS' (fun hS => ?_)
      clear hK K hS' RB E1 E2
      generalize y63.alloc (.cells #[] 59) = y64 at RB2 Z64 hS E1' E2' E0' ⊢
      have RB := RB2
      clear RB2
      have E0 := E0'
      clear E0'
      have E1 := E1'
      clear E1'
      have E2 := E2'
      clear E2'
      refine rdH 3 (fun K hK => ?_)
      refine step_onto (by rfl) _ _ 24 (by rfl) 59 i0 (.agg #[.int .i64 0, .int .i64 0, .int .i64 0]) 3 24 Tryz.underlying24 hi0 hz00 hz10 hz20 rfl (by omega) (by omega) y64 (y63.heap.size) B S.nc S.c (.slice a0 S.nc c0) (by rfl) (by rfl) E0.out (H.out.later hS.2).1 (by omega) ?_
      intro d0 e0 y65 hrow hblk hg
      have hS' : Cp w (.slice a0 S.nc c0) (.slice a1 S.nl c1) (.slice a2 S.nw c2) y65 := hS.grown hg (by have := Z0.out; have := Z53.out; have := Z63.out; have := Z64.out; omega)
      have RB2 : Hid (Blk3 y65 (w.heap.size + 1) (.slice none 0 0) (.slice none 0 0) (.slice none 0 0)) := RB.out.grown hg (by have := Z0.out; have := Z53.out; have := Z63.out; have := Z64.out; omega)
      have Z65 : Hid (y64.heap.size ≤ y65.heap.size) := hg.size
      have E1' : Hid (Em y65 y53.heap.size 62) := E1.out.grown hg (by have := Z0.out; have := Z53.out; have := Z63.out; have := Z64.out; omega)
      have E2' : Hid (Em y65 y0.heap.size 36) := E2.out.grown hg (by have := Z0.out; have := Z53.out; have := Z63.out; have := Z64.out; omega)
      have R0' : Hid (Mk y65 59 3 S.nc S.c (.slice d0 S.nc e0) (y63.heap.size) (y64.heap.size) (y65.heap.size)) := ⟨hrow, hblk⟩
      clear hrow hblk hg RB E0 E1 E2
      have RB := RB2
      clear RB2
      have E1 := E1'
      clear E1'
      have E2 := E2'
      clear E2'
      have R0 := R0'
      clear R0'
      go_simp
      refine hK.out _ _ hS' (fun hS => ?_)
      clear hK K hS'
      refine rdH 7 (fun K hK => ?_)
      refine step_onto (by rfl) _ _ 25 (by rfl) 62 i1 (.agg #[.int .i64 0, .int .i64 0, .int .i64 0, .int .i64 0, .int .i64 0]) 5 40 Tryz.underlying25 hi1 hz01 hz11 hz21 rfl (by omega) (by omega) y65 (y53.heap.size) B S.nl S.l (.slice a1 S.nl c1) (by rfl) (by rfl) E1.out (H.out.later hS.2).2.1 (by omega) ?_
      intro d1 e1 y66 hrow hblk hg
      have hS' : Cp w (.slice a0 S.nc c0) (.slice a1 S.nl c1) (.slice a2 S.nw c2) y66 := hS.grown hg (by have := Z0.out; have := Z53.out; have := Z63.out; have := Z64.out; have := Z65.out; omega)
      have RB2 : Hid (Blk3 y66 (w.heap.size + 1) (.slice none 0 0) (.slice none 0 0) (.slice none 0 0)) := RB.out.grown hg (by have := Z0.out; have := Z53.out; have := Z63.out; have := Z64.out; have := Z65.out; omega)
      have Z66 : Hid (y65.heap.size ≤ y66.heap.size) := hg.size
      have R0' : Hid (Mk y66 59 3 S.nc S.c (.slice d0 S.nc e0) (y63.heap.size) (y64.heap.size) (y65.heap.size)) := R0.out.grown hg (fun k hk => by have := Z0.out; have := Z53.out; have := Z63.out; have := Z64.out; have := Z65.out; omega)
      have E2' : Hid (Em y66 y0.heap.size 36) := E2.out.grown hg (by have := Z0.out; have := Z53.out; have := Z63.out; have := Z64.out; have := Z65.out; omega)
      have R1' : Hid (Mk y66 62 5 S.nl S.l (.slice d1 S.nl e1) (y53.heap.size) (y65.heap.size) (y66.heap.size)) := ⟨hrow, hblk⟩
      clear hrow hblk hg RB E1 R0 E2
      have RB := RB2
      clear RB2
      have R0 := R0'
      clear R0'
      have E2 := E2'
      clear E2'
      have R1 := R1'
      clear R1'
      go_simp
      refine hK.out _ _ hS' (fun hS => ?_)
      clear hK K hS'
      refine rdH 11 (fun K hK => ?_)
      refine step_onto (by rfl) _ _ 26 (by rfl) 36 i2 (.agg #[.int .i64 0, .int .i64 0, .int .i64 0, .int .i64 0]) 4 32 Tryz.underlying26 hi2 hz02 hz12 hz22 rfl (by omega) (by omega) y66 (y0.heap.size) B S.nw S.k (.slice a2 S.nw c2) (by rfl) (by rfl) E2.out (H.out.later hS.2).2.2 (by omega) ?_
      intro d2 e2 y67 hrow hblk hg
      have hS' : Cp w (.slice a0 S.nc c0) (.slice a1 S.nl c1) (.slice a2 S.nw c2) y67 := hS.grown hg (by have := Z0.out; have := Z53.out; have := Z63.out; have := Z64.out; have := Z65.out; have := Z66.out; omega)
      have RB2 : Hid (Blk3 y67 (w.heap.size + 1) (.slice none 0 0) (.slice none 0 0) (.slice none 0 0)) := RB.out.grown hg (by have := Z0.out; have := Z53.out; have := Z63.out; have := Z64.out; have := Z65.out; have := Z66.out; omega)
      have Z67 : Hid (y66.heap.size ≤ y67.heap.size) := hg.size
      have R0' : Hid (Mk y67 59 3 S.nc S.c (.slice d0 S.nc e0) (y63.heap.size) (y64.heap.size) (y65.heap.size)) := R0.out.grown hg (fun k hk => by have := Z0.out; have := Z53.out; have := Z63.out; have := Z64.out; have := Z65.out; have := Z66.out; omega)
      have R1' : Hid (Mk y67 62 5 S.nl S.l (.slice d1 S.nl e1) (y53.heap.size) (y65.heap.size) (y66.heap.size)) := R1.out.grown hg (fun k hk => by have := Z0.out; have := Z53.out; have := Z63.out; have := Z64.out; have := Z65.out; have := Z66.out; omega)
      have R2' : Hid (Mk y67 36 4 S.nw S.k (.slice d2 S.nw e2) (y0.heap.size) (y66.heap.size) (y67.heap.size)) := ⟨hrow, hblk⟩
      clear hrow hblk hg RB E2 R0 R1
      have RB := RB2
      clear RB2
      have R0 := R0'
      clear R0'
      have R1 := R1'
      clear R1'
      have R2 := R2'
      clear R2'
      go_simp
      refine hK.out _ _ hS' (fun hS => ?_)
      clear hK K hS'
      refine tkH 12 ?_ hS (fun wx hx => ?_) ?_; rotate_left
      · obtain ⟨⟨⟨hx0, hx1, hx2⟩, _⟩, _⟩ := hx; go_simp; try with_reducible rfl
      refine rdH 13 (fun K hK => ?_)
      obtain ⟨⟨y0', y1', y2'⟩, z0', z1', z2'⟩ := RB.out
      have LF : Hid (NewStoK w S (.returned (.agg #[.slice d0 S.nc e0, .slice d1 S.nl e1, .slice d2 S.nw e2])) (((y67.setCell ⟨w.heap.size + 1, 0, none⟩ (.slice d0 S.nc e0)).setCell ⟨w.heap.size + 1, 1, none⟩ (.slice d1 S.nl e1)).setCell ⟨w.heap.size + 1, 2, none⟩ (.slice d2 S.nw e2))) := copy_leaf hS.2 R0.out R1.out R2.out (by have := Z0.out; have := Z53.out; have := Z63.out; have := Z64.out; have := Z65.out; have := Z66.out; have := Z67.out; omega) (fun k h1 h2 => by have := Z0.out; have := Z53.out; have := Z63.out; have := Z64.out; have := Z65.out; have := Z66.out; have := Z67.out; omega) (fun k h1 h2 => by have := Z0.out; have := Z53.out; have := Z63.out; have := Z64.out; have := Z65.out; have := Z66.out; have := Z67.out; omega) (fun k h1 h2 => by have := Z0.out; have := Z53.out; have := Z63.out; have := Z64.out; have := Z65.out; have := Z66.out; have := Z67.out; omega)
      have hS' : Cp w (.slice a0 S.nc c0) (.slice a1 S.nl c1) (.slice a2 S.nw c2) (((y67.setCell ⟨w.heap.size + 1, 0, none⟩ (.slice d0 S.nc e0)).setCell ⟨w.heap.size + 1, 1, none⟩ (.slice d1 S.nl e1)).setCell ⟨w.heap.size + 1, 2, none⟩ (.slice d2 S.nw e2)) := ⟨((hS.1.setFar (p := ⟨w.heap.size + 1, 0, none⟩) (by simp) _).setFar (p := ⟨w.heap.size + 1, 1, none⟩) (by simp) _).setFar (p := ⟨w.heap.size + 1, 2, none⟩) (by simp) _, ((hS.2.setCell (Nat.le_succ _) _).setCell (Nat.le_succ _) _).setCell (Nat.le_succ _) _⟩
      go_simp
      refine hK.out _ _ hS' (fun hS => ?_)
      clear hK K hS'
      refine wpAnyH_done (by kernel_rfl) ?_ _
      go_simp
      go_wp2
      exact bodyPost_ret (v := .agg #[.slice d0 S.nc e0, .slice d1 S.nl e1, .slice d2 S.nw e2]) (by simp [results, Tryz.results119, go_sem, y0', y1', y2']) rfl LF.out
end Go.Proofs.YtgedodcojalidaaGreat

