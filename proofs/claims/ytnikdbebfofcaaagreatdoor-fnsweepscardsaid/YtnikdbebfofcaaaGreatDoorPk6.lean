/-
  Own text, merged of StoA, SetB, StorL, CmpD, RegZ, RolB, RolC.
-/
import Derived.Test.YtnikdbebfofcaaaGreatDoorPk5
namespace Go.Proofs.YtnikdbebfofcaaaGreatDoor
open Go.RowKit Go.Maps Go.Sort Go.Shelf Go.Lib

theorem run_copy (t ty e : TypeId) (i : TypeInfo) (z : Value) (m bytes : Nat) (ht : Tryz.prog.underlying t = some (.slice e)) (hi : Tryz.prog.info? e = some i) (hz : i.zero = some z) (hsize : i.size = m) (hby : i.bytes = bytes) (hzs : z.cells.size = m) (hm : 0 < m) (hb5 : bytes ≤ 1000)
    (w : World) (B n : Nat) (F : Nat → Int) (v : Value) (h : Own w B e m n F v) (hn : n ≤ 1048576) : ∃ v' w', (Builtin.append_ #[t, t] ty #[.slice none 0 0, v]).run Tryz.prog w = .ok v' w' ∧ Own w' w.heap.size e m n F v' ∧ Below w.heap.size w w' := by
  have hr := h.row.1
  rcases h.2 with ⟨rfl, rfl⟩ | ⟨g, cap, cur, rfl, hg, hw, _⟩
  · exact ⟨_, _, run_append_owned_none (P := Tryz.prog) w w.heap.size t ty e i m ht hi _ 0 [] ⟨by simp, Or.inl ⟨rfl, rfl⟩⟩, Own.nil _ _ _ _ _, Below.refl _ _⟩
  · have hbb : n * bytes ≤ 1048576 * 1000 := Nat.mul_le_mul hn hb5
    obtain ⟨v', w', h1, h2, h3, _⟩ := run_append_own (P := Tryz.prog) w w.heap.size t ty e i z m bytes ht hi hz hsize hby hzs hm (.slice none 0 0) 0 [] ⟨by simp, Or.inl ⟨rfl, rfl⟩⟩ ⟨g, 0, none⟩ n cap (vals F (n * m)) (vals_length _ _) (row_cells hr) (vals_one _ _) (by unfold maxLen; omega) (by rw [Nat.zero_add]; omega) (Nat.le_refl _)
    refine ⟨v', w', h1, ?_, ⟨h3.os, h3.tape, h3.output, h3.size, fun i hi => h3.block i hi (by simp [Value.ownBlock])⟩⟩
    simpa [Own] using h2
/-- 'append([]T(nil), row...)' at a step of a region that draws its order. -/
theorem step_copy {ops : Array Oper} {o : Oper} {a : Act} {K : Act → World → Prop} {Q : Exit → Act → World → Prop} {E : Prop} (hgd : o.guard = none) (x : Operand) (t : TypeId) (ho : o.op = .call { callee := .builtin .append, args := #[.const (.slice none 0 0), x], argTypes := #[t, t] })
    (e : TypeId) (i : TypeInfo) (z : Value) (m bytes : Nat) (ht : Tryz.prog.underlying t = some (.slice e)) (hi : Tryz.prog.info? e = some i) (hz : i.zero = some z) (hsize : i.size = m) (hby : i.bytes = bytes) (hzs : z.cells.size = m) (hm : 0 < m) (hb5 : bytes ≤ 1000)
    (w : World) (B n : Nat) (F : Nat → Int) (v : Value) (hx : a.eval x = v) (h : Own w B e m n F v) (hn : n ≤ 1048576) (hK : ∀ v' w', Own w' w.heap.size e m n F v' → Below w.heap.size w w' → K (a.put o.dst v') w') :
    if Region.wanted o (yielded ops a.tmps) = true then Oper.wp Tryz.prog o a w K Q else E := by
  have hw : Region.wanted o (yielded ops a.tmps) = true := by simp [Region.wanted, hgd]
  rw [if_pos hw]
  obtain ⟨v', w', hr, h2, h3⟩ := run_copy t o.type e i z m bytes ht hi hz hsize hby hzs hm hb5 w B n F v h hn
  have hc : a.eval (.const (.slice none 0 0)) = .slice none 0 0 := rfl
  unfold Oper.wp execOp
  simp only [ho, resolve, invoke, builtin, Sem.run_bind, Sem.run_pure, Result.andThen_ok, List.map_toArray, List.map_cons, List.map_nil, hc, hx, hr]
  exact hK v' w' h2 h3
theorem grown_set (w : World) (a : Addr) (u : Value) : w.grownBy (w.setCell a u) (some a.block) := ⟨rfl, rfl, rfl, by simp, fun i _ hne => Below.heap_setCell w a u i (fun e => hne (by rw [e]))⟩
/-- What store stands on behind its copies: the columns; its answer (the first new block); its own store (block b3), of which two rows are done. -/
structure Leaf (w : World) (b oo N : Nat) (m : Int → Int → Option Int) (nl : Nat) (l : Nat → Int) (nw : Nat) (k : Nat → Int) (g : Nat) (u1 u2 : Value) (b3 : Nat) (q0 q1 q2 r1 r2 : Value) (x : World) : Prop where
  cols : Blk3O x b oo (.map (some g)) u1 u2
  pm : PM x g N m
  gl : g < w.heap.size
  res : Blk3 x w.heap.size (.slice none 0 0) (.slice none 0 0) (.slice none 0 0)
  own : Blk3 x b3 q0 q1 q2
  lo : w.heap.size < b3
  bl : b < w.heap.size
  s1 : Own x (w.heap.size + 1) 61 5 nl l r1
  s2 : Own x (w.heap.size + 1) 38 4 nw k r2
  a1 : r1.ownBlock ≠ some b3
  a2 : r2.ownBlock ≠ some b3
  a12 : ∀ q, r1.ownBlock = some q → r2.ownBlock ≠ some q
  below : Below w.heap.size w x
theorem Leaf.later {w : World} {b oo N : Nat} {m : Int → Int → Option Int} {nl : Nat} {l : Nat → Int} {nw : Nat} {k : Nat → Int} {g : Nat} {u1 u2 : Value} {b3 : Nat} {q0 q1 q2 r1 r2 : Value} {x x' : World} (h : Leaf w b oo N m nl l nw k g u1 u2 b3 q0 q1 q2 r1 r2 x) (hb : Below x.heap.size x x') : Leaf w b oo N m nl l nw k g u1 u2 b3 q0 q1 q2 r1 r2 x' :=
  ⟨h.cols.later hb, h.pm.later hb, h.gl, h.res.later hb, h.own.later hb, h.lo, h.bl, h.s1.later hb, h.s2.later hb, h.a1, h.a2, h.a12, h.below.trans (hb.mono h.below.size)⟩
theorem Own.block {w : World} {B : Nat} {e : TypeId} {m n : Nat} {F : Nat → Int} {v : Value} (h : Own w B e m n F v) : ∀ k, v.ownBlock = some k → B ≤ k ∧ k < w.heap.size := own_in h
theorem Own.kept {w w' : World} {B : Nat} {e : TypeId} {m n : Nat} {F : Nat → Int} {v : Value} (h : Own w B e m n F v) (hb : ∀ k, v.ownBlock = some k → w'.heap[k]? = w.heap[k]?) : Own w' B e m n F v := by
  refine ⟨h.1, ?_⟩
  rcases h.2 with q | ⟨g, cap, cur, rfl, hg, hw, r⟩
  · exact Or.inl q
  · exact Or.inr ⟨g, cap, cur, rfl, hg, (hb g rfl).trans hw, r⟩
theorem Leaf.put {w : World} {b oo N : Nat} {m : Int → Int → Option Int} {nl : Nat} {l : Nat → Int} {nw : Nat} {k : Nat → Int} {g : Nat} {u1 u2 : Value} {b3 : Nat} {q0 q1 q2 r1 r2 : Value} {x : World} (h : Leaf w b oo N m nl l nw k g u1 u2 b3 q0 q1 q2 r1 r2 x) (a0 a1 a2 : Value) :
    Leaf w b oo N m nl l nw k g u1 u2 b3 a0 a1 a2 r1 r2 (((x.setCell ⟨b3, 0, none⟩ a0).setCell ⟨b3, 1, none⟩ a1).setCell ⟨b3, 2, none⟩ a2) := by
  have hb : ∀ i, i ≠ b3 → (((x.setCell ⟨b3, 0, none⟩ a0).setCell ⟨b3, 1, none⟩ a1).setCell ⟨b3, 2, none⟩ a2).heap[i]? = x.heap[i]? := fun i hi => (Below.heap_setCell _ _ _ i hi).trans ((Below.heap_setCell _ _ _ i hi).trans (Below.heap_setCell _ _ _ i hi))
  have h1 := h.lo
  have h2 := h.gl
  have h3 := h.bl
  exact ⟨h.cols.kept (hb _ (by omega)), h.pm.kept (hb _ (by omega)), h.gl, h.res.kept (hb _ (by omega)), ((h.own.set0 a0).set1 a1).set2 a2, h.lo, h.bl, h.s1.kept (fun q hq => hb q (fun e => h.a1 (by rw [hq, e]))), h.s2.kept (fun q hq => hb q (fun e => h.a2 (by rw [hq, e]))), h.a1, h.a2, h.a12, ((h.below.setCell (by simp; omega) _).setCell (by simp; omega) _).setCell (by simp; omega) _⟩
/-- x is y but for block b3, block r and what lies from Z on. -/
def Sam (y x : World) (Z b3 r : Nat) : Prop := (x.os = y.os ∧ x.tape = y.tape ∧ x.output = y.output) ∧ Z ≤ x.heap.size ∧ ∀ i, i < Z → i ≠ b3 → i ≠ r → x.heap[i]? = y.heap[i]?
theorem Sam.step {y x x' : World} {Z b3 r : Nat} {row : Option Nat} (h : Sam y x Z b3 r) (hg : x.grownBy x' row) (hq : ∀ q, row = some q → q = b3 ∨ q = r ∨ Z ≤ q) : Sam y x' Z b3 r :=
  ⟨⟨hg.os.trans h.1.1, hg.tape.trans h.1.2.1, hg.output.trans h.1.2.2⟩, Nat.le_trans h.2.1 hg.size, fun i h1 h2 h3 => (hg.block i (Nat.lt_of_lt_of_le h1 h.2.1) (fun e => by have := hq i e.symm; omega)).trans (h.2.2 i h1 h2 h3)⟩
theorem Sam.later {y x x' : World} {Z b3 r : Nat} (h : Sam y x Z b3 r) (hb : Below x.heap.size x x') : Sam y x' Z b3 r :=
  ⟨⟨hb.os.trans h.1.1, hb.tape.trans h.1.2.1, hb.output.trans h.1.2.2⟩, Nat.le_trans h.2.1 hb.size, fun i h1 h2 h3 => (hb.block i (Nat.lt_of_lt_of_le h1 h.2.1)).trans (h.2.2 i h1 h2 h3)⟩
/-- What a round of store's loop stands on. -/
structure Rnd (w y : World) (g r N : Nat) (m : Int → Int → Option Int) (b3 : Nat) (r1 r2 : Value) (left : Int → Int → Bool) (cnt : Nat) (v : Value) (L : List (List Int)) (x : World) : Prop where
  pr : PR x g r N m left cnt
  sam : Sam y x (r + 1) b3 r
  own : Blk3 x b3 v r1 r2
  row : OwnM x (r + 1) 75 3 v L.length L.flatten
  col : Col3 m left L
  len : L.length + cnt ≤ N
theorem Rnd.later {w y x x' : World} {g r N : Nat} {m : Int → Int → Option Int} {b3 : Nat} {r1 r2 : Value} {left : Int → Int → Bool} {cnt : Nat} {v : Value} {L : List (List Int)} (h : Rnd w y g r N m b3 r1 r2 left cnt v L x) (hb : Below x.heap.size x x') : Rnd w y g r N m b3 r1 r2 left cnt v L x' :=
  ⟨h.pr.later hb, h.sam.later hb, h.own.later hb, h.row.later hb, h.col, h.len⟩
/-- The iterator goes on. -/
theorem Rnd.next {w y x x' : World} {g r N : Nat} {m : Int → Int → Option Int} {b3 : Nat} {r1 r2 : Value} {left : Int → Int → Bool} {cnt cnt' : Nat} {v : Value} {L : List (List Int)} (h : Rnd w y g r N m b3 r1 r2 left cnt v L x) (hb : b3 < r) {left' : Int → Int → Bool} (hp : PR x' g r N m left' cnt') (hg : x.grownBy x' (some r)) :
    (PR x' g r N m left' cnt' ∧ Sam y x' (r + 1) b3 r) ∧ Blk3 x' b3 v r1 r2 ∧ OwnM x' (r + 1) 75 3 v L.length L.flatten :=
  ⟨⟨hp, h.sam.step hg (fun q e => by simp at e; omega)⟩, h.own.kept (hg.block b3 h.own.lt (by simp; omega)), h.row.kept (fun i h1 h2 => hg.block i h2 (by simp; omega))⟩
/-- The cell is appended, and the row stored. -/
theorem Rnd.put {w y x x' : World} {g r N : Nat} {m : Int → Int → Option Int} {b3 : Nat} {r1 r2 : Value} {left : Int → Int → Bool} {cnt : Nat} {v v' : Value} {L : List (List Int)} {p q c : Int} (hg3 : g < b3) (hb3 : b3 < r)
    (hp : (PR x g r N m (strike left p q) cnt ∧ Sam y x (r + 1) b3 r) ∧ Blk3 x b3 v r1 r2 ∧ OwnM x (r + 1) 75 3 v L.length L.flatten) (hc : Col3 m left L) (hx : Wf p) (hy : Wf q) (hl : left p q = true) (hm : m p q = some c) (hn : L.length + 1 + cnt ≤ N)
    (ho : x'.ownsRow (r + 1) 75 3 v' (L.length + 1) (L.flatten.map (Value.int .i64) ++ [.int .i64 p, .int .i64 q, .int .i64 c])) (hg : x.grownBy x' v.ownBlock) :
    Rnd w y g r N m b3 r1 r2 (strike left p q) cnt v' (L ++ [[p, q, c]]) (x'.setCell ⟨b3, 0, none⟩ v') := by
  have hv : ∀ j, v.ownBlock = some j → r + 1 ≤ j := fun j hj => (hp.2.2.block j hj).1
  have k1 : some g ≠ v.ownBlock := fun e => by have := hv g e.symm; omega
  have k2 : some r ≠ v.ownBlock := fun e => by have := hv r e.symm; omega
  have k3 : some b3 ≠ v.ownBlock := fun e => by have := hv b3 e.symm; omega
  have ho' : OwnM x' (r + 1) 75 3 v' (L.length + 1) (L ++ [[p, q, c]]).flatten := by
    unfold OwnM
    rw [List.flatten_append, List.map_append]
    exact ho
  refine ⟨(hp.1.1.kept hg k1 k2).kept (grown_set _ _ _) (by simp; omega) (by simp; omega), (hp.1.2.step hg (fun j e => Or.inr (Or.inr (hv j e)))).step (grown_set _ _ _) (fun j e => by simp at e; omega), (hp.2.1.kept (hg.block b3 hp.2.1.lt k3)).set0 v', ?_, hc.step hx hy hl hm, by simp; omega⟩
  rw [List.length_append]
  exact ho'.far (by simp; omega) _
theorem flatten_len {m : Nat} : ∀ (L : List (List Int)), (∀ t ∈ L, t.length = m) → L.flatten.length = L.length * m
  | [], _ => by simp
  | x :: r, h => by
    rw [List.flatten_cons, List.length_append, h x List.mem_cons_self, flatten_len r (fun t ht => h t (List.mem_cons_of_mem _ ht)), List.length_cons, Nat.succ_mul, Nat.add_comm]
theorem apart_mk {w : World} {B0 B1 : Nat} {S : Sto} {u0 u1 u2 : Value} (r0 : Row w B0 3 S.nc S.c u0) (r1 : Row w B1 5 S.nl S.l u1) (h1 : ∀ i j, u0.ownBlock = some i → u1.ownBlock = some j → i ≠ j) (h2 : ∀ i j, u0.ownBlock = some i → u2.ownBlock = some j → i ≠ j) (h3 : ∀ i j, u1.ownBlock = some i → u2.ownBlock = some j → i ≠ j) : ApartD S u0 u1 u2 := by
  have own : ∀ {B m n : Nat} {F : Nat → Int} {u : Value}, Row w B m n F u → 0 < n → ∃ k, u.ownBlock = some k := fun hr hn => by
    obtain ⟨ao, cp, rfl, hr⟩ := hr
    obtain ⟨g, o, rfl, _⟩ := hr hn
    exact ⟨g, rfl⟩
  refine ⟨fun ha hb e => ?_, fun ha hb e => ?_, fun ha hb e => ?_⟩
  · obtain ⟨k, hk⟩ := own r0 ha
    exact h1 k k hk (e ▸ hk) rfl
  · obtain ⟨k, hk⟩ := own r0 ha
    exact h2 k k hk (e ▸ hk) rfl
  · obtain ⟨k, hk⟩ := own r1 ha
    exact h3 k k hk (e ▸ hk) rfl
/-- What the copies find: all of Leaf that was there ahead of them. -/
structure Pre (w : World) (b oo N : Nat) (m : Int → Int → Option Int) (g : Nat) (u1 u2 : Value) (x : World) : Prop where
  cols : Blk3O x b oo (.map (some g)) u1 u2
  pm : PM x g N m
  gl : g < w.heap.size
  res : Blk3 x w.heap.size (.slice none 0 0) (.slice none 0 0) (.slice none 0 0)
  bl : b < w.heap.size
  below : Below w.heap.size w x
theorem Pre.later {w : World} {b oo N : Nat} {m : Int → Int → Option Int} {g : Nat} {u1 u2 : Value} {x x' : World} (h : Pre w b oo N m g u1 u2 x) (hb : Below x.heap.size x x') : Pre w b oo N m g u1 u2 x' :=
  ⟨h.cols.later hb, h.pm.later hb, h.gl, h.res.later hb, h.bl, h.below.trans (hb.mono h.below.size)⟩
theorem Pre.leaf {w : World} {b oo N : Nat} {m : Int → Int → Option Int} {g : Nat} {u1 u2 : Value} {x : World} (h : Pre w b oo N m g u1 u2 x) {b3 : Nat} {q0 q1 q2 : Value} (ho : Blk3 x b3 q0 q1 q2) (hlo : w.heap.size < b3) {nl : Nat} {l : Nat → Int} {nw : Nat} {k : Nat → Int} {r1 r2 : Value} (h1 : Own x (w.heap.size + 1) 61 5 nl l r1) (h2 : Own x (w.heap.size + 1) 38 4 nw k r2)
    (a1 : ∀ j, r1.ownBlock = some j → j ≠ b3) (a2 : ∀ j, r2.ownBlock = some j → j ≠ b3) (a12 : ∀ i j, r1.ownBlock = some i → r2.ownBlock = some j → i ≠ j) : Leaf w b oo N m nl l nw k g u1 u2 b3 q0 q1 q2 r1 r2 x :=
  ⟨h.cols, h.pm, h.gl, h.res, ho, hlo, h.bl, h1, h2, fun e => a1 b3 e rfl, fun e => a2 b3 e rfl, fun q e e' => a12 q q e e' rfl, h.below⟩
theorem size_drew (w : World) (o : Obj) : (w.alloc o).drew.heap.size = w.heap.size + 1 := by simp
/-- What the copying region stands on: the columns' block. -/
def ColBox (w : World) (b oo : Nat) (v0 v1 v2 : Value) (x : World) : Prop := Blk3O x b oo v0 v1 v2 ∧ Below w.heap.size w x
theorem ColBox.later {w x x' : World} {b oo : Nat} {v0 v1 v2 : Value} (h : ColBox w b oo v0 v1 v2 x) (hb : Below x.heap.size x x') : ColBox w b oo v0 v1 v2 x' := ⟨h.1.later hb, h.2.trans (hb.mono h.2.size)⟩
set_option maxRecDepth 100000 in
set_option maxHeartbeats 16000000 in
theorem store_isO (B b oo N : Nat) (m : Int → Int → Option Int) (nl : Nat) (l : Nat → Int) (nw : Nat) (k : Nat → Int) (g : Nat) (u1 u2 : Value) (w : World) (h : ColsO w B b oo N m nl l nw k g u1 u2) (hl : nl ≤ 200) (hw : nw ≤ 200) (hN : N ≤ 400) (nc : Nat) (c : Nat → Int) (hM : MapRow m nc c) :
    Calls Tryz.prog 49 #[.pointer (some ⟨b, oo, none⟩)] w (NewSto w ⟨nc, c, nl, l, nw, k⟩) := by
  unfold NewSto
  obtain ⟨b1, d1, rfl⟩ := h.2.2.2.2.1.form
  obtain ⟨b2, d2, rfl⟩ := h.2.2.2.2.2.form
  have H1 : Hid (Own w B 61 5 nl l (.slice b1 nl d1)) := h.2.2.2.2.1
  have H2 : Hid (Own w B 38 4 nw k (.slice b2 nw d2)) := h.2.2.2.2.2
  have HM : Hid (MapRow m nc c) := hM
  obtain ⟨i1, hi1, hz01, hz11, hz21⟩ := info_parts infoz_Lock
  obtain ⟨i2, hi2, hz02, hz12, hz22⟩ := info_parts infoz_Write
  obtain ⟨i0, hi, hz0, hz1, hz2⟩ := info_parts info_Cell
  have h0 : ColBox w b oo (.map (some g)) (.slice b1 nl d1) (.slice b2 nw d2) (w.alloc (.cells #[.slice none 0 0, .slice none 0 0, .slice none 0 0] 28)).drew := ⟨h.2.2.1.alloc _, (below_alloc _ _).drew⟩
  have HP0 : Hid (Pre w b oo N m g (.slice b1 nl d1) (.slice b2 nw d2) (w.alloc (.cells #[.slice none 0 0, .slice none 0 0, .slice none 0 0] 28)).drew) := ⟨h.2.2.1.alloc _, h.2.2.2.1.later (w' := (w.alloc (.cells #[.slice none 0 0, .slice none 0 0, .slice none 0 0] 28)).drew) (below_alloc _ _).drew, h.2.2.2.1.lt, Blk3.new w _ _ _ _, h.2.2.1.lt, (below_alloc _ _).drew⟩
  have HPB : Hid (Pre w b oo N m g (.slice b1 nl d1) (.slice b2 nw d2) ((w.alloc (.cells #[.slice none 0 0, .slice none 0 0, .slice none 0 0] 28)).alloc (.cells #[.slice none 0 0, .slice none 0 0, .slice none 0 0] 28)).drew) := ⟨(h.2.2.1.alloc _).alloc _, h.2.2.2.1.later (w' := ((w.alloc (.cells #[.slice none 0 0, .slice none 0 0, .slice none 0 0] 28)).alloc (.cells #[.slice none 0 0, .slice none 0 0, .slice none 0 0] 28)).drew) ((below_alloc _ _).alloc (by simp) _).drew, h.2.2.2.1.lt, (Blk3.new w _ _ _ _).alloc _, h.2.2.1.lt, ((below_alloc _ _).alloc (by simp) _).drew⟩
  have HBB : Hid (Blk3 ((w.alloc (.cells #[.slice none 0 0, .slice none 0 0, .slice none 0 0] 28)).alloc (.cells #[.slice none 0 0, .slice none 0 0, .slice none 0 0] 28)).drew (w.heap.size + 1) (.slice none 0 0) (.slice none 0 0) (.slice none 0 0)) := by have := Blk3.new (w.alloc (.cells #[.slice none 0 0, .slice none 0 0, .slice none 0 0] 28)) (.slice none 0 0) (.slice none 0 0) (.slice none 0 0) 28; rw [World.size_alloc] at this; exact this
  clear h hM
  go_enter Tryz.func49, Tryz.ntmps49
  go_wp2_with fail
  rename_i Kr hKr
  have rest : Hid (∀ (b3 : Nat) (e1 : Option Addr) (f1 : Nat) (e2 : Option Addr) (f2 : Nat) (y : World), Leaf w b oo N m nl l nw k g (.slice b1 nl d1) (.slice b2 nw d2) b3 (.slice none 0 0) (.slice e1 nl f1) (.slice e2 nw f2) (.slice e1 nl f1) (.slice e2 nw f2) y → Kr ⟨#[.pointer (some ⟨b, oo, none⟩), undef, .pointer (some ⟨w.heap.size, 0, none⟩), .pointer (some ⟨b3, 0, none⟩), undef, undef, .pointer (some ⟨b, oo, none⟩), .pointer (some ⟨b, oo, none⟩), .pointer (some ⟨b, oo + 1, none⟩), .slice b1 nl d1, .slice e1 nl f1, .pointer (some ⟨b, oo, none⟩), .pointer (some ⟨b, oo, none⟩), .pointer (some ⟨b, oo + 2, none⟩), .slice b2 nw d2, .slice e2 nw f2, .agg #[.slice none 0 0, .slice e1 nl f1, .slice e2 nw f2], undef, undef, undef, undef, undef, undef, undef, undef, undef, undef, undef, undef, undef, undef, undef, undef, undef, undef, undef, undef, undef, undef, undef, undef, undef], []⟩ y) := by
    intro b3 e1 f1 e2 f2 y hLf
    refine hKr _ _ ?_
    clear hKr h0 HP0 HPB HBB H1 H2
    have HLf : Hid (Leaf w b oo N m nl l nw k g (.slice b1 nl d1) (.slice b2 nw d2) b3 (.slice none 0 0) (.slice e1 nl f1) (.slice e2 nw f2) (.slice e1 nl f1) (.slice e2 nw f2) y) := hLf
    have p0 := hLf.cols.1.1
    have hP := hLf.pm
    clear hLf
    go_wp2_with (first | (at_range; refine wpList_prange _ rfl _ rfl g N m rfl hP ?_; intro w0 cnt hcnt hPR hB0 hs0) | go_in)
    go_frame
    have HL0 : Hid (Leaf w b oo N m nl l nw k g (.slice b1 nl d1) (.slice b2 nw d2) b3 (.slice none 0 0) (.slice e1 nl f1) (.slice e2 nw f2) (.slice e1 nl f1) (.slice e2 nw f2) w0) := HLf.out.later hB0
    have hbr : b3 < y.heap.size := HLf.out.own.lt
    obtain ⟨r, hr⟩ : ∃ r, y.heap.size = r := ⟨_, rfl⟩
    rw [hr] at hPR hs0 hbr
    rw [hr]
    have hg3 : g < b3 := by have := HLf.out.gl; have := HLf.out.lo; omega
    have hlo := HLf.out.lo
    have HY : Hid ((∀ q, (Value.slice e1 nl f1).ownBlock = some q → q < r) ∧ ∀ q, (Value.slice e2 nw f2).ownBlock = some q → q < r) := ⟨fun q e => by have := (HLf.out.s1.block q e).2; omega, fun q e => by have := (HLf.out.s2.block q e).2; omega⟩
    clear p0 hP hB0 HLf hr
    go_loopw [5] (fun _ wr => ∃ (left : Int → Int → Bool) (cnt : Nat) (v : Value) (L : List (List Int)), Hid (Rnd w w0 g r N m b3 (.slice e1 nl f1) (.slice e2 nw f2) left cnt v L wr)) (fun _ wr => wr.rangeLeft g r)
    case atStart => exact ⟨_, cnt, .slice none 0 0, [], hPR, ⟨⟨rfl, rfl, rfl⟩, by omega, fun _ _ _ _ => rfl⟩, HL0.out.own, OwnM.nil _ _ _ _, Col3.start m, by simpa using hcnt⟩
    case round =>
      clear hPR hcnt
      obtain ⟨left, cnt1, v, L, HR⟩ := hrel
      obtain ⟨ao, cp, rfl⟩ := HR.out.row.form
      have hpr := HR.out.pr
      have hcl : ∀ x y, Wf x → Wf y → left x y = true → (m x y).isSome = true := fun x y _ _ q => HR.out.col.2.2.2 x y q
      go_wp2_with (first | (at_next; refine wpList_pnext _ rfl _ rfl g r N m left cnt1 rfl hpr hcl ?_ ?_) | go_in)
      · intro hdone
        have hsr := HM.out.sorted HR.out.col hdone
        obtain ⟨rfl, hsr2⟩ := hsr
        have HSR : Hid (∀ d : Array (List Int), d.size = L.length → d.toList.Perm (rowD 3 L.length (fun p => L.flatten.getD p 0)).toList → SortedIn (ltOf (cf2 (fun x => x.getD 0 0) (fun x => x.getD 1 0))) 0 L.length d → ∀ t, t < L.length * 3 → rowF 3 d t = c t) := hsr2
        have HO : Hid (Row wr (r + 1) 3 L.length (fun p => L.flatten.getD p 0) (.slice ao L.length cp) ∧ Free wr (L.length * 3) (.slice ao L.length cp)) := (HR.out.row.own (flatten_len L HR.out.col.len)).row
        have t0 := HR.out.own.1.1
        have hlN : L.length ≤ 400 := by have := HR.out.len; omega
        clear hdone hpr hcl hsr2
        go_wp2_with fail
        refine (sortCell_any (r + 1) L.length _ _ _ HO.out.1 HO.out.2 (by omega)).mono ?_
        rintro e w5 ⟨rfl, d, hd1, ⟨hd2, hd3⟩, hrow5, hg5⟩
        have hturn : ∀ q, turn L.length (.slice ao L.length cp) = some q → r + 1 ≤ q := turn_off (fun _ kk hk => (HR.out.row.block kk hk).1)
        have hsam := HR.out.sam.step hg5 (fun q e => Or.inr (Or.inr (hturn q e)))
        have hB5 := HR.out.own.kept (hg5.block b3 HR.out.own.lt (fun e => by have := hturn b3 e.symm; omega))
        have hres := HL0.out.res.kept (hsam.2.2 w.heap.size (by omega) (by omega) (by omega))
        have hk1 := HL0.out.s1.kept (fun q hq => hsam.2.2 q (by have := HY.out.1 q hq; omega) (fun e => HL0.out.a1 (by rw [hq, e])) (by have := HY.out.1 q hq; omega))
        have hk2 := HL0.out.s2.kept (fun q hq => hsam.2.2 q (by have := HY.out.2 q hq; omega) (fun e => HL0.out.a2 (by rw [hq, e])) (by have := HY.out.2 q hq; omega))
        have HBW : Hid (Below w.heap.size w w5) := ⟨hsam.1.1.trans HL0.out.below.os, hsam.1.2.1.trans HL0.out.below.tape, hsam.1.2.2.trans HL0.out.below.output, by have := hsam.2.1; omega, fun i hi => (hsam.2.2 i (by omega) (by omega) (by omega)).trans (HL0.out.below.block i hi)⟩
        have HK : Hid ((Row w5 (r + 1) 3 L.length c (.slice ao L.length cp) ∧ Free w5 (L.length * 3) (.slice ao L.length cp)) ∧ (Own w5 (w.heap.size + 1) 61 5 nl l (.slice e1 nl f1) ∧ Own w5 (w.heap.size + 1) 38 4 nw k (.slice e2 nw f2))) := ⟨⟨hrow5.1.congr (HSR.out d hd1 hd2 hd3), hrow5.2⟩, hk1, hk2⟩
        have HAP : Hid (ApartD ⟨L.length, c, nl, l, nw, k⟩ (.slice ao L.length cp) (.slice e1 nl f1) (.slice e2 nw f2)) := apart_mk HK.out.1.1 hk1.row.1 (fun i j hi hj => by have := (HR.out.row.block i hi).1; have := HY.out.1 j hj; omega) (fun i j hi hj => by have := (HR.out.row.block i hi).1; have := HY.out.2 j hj; omega) (fun i j hi hj e => HL0.out.a12 i hi (by rw [hj, e]))
        obtain ⟨⟨y0, y1, y2⟩, _⟩ := hB5
        obtain ⟨⟨s0, s1, s2⟩, g0, g1, g2⟩ := hres
        have hlw : w.heap.size < w.heap.size + 1 := Nat.lt_succ_self _
        have hlr : w.heap.size < r + 1 := by omega
        clear t0 hd1 hd2 hd3 hrow5 hg5 hturn hsam hk1 hk2 HSR HO HR
        go_wp2
        exact bodyPost_ret (v := .agg #[.slice ao L.length cp, .slice e1 nl f1, .slice e2 nw f2]) (by simp [results, Tryz.results49, go_sem, s0, s1, s2]) rfl ⟨ao, cp, e1, f1, e2, f2, rfl, ⟨⟨(((HK.out.1.1.far (Or.inl hlr) _).far (Or.inl hlr) _).far (Or.inl hlr) _).mono (by omega), (((HK.out.2.1.row.1.far (Or.inl hlw) _).far (Or.inl hlw) _).far (Or.inl hlw) _).mono (by omega), (((HK.out.2.2.row.1.far (Or.inl hlw) _).far (Or.inl hlw) _).far (Or.inl hlw) _).mono (by omega)⟩, ⟨((HK.out.1.2.far _ _).far _ _).far _ _, ((HK.out.2.1.row.2.far _ _).far _ _).far _ _, ((HK.out.2.2.row.2.far _ _).far _ _).far _ _⟩, HAP.out⟩, ((HBW.out.setCell (Nat.le_refl _) _).setCell (Nat.le_refl _) _).setCell (Nat.le_refl _) _⟩
      · intro p q cc w1 cnt2 hx hy hc hlf hm hPR1 hlt hg1 hs1 hen
        have HN := HR.out.next hbr hPR1 hg1
        have hcl1 := HR.out.col
        have hlen : L.length + 1 + cnt2 ≤ N := by have := HR.out.len; omega
        have HLT : Hid (cnt2 < wr.rangeLeft g r) := by unfold Hid; rw [HR.out.pr.left_eq]; exact hlt
        have HX : Hid (((Wf p ∧ Wf q) ∧ left p q = true ∧ m p q = some cc) ∧ Col3 m left L) := ⟨⟨⟨hx, hy⟩, hlf, hm⟩, hcl1⟩
        have t0 := HN.2.1.1.1
        have zb : b3 < w1.heap.size := HN.2.1.lt
        have hbl := (below_alloc w1 (.cells #[.int .i64 p, .int .i64 q] 104)).alloc (by simp) (.cells #[.int .i64 p, .int .i64 q, .int .i64 cc] 75)
        have HN2 : Hid ((PR ((w1.alloc (.cells #[.int .i64 p, .int .i64 q] 104)).alloc (.cells #[.int .i64 p, .int .i64 q, .int .i64 cc] 75)) g r N m (strike left p q) cnt2 ∧ Sam w0 ((w1.alloc (.cells #[.int .i64 p, .int .i64 q] 104)).alloc (.cells #[.int .i64 p, .int .i64 q, .int .i64 cc] 75)) (r + 1) b3 r) ∧ Blk3 ((w1.alloc (.cells #[.int .i64 p, .int .i64 q] 104)).alloc (.cells #[.int .i64 p, .int .i64 q, .int .i64 cc] 75)) b3 (.slice ao L.length cp) (.slice e1 nl f1) (.slice e2 nw f2) ∧ OwnM ((w1.alloc (.cells #[.int .i64 p, .int .i64 q] 104)).alloc (.cells #[.int .i64 p, .int .i64 q, .int .i64 cc] 75)) (r + 1) 75 3 (.slice ao L.length cp) L.length L.flatten) := ⟨⟨HN.1.1.later hbl, HN.1.2.later hbl⟩, HN.2.1.later hbl, HN.2.2.later hbl⟩
        have hown := HN2.out.2.2
        clear hpr hcl HR hPR1 hg1 hlt hs1 HN hcl1 hx hy hlf hm hbl hc
        go_wp2_with (at_builtin; refine wpList_append_own _ rfl _ _ 24 rfl (r + 1) 75 i0 (.agg #[.int .i64 0, .int .i64 0, .int .i64 0]) 3 24 Tryz.underlying24 hi hz0 hz1 hz2 rfl (by decide) _ _ _ rfl hown ⟨_, 0, none⟩ 1 1 [.int .i64 p, .int .i64 q, .int .i64 cc] rfl rfl ?c1 ?c2 ?c3 ?c4 ?c5 ?_)
        case c1 =>
          intro j u hj
          match j, hj with
          | 0, hj => simp at hj; subst hj; simp [Addr.add]
          | 1, hj => simp at hj; subst hj; simp [Addr.add]
          | 2, hj => simp at hj; subst hj; simp [Addr.add]
        case c2 =>
          intro u hu
          simp at hu
          rcases hu with rfl | rfl | rfl <;> rfl
        case c3 => unfold maxLen; omega
        case c4 => omega
        case c5 => exact HN2.out.1.2.2.1
        intro v' w2 ho hg2 _
        rw [← List.map_flatten] at ho
        obtain ⟨ao', cp', rfl⟩ := (show OwnM w2 (r + 1) 75 3 v' (L.length + 1) (L.flatten ++ [p, q, cc]) from by unfold OwnM; rw [List.map_append]; exact ho).form
        have hvb : ∀ j, (Value.slice ao L.length cp).ownBlock = some j → r + 1 ≤ j := fun j hj => (HN2.out.2.2.block j hj).1
        have hB3 := HN2.out.2.1.kept (hg2.block b3 HN2.out.2.1.lt (fun e => by have := hvb b3 e.symm; omega))
        have HRn : Hid (Rnd w w0 g r N m b3 (.slice e1 nl f1) (.slice e2 nw f2) (strike left p q) cnt2 (.slice ao' (L.length + 1) cp') (L ++ [[p, q, cc]]) (w2.setCell ⟨b3, 0, none⟩ (.slice ao' (L.length + 1) cp'))) := Rnd.put hg3 hbr HN2.out HX.out.2 HX.out.1.1.1 HX.out.1.1.2 HX.out.1.2.1 HX.out.1.2.2 hlen ho hg2
        obtain ⟨⟨y0, _, _⟩, z0, _, _⟩ := hB3
        clear ho hg2 hvb hown HN2 t0 HX
        go_wp2
        go_roundw
        case rel => exact ⟨_, _, _, _, HRn⟩
        case measure => rw [HRn.out.pr.left_eq]; exact HLT.out
  refine wp_region_held_drew (S := ColBox w b oo (.map (some g)) (.slice b1 nl d1) (.slice b2 nw d2)) (by kernel_rfl) h0 (fun hS => ?_)
  clear h0
  refine tkH 0 ?_ hS (fun wx hx => ?_) ?_; rotate_left
  · obtain ⟨⟨⟨hx0, hx1, hx2⟩, _⟩, _⟩ := hx; go_simp; try with_reducible rfl
  refine tkH 1 ?_ hS (fun wx hx => ?_) ?_; rotate_left
  · obtain ⟨⟨⟨hx0, hx1, hx2⟩, _⟩, _⟩ := hx; go_simp; try with_reducible rfl
  refine tkH 2 ?_ hS (fun wx hx => ?_) ?_; rotate_left
  · obtain ⟨⟨⟨hx0, hx1, hx2⟩, _⟩, _⟩ := hx; go_simp; try with_reducible rfl
  refine tkH 3 ?_ hS (fun wx hx => ?_) ?_; rotate_left
  · obtain ⟨⟨⟨hx0, hx1, hx2⟩, _⟩, _⟩ := hx; go_simp; try with_reducible rfl
  refine tkH 5 ?_ hS (fun wx hx => ?_) ?_; rotate_left
  · obtain ⟨⟨⟨hx0, hx1, hx2⟩, _⟩, _⟩ := hx; go_simp; try with_reducible rfl
  refine tkH 6 ?_ hS (fun wx hx => ?_) ?_; rotate_left
  · obtain ⟨⟨⟨hx0, hx1, hx2⟩, _⟩, _⟩ := hx; go_simp; try with_reducible rfl
  refine tkH 7 ?_ hS (fun wx hx => ?_) ?_; rotate_left
  · obtain ⟨⟨⟨hx0, hx1, hx2⟩, _⟩, _⟩ := hx; go_simp; try with_reducible rfl
  refine tkH 8 ?_ hS (fun wx hx => ?_) ?_; rotate_left
  · obtain ⟨⟨⟨hx0, hx1, hx2⟩, _⟩, _⟩ := hx; go_simp; try with_reducible rfl
  refine wpAnyH_ready (rs := [4, 11]) (by kernel_rfl) (by simp) ?_
  refine AllReadyH.cons rfl (fun K hK => ?_) (AllReadyH.cons rfl (fun K hK => ?_) AllReadyH.nil)
  · refine step_copy (by rfl) _ 25 (by rfl) 61 i1 (.agg #[.int .i64 0, .int .i64 0, .int .i64 0, .int .i64 0, .int .i64 0]) 5 40 Tryz.underlying25 hi1 hz01 hz11 hz21 rfl (by omega) (by omega) _ B nl l (.slice b1 nl d1) (by rfl) (H1.out.later (w' := (w.alloc (.cells #[.slice none 0 0, .slice none 0 0, .slice none 0 0] 28)).drew) (below_alloc _ _).drew) (by omega) ?_
    intro r1 wA ho1 hb1
    obtain ⟨e1, f1, rfl⟩ := ho1.form
    have hS' := hS.later hb1
    have HP1 : Hid (Pre w b oo N m g (.slice b1 nl d1) (.slice b2 nw d2) wA) := HP0.out.later hb1
    have HO1 : Hid (Own wA (w.heap.size + 1) 61 5 nl l (.slice e1 nl f1)) := by rw [size_drew] at ho1; exact ho1
    have zA : Hid (w.heap.size + 1 ≤ wA.heap.size) := by have := hb1.size; rw [size_drew] at this; exact this
    clear ho1 hb1
    go_simp
    refine hK.out _ _ hS' (fun hS => ?_)
    clear hK K hS'
    refine wpAnyH_ready (rs := [9, 11]) (by kernel_rfl) (by simp) ?_
    refine AllReadyH.cons rfl (fun K hK => ?_) (AllReadyH.cons rfl (fun K hK => ?_) AllReadyH.nil)
    · refine step_copy (by rfl) _ 26 (by rfl) 38 i2 (.agg #[.int .i64 0, .int .i64 0, .int .i64 0, .int .i64 0]) 4 32 Tryz.underlying26 hi2 hz02 hz12 hz22 rfl (by omega) (by omega) _ B nw k (.slice b2 nw d2) (by rfl) (H2.out.later HP1.out.below) (by omega) ?_
      intro r2 wB ho2 hb2
      obtain ⟨e2, f2, rfl⟩ := ho2.form
      have hS' := hS.later hb2
      have HP2 : Hid (Pre w b oo N m g (.slice b1 nl d1) (.slice b2 nw d2) wB) := HP1.out.later hb2
      have HLf : Hid (Leaf w b oo N m nl l nw k g (.slice b1 nl d1) (.slice b2 nw d2) wB.heap.size (.slice none 0 0) (.slice e1 nl f1) (.slice e2 nw f2) (.slice e1 nl f1) (.slice e2 nw f2) (wB.alloc (.cells #[.slice none 0 0, .slice e1 nl f1, .slice e2 nw f2] 28))) :=
        (HP2.out.later (below_alloc wB (.cells #[.slice none 0 0, .slice e1 nl f1, .slice e2 nw f2] 28))).leaf (Blk3.new wB _ _ _ _) (by have := zA.out; have := hb2.size; omega) ((HO1.out.later hb2).alloc _) ((ho2.mono zA.out).alloc _) (fun j hj => by have := HO1.out.block j hj; have := hb2.size; omega) (fun j hj => by have := ho2.block j hj; omega) (fun i j hi hj => by have := HO1.out.block i hi; have := ho2.block j hj; omega)
      clear ho2 hb2 HP1 HO1 zA
      go_simp
      refine hK.out _ _ hS' (fun hS => ?_)
      clear hK K hS'
      refine tkH 10 ?_ hS (fun wx hx => ?_) ?_; rotate_left
      · obtain ⟨⟨⟨hx0, hx1, hx2⟩, _⟩, _⟩ := hx; go_simp; try with_reducible rfl
      refine rdH 11 (fun K hK => ?_)
      go_simp
      refine hK.out _ _ (hS.later (below_alloc _ _)) (fun hS => ?_)
      clear hK K
      refine rdH 12 (fun K hK => ?_)
      go_simp
      refine hK.out _ _ ⟨HLf.out.cols, HLf.out.below⟩ (fun hS => ?_)
      clear hK K hS HP2
      refine wpAnyH_done (by kernel_rfl) ?_ _
      go_simp
      exact rest.out _ _ _ _ _ _ HLf.out
    · have hS' := hS.later (below_alloc wA (.cells #[.slice none 0 0, .slice none 0 0, .slice none 0 0] 28))
      have HP2 : Hid (Pre w b oo N m g (.slice b1 nl d1) (.slice b2 nw d2) (wA.alloc (.cells #[.slice none 0 0, .slice none 0 0, .slice none 0 0] 28))) := HP1.out.later (below_alloc wA (.cells #[.slice none 0 0, .slice none 0 0, .slice none 0 0] 28))
      have HO2 : Hid (Own (wA.alloc (.cells #[.slice none 0 0, .slice none 0 0, .slice none 0 0] 28)) (w.heap.size + 1) 61 5 nl l (.slice e1 nl f1)) := HO1.out.alloc _
      go_simp
      refine hK.out _ _ hS' (fun hS => ?_)
      clear hK K hS'
      refine rdH 9 (fun K hK => ?_)
      refine step_copy (by rfl) _ 26 (by rfl) 38 i2 (.agg #[.int .i64 0, .int .i64 0, .int .i64 0, .int .i64 0]) 4 32 Tryz.underlying26 hi2 hz02 hz12 hz22 rfl (by omega) (by omega) _ B nw k (.slice b2 nw d2) (by rfl) (H2.out.later HP2.out.below) (by omega) ?_
      intro r2 wC ho2 hb2
      obtain ⟨e2, f2, rfl⟩ := ho2.form
      have hS' := hS.later hb2
      rw [World.size_alloc] at ho2
      have HLf : Hid (Leaf w b oo N m nl l nw k g (.slice b1 nl d1) (.slice b2 nw d2) wA.heap.size (.slice none 0 0) (.slice none 0 0) (.slice none 0 0) (.slice e1 nl f1) (.slice e2 nw f2) wC) :=
        (HP2.out.later hb2).leaf ((Blk3.new wA _ _ _ _).later hb2) (by have := zA.out; omega) (HO2.out.later hb2) (ho2.mono (by have := zA.out; omega)) (fun j hj => by have := HO1.out.block j hj; omega) (fun j hj => by have := ho2.block j hj; omega) (fun i j hi hj => by have := HO1.out.block i hi; have := ho2.block j hj; omega)
      clear ho2 hb2 HP1 HO1 zA HP2 HO2
      go_simp
      refine hK.out _ _ hS' (fun hS => ?_)
      clear hK K hS'
      refine tkH 10 ?_ hS (fun wx hx => ?_) ?_; rotate_left
      · obtain ⟨⟨⟨hx0, hx1, hx2⟩, _⟩, _⟩ := hx; go_simp; try with_reducible rfl
      refine rdH 12 (fun K hK => ?_)
      obtain ⟨⟨y0, y1, y2⟩, z0, z1, z2⟩ := HLf.out.own
      have HLg : Hid (Leaf w b oo N m nl l nw k g (.slice b1 nl d1) (.slice b2 nw d2) wA.heap.size (.slice none 0 0) (.slice e1 nl f1) (.slice e2 nw f2) (.slice e1 nl f1) (.slice e2 nw f2) (((wC.setCell ⟨wA.heap.size, 0, none⟩ (.slice none 0 0)).setCell ⟨wA.heap.size, 1, none⟩ (.slice e1 nl f1)).setCell ⟨wA.heap.size, 2, none⟩ (.slice e2 nw f2))) := HLf.out.put _ _ _
      go_simp
      refine hK.out _ _ ⟨HLg.out.cols, HLg.out.below⟩ (fun hS => ?_)
      clear hK K hS
      refine wpAnyH_done (by kernel_rfl) ?_ _
      go_simp
      exact rest.out _ _ _ _ _ _ HLg.out
  · have hS' : ColBox w b oo (.map (some g)) (.slice b1 nl d1) (.slice b2 nw d2) ((w.alloc (.cells #[.slice none 0 0, .slice none 0 0, .slice none 0 0] 28)).alloc (.cells #[.slice none 0 0, .slice none 0 0, .slice none 0 0] 28)).drew := ⟨HPB.out.cols, HPB.out.below⟩
    go_simp
    refine hK.out _ _ hS' (fun hS => ?_)
    clear hK K hS'
    refine rdH 4 (fun K hK => ?_)
    refine step_copy (by rfl) _ 25 (by rfl) 61 i1 (.agg #[.int .i64 0, .int .i64 0, .int .i64 0, .int .i64 0, .int .i64 0]) 5 40 Tryz.underlying25 hi1 hz01 hz11 hz21 rfl (by omega) (by omega) ((w.alloc (.cells #[.slice none 0 0, .slice none 0 0, .slice none 0 0] 28)).alloc (.cells #[.slice none 0 0, .slice none 0 0, .slice none 0 0] 28)).drew B nl l (.slice b1 nl d1) (by rfl) (H1.out.later HPB.out.below) (by omega) ?_
    intro r1 wB ho1 hb1
    obtain ⟨e1, f1, rfl⟩ := ho1.form
    have hS' := hS.later hb1
    have HP1 : Hid (Pre w b oo N m g (.slice b1 nl d1) (.slice b2 nw d2) wB) := HPB.out.later hb1
    have hX : (((w.alloc (.cells #[.slice none 0 0, .slice none 0 0, .slice none 0 0] 28)).alloc (.cells #[.slice none 0 0, .slice none 0 0, .slice none 0 0] 28)).drew).heap.size = w.heap.size + 2 := by simp
    rw [hX] at ho1
    have HO1 : Hid (Own wB (w.heap.size + 2) 61 5 nl l (.slice e1 nl f1)) := ho1
    have zB : Hid (w.heap.size + 2 ≤ wB.heap.size) := by have := hb1.size; rw [hX] at this; exact this
    have HB1 : Hid (Blk3 wB (w.heap.size + 1) (.slice none 0 0) (.slice none 0 0) (.slice none 0 0)) := HBB.out.later (x := ((w.alloc (.cells #[.slice none 0 0, .slice none 0 0, .slice none 0 0] 28)).alloc (.cells #[.slice none 0 0, .slice none 0 0, .slice none 0 0] 28)).drew) hb1
    clear ho1 hb1 hX
    go_simp
    refine hK.out _ _ hS' (fun hS => ?_)
    clear hK K hS'
    refine rdH 9 (fun K hK => ?_)
    refine step_copy (by rfl) _ 26 (by rfl) 38 i2 (.agg #[.int .i64 0, .int .i64 0, .int .i64 0, .int .i64 0]) 4 32 Tryz.underlying26 hi2 hz02 hz12 hz22 rfl (by omega) (by omega) _ B nw k (.slice b2 nw d2) (by rfl) (H2.out.later HP1.out.below) (by omega) ?_
    intro r2 wC ho2 hb2
    obtain ⟨e2, f2, rfl⟩ := ho2.form
    have hS' := hS.later hb2
    have HLf : Hid (Leaf w b oo N m nl l nw k g (.slice b1 nl d1) (.slice b2 nw d2) (w.heap.size + 1) (.slice none 0 0) (.slice none 0 0) (.slice none 0 0) (.slice e1 nl f1) (.slice e2 nw f2) wC) :=
      (HP1.out.later hb2).leaf (HB1.out.later hb2) (Nat.lt_succ_self _) ((HO1.out.later hb2).mono (by omega)) (ho2.mono (by have := zB.out; omega)) (fun j hj => by have := HO1.out.block j hj; omega) (fun j hj => by have := ho2.block j hj; have := zB.out; omega) (fun i j hi hj => by have := HO1.out.block i hi; have := ho2.block j hj; omega)
    clear ho2 hb2 HP1 HO1 zB HB1
    go_simp
    refine hK.out _ _ hS' (fun hS => ?_)
    clear hK K hS'
    refine tkH 10 ?_ hS (fun wx hx => ?_) ?_; rotate_left
    · obtain ⟨⟨⟨hx0, hx1, hx2⟩, _⟩, _⟩ := hx; go_simp; try with_reducible rfl
    refine rdH 12 (fun K hK => ?_)
    obtain ⟨⟨y0, y1, y2⟩, z0, z1, z2⟩ := HLf.out.own
    have HLg : Hid (Leaf w b oo N m nl l nw k g (.slice b1 nl d1) (.slice b2 nw d2) (w.heap.size + 1) (.slice none 0 0) (.slice e1 nl f1) (.slice e2 nw f2) (.slice e1 nl f1) (.slice e2 nw f2) (((wC.setCell ⟨w.heap.size + 1, 0, none⟩ (.slice none 0 0)).setCell ⟨w.heap.size + 1, 1, none⟩ (.slice e1 nl f1)).setCell ⟨w.heap.size + 1, 2, none⟩ (.slice e2 nw f2))) := HLf.out.put _ _ _
    go_simp
    refine hK.out _ _ ⟨HLg.out.cols, HLg.out.below⟩ (fun hS => ?_)
    clear hK K hS
    refine wpAnyH_done (by kernel_rfl) ?_ _
    go_simp
    exact rest.out _ _ _ _ _ _ HLg.out
theorem store_is (B b N : Nat) (m : Int → Int → Option Int) (nl : Nat) (l : Nat → Int) (nw : Nat) (k : Nat → Int) (g : Nat) (u1 u2 : Value) (w : World) (h : Cols w B b N m nl l nw k g u1 u2) (hl : nl ≤ 200) (hw : nw ≤ 200) (hN : N ≤ 400) (nc : Nat) (c : Nat → Int) (hM : MapRow m nc c) :
    Calls Tryz.prog 49 #[.pointer (some ⟨b, 0, none⟩)] w (NewSto w ⟨nc, c, nl, l, nw, k⟩) := store_isO B b 0 N m nl l nw k g u1 u2 w h.o hl hw hN nc c hM
end Go.Proofs.YtnikdbebfofcaaaGreatDoor

namespace Go.Proofs.YtnikdbebfofcaaaGreatDoor
section
open Go.RowKit Go.Sort Go.Shelf Go.Lib
end

section
open Go.RowKit Go.Lib
theorem below_drew (w : World) : Below w.heap.size w w.drew := ⟨rfl, rfl, rfl, Nat.le_refl _, fun _ _ => rfl⟩
end

section
open Go.RowKit Go.Lib
end
end Go.Proofs.YtnikdbebfofcaaaGreatDoor

namespace Go.Proofs.YtnikdbebfofcaaaGreatDoor
section
open Go.RowKit
def firstW (k : Nat → Int) (n : Nat) (key start : Int) (i : Nat) : Prop := i < n ∧ writeIs k key start i ∧ ∀ j, j < i → ¬ writeIs k key start j
def lastP (k : Nat → Int) (key ts : Int) (i : Nat) : Prop := k (i * 4) = key ∧ k (i * 4 + 1) ≤ ts ∧ k (i * 4 + 3) ≤ 2
def lastW (k : Nat → Int) (n : Nat) (key ts : Int) (i : Nat) : Prop := i < n ∧ lastP k key ts i ∧ ∀ j, i < j → j < n → ¬ lastP k key ts j
theorem firstW.one {k : Nat → Int} {n : Nat} {a b : Int} {i j : Nat} (h : firstW k n a b i) (h' : firstW k n a b j) : i = j := by
  rcases Nat.lt_trichotomy i j with e | e | e
  · exact absurd h.2.1 (h'.2.2 i e)
  · exact e
  · exact absurd h'.2.1 (h.2.2 j e)
theorem lastW.one {k : Nat → Int} {n : Nat} {a b : Int} {i j : Nat} (h : lastW k n a b i) (h' : lastW k n a b j) : i = j := by
  rcases Nat.lt_trichotomy i j with e | e | e
  · exact absurd h'.2.1 (h.2.2 j e h'.1)
  · exact e
  · exact absurd h.2.1 (h'.2.2 i e h.1)
/-- What is told of one write: its numbers and true, or zeros and false. -/
def Told (q : Nat → Prop) (k : Nat → Int) (v : Value) : Prop :=
  (∃ i, q i ∧ v = .tuple #[.agg #[.int .i64 (k (i * 4)), .int .i64 (k (i * 4 + 1)), .int .i64 (k (i * 4 + 2)), .int .i64 (k (i * 4 + 3))], .bool true]) ∨ ((∀ i, ¬ q i) ∧ v = .tuple #[.agg #[.int .i64 0, .int .i64 0, .int .i64 0, .int .i64 0], .bool false])
theorem kind_is {x : Int} (h : 1 ≤ x) : x ≤ 2 ↔ x = 1 ∨ x = 2 := by omega
/-- What lastWrite has found behind q writes: its result's block, and whether there is one. -/
def LastEnv (w : World) (k : Nat → Int) (key ts : Int) (q : Nat) (ok : Bool) (x : World) : Prop :=
  Below w.heap.size w x ∧ ((ok = false ∧ (∀ i, ¬ lastW k q key ts i) ∧ Blk4 x w.heap.size (.int .i64 0) (.int .i64 0) (.int .i64 0) (.int .i64 0)) ∨ (ok = true ∧ ∃ i, lastW k q key ts i ∧ Blk4 x w.heap.size (.int .i64 (k (i * 4))) (.int .i64 (k (i * 4 + 1))) (.int .i64 (k (i * 4 + 2))) (.int .i64 (k (i * 4 + 3)))))
theorem LastEnv.later {w x x' : World} {k : Nat → Int} {key ts : Int} {q : Nat} {ok : Bool} (h : LastEnv w k key ts q ok x) (hb : Below x.heap.size x x') : LastEnv w k key ts q ok x' := by
  refine ⟨h.1.trans (hb.mono h.1.size), ?_⟩
  rcases h.2 with ⟨e, h1, h2⟩ | ⟨e, i, h1, h2⟩
  · exact Or.inl ⟨e, h1, h2.later hb⟩
  · exact Or.inr ⟨e, i, h1, h2.later hb⟩
theorem lastW_skip {k : Nat → Int} {key ts : Int} {q : Nat} (h : ¬ lastP k key ts q) (i : Nat) : lastW k (q + 1) key ts i ↔ lastW k q key ts i := by
  constructor
  · rintro ⟨h1, h2, h3⟩
    have hi : i < q := by
      rcases Nat.lt_or_ge i q with e | e
      · exact e
      · obtain rfl : i = q := by omega
        exact absurd h2 h
    exact ⟨hi, h2, fun j hj hjq => h3 j hj (by omega)⟩
  · rintro ⟨h1, h2, h3⟩
    refine ⟨by omega, h2, fun j hj hjq => ?_⟩
    rcases Nat.lt_or_ge j q with e | e
    · exact h3 j hj e
    · obtain rfl : j = q := by omega
      exact h
theorem LastEnv.skip {w x : World} {k : Nat → Int} {key ts : Int} {q : Nat} {ok : Bool} (h : LastEnv w k key ts q ok x) (hp : ¬ lastP k key ts q) : LastEnv w k key ts (q + 1) ok x := by
  refine ⟨h.1, ?_⟩
  rcases h.2 with ⟨e, h1, h2⟩ | ⟨e, i, h1, h2⟩
  · exact Or.inl ⟨e, fun i hi => h1 i ((lastW_skip hp i).1 hi), h2⟩
  · exact Or.inr ⟨e, i, (lastW_skip hp i).2 h1, h2⟩
theorem LastEnv.cells {w x : World} {k : Nat → Int} {key ts : Int} {q : Nat} {ok : Bool} (h : LastEnv w k key ts q ok x) : ∃ t0 t1 t2 t3 : Int, Blk4 x w.heap.size (.int .i64 t0) (.int .i64 t1) (.int .i64 t2) (.int .i64 t3) := by
  rcases h.2 with ⟨_, _, h2⟩ | ⟨_, i, _, h2⟩
  · exact ⟨_, _, _, _, h2⟩
  · exact ⟨_, _, _, _, h2⟩
set_option maxRecDepth 100000 in
set_option maxHeartbeats 4000000 in
theorem lastWrite_anyO (B b oo N : Nat) (m : Int → Int → Option Int) (nl : Nat) (l : Nat → Int) (nw : Nat) (k : Nat → Int) (g : Nat) (u1 u2 : Value) (key ts : Int) (w : World) (h : ColsO w B b oo N m nl l nw k g u1 u2) (hn : nw ≤ 200) (hk : ∀ i, i < nw → 1 ≤ k (i * 4 + 3)) :
    Calls Tryz.prog 59 #[.pointer (some ⟨b, oo, none⟩), .int .i64 key, .int .i64 ts] w fun e w' => ∃ v, e = .returned v ∧ Told (lastW k nw key ts) k v ∧ Below w.heap.size w w' := by
  obtain ⟨a1, c1, rfl⟩ := h.2.2.2.2.2.form
  have H : Hid (Row w B 4 nw k (.slice a1 nw c1)) := h.2.2.2.2.2.row.1
  have HK : Hid (∀ i, i < nw → 1 ≤ k (i * 4 + 3)) := hk
  have p1 := h.2.2.1.1.2.2
  have hb := h.2.2.1.lt
  clear h hk
  go_enter Tryz.func59, Tryz.ntmps59
  go_wp2
  clear p1
  go_loopw [7, 16] (fun o i wr => ∃ (q : Nat) (ok : Bool), q ≤ nw ∧ i = .int .i64 q ∧ o = .bool ok ∧ Hid (LastEnv w k key ts q ok wr)) (fun _ i _ => nw - (intOf i).toNat)
  case atStart => exact ⟨0, false, Nat.zero_le _, rfl, rfl, below_alloc _ _, Or.inl ⟨rfl, fun i hi => absurd hi.1 (Nat.not_lt_zero i), Blk4.new w _ _ _ _ _⟩⟩
  case round =>
    obtain ⟨q, ok, hq, rfl, rfl, HB⟩ := hrel
    obtain ⟨t0, t1, t2, t3, hT⟩ := HB.out.cells
    by_cases hlt : q < nw
    case neg =>
      obtain rfl : q = nw := by omega
      obtain ⟨⟨s0, s1, s2, s3⟩, f0, f1, f2, f3⟩ := hT
      have HT : Hid (Told (lastW k q key ts) k (.tuple #[.agg #[.int .i64 t0, .int .i64 t1, .int .i64 t2, .int .i64 t3], .bool ok])) := by
        rcases HB.out.2 with ⟨rfl, h1, h2⟩ | ⟨rfl, i, h1, h2⟩
        · obtain ⟨⟨y0, y1, y2, y3⟩, _⟩ := h2
          rw [s0] at y0; rw [s1] at y1; rw [s2] at y2; rw [s3] at y3
          simp only [Option.some.injEq, Value.int.injEq, true_and] at y0 y1 y2 y3
          subst y0 y1 y2 y3
          exact Or.inr ⟨h1, rfl⟩
        · obtain ⟨⟨y0, y1, y2, y3⟩, _⟩ := h2
          rw [s0] at y0; rw [s1] at y1; rw [s2] at y2; rw [s3] at y3
          simp only [Option.some.injEq, Value.int.injEq, true_and] at y0 y1 y2 y3
          refine Or.inl ⟨i, h1, ?_⟩
          rw [← y0, ← y1, ← y2, ← y3]
      go_wp2
      refine bodyPost_ret (v := .tuple #[.agg #[.int .i64 t0, .int .i64 t1, .int .i64 t2, .int .i64 t3], .bool ok]) (by simp [results, Tryz.results59, go_sem, s0, s1, s2, s3]) rfl ⟨_, rfl, HT.out, ?_⟩
      exact (((HB.out.1.setCell (Nat.le_refl _) _).setCell (Nat.le_refl _) _).setCell (Nat.le_refl _) _).setCell (Nat.le_refl _) _
    obtain ⟨g', o, rfl, _, hg, x0, x1, x2, x3⟩ := (H.out.later HB.out.1).at4 hlt
    have hkq := HK.out q hlt
    obtain ⟨n0, N0⟩ : ∃ x, k (q * 4) = x := ⟨_, rfl⟩
    rw [N0] at x0
    obtain ⟨n1, N1⟩ : ∃ x, k (q * 4 + 1) = x := ⟨_, rfl⟩
    rw [N1] at x1
    obtain ⟨n2, N2⟩ : ∃ x, k (q * 4 + 2) = x := ⟨_, rfl⟩
    rw [N2] at x2
    obtain ⟨n3, N3⟩ : ∃ x, k (q * 4 + 3) = x := ⟨_, rfl⟩
    rw [N3] at x3
    rw [N3] at hkq
    have hE2 := HB.out.later (below_alloc wr (.cells #[.int .i64 n0, .int .i64 n1, .int .i64 n2, .int .i64 n3] 38))
    have hT2 := hT.alloc (.cells #[.int .i64 n0, .int .i64 n1, .int .i64 n2, .int .i64 n3] 38)
    have hne : ¬ wr.heap.size = w.heap.size := fun e => by have := hT.lt; omega
    have LP : Hid (lastP k key ts q ↔ n0 = key ∧ n1 ≤ ts ∧ n3 ≤ 2) := by unfold Hid lastP; rw [N0, N1, N3]
    have NN : Hid (k (q * 4) = n0 ∧ k (q * 4 + 1) = n1 ∧ k (q * 4 + 2) = n2 ∧ k (q * 4 + 3) = n3) := ⟨N0, N1, N2, N3⟩
    clear N0 N1 N2 N3 hT
    by_cases hp : lastP k key ts q
    · obtain ⟨rfl, h1, h3⟩ := LP.out.1 hp
      have d1 : decide (n1 ≤ ts) = true := decide_eq_true h1
      have PB := (hT2.put (.int .i64 n0) (.int .i64 n1) (.int .i64 n2) (.int .i64 n3))
      have HE : Hid (LastEnv w k n0 ts (q + 1) true (((((wr.alloc (.cells #[.int .i64 n0, .int .i64 n1, .int .i64 n2, .int .i64 n3] 38)).setCell ⟨w.heap.size, 0, none⟩ (.int .i64 n0)).setCell ⟨w.heap.size, 1, none⟩ (.int .i64 n1)).setCell ⟨w.heap.size, 2, none⟩ (.int .i64 n2)).setCell ⟨w.heap.size, 3, none⟩ (.int .i64 n3))) := by
        refine ⟨(((hE2.1.setCell (Nat.le_refl _) _).setCell (Nat.le_refl _) _).setCell (Nat.le_refl _) _).setCell (Nat.le_refl _) _, Or.inr ⟨rfl, q, ⟨by omega, hp, fun j h1 h2 => by omega⟩, ?_⟩⟩
        rw [NN.out.1, NN.out.2.1, NN.out.2.2.1, NN.out.2.2.2]
        exact PB
      obtain ⟨⟨s0, s1, s2, s3⟩, f0, f1, f2, f3⟩ := hT2
      rcases (kind_is hkq).1 h3 with rfl | rfl
      · clear LP NN hp HB hE2 PB h1 h3 hkq
        go_wp2
        go_roundw
        case rel => exact ⟨q + 1, true, by omega, by go_num, rfl, HE⟩
        case measure => simp [intOf]; omega
      · clear LP NN hp HB hE2 PB h1 h3 hkq
        go_wp2
        go_roundw
        case rel => exact ⟨q + 1, true, by omega, by go_num, rfl, HE⟩
        case measure => simp [intOf]; omega
    · have HE : Hid (LastEnv w k key ts (q + 1) ok (wr.alloc (.cells #[.int .i64 n0, .int .i64 n1, .int .i64 n2, .int .i64 n3] 38))) := hE2.skip hp
      have hno : ¬ (n0 = key ∧ n1 ≤ ts ∧ n3 ≤ 2) := fun e => hp (LP.out.2 e)
      clear LP NN hp HB hE2 hT2
      by_cases h0 : n0 = key
      case neg =>
        have d0 : (n0 == key) = false := beq_eq_false_iff_ne.2 h0
        by_cases e1 : n3 = 1
        · subst e1
          clear hno h0 hkq
          go_wp2
          go_roundw
          case rel => exact ⟨q + 1, ok, by omega, by go_num, rfl, HE⟩
          case measure => simp [intOf]; omega
        · have d3 : (n3 == 1) = false := beq_eq_false_iff_ne.2 e1
          clear hno h0 hkq e1
          go_wp2
          go_roundw
          case rel => exact ⟨q + 1, ok, by omega, by go_num, rfl, HE⟩
          case measure => simp [intOf]; omega
      subst h0
      by_cases e1 : n3 = 1
      · subst e1
        have d1 : decide (n1 ≤ ts) = false := decide_eq_false (fun q => hno ⟨rfl, q, by decide⟩)
        clear hno hkq
        go_wp2
        go_roundw
        case rel => exact ⟨q + 1, ok, by omega, by go_num, rfl, HE⟩
        case measure => simp [intOf]; omega
      have d3 : (n3 == 1) = false := beq_eq_false_iff_ne.2 e1
      by_cases e2 : n3 = 2
      · subst e2
        have d1 : decide (n1 ≤ ts) = false := decide_eq_false (fun q => hno ⟨rfl, q, by decide⟩)
        clear hno hkq e1
        go_wp2
        go_roundw
        case rel => exact ⟨q + 1, ok, by omega, by go_num, rfl, HE⟩
        case measure => simp [intOf]; omega
      · have d4 : (n3 == 2) = false := beq_eq_false_iff_ne.2 e2
        clear hno hkq e1 e2
        go_wp2
        go_roundw
        case rel => exact ⟨q + 1, ok, by omega, by go_num, rfl, HE⟩
        case measure => simp [intOf]; omega
theorem lastWrite_any (B b N : Nat) (m : Int → Int → Option Int) (nl : Nat) (l : Nat → Int) (nw : Nat) (k : Nat → Int) (g : Nat) (u1 u2 : Value) (key ts : Int) (w : World) (h : Cols w B b N m nl l nw k g u1 u2) (hn : nw ≤ 200) (hk : ∀ i, i < nw → 1 ≤ k (i * 4 + 3)) :
    Calls Tryz.prog 59 #[.pointer (some ⟨b, 0, none⟩), .int .i64 key, .int .i64 ts] w fun e w' => ∃ v, e = .returned v ∧ Told (lastW k nw key ts) k v ∧ Below w.heap.size w w' := lastWrite_anyO B b 0 N m nl l nw k g u1 u2 key ts w h hn hk
end

section
open Go.RowKit
set_option maxRecDepth 100000 in
set_option maxHeartbeats 4000000 in
theorem l2Last_anyO (S : Sto) (b oo : Nat) (v0 v1 v2 : Value) (key ts : Int) (w : World) (h : LiesO w b oo S v0 v1 v2) (hn : S.nw ≤ 200) :
    Calls Tryz.prog 55 #[.pointer (some ⟨b, oo, none⟩), .int .i64 key, .int .i64 ts] w fun e w' => ∃ r : Int, e = .returned (.int .i64 r) ∧ ((r = -1 ∧ ∀ i, ¬ lastW S.k S.nw key ts i) ∨ ∃ i : Nat, lastW S.k S.nw key ts i ∧ r = i) ∧ Below w.heap.size w w' := by
  obtain ⟨a0, c0, a1, c1, a2, c2, rfl, rfl, rfl⟩ := h.2.form
  have H : Hid (LiesO w b oo S (.slice a0 S.nc c0) (.slice a1 S.nl c1) (.slice a2 S.nw c2)) := h
  clear h
  go_enter Tryz.func55, Tryz.ntmps55
  go_wp2
  go_loopw [7, 8] (fun o i wr => ∃ (q : Nat) (r : Int), q ≤ S.nw ∧ i = .int .i64 q ∧ o = .int .i64 r ∧ Hid ((r = -1 ∧ ∀ i, ¬ lastW S.k q key ts i) ∨ ∃ i : Nat, lastW S.k q key ts i ∧ r = i) ∧ Hid (Below w.heap.size w wr)) (fun _ i _ => S.nw - (intOf i).toNat)
  case atStart => exact ⟨0, -1, Nat.zero_le _, rfl, rfl, Or.inl ⟨rfl, fun i hi => absurd hi.1 (Nat.not_lt_zero i)⟩, Below.refl _ _⟩
  case round =>
    obtain ⟨q, r, hq, rfl, rfl, HS, HB⟩ := hrel
    have HL : Hid (LiesO wr b oo S (.slice a0 S.nc c0) (.slice a1 S.nl c1) (.slice a2 S.nw c2)) := H.out.later HB.out
    have e2 := HL.out.1.2.2
    by_cases hlt : q < S.nw
    case neg =>
      obtain rfl : q = S.nw := by omega
      clear HL
      go_wp2
      go_ret
      exact ⟨r, rfl, HS.out, HB.out⟩
    obtain ⟨g, o, rfl, _, hg, x0, x1, x2, x3⟩ := HL.out.2.2.2.at4 hlt
    obtain ⟨n0, N0⟩ : ∃ x, S.k (q * 4) = x := ⟨_, rfl⟩
    rw [N0] at x0
    obtain ⟨n1, N1⟩ : ∃ x, S.k (q * 4 + 1) = x := ⟨_, rfl⟩
    rw [N1] at x1
    obtain ⟨n2, N2⟩ : ∃ x, S.k (q * 4 + 2) = x := ⟨_, rfl⟩
    rw [N2] at x2
    obtain ⟨n3, N3⟩ : ∃ x, S.k (q * 4 + 3) = x := ⟨_, rfl⟩
    rw [N3] at x3
    have hbl := HL.out.lt
    have HE : Hid (Below w.heap.size w (wr.alloc (.cells #[.int .i64 n0, .int .i64 n1, .int .i64 n2, .int .i64 n3] 38))) := HB.out.alloc HB.out.size _
    have LP : lastP S.k key ts q ↔ n0 = key ∧ n1 ≤ ts ∧ n3 ≤ 2 := by unfold lastP; rw [N0, N1, N3]
    by_cases hp : lastP S.k key ts q
    · obtain ⟨rfl, h1, h3⟩ := LP.1 hp
      have d1 : decide (n1 ≤ ts) = true := decide_eq_true h1
      have d3 : decide (n3 ≤ 2) = true := decide_eq_true h3
      have E : Hid (((q : Int) = -1 ∧ ∀ i, ¬ lastW S.k (q + 1) n0 ts i) ∨ ∃ i : Nat, lastW S.k (q + 1) n0 ts i ∧ (q : Int) = i) := Or.inr ⟨q, ⟨by omega, hp, fun j h1 h2 => by omega⟩, rfl⟩
      clear LP hp N0 N1 N2 N3 HS HL HB h1 h3
      go_wp2
      go_roundw
      case rel => exact ⟨q + 1, q, by omega, by go_num, rfl, E, HE⟩
      case measure => simp [intOf]; omega
    · have E : Hid ((r = -1 ∧ ∀ i, ¬ lastW S.k (q + 1) key ts i) ∨ ∃ i : Nat, lastW S.k (q + 1) key ts i ∧ r = i) := by
        rcases HS.out with ⟨e, h⟩ | ⟨i, h, e⟩
        · exact Or.inl ⟨e, fun i hi => h i ((lastW_skip hp i).1 hi)⟩
        · exact Or.inr ⟨i, (lastW_skip hp i).2 h, e⟩
      have hno : ¬ (n0 = key ∧ n1 ≤ ts ∧ n3 ≤ 2) := fun e => hp (LP.2 e)
      clear LP hp N0 N1 N2 N3 HS HL HB
      by_cases h0 : n0 = key
      case neg =>
        have d0 : (n0 == key) = false := beq_eq_false_iff_ne.2 h0
        clear hno h0
        go_wp2
        go_roundw
        case rel => exact ⟨q + 1, r, by omega, by go_num, rfl, E, HE⟩
        case measure => simp [intOf]; omega
      subst h0
      by_cases h1 : n1 ≤ ts
      case neg =>
        have d1 : decide (n1 ≤ ts) = false := decide_eq_false h1
        clear hno h1
        go_wp2
        go_roundw
        case rel => exact ⟨q + 1, r, by omega, by go_num, rfl, E, HE⟩
        case measure => simp [intOf]; omega
      have d1 : decide (n1 ≤ ts) = true := decide_eq_true h1
      have d3 : decide (n3 ≤ 2) = false := decide_eq_false (fun q => hno ⟨rfl, h1, q⟩)
      clear hno h1
      go_wp2
      go_roundw
      case rel => exact ⟨q + 1, r, by omega, by go_num, rfl, E, HE⟩
      case measure => simp [intOf]; omega
theorem l2Last_noO (S : Sto) (b oo : Nat) (v0 v1 v2 : Value) (key ts : Int) (w : World) (h : LiesO w b oo S v0 v1 v2) (hn : S.nw ≤ 200) (hq : ∀ i, ¬ lastW S.k S.nw key ts i) :
    Calls Tryz.prog 55 #[.pointer (some ⟨b, oo, none⟩), .int .i64 key, .int .i64 ts] w fun e w' => e = .returned (.int .i64 (-1)) ∧ Below w.heap.size w w' :=
  (l2Last_anyO S b oo v0 v1 v2 key ts w h hn).mono fun e w' ⟨r, he, hr, hw⟩ => ⟨by
    rcases hr with ⟨rfl, _⟩ | ⟨i, hi, _⟩
    · exact he
    · exact absurd hi (hq i), hw⟩
theorem l2Last_no (S : Sto) (b : Nat) (v0 v1 v2 : Value) (key ts : Int) (w : World) (h : Lies w b S v0 v1 v2) (hn : S.nw ≤ 200) (hq : ∀ i, ¬ lastW S.k S.nw key ts i) :
    Calls Tryz.prog 55 #[.pointer (some ⟨b, 0, none⟩), .int .i64 key, .int .i64 ts] w fun e w' => e = .returned (.int .i64 (-1)) ∧ Below w.heap.size w w' := l2Last_noO S b 0 v0 v1 v2 key ts w h hn hq
theorem l2Last_yesO (S : Sto) (b oo : Nat) (v0 v1 v2 : Value) (key ts : Int) (i : Nat) (w : World) (h : LiesO w b oo S v0 v1 v2) (hn : S.nw ≤ 200) (hq : lastW S.k S.nw key ts i) :
    Calls Tryz.prog 55 #[.pointer (some ⟨b, oo, none⟩), .int .i64 key, .int .i64 ts] w fun e w' => e = .returned (.int .i64 i) ∧ Below w.heap.size w w' :=
  (l2Last_anyO S b oo v0 v1 v2 key ts w h hn).mono fun e w' ⟨r, he, hr, hw⟩ => ⟨by
    rcases hr with ⟨_, h⟩ | ⟨j, hj, rfl⟩
    · exact absurd hq (h i)
    · rw [he, hj.one hq], hw⟩
theorem l2Last_yes (S : Sto) (b : Nat) (v0 v1 v2 : Value) (key ts : Int) (i : Nat) (w : World) (h : Lies w b S v0 v1 v2) (hn : S.nw ≤ 200) (hq : lastW S.k S.nw key ts i) :
    Calls Tryz.prog 55 #[.pointer (some ⟨b, 0, none⟩), .int .i64 key, .int .i64 ts] w fun e w' => e = .returned (.int .i64 i) ∧ Below w.heap.size w w' := l2Last_yesO S b 0 v0 v1 v2 key ts i w h hn hq
end
end Go.Proofs.YtnikdbebfofcaaaGreatDoor

namespace Go.Proofs.YtnikdbebfofcaaaGreatDoor
section
open Go.RowKit Go.Lib
end

section
open Go.RowKit Go.Lib
end

section
open Go.RowKit Go.Lib
theorem first_w {k : Nat → Int} {n : Nat} {a s : Int} {i : Nat} (h : FirstAt (writeIs k a s) n i) : firstW k n a s i := by
  rcases h with ⟨q, _⟩ | ⟨j, hj, q, h1, h2⟩
  · omega
  · obtain rfl : i = j := by omega
    exact ⟨hj, h1, h2⟩
end

section
open Go.RowKit Go.Lib
end

section
open Go.RowKit Go.Lib
theorem placeAt.get (p : Nat → Prop) : ∀ n, ∃ k, placeAt p n k
  | 0 => ⟨0, Nat.le_refl _, fun j hj => absurd hj (Nat.not_lt_zero _), fun h => absurd h (Nat.lt_irrefl _)⟩
  | n + 1 => by
    obtain ⟨k, h1, h2, h3⟩ := placeAt.get p n
    rcases Nat.lt_or_ge k n with e | e
    · exact ⟨k, by omega, h2, fun _ => h3 e⟩
    · obtain rfl : k = n := by omega
      by_cases q : p k
      · exact ⟨k + 1, Nat.le_refl _, fun j hj => by
          rcases Nat.lt_or_ge j k with r | r
          · exact h2 j r
          · obtain rfl : j = k := by omega
            exact q, fun h => absurd h (Nat.lt_irrefl _)⟩
      · exact ⟨k, by omega, h2, fun _ => q⟩
def Small (R : Sto) : Prop := R.nc ≤ 1048576 ∧ R.nl ≤ 1048576 ∧ R.nw ≤ 1048576
theorem small_empty : Small emptyS := by unfold Small emptyS; decide
theorem CommitRes.get (S : Sto) (hz : storeF S = 0) (a s c : Int) : ∃ r R, Small R ∧ CommitRes S a s c r R := by
  obtain ⟨⟨hc, hl, hw⟩, _⟩ := storeF_zero hz
  have hS : Small S := ⟨by omega, by omega, by omega⟩
  obtain ⟨i, hi⟩ := FirstAt.get (writeIs S.k a s) S.nw
  rcases hi with ⟨rfl, hn⟩ | ⟨i, hi, rfl, hp, hq⟩
  · have h1 : FirstAt (writeIs S.k a s) S.nw (-1) := Or.inl ⟨rfl, hn⟩
    obtain ⟨j, hj⟩ := FirstAt.get (lockIs S.l a) S.nl
    rcases hj with ⟨rfl, hn2⟩ | ⟨j, hj, rfl, hp2, hq2⟩
    · exact ⟨4, emptyS, small_empty, Or.inr (Or.inr (Or.inl ⟨h1, Or.inl (Or.inl ⟨rfl, hn2⟩), rfl, rfl⟩))⟩
    · have h2 : FirstAt (lockIs S.l a) S.nl (j : Int) := Or.inr ⟨j, hj, rfl, hp2, hq2⟩
      by_cases h3 : S.l (j * 5 + 1) = s
      · by_cases h4 : ∃ i, i < S.nw ∧ writeAt S.k a c i
        · exact ⟨6, emptyS, small_empty, Or.inr (Or.inr (Or.inr (Or.inl ⟨j, h1, h2, h3, h4, rfl, rfl⟩)))⟩
        · by_cases h5 : 200 ≤ S.nw
          · exact ⟨2, emptyS, small_empty, Or.inr (Or.inr (Or.inr (Or.inr (Or.inl ⟨j, h1, h2, h3, h4, h5, rfl, rfl⟩))))⟩
          · obtain ⟨k, hk⟩ := placeAt.get (aheadW S.k a c) S.nw
            refine ⟨0, commitS S a s c (S.l (j * 5 + 2)) k, ⟨hS.1, ?_, ?_⟩, Or.inr (Or.inr (Or.inr (Or.inr (Or.inr ⟨j, k, h1, h2, h3, h4, by omega, hk, rfl, rfl⟩))))⟩
            · exact Nat.le_trans (selD_le _ _ _ _) hS.2.1
            · show S.nw + 1 ≤ _
              omega
      · exact ⟨4, emptyS, small_empty, Or.inr (Or.inr (Or.inl ⟨h1, Or.inr ⟨j, h2, h3⟩, rfl, rfl⟩))⟩
  · have h1 : FirstAt (writeIs S.k a s) S.nw (i : Int) := Or.inr ⟨i, hi, rfl, hp, hq⟩
    by_cases h2 : S.k (i * 4 + 1) = c
    · exact ⟨0, S, hS, Or.inl ⟨i, h1, h2, rfl, rfl⟩⟩
    · exact ⟨6, emptyS, small_empty, Or.inr (Or.inl ⟨i, h1, h2, rfl, rfl⟩)⟩
theorem CommitAns.get (S : Sto) (a s c : Int) : ∃ r R, Small R ∧ CommitAns S a s c r R := by
  by_cases hz : askF S a = 0
  · by_cases hs : isT s
    · by_cases hc : isT c
      · by_cases h : c ≤ s
        · exact ⟨1, emptyS, small_empty, Or.inr (Or.inr (Or.inr (Or.inl ⟨hz, hs, hc, h, rfl, rfl⟩)))⟩
        · obtain ⟨r, R, h1, h2⟩ := CommitRes.get S (askF_zero hz).1 a s c
          exact ⟨r, R, h1, Or.inr (Or.inr (Or.inr (Or.inr ⟨hz, hs, hc, by omega, h2⟩)))⟩
      · exact ⟨3, emptyS, small_empty, Or.inr (Or.inr (Or.inl ⟨hz, hs, hc, rfl, rfl⟩))⟩
    · exact ⟨3, emptyS, small_empty, Or.inr (Or.inl ⟨hz, hs, rfl, rfl⟩)⟩
  · exact ⟨_, emptyS, small_empty, Or.inl ⟨hz, rfl, rfl⟩⟩
end
end Go.Proofs.YtnikdbebfofcaaaGreatDoor

namespace Go.Proofs.YtnikdbebfofcaaaGreatDoor
section
variable {P : Program} {ops : Array Oper} {Q : Exit → Act → World → Prop} {md : Region.Mode} {S : World → Prop} {z : Nat}
/-- Whatever order is picked, and S holds behind every operation but number z. -/
def wpAnyZ (P : Program) (md : Region.Mode) (ops : Array Oper) (Q : Exit → Act → World → Prop) (S : World → Prop) (z : Nat) : Nat → Array Bool → Act → World → Prop
  | 0, listed, a, w => Region.ready md ops listed = [] ∧ Q .normal a w
  | fuel + 1, listed, a, w =>
    (Region.ready md ops listed = [] → Q .normal a w) ∧
    ∀ i ∈ Region.ready md ops listed, wpOp P ops Q i (fun a' w' => (i ≠ z → S w') ∧ wpAnyZ P md ops Q S z fuel (listed.setIfInBounds i true) a' w') a w
theorem wpAny_of_Z : ∀ (fuel : Nat) (listed : Array Bool) (a : Act) (w : World), wpAnyZ P md ops Q S z fuel listed a w → wpAny P md ops Q fuel listed a w
  | 0, _, _, _, h => h
  | fuel + 1, _, _, _, h => ⟨h.1, fun i hi => wpOp_mono (fun a' w' h' => wpAny_of_Z fuel _ a' w' h'.2) (h.2 i hi)⟩
def leZ (l m : Array Bool) : Prop := ∀ k, l.getD k false = true → m.getD k false = true
theorem ready_leZ {l m : Array Bool} (hs : m.size = ops.size) (h : leZ l m) {j : Nat} (hj : j ∈ Region.ready md ops l) : m.getD j false = true ∨ j ∈ Region.ready md ops m := by
  obtain ⟨_, o, ho, hall⟩ := mem_ready.1 hj
  have hlt : j < m.size := by rw [hs]; exact (Array.getElem?_eq_some_iff.1 ho).1
  by_cases e : m.getD j false = true
  · exact Or.inl e
  · refine Or.inr (mem_ready.2 ⟨?_, o, ho, fun e he hb => h _ (hall e he hb)⟩)
    simp [Array.getD, hlt] at e ⊢
    exact e
theorem leZ_set {l m : Array Bool} (h : leZ l m) {j : Nat} (hj : m.getD j false = true) : leZ (l.setIfInBounds j true) m := fun k hk => by
  by_cases e : j = k
  · subst e; exact hj
  · rw [getD_set_ne false e] at hk; exact h k hk
theorem wpAnyZ_first {i : Nat} {oi : Oper} {v : Value} (hi : ops[i]? = some oi) (hsel : ∀ (j : Nat) (o : Oper) cs b, ops[j]? = some o → o.op ≠ .select cs b)
    (hQ : ∀ c a w, Q (.panic c) (a.put oi.dst v) w → Q (.panic c) a w) {m : Array Bool} (hsz : m.size = ops.size) (hm : ∀ j ∈ Region.ready md ops m, j = i) (hz : m.getD z false = false) :
    ∀ (fuel : Nat) (listed : Array Bool) (a : Act) (w : World),
      (∀ j oj, ops[j]? = some oj → j ≠ i → listed.getD j true = false → (∀ e ∈ oj.after, Region.binds md e = true → e.on ≠ i) → oi.apart ops oj = true) → leZ listed m →
      i ∈ Region.ready md ops listed → YieldsIf P ops S oi v a → S w →
      wpAnyZ P md ops Q S z fuel (listed.setIfInBounds i true) (a.put oi.dst v) w → wpAnyZ P md ops Q S z (fuel + 1) listed a w := by
  intro fuel
  induction fuel with
  | zero =>
    intro listed a w _ _ hr hy hS H
    refine ⟨fun h => (by rw [h] at hr; cases hr), fun j hj => ?_⟩
    by_cases hji : j = i
    · subst hji; exact hy.wpOp hi hS ⟨fun _ => hS, H⟩
    · have := ready_mono hj hji
      rw [H.1] at this
      cases this
  | succ fuel ih =>
    intro listed a w hfree hle hr hy hS H
    refine ⟨fun h => (by rw [h] at hr; cases hr), fun j hj => ?_⟩
    by_cases hji : j = i
    · subst hji; exact hy.wpOp hi hS ⟨fun _ => hS, H⟩
    · have hmj : m.getD j false = true := (ready_leZ hsz hle hj).resolve_right (fun q => hji (hm j q))
      have hjz : j ≠ z := fun q => by rw [q, hz] at hmj; cases hmj
      have h1 := H.2 j (ready_mono hj hji)
      obtain ⟨hjun, oj, hoj, hall⟩ := mem_ready.1 hj
      have hnot : ∀ e ∈ oj.after, Region.binds md e = true → e.on ≠ i := fun e he hb heq => by
        have h1 := hall e he hb
        have h0 := (mem_ready.1 hr).1
        rw [heq] at h1
        rcases Nat.lt_or_ge i listed.size with h' | h'
        · simp [h'] at h0 h1; rw [h0] at h1; cases h1
        · simp [Array.getElem?_eq_none h'] at h1
      have h2 := wpOp_putIf hoj (hfree j oj hoj hji hjun hnot) (fun cs b => hsel i oi cs b hi) (fun cs b => hsel j oj cs b hoj) hQ hy h1
      have hfree' : ∀ k ok, ops[k]? = some ok → k ≠ i → (listed.setIfInBounds j true).getD k true = false →
          (∀ e ∈ ok.after, Region.binds md e = true → e.on ≠ i) → oi.apart ops ok = true := fun k ok hk hki hun hno => by
        refine hfree k ok hk hki ?_ hno
        by_cases hjk : j = k
        · subst hjk; exact hjun
        · rw [getD_set_ne true hjk] at hun; exact hun
      refine wpOp_mono (fun a' w' h3 => ⟨h3.2.1, ih (listed.setIfInBounds j true) a' w' hfree' (leZ_set hle hmj) (ready_mono hr (Ne.symm hji)) h3.1 (h3.2.1 hjz) ?_⟩) h2
      rw [Array.setIfInBounds_comm _ _ hji]
      exact h3.2.2
/-- All that may have come up before number i. -/
def satZ (md : Region.Mode) (ops : Array Oper) (i : Nat) : Nat → Array Bool → Array Bool
  | 0, l => l
  | n + 1, l => satZ md ops i n (((Region.ready md ops l).filter (· != i)).foldl (fun l j => l.setIfInBounds j true) l)
def okZ (md : Region.Mode) (ops : Array Oper) (z : Nat) (listed : Array Bool) (i : Nat) : Bool :=
  (fun m : Array Bool => m.size == ops.size && ((List.range listed.size).all fun k => !listed.getD k false || m.getD k false) && ((Region.ready md ops m).all (· == i)) && !m.getD z false) (satZ md ops i ops.size listed)
theorem wpAnyZ_take {i : Nat} {oi : Oper} {v : Value} {fuel : Nat} {listed : Array Bool} {a : Act} {w : World} (hi : ops[i]? = some oi)
    (hs : Region.noSelect ops = true) (hf : Region.free md ops listed i = true) (hr : (Region.ready md ops listed).contains i = true) (hz : okZ md ops z listed i = true)
    (hQ : ∀ c a w, Q (.panic c) (a.put oi.dst v) w → Q (.panic c) a w) (hy : YieldsIf P ops S oi v a) (hS : S w)
    (h : wpAnyZ P md ops Q S z fuel (listed.setIfInBounds i true) (a.put oi.dst v) w) : wpAnyZ P md ops Q S z (fuel + 1) listed a w := by
  unfold okZ at hz
  simp only [Bool.and_eq_true, beq_iff_eq, List.all_eq_true, Bool.not_eq_true', Bool.or_eq_true, List.mem_range] at hz
  obtain ⟨⟨⟨h1, h2⟩, h3⟩, h4⟩ := hz
  refine wpAnyZ_first hi (Region.noSelect_spec hs) hQ h1 h3 h4 fuel listed a w (Region.free_spec hi hf) (fun k hk => ?_) (by simpa using hr) hy hS h
  have hk' : k < listed.size := by
    rcases Nat.lt_or_ge k listed.size with h' | h'
    · exact h'
    · simp [Array.getElem?_eq_none h'] at hk
  rcases h2 k hk' with q | q
  · rw [hk] at q; cases q
  · exact q
theorem wpAnyZ_done {listed : Array Bool} {a : Act} {w : World} (hr : Region.ready md ops listed = []) (h : Q .normal a w) :
    ∀ fuel, wpAnyZ P md ops Q S z fuel listed a w
  | 0 => ⟨hr, h⟩
  | _ + 1 => ⟨fun _ => h, by rw [hr]; simp⟩
/-- But one may come up, and it isn't the last. -/
theorem wpAnyZ_one (i : Nat) {o : Oper} {fuel : Nat} {listed : Array Bool} {a : Act} {w : World} (hr : Region.ready md ops listed = [i]) (ho : ops[i]? = some o)
    (h : ∀ K' : Act → World → Prop, Shut (∀ a w, S w → (S w → wpAnyZ P md ops Q S z fuel (listed.setIfInBounds i true) a w) → K' a w) → if Region.wanted o (yielded ops a.tmps) = true then Oper.wp P o a w K' Q else K' (a.put o.dst undef) w) : wpAnyZ P md ops Q S z (fuel + 1) listed a w :=
  ⟨fun h0 => (by rw [hr] at h0; cases h0), fun j hj => by
    rw [hr] at hj
    obtain rfl : j = i := by simpa using hj
    exact wpOp_step ho (fun K' hK => h K' (fun a w hS hW => hK a w ⟨fun _ => hS, hW hS⟩))⟩
/-- The last. -/
theorem wpAnyZ_last {o : Oper} {fuel : Nat} {listed : Array Bool} {a : Act} {w : World} (hr : Region.ready md ops listed = [z]) (ho : ops[z]? = some o)
    (h : ∀ K' : Act → World → Prop, Shut (∀ a w, wpAnyZ P md ops Q S z fuel (listed.setIfInBounds z true) a w → K' a w) → if Region.wanted o (yielded ops a.tmps) = true then Oper.wp P o a w K' Q else K' (a.put o.dst undef) w) : wpAnyZ P md ops Q S z (fuel + 1) listed a w :=
  ⟨fun h0 => (by rw [hr] at h0; cases h0), fun j hj => by
    rw [hr] at hj
    obtain rfl : j = z := by simpa using hj
    exact wpOp_step ho (fun K' hK => h K' (fun a w hW => hK a w ⟨fun q => absurd rfl q, hW⟩))⟩
/-- The beginning. -/
theorem wp_regionZ (z : Nat) {id : Nat} {a : Act} {w : World} (hm : P.follows .mixedOrders = true) (hS : S w.drew)
    (h : S w.drew → wpAnyZ P .any ops Q S z ops.size (Array.replicate ops.size false) a w.drew) : (Code.region id ops true).wp P Q a w :=
  wp_region_any hm (wpAny_of_Z _ _ _ _ (h hS))
end
end Go.Proofs.YtnikdbebfofcaaaGreatDoor

namespace Go.Proofs.YtnikdbebfofcaaaGreatDoor
section
open Go.RowKit Go.Maps Go.Sort Go.Shelf Go.Lib
/-- The cells without that of a key and start. -/
def goneK (a s : Int) (t : List Int) : Bool := t.getD 0 0 == a && t.getD 1 0 == s
def unlC (F : Nat → Int) (a s : Int) (n : Nat) : List (List Int) := selD F 3 (goneK a s) n
theorem goneK_iff {F : Nat → Int} {a s : Int} {i : Nat} : goneK a s (struD F 3 i) = true ↔ cellIs F a s i := by
  unfold goneK cellIs
  rw [struD_get F 3 i 0 (by omega), struD_get F 3 i 1 (by omega), Bool.and_eq_true, beq_iff_eq, beq_iff_eq]
  exact Iff.rfl
theorem goneK_not {F : Nat → Int} {a s : Int} {i : Nat} (h : ¬ cellIs F a s i) : goneK a s (struD F 3 i) = false := by
  cases e : goneK a s (struD F 3 i) with
  | false => rfl
  | true => exact absurd (goneK_iff.1 e) h
/-- A store of which what began at s for the key a is taken back. -/
def rollS (S : Sto) (a s : Int) (k : Nat) : Sto := ⟨(unlC S.c a s S.nc).length, fun p => (unlC S.c a s S.nc).flatten.getD p 0, (unlL S.l a s S.nl).length, fun p => (unlL S.l a s S.nl).flatten.getD p 0, S.nw + 1, insF S.k 4 S.nw k [a, s, s, 4]⟩
theorem selD_one {F : Nat → Int} {m : Nat} {D : List Int → Bool} {j : Nat} (hj : D (struD F m j) = true) : ∀ k, j < k → (∀ i, i < k → i ≠ j → D (struD F m i) = false) → (selD F m D k).length = k - 1 ∧ ∀ p, p < (k - 1) * m → (selD F m D k).flatten.getD p 0 = if p < j * m then F p else F (p + m)
  | 0, h, _ => absurd h (Nat.not_lt_zero _)
  | k + 1, h, ha => by
    rcases Nat.lt_or_ge j k with q | q
    · obtain ⟨i1, i2⟩ := selD_one hj k q (fun i hi hn => ha i (by omega) hn)
      rw [selD_kept (ha k (by omega) (by omega))]
      refine ⟨by rw [List.length_append, i1]; simp; omega, fun p hp => ?_⟩
      have hfl : (selD F m D k).flatten.length = (k - 1) * m := by rw [flat_len _ (selD_len F m D k), i1]
      rw [List.flatten_append, List.getD_eq_getElem?_getD]
      by_cases hq : p < (k - 1) * m
      · rw [List.getElem?_append_left (by rw [hfl]; exact hq), ← List.getD_eq_getElem?_getD]
        exact i2 p hq
      · have e1 : (k + 1 - 1) * m = (k - 1) * m + m := by rw [show k + 1 - 1 = (k - 1) + 1 by omega, Nat.succ_mul]
        have e2 : j * m ≤ (k - 1) * m := Nat.mul_le_mul_right m (by omega)
        have e3 : k * m = (k - 1) * m + m := by rw [← Nat.succ_mul, show (k - 1).succ = k by omega]
        rw [List.getElem?_append_right (by rw [hfl]; omega), hfl, if_neg (by omega), ← List.getD_eq_getElem?_getD]
        simp only [List.flatten_cons, List.flatten_nil, List.append_nil]
        rw [struD_get F m k _ (by omega)]
        congr 1
        omega
    · obtain rfl : j = k := by omega
      rw [selD_gone hj]
      obtain ⟨i1, i2⟩ := selD_same (fun i hi => ha i (by omega) (by omega)) (F := F) (m := m) (D := D) (k := j)
      refine ⟨by rw [i1]; omega, fun p hp => ?_⟩
      rw [show j + 1 - 1 = j by omega] at hp
      rw [i2 p hp, if_pos hp]
/-- Cells of a store without a fault: no two of one key and start. -/
theorem cell_once {S : Sto} (h : scan (cellF S.c) S.nc = 0) {a s : Int} {i j : Nat} (hi : i < S.nc) (hj : j < S.nc) (h1 : cellIs S.c a s i) (h2 : cellIs S.c a s j) : i = j := by
  unfold cellIs at h1 h2
  rcases Nat.lt_trichotomy i j with q | q | q
  · have := cells_rise h j hj i q
    unfold pairLt at this
    omega
  · exact q
  · have := cells_rise h i hi j q
    unfold pairLt at this
    omega
theorem cellAt_isO (S : Sto) (b oo : Nat) (v0 v1 v2 : Value) (a s r : Int) (w : World) (h : LiesO w b oo S v0 v1 v2) (hn : S.nc ≤ 200) (hr : FirstAt (cellIs S.c a s) S.nc r) :
    Calls Tryz.prog 76 #[.pointer (some ⟨b, oo, none⟩), .int .i64 a, .int .i64 s] w fun e w' => e = .returned (.int .i64 r) ∧ w' = w :=
  (l2Cell_anyO S b oo v0 v1 v2 a s w h hn).mono fun e w' ⟨r', he, hf, hw⟩ => ⟨by rw [he, hf.one hr], hw⟩
theorem cellAt_is (S : Sto) (b : Nat) (v0 v1 v2 : Value) (a s r : Int) (w : World) (h : Lies w b S v0 v1 v2) (hn : S.nc ≤ 200) (hr : FirstAt (cellIs S.c a s) S.nc r) :
    Calls Tryz.prog 76 #[.pointer (some ⟨b, 0, none⟩), .int .i64 a, .int .i64 s] w fun e w' => e = .returned (.int .i64 r) ∧ w' = w := cellAt_isO S b 0 v0 v1 v2 a s r w h hn hr
end

section
open Go.RowKit Go.Lib
set_option maxRecDepth 100000 in
set_option maxHeartbeats 8000000 in
theorem l3Roll_sameO (S : Sto) (b oo : Nat) (v0 v1 v2 : Value) (a s : Int) (i : Nat) (w : World) (h : LiesO w b oo S v0 v1 v2) (hz : storeF S = 0) (hi : FirstAt (writeIs S.k a s) S.nw i) (hc : S.k (i * 4 + 3) = 4) :
    Calls Tryz.prog 94 #[.pointer (some ⟨b, oo, none⟩), .int .i64 a, .int .i64 s] w (ResStoK w 0 S) := by
  have hin : i < S.nw := hi.at.1
  obtain ⟨a0, c0, a1, c1, a2, c2, rfl, rfl, rfl⟩ := h.2.form
  have H : Hid (LiesO w b oo S (.slice a0 S.nc c0) (.slice a1 S.nl c1) (.slice a2 S.nw c2)) := h
  obtain ⟨p0, p1, p2⟩ := h.1
  have hb := h.lt
  obtain ⟨⟨hn0, hn1, hn2⟩, _⟩ := storeF_zero hz
  clear h
  go_enter Tryz.func94, Tryz.ntmps94
  go_wp2_with fail
  refine (l2Copy_own S _ _ _ 0 _ (H.out.2.alloc _) ⟨by omega, by omega, by omega⟩).mono ?_
  rintro e w2 ⟨d0, e0, d1, e1, d2, e2, rfl, o2, q2⟩
  have g0 := own_cap o2.1.1
  have g1 := own_cap o2.1.2.1
  have g2 := own_cap o2.1.2.2
  obtain ⟨s2, fr2, ap2⟩ := o2.all
  simp only [World.size_alloc] at s2 q2 o2
  have BW2 : Below w.heap.size w w2 := (below_alloc w _).trans (q2.mono (Nat.le_succ _))
  have HE : Hid (CmE w b oo S (.slice a0 S.nc c0) (.slice a1 S.nl c1) (.slice a2 S.nw c2) w2.heap.size (.slice d0 S.nc e0) (.slice d1 S.nl e1) (.slice d2 S.nw e2) (w2.alloc (.cells #[.slice d0 S.nc e0, .slice d1 S.nl e1, .slice d2 S.nw e2] 28))) :=
    ⟨((Blk4.new w _ _ _ _ _).kept (q2.block w.heap.size (Nat.lt_succ_self _))).alloc _, Blk3.new _ _ _ _ _, (H.out.later BW2).later (below_alloc _ _), BW2.trans ((below_alloc w2 _).mono BW2.size)⟩
  have HS : Hid ((St w2 (w.heap.size + 1) S (.slice d0 S.nc e0) (.slice d1 S.nl e1) (.slice d2 S.nw e2) ∧ FreeS w2 S (.slice d0 S.nc e0) (.slice d1 S.nl e1) (.slice d2 S.nw e2)) ∧ ApartD S (.slice d0 S.nc e0) (.slice d1 S.nl e1) (.slice d2 S.nw e2)) := ⟨⟨s2, fr2⟩, ap2⟩
  have HOS : Hid (OwnS w2 (w.heap.size + 1) S (.slice d0 S.nc e0) (.slice d1 S.nl e1) (.slice d2 S.nw e2)) := o2
  have hzw : w.heap.size < w2.heap.size := by have := q2.size; simp at this; omega
  have B23 : Hid (Below w2.heap.size w2 (w2.alloc (.cells #[.slice d0 S.nc e0, .slice d1 S.nl e1, .slice d2 S.nw e2] 28))) := below_alloc _ _
  have hbl : b < w2.heap.size := Nat.lt_trans hb hzw
  clear o2 s2 fr2 ap2 q2 BW2 p0 p1 p2
  go_wp2_with fail
  generalize w2.alloc (.cells #[.slice d0 S.nc e0, .slice d1 S.nl e1, .slice d2 S.nw e2] 28) = w3 at HE B23 ⊢
  have hz3 : w2.heap.size < w3.heap.size := HE.out.2.1.lt
  refine (l2Write_isO S b oo _ _ _ a s i _ HE.out.2.2.1 hn2 hi).mono ?_
  rintro e w' ⟨rfl, rfl⟩
  obtain ⟨⟨⟨r0, r1, r2, r3⟩, f0, f1, f2, f3⟩, ⟨⟨t0, t1, t2⟩, _⟩, ⟨⟨p0, p1, p2⟩, pst⟩, _⟩ := HE.out
  obtain ⟨g, o, hg, _, hgl, x0, x1, x2, x3⟩ := pst.2.2.at4 hin
  subst hg
  rw [hc] at x3
  unfold ResStoK
  clear pst
  go_wp2
  have S3 : St w' (w.heap.size + 1) S (.slice d0 S.nc e0) (.slice d1 S.nl e1) (.slice d2 S.nw e2) := HS.out.1.1.later B23.out
  have O3 := HOS.out.later B23.out
  have hlo : (w.heap.size : Nat) < w.heap.size + 1 := Nat.lt_succ_self _
  exact bodyPost_ret (v := .agg #[.int .i64 0, .slice d0 S.nc e0, .slice d1 S.nl e1, .slice d2 S.nw e2]) (by simp [results, Tryz.results94, go_sem, r0, r1, r2, r3]) rfl ⟨d0, e0, d1, e1, d2, e2, rfl, ((((O3.far hlo _).far hlo _).far hlo _).far hlo _).mono (by omega), (((HE.out.2.2.2.setCell (Nat.le_refl _) _).setCell (Nat.le_refl _) _).setCell (Nat.le_refl _) _).setCell (Nat.le_refl _) _⟩
set_option maxRecDepth 100000 in
set_option maxHeartbeats 8000000 in
theorem l3Roll_takenO (S : Sto) (b oo : Nat) (v0 v1 v2 : Value) (a s : Int) (i : Nat) (w : World) (h : LiesO w b oo S v0 v1 v2) (hz : storeF S = 0) (hi : FirstAt (writeIs S.k a s) S.nw i) (hc : S.k (i * 4 + 3) ≠ 4) :
    Calls Tryz.prog 94 #[.pointer (some ⟨b, oo, none⟩), .int .i64 a, .int .i64 s] w (ResStoK w 6 emptyS) := by
  have hin : i < S.nw := hi.at.1
  obtain ⟨a0, c0, a1, c1, a2, c2, rfl, rfl, rfl⟩ := h.2.form
  have H : Hid (LiesO w b oo S (.slice a0 S.nc c0) (.slice a1 S.nl c1) (.slice a2 S.nw c2)) := h
  obtain ⟨p0, p1, p2⟩ := h.1
  have hb := h.lt
  obtain ⟨⟨hn0, hn1, hn2⟩, _⟩ := storeF_zero hz
  clear h
  go_enter Tryz.func94, Tryz.ntmps94
  go_wp2_with fail
  refine (l2Copy_own S _ _ _ 0 _ (H.out.2.alloc _) ⟨by omega, by omega, by omega⟩).mono ?_
  rintro e w2 ⟨d0, e0, d1, e1, d2, e2, rfl, o2, q2⟩
  have g0 := own_cap o2.1.1
  have g1 := own_cap o2.1.2.1
  have g2 := own_cap o2.1.2.2
  obtain ⟨s2, fr2, ap2⟩ := o2.all
  simp only [World.size_alloc] at s2 q2 o2
  have BW2 : Below w.heap.size w w2 := (below_alloc w _).trans (q2.mono (Nat.le_succ _))
  have HE : Hid (CmE w b oo S (.slice a0 S.nc c0) (.slice a1 S.nl c1) (.slice a2 S.nw c2) w2.heap.size (.slice d0 S.nc e0) (.slice d1 S.nl e1) (.slice d2 S.nw e2) (w2.alloc (.cells #[.slice d0 S.nc e0, .slice d1 S.nl e1, .slice d2 S.nw e2] 28))) :=
    ⟨((Blk4.new w _ _ _ _ _).kept (q2.block w.heap.size (Nat.lt_succ_self _))).alloc _, Blk3.new _ _ _ _ _, (H.out.later BW2).later (below_alloc _ _), BW2.trans ((below_alloc w2 _).mono BW2.size)⟩
  have HS : Hid ((St w2 (w.heap.size + 1) S (.slice d0 S.nc e0) (.slice d1 S.nl e1) (.slice d2 S.nw e2) ∧ FreeS w2 S (.slice d0 S.nc e0) (.slice d1 S.nl e1) (.slice d2 S.nw e2)) ∧ ApartD S (.slice d0 S.nc e0) (.slice d1 S.nl e1) (.slice d2 S.nw e2)) := ⟨⟨s2, fr2⟩, ap2⟩
  have HOS : Hid (OwnS w2 (w.heap.size + 1) S (.slice d0 S.nc e0) (.slice d1 S.nl e1) (.slice d2 S.nw e2)) := o2
  have hzw : w.heap.size < w2.heap.size := by have := q2.size; simp at this; omega
  have B23 : Hid (Below w2.heap.size w2 (w2.alloc (.cells #[.slice d0 S.nc e0, .slice d1 S.nl e1, .slice d2 S.nw e2] 28))) := below_alloc _ _
  have hbl : b < w2.heap.size := Nat.lt_trans hb hzw
  clear o2 s2 fr2 ap2 q2 BW2 p0 p1 p2
  go_wp2_with fail
  generalize w2.alloc (.cells #[.slice d0 S.nc e0, .slice d1 S.nl e1, .slice d2 S.nw e2] 28) = w3 at HE B23 ⊢
  have hz3 : w2.heap.size < w3.heap.size := HE.out.2.1.lt
  refine (l2Write_isO S b oo _ _ _ a s i _ HE.out.2.2.1 hn2 hi).mono ?_
  rintro e w' ⟨rfl, rfl⟩
  obtain ⟨⟨⟨r0, r1, r2, r3⟩, f0, f1, f2, f3⟩, ⟨⟨t0, t1, t2⟩, _⟩, ⟨⟨p0, p1, p2⟩, pst⟩, _⟩ := HE.out
  obtain ⟨g, o, hg, _, hgl, x0, x1, x2, x3⟩ := pst.2.2.at4 hin
  subst hg
  obtain ⟨y, hy⟩ : ∃ y, S.k (i * 4 + 3) = y := ⟨_, rfl⟩
  rw [hy] at x3 hc
  have dc : (y == 4) = false := beq_eq_false_iff_ne.2 hc
  unfold ResStoK
  clear pst hc hy
  go_wp2_with fail
  refine (l3Bad_own 6 _).mono ?_
  rintro e w4 ⟨y0, z0, y1, z1, y2, z2, rfl, o4, q4⟩
  have S4 : Hid (OwnS w4 (w.heap.size + 1) emptyS (.slice y0 emptyS.nc z0) (.slice y1 emptyS.nl z1) (.slice y2 emptyS.nw z2)) := o4.mono (Nat.le_trans hzw (Nat.le_of_lt hz3))
  have HBW : Hid (Below w.heap.size w w4) := HE.out.2.2.2.trans (q4.mono HE.out.2.2.2.size)
  obtain ⟨⟨r0, r1, r2, r3⟩, f0, f1, f2, f3⟩ := HE.out.1.later q4
  clear o4 q4
  have hlo : (w.heap.size : Nat) < w.heap.size + 1 := Nat.lt_succ_self _
  go_wp2
  exact bodyPost_ret (v := .agg #[.int .i64 6, .slice y0 emptyS.nc z0, .slice y1 emptyS.nl z1, .slice y2 emptyS.nw z2]) (by simp [results, Tryz.results94, go_sem, r0, r1, r2, r3]) rfl ⟨y0, z0, y1, z1, y2, z2, rfl, ((((S4.out.far hlo _).far hlo _).far hlo _).far hlo _).mono (by omega), (((HBW.out.setCell (Nat.le_refl _) _).setCell (Nat.le_refl _) _).setCell (Nat.le_refl _) _).setCell (Nat.le_refl _) _⟩
set_option maxRecDepth 100000 in
set_option maxHeartbeats 8000000 in
theorem l3Roll_atO (S : Sto) (b oo : Nat) (v0 v1 v2 : Value) (a s : Int) (w : World) (h : LiesO w b oo S v0 v1 v2) (hz : storeF S = 0) (hi : FirstAt (writeIs S.k a s) S.nw (-1)) (hat : ∃ i, i < S.nw ∧ writeAt S.k a s i) :
    Calls Tryz.prog 94 #[.pointer (some ⟨b, oo, none⟩), .int .i64 a, .int .i64 s] w (ResStoK w 6 emptyS) := by
  obtain ⟨a0, c0, a1, c1, a2, c2, rfl, rfl, rfl⟩ := h.2.form
  have H : Hid (LiesO w b oo S (.slice a0 S.nc c0) (.slice a1 S.nl c1) (.slice a2 S.nw c2)) := h
  obtain ⟨p0, p1, p2⟩ := h.1
  have hb := h.lt
  obtain ⟨⟨hn0, hn1, hn2⟩, _⟩ := storeF_zero hz
  clear h
  go_enter Tryz.func94, Tryz.ntmps94
  go_wp2_with fail
  refine (l2Copy_own S _ _ _ 0 _ (H.out.2.alloc _) ⟨by omega, by omega, by omega⟩).mono ?_
  rintro e w2 ⟨d0, e0, d1, e1, d2, e2, rfl, o2, q2⟩
  have g0 := own_cap o2.1.1
  have g1 := own_cap o2.1.2.1
  have g2 := own_cap o2.1.2.2
  obtain ⟨s2, fr2, ap2⟩ := o2.all
  simp only [World.size_alloc] at s2 q2 o2
  have BW2 : Below w.heap.size w w2 := (below_alloc w _).trans (q2.mono (Nat.le_succ _))
  have HE : Hid (CmE w b oo S (.slice a0 S.nc c0) (.slice a1 S.nl c1) (.slice a2 S.nw c2) w2.heap.size (.slice d0 S.nc e0) (.slice d1 S.nl e1) (.slice d2 S.nw e2) (w2.alloc (.cells #[.slice d0 S.nc e0, .slice d1 S.nl e1, .slice d2 S.nw e2] 28))) :=
    ⟨((Blk4.new w _ _ _ _ _).kept (q2.block w.heap.size (Nat.lt_succ_self _))).alloc _, Blk3.new _ _ _ _ _, (H.out.later BW2).later (below_alloc _ _), BW2.trans ((below_alloc w2 _).mono BW2.size)⟩
  have HS : Hid ((St w2 (w.heap.size + 1) S (.slice d0 S.nc e0) (.slice d1 S.nl e1) (.slice d2 S.nw e2) ∧ FreeS w2 S (.slice d0 S.nc e0) (.slice d1 S.nl e1) (.slice d2 S.nw e2)) ∧ ApartD S (.slice d0 S.nc e0) (.slice d1 S.nl e1) (.slice d2 S.nw e2)) := ⟨⟨s2, fr2⟩, ap2⟩
  have HOS : Hid (OwnS w2 (w.heap.size + 1) S (.slice d0 S.nc e0) (.slice d1 S.nl e1) (.slice d2 S.nw e2)) := o2
  have hzw : w.heap.size < w2.heap.size := by have := q2.size; simp at this; omega
  have B23 : Hid (Below w2.heap.size w2 (w2.alloc (.cells #[.slice d0 S.nc e0, .slice d1 S.nl e1, .slice d2 S.nw e2] 28))) := below_alloc _ _
  have hbl : b < w2.heap.size := Nat.lt_trans hb hzw
  clear o2 s2 fr2 ap2 q2 BW2 p0 p1 p2
  go_wp2_with fail
  generalize w2.alloc (.cells #[.slice d0 S.nc e0, .slice d1 S.nl e1, .slice d2 S.nw e2] 28) = w3 at HE B23 ⊢
  have hz3 : w2.heap.size < w3.heap.size := HE.out.2.1.lt
  refine (l2Write_isO S b oo _ _ _ a s (-1) _ HE.out.2.2.1 hn2 hi).mono ?_
  rintro e w' ⟨rfl, rfl⟩
  obtain ⟨⟨⟨r0, r1, r2, r3⟩, f0, f1, f2, f3⟩, ⟨⟨t0, t1, t2⟩, _⟩, ⟨⟨p0, p1, p2⟩, pst⟩, _⟩ := HE.out
  unfold ResStoK
  clear pst
  go_wp2_with fail
  refine (l3At_anyO S b oo _ _ _ a s _ HE.out.2.2.1 hn2).mono ?_
  rintro e w5 ⟨r, rfl, hr, rfl⟩
  obtain rfl : r = true := hr.2 hat
  clear hr hat
  go_wp2_with fail
  refine (l3Bad_own 6 _).mono ?_
  rintro e w4 ⟨y0, z0, y1, z1, y2, z2, rfl, o4, q4⟩
  have S4 : Hid (OwnS w4 (w.heap.size + 1) emptyS (.slice y0 emptyS.nc z0) (.slice y1 emptyS.nl z1) (.slice y2 emptyS.nw z2)) := o4.mono (Nat.le_trans hzw (Nat.le_of_lt hz3))
  have HBW : Hid (Below w.heap.size w w4) := HE.out.2.2.2.trans (q4.mono HE.out.2.2.2.size)
  obtain ⟨⟨r0, r1, r2, r3⟩, f0, f1, f2, f3⟩ := HE.out.1.later q4
  clear o4 q4
  have hlo : (w.heap.size : Nat) < w.heap.size + 1 := Nat.lt_succ_self _
  go_wp2
  exact bodyPost_ret (v := .agg #[.int .i64 6, .slice y0 emptyS.nc z0, .slice y1 emptyS.nl z1, .slice y2 emptyS.nw z2]) (by simp [results, Tryz.results94, go_sem, r0, r1, r2, r3]) rfl ⟨y0, z0, y1, z1, y2, z2, rfl, ((((S4.out.far hlo _).far hlo _).far hlo _).far hlo _).mono (by omega), (((HBW.out.setCell (Nat.le_refl _) _).setCell (Nat.le_refl _) _).setCell (Nat.le_refl _) _).setCell (Nat.le_refl _) _⟩
set_option maxRecDepth 100000 in
set_option maxHeartbeats 8000000 in
theorem l3Roll_manyO (S : Sto) (b oo : Nat) (v0 v1 v2 : Value) (a s : Int) (w : World) (h : LiesO w b oo S v0 v1 v2) (hz : storeF S = 0) (hi : FirstAt (writeIs S.k a s) S.nw (-1)) (hat : ¬ ∃ i, i < S.nw ∧ writeAt S.k a s i) (hm : 200 ≤ S.nw) :
    Calls Tryz.prog 94 #[.pointer (some ⟨b, oo, none⟩), .int .i64 a, .int .i64 s] w (ResStoK w 2 emptyS) := by
  have dm : decide ((200 : Int) ≤ (S.nw : Int)) = true := decide_eq_true (by omega)
  clear hm
  obtain ⟨a0, c0, a1, c1, a2, c2, rfl, rfl, rfl⟩ := h.2.form
  have H : Hid (LiesO w b oo S (.slice a0 S.nc c0) (.slice a1 S.nl c1) (.slice a2 S.nw c2)) := h
  obtain ⟨p0, p1, p2⟩ := h.1
  have hb := h.lt
  obtain ⟨⟨hn0, hn1, hn2⟩, _⟩ := storeF_zero hz
  clear h
  go_enter Tryz.func94, Tryz.ntmps94
  go_wp2_with fail
  refine (l2Copy_own S _ _ _ 0 _ (H.out.2.alloc _) ⟨by omega, by omega, by omega⟩).mono ?_
  rintro e w2 ⟨d0, e0, d1, e1, d2, e2, rfl, o2, q2⟩
  have g0 := own_cap o2.1.1
  have g1 := own_cap o2.1.2.1
  have g2 := own_cap o2.1.2.2
  obtain ⟨s2, fr2, ap2⟩ := o2.all
  simp only [World.size_alloc] at s2 q2 o2
  have BW2 : Below w.heap.size w w2 := (below_alloc w _).trans (q2.mono (Nat.le_succ _))
  have HE : Hid (CmE w b oo S (.slice a0 S.nc c0) (.slice a1 S.nl c1) (.slice a2 S.nw c2) w2.heap.size (.slice d0 S.nc e0) (.slice d1 S.nl e1) (.slice d2 S.nw e2) (w2.alloc (.cells #[.slice d0 S.nc e0, .slice d1 S.nl e1, .slice d2 S.nw e2] 28))) :=
    ⟨((Blk4.new w _ _ _ _ _).kept (q2.block w.heap.size (Nat.lt_succ_self _))).alloc _, Blk3.new _ _ _ _ _, (H.out.later BW2).later (below_alloc _ _), BW2.trans ((below_alloc w2 _).mono BW2.size)⟩
  have HS : Hid ((St w2 (w.heap.size + 1) S (.slice d0 S.nc e0) (.slice d1 S.nl e1) (.slice d2 S.nw e2) ∧ FreeS w2 S (.slice d0 S.nc e0) (.slice d1 S.nl e1) (.slice d2 S.nw e2)) ∧ ApartD S (.slice d0 S.nc e0) (.slice d1 S.nl e1) (.slice d2 S.nw e2)) := ⟨⟨s2, fr2⟩, ap2⟩
  have HOS : Hid (OwnS w2 (w.heap.size + 1) S (.slice d0 S.nc e0) (.slice d1 S.nl e1) (.slice d2 S.nw e2)) := o2
  have hzw : w.heap.size < w2.heap.size := by have := q2.size; simp at this; omega
  have B23 : Hid (Below w2.heap.size w2 (w2.alloc (.cells #[.slice d0 S.nc e0, .slice d1 S.nl e1, .slice d2 S.nw e2] 28))) := below_alloc _ _
  have hbl : b < w2.heap.size := Nat.lt_trans hb hzw
  clear o2 s2 fr2 ap2 q2 BW2 p0 p1 p2
  go_wp2_with fail
  generalize w2.alloc (.cells #[.slice d0 S.nc e0, .slice d1 S.nl e1, .slice d2 S.nw e2] 28) = w3 at HE B23 ⊢
  have hz3 : w2.heap.size < w3.heap.size := HE.out.2.1.lt
  refine (l2Write_isO S b oo _ _ _ a s (-1) _ HE.out.2.2.1 hn2 hi).mono ?_
  rintro e w' ⟨rfl, rfl⟩
  obtain ⟨⟨⟨r0, r1, r2, r3⟩, f0, f1, f2, f3⟩, ⟨⟨t0, t1, t2⟩, _⟩, ⟨⟨p0, p1, p2⟩, pst⟩, _⟩ := HE.out
  unfold ResStoK
  clear pst
  go_wp2_with fail
  refine (l3At_anyO S b oo _ _ _ a s _ HE.out.2.2.1 hn2).mono ?_
  rintro e w5 ⟨r, rfl, hr, rfl⟩
  obtain rfl : r = false := bool_no hr hat
  clear hr hat
  go_wp2_with fail
  refine (l3Bad_own 2 _).mono ?_
  rintro e w4 ⟨y0, z0, y1, z1, y2, z2, rfl, o4, q4⟩
  have S4 : Hid (OwnS w4 (w.heap.size + 1) emptyS (.slice y0 emptyS.nc z0) (.slice y1 emptyS.nl z1) (.slice y2 emptyS.nw z2)) := o4.mono (Nat.le_trans hzw (Nat.le_of_lt hz3))
  have HBW : Hid (Below w.heap.size w w4) := HE.out.2.2.2.trans (q4.mono HE.out.2.2.2.size)
  obtain ⟨⟨r0, r1, r2, r3⟩, f0, f1, f2, f3⟩ := HE.out.1.later q4
  clear o4 q4
  have hlo : (w.heap.size : Nat) < w.heap.size + 1 := Nat.lt_succ_self _
  go_wp2
  exact bodyPost_ret (v := .agg #[.int .i64 2, .slice y0 emptyS.nc z0, .slice y1 emptyS.nl z1, .slice y2 emptyS.nw z2]) (by simp [results, Tryz.results94, go_sem, r0, r1, r2, r3]) rfl ⟨y0, z0, y1, z1, y2, z2, rfl, ((((S4.out.far hlo _).far hlo _).far hlo _).far hlo _).mono (by omega), (((HBW.out.setCell (Nat.le_refl _) _).setCell (Nat.le_refl _) _).setCell (Nat.le_refl _) _).setCell (Nat.le_refl _) _⟩
set_option maxRecDepth 100000 in
set_option maxHeartbeats 8000000 in
theorem l3Roll_noneO (S : Sto) (b oo : Nat) (v0 v1 v2 : Value) (a s : Int) (k : Nat) (w : World) (h : LiesO w b oo S v0 v1 v2) (hz : storeF S = 0) (hi : FirstAt (writeIs S.k a s) S.nw (-1)) (hat : ¬ ∃ i, i < S.nw ∧ writeAt S.k a s i) (hm : S.nw < 200) (hk : placeAt (aheadW S.k a s) S.nw k) (hcl : FirstAt (cellIs S.c a s) S.nc (-1)) :
    Calls Tryz.prog 94 #[.pointer (some ⟨b, oo, none⟩), .int .i64 a, .int .i64 s] w (ResStoK w 0 (rollS S a s k)) := by
  have dm : decide ((200 : Int) ≤ (S.nw : Int)) = false := decide_eq_false (by omega)
  have HK : Hid (placeAt (aheadW S.k a s) S.nw k) := hk
  clear hm hk
  obtain ⟨a0, c0, a1, c1, a2, c2, rfl, rfl, rfl⟩ := h.2.form
  have H : Hid (LiesO w b oo S (.slice a0 S.nc c0) (.slice a1 S.nl c1) (.slice a2 S.nw c2)) := h
  obtain ⟨p0, p1, p2⟩ := h.1
  have hb := h.lt
  obtain ⟨⟨hn0, hn1, hn2⟩, _⟩ := storeF_zero hz
  clear h
  go_enter Tryz.func94, Tryz.ntmps94
  go_wp2_with fail
  refine (l2Copy_own S _ _ _ 0 _ (H.out.2.alloc _) ⟨by omega, by omega, by omega⟩).mono ?_
  rintro e w2 ⟨d0, e0, d1, e1, d2, e2, rfl, o2, q2⟩
  have g0 := own_cap o2.1.1
  have g1 := own_cap o2.1.2.1
  have g2 := own_cap o2.1.2.2
  obtain ⟨s2, fr2, ap2⟩ := o2.all
  simp only [World.size_alloc] at s2 q2 o2
  have BW2 : Below w.heap.size w w2 := (below_alloc w _).trans (q2.mono (Nat.le_succ _))
  have HE : Hid (CmE w b oo S (.slice a0 S.nc c0) (.slice a1 S.nl c1) (.slice a2 S.nw c2) w2.heap.size (.slice d0 S.nc e0) (.slice d1 S.nl e1) (.slice d2 S.nw e2) (w2.alloc (.cells #[.slice d0 S.nc e0, .slice d1 S.nl e1, .slice d2 S.nw e2] 28))) :=
    ⟨((Blk4.new w _ _ _ _ _).kept (q2.block w.heap.size (Nat.lt_succ_self _))).alloc _, Blk3.new _ _ _ _ _, (H.out.later BW2).later (below_alloc _ _), BW2.trans ((below_alloc w2 _).mono BW2.size)⟩
  have HS : Hid ((St w2 (w.heap.size + 1) S (.slice d0 S.nc e0) (.slice d1 S.nl e1) (.slice d2 S.nw e2) ∧ FreeS w2 S (.slice d0 S.nc e0) (.slice d1 S.nl e1) (.slice d2 S.nw e2)) ∧ ApartD S (.slice d0 S.nc e0) (.slice d1 S.nl e1) (.slice d2 S.nw e2)) := ⟨⟨s2, fr2⟩, ap2⟩
  have HOS : Hid (OwnS w2 (w.heap.size + 1) S (.slice d0 S.nc e0) (.slice d1 S.nl e1) (.slice d2 S.nw e2)) := o2
  have hzw : w.heap.size < w2.heap.size := by have := q2.size; simp at this; omega
  have B23 : Hid (Below w2.heap.size w2 (w2.alloc (.cells #[.slice d0 S.nc e0, .slice d1 S.nl e1, .slice d2 S.nw e2] 28))) := below_alloc _ _
  have hbl : b < w2.heap.size := Nat.lt_trans hb hzw
  clear o2 s2 fr2 ap2 q2 BW2 p0 p1 p2
  go_wp2_with fail
  generalize w2.alloc (.cells #[.slice d0 S.nc e0, .slice d1 S.nl e1, .slice d2 S.nw e2] 28) = w3 at HE B23 ⊢
  have hz3 : w2.heap.size < w3.heap.size := HE.out.2.1.lt
  refine (l2Write_isO S b oo _ _ _ a s (-1) _ HE.out.2.2.1 hn2 hi).mono ?_
  rintro e w' ⟨rfl, rfl⟩
  obtain ⟨⟨⟨r0, r1, r2, r3⟩, f0, f1, f2, f3⟩, ⟨⟨t0, t1, t2⟩, ft0, ft1, ft2⟩, ⟨⟨p0, p1, p2⟩, pst⟩, _⟩ := HE.out
  clear pst
  go_wp2_with fail
  refine (l3At_anyO S b oo _ _ _ a s _ HE.out.2.2.1 hn2).mono ?_
  rintro e w5 ⟨r, rfl, hr, rfl⟩
  obtain rfl : r = false := bool_no hr hat
  clear hr hat
  go_wp2_with fail
  refine (l3Unlock_any S.nl S.l _ (w.heap.size + 1) a s _ (HS.out.1.1.later B23.out).2.1 (by omega)).mono ?_
  rintro e w6 ⟨y1, z1, rfl, O6, q6⟩
  have ft1' : w6.frozen? ⟨w2.heap.size, 1, none⟩ = false := (q6.frozen (p := ⟨w2.heap.size, 1, none⟩) hz3).trans ft1
  have t1' : w6.cell? ⟨w2.heap.size, 1, none⟩ = some (.slice d1 S.nl e1) := (q6.cell (p := ⟨w2.heap.size, 1, none⟩) hz3).trans t1
  have HE6 : Hid (CmE w b oo S (.slice a0 S.nc c0) (.slice a1 S.nl c1) (.slice a2 S.nw c2) w2.heap.size (.slice d0 S.nc e0) (.slice d1 S.nl e1) (.slice d2 S.nw e2) w6) := HE.out.later q6
  have B26 : Hid (Below w2.heap.size w2 w6) := B23.out.trans (q6.mono (Nat.le_of_lt hz3))
  obtain ⟨U, hU⟩ : ∃ U, unlL S.l a s S.nl = U := ⟨_, rfl⟩
  have HU : Hid (unlL S.l a s S.nl = U) := hU
  rw [hU] at O6
  have O6' : Hid (OwnM w6 w5.heap.size 61 5 (.slice y1 U.length z1) U.length U.flatten) := O6
  have hz6 : w5.heap.size ≤ w6.heap.size := q6.size
  rw [hU]
  clear O6 q6 hU r0 r1 r2 r3 f0 f1 f2 f3 t0 t1 t2 ft0 ft1 ft2 p0 p1 p2
  go_upto_region 12 with fail
  -- the world behind the store of the locks
  have BX : Hid (Below w.heap.size w (w6.setCell ⟨w2.heap.size, 1, none⟩ (.slice y1 U.length z1))) := HE6.out.2.2.2.setCell (Nat.le_of_lt hzw) _
  have B2X : Hid (Below w2.heap.size w2 (w6.setCell ⟨w2.heap.size, 1, none⟩ (.slice y1 U.length z1))) := B26.out.setCell (Nat.le_refl _) _
  have RX : Hid (Blk4 (w6.setCell ⟨w2.heap.size, 1, none⟩ (.slice y1 U.length z1)) w.heap.size (.int .i64 0) (.slice none 0 0) (.slice none 0 0) (.slice none 0 0)) := HE6.out.1.kept (Below.heap_setCell _ _ _ _ (Nat.ne_of_lt hzw))
  have TX : Hid (Blk3 (w6.setCell ⟨w2.heap.size, 1, none⟩ (.slice y1 U.length z1)) w2.heap.size (.slice d0 S.nc e0) (.slice y1 U.length z1) (.slice d2 S.nw e2)) := HE6.out.2.1.set1 _
  have OX : Hid (OwnM (w6.setCell ⟨w2.heap.size, 1, none⟩ (.slice y1 U.length z1)) w5.heap.size 61 5 (.slice y1 U.length z1) U.length U.flatten) := O6'.out.far hz3 _
  have LX : Hid (LiesO (w6.setCell ⟨w2.heap.size, 1, none⟩ (.slice y1 U.length z1)) b oo S (.slice a0 S.nc c0) (.slice a1 S.nl c1) (.slice a2 S.nw c2)) := H.out.later BX.out
  have zX : w2.heap.size < (w6.setCell ⟨w2.heap.size, 1, none⟩ (.slice y1 U.length z1)).heap.size := TX.out.lt
  have z5X : w5.heap.size ≤ (w6.setCell ⟨w2.heap.size, 1, none⟩ (.slice y1 U.length z1)).heap.size := by simpa [World.setCell] using hz6
  generalize w6.setCell ⟨w2.heap.size, 1, none⟩ (.slice y1 U.length z1) = X0 at BX B2X RX TX OX LX zX z5X ⊢
  clear HE6 O6' B26 hz6 t1' ft1' HE
  go_wp2_with fail
  refine (cellAt_isO S b oo _ _ _ a s (-1) _ LX.out hn0 hcl).mono ?_
  rintro e X1 ⟨rfl, hX1⟩
  obtain rfl := hX1.symm
  clear hX1
  obtain ⟨⟨t0, t1, t2⟩, _⟩ := TX.out
  go_wp2_with fail
  refine (l2AddWrite_any S.nw S.k d2 e2 (w.heap.size + 1) a s s 4 _ (HS.out.1.1.2.2.later B2X.out) (by omega) g2).mono ?_
  rintro e w7 ⟨k', y2, z2, hk', rfl, O7, q7⟩
  obtain rfl : k' = k := hk'.one HK.out
  have BY : Hid (Below w.heap.size w w7) := BX.out.trans (q7.mono BX.out.size)
  have B2Y : Hid (Below w2.heap.size w2 w7) := B2X.out.trans (q7.mono (Nat.le_of_lt zX))
  have RY : Hid (Blk4 w7 w.heap.size (.int .i64 0) (.slice none 0 0) (.slice none 0 0) (.slice none 0 0)) := RX.out.later q7
  have TY : Hid (Blk3 w7 w2.heap.size (.slice d0 (S.nc) e0) (.slice y1 U.length z1) (.slice d2 S.nw e2)) := TX.out.later q7
  have OY : Hid (OwnM w7 w5.heap.size 61 5 (.slice y1 U.length z1) U.length U.flatten) := OX.out.later q7
  have hob : Hid (∀ q, (Value.slice y1 U.length z1).ownBlock = some q → w5.heap.size ≤ q ∧ q < X0.heap.size) := OX.out.block
  have PY : Hid (OwnM w7 X0.heap.size 38 4 (.slice y2 (S.nw + 1) z2) (S.nw + 1) (nums S.k (k' * 4) ++ [a, s, s, 4] ++ nums (fun p => S.k (k' * 4 + p)) ((S.nw - k') * 4))) := O7
  have hkn : k' ≤ S.nw := hk'.1
  have hqX : Hid (Below X0.heap.size X0 w7) := q7
  clear O7 q7 hk' OX RX TX LX BX B2X HK t0 t1 t2
  obtain ⟨⟨t0, t1, t2⟩, ft0, ft1, ft2⟩ := TY.out
  go_upto_region 16 with fail
  have RZ := RY.out.kept (Below.heap_setCell w7 ⟨w2.heap.size, 2, none⟩ (.slice y2 (S.nw + 1) z2) _ (Nat.ne_of_lt hzw))
  have TZ := TY.out.set2 (.slice y2 (S.nw + 1) z2)
  have BZ : Hid (Below w.heap.size w (w7.setCell ⟨w2.heap.size, 2, none⟩ (.slice y2 (S.nw + 1) z2))) := BY.out.setCell (Nat.le_of_lt hzw) _
  have B2Z : Hid (Below w2.heap.size w2 (w7.setCell ⟨w2.heap.size, 2, none⟩ (.slice y2 (S.nw + 1) z2))) := B2Y.out.setCell (Nat.le_refl _) _
  have OZ : Hid (OwnM (w7.setCell ⟨w2.heap.size, 2, none⟩ (.slice y2 (S.nw + 1) z2)) w5.heap.size 61 5 (.slice y1 U.length z1) U.length U.flatten) := OY.out.far hz3 _
  have PZ : Hid (OwnM (w7.setCell ⟨w2.heap.size, 2, none⟩ (.slice y2 (S.nw + 1) z2)) X0.heap.size 38 4 (.slice y2 (S.nw + 1) z2) (S.nw + 1) (nums S.k (k' * 4) ++ [a, s, s, 4] ++ nums (fun p => S.k (k' * 4 + p)) ((S.nw - k') * 4))) := PY.out.far zX _
  generalize w7.setCell ⟨w2.heap.size, 2, none⟩ (.slice y2 (S.nw + 1) z2) = w8 at RZ TZ BZ B2Z OZ PZ ⊢
  clear t0 t1 t2 ft0 ft1 ft2 RY TY BY B2Y OY PY
  obtain ⟨⟨r0, r1, r2, r3⟩, f0, f1, f2, f3⟩ := RZ
  obtain ⟨⟨t0, t1, t2⟩, _⟩ := TZ
  go_wp2
  have hsame := selD_same (F := S.c) (m := 3) (D := goneK a s) (k := S.nc) (fun i hi => goneK_not (by
    rcases hcl with ⟨_, q⟩ | ⟨j, _, q, _⟩
    · exact q i hi
    · omega))
  have hN : (unlC S.c a s S.nc).length = S.nc := hsame.1
  have rC : Own w8 (w.heap.size + 1) 75 3 S.nc (fun p => (unlC S.c a s S.nc).flatten.getD p 0) (.slice d0 S.nc e0) := own_congr (HOS.out.1.1.later B2Z.out) (fun p hp => (hsame.2 p hp).symm)
  have A8 : ApartB (.slice d0 S.nc e0) (.slice y1 U.length z1) (.slice y2 (S.nw + 1) z2) :=
    ⟨fun q a b => by have h1 := (own_blk HOS.out.1.1 q a).2; have h2 := (hob.out q b).1; omega, fun q a b => by have h1 := (own_blk HOS.out.1.1 q a).2; have h2 := (PZ.out.block q b).1; omega, fun q a b => by have h1 := (hob.out q a).2; have h2 := (PZ.out.block q b).1; omega⟩
  have lenL : U.flatten.length = U.length * 5 := flat_len U (by rw [← HU.out]; exact selD_len _ _ _ _)
  have lenW : (nums S.k (k' * 4) ++ [a, s, s, 4] ++ nums (fun p => S.k (k' * 4 + p)) ((S.nw - k') * 4)).length = (S.nw + 1) * 4 := by
    rw [List.length_append, List.length_append, nums_length, nums_length]
    simp only [List.length_cons, List.length_nil]
    omega
  have O8 : OwnS w8 (w.heap.size + 1) (rollS S a s k') (.slice d0 (S.nc) e0) (.slice y1 U.length z1) (.slice y2 (S.nw + 1) z2) := by
    unfold rollS
    rw [HU.out, hN]
    exact ⟨⟨rC, (OZ.out.own lenL).mono (by omega), (PZ.out.own lenW).mono (by omega)⟩, A8⟩
  have hlo : (w.heap.size : Nat) < w.heap.size + 1 := Nat.lt_succ_self _
  have hul : (rollS S a s k').nl = U.length := by unfold rollS; rw [HU.out]
  have hcl' : (rollS S a s k').nc = S.nc := hN
  refine bodyPost_ret (v := .agg #[.int .i64 0, .slice d0 (S.nc) e0, .slice y1 U.length z1, .slice y2 (S.nw + 1) z2]) (by simp [results, Tryz.results94, go_sem, r0, r1, r2, r3]) rfl ?_
  refine ⟨d0, e0, y1, z1, y2, z2, ?_, ?_, (((BZ.out.setCell (Nat.le_refl _) _).setCell (Nat.le_refl _) _).setCell (Nat.le_refl _) _).setCell (Nat.le_refl _) _⟩
  · rw [hul, hcl']; rfl
  · rw [hul, hcl']
    exact ((((O8.far hlo _).far hlo _).far hlo _).far hlo _).mono (by omega)
theorem Row.tailR {w : World} {B m n g o : Nat} {F : Nat → Int} {cp : Nat} (h : Row w B m n F (.slice (some ⟨g, o, none⟩) n cp)) (k : Nat) (hc : n ≤ cp) : Row w B m (n - k) (fun p => F (k * m + p)) (.slice (if cp = k then some ⟨g, o, none⟩ else some ⟨g, o + k * m, none⟩) (n - k) (cp - k)) := by
  by_cases hk : k < n
  · exact h.tailS hk hc
  · exact Row.over _ _ _ _ _ _ _ _ hk
theorem roll_cells {F : Nat → Int} {n j : Nat} (hj : j < n) : ∀ p, p < (n - 1) * 3 → (nums F (j * 3) ++ nums (fun p => F ((j + 1) * 3 + p)) ((n - (j + 1)) * 3)).getD p 0 = if p < j * 3 then F p else F (p + 3) := by
  intro p hp
  rw [List.getD_eq_getElem?_getD]
  by_cases q : p < j * 3
  · rw [List.getElem?_append_left (by rw [nums_length]; exact q), if_pos q]
    simp [nums, q]
  · rw [List.getElem?_append_right (by rw [nums_length]; omega), nums_length, if_neg q]
    have h1 : p - j * 3 < (n - (j + 1)) * 3 := by omega
    simp only [nums, List.getElem?_map, List.getElem?_range h1, Option.map_some, Option.getD_some]
    congr 1
    omega
set_option maxRecDepth 100000 in
set_option maxHeartbeats 16000000 in
theorem l3Roll_cellO (S : Sto) (b oo : Nat) (v0 v1 v2 : Value) (a s : Int) (k j : Nat) (w : World) (h : LiesO w b oo S v0 v1 v2) (hz : storeF S = 0) (hi : FirstAt (writeIs S.k a s) S.nw (-1)) (hat : ¬ ∃ i, i < S.nw ∧ writeAt S.k a s i) (hm : S.nw < 200) (hk : placeAt (aheadW S.k a s) S.nw k) (hcl : FirstAt (cellIs S.c a s) S.nc (j : Int)) :
    Calls Tryz.prog 94 #[.pointer (some ⟨b, oo, none⟩), .int .i64 a, .int .i64 s] w (ResStoK w 0 (rollS S a s k)) := by
  have hjn : j < S.nc := hcl.at.1
  have HZ : Hid (scan (cellF S.c) S.nc = 0) := (storeF_zero hz).2.1
  have dm : decide ((200 : Int) ≤ (S.nw : Int)) = false := decide_eq_false (by omega)
  have HK : Hid (placeAt (aheadW S.k a s) S.nw k) := hk
  clear hm hk
  obtain ⟨a0, c0, a1, c1, a2, c2, rfl, rfl, rfl⟩ := h.2.form
  have H : Hid (LiesO w b oo S (.slice a0 S.nc c0) (.slice a1 S.nl c1) (.slice a2 S.nw c2)) := h
  obtain ⟨p0, p1, p2⟩ := h.1
  have hb := h.lt
  obtain ⟨⟨hn0, hn1, hn2⟩, _⟩ := storeF_zero hz
  clear h
  go_enter Tryz.func94, Tryz.ntmps94
  go_wp2_with fail
  refine (l2Copy_own S _ _ _ 0 _ (H.out.2.alloc _) ⟨by omega, by omega, by omega⟩).mono ?_
  rintro e w2 ⟨d0, e0, d1, e1, d2, e2, rfl, o2, q2⟩
  have g0 := own_cap o2.1.1
  have g1 := own_cap o2.1.2.1
  have g2 := own_cap o2.1.2.2
  obtain ⟨s2, fr2, ap2⟩ := o2.all
  simp only [World.size_alloc] at s2 q2 o2
  have BW2 : Below w.heap.size w w2 := (below_alloc w _).trans (q2.mono (Nat.le_succ _))
  have HE : Hid (CmE w b oo S (.slice a0 S.nc c0) (.slice a1 S.nl c1) (.slice a2 S.nw c2) w2.heap.size (.slice d0 S.nc e0) (.slice d1 S.nl e1) (.slice d2 S.nw e2) (w2.alloc (.cells #[.slice d0 S.nc e0, .slice d1 S.nl e1, .slice d2 S.nw e2] 28))) :=
    ⟨((Blk4.new w _ _ _ _ _).kept (q2.block w.heap.size (Nat.lt_succ_self _))).alloc _, Blk3.new _ _ _ _ _, (H.out.later BW2).later (below_alloc _ _), BW2.trans ((below_alloc w2 _).mono BW2.size)⟩
  have HS : Hid ((St w2 (w.heap.size + 1) S (.slice d0 S.nc e0) (.slice d1 S.nl e1) (.slice d2 S.nw e2) ∧ FreeS w2 S (.slice d0 S.nc e0) (.slice d1 S.nl e1) (.slice d2 S.nw e2)) ∧ ApartD S (.slice d0 S.nc e0) (.slice d1 S.nl e1) (.slice d2 S.nw e2)) := ⟨⟨s2, fr2⟩, ap2⟩
  have HOS : Hid (OwnS w2 (w.heap.size + 1) S (.slice d0 S.nc e0) (.slice d1 S.nl e1) (.slice d2 S.nw e2)) := o2
  have hzw : w.heap.size < w2.heap.size := by have := q2.size; simp at this; omega
  have B23 : Hid (Below w2.heap.size w2 (w2.alloc (.cells #[.slice d0 S.nc e0, .slice d1 S.nl e1, .slice d2 S.nw e2] 28))) := below_alloc _ _
  have hbl : b < w2.heap.size := Nat.lt_trans hb hzw
  clear o2 s2 fr2 ap2 q2 BW2 p0 p1 p2
  go_wp2_with fail
  generalize w2.alloc (.cells #[.slice d0 S.nc e0, .slice d1 S.nl e1, .slice d2 S.nw e2] 28) = w3 at HE B23 ⊢
  have hz3 : w2.heap.size < w3.heap.size := HE.out.2.1.lt
  refine (l2Write_isO S b oo _ _ _ a s (-1) _ HE.out.2.2.1 hn2 hi).mono ?_
  rintro e w' ⟨rfl, rfl⟩
  obtain ⟨⟨⟨r0, r1, r2, r3⟩, f0, f1, f2, f3⟩, ⟨⟨t0, t1, t2⟩, ft0, ft1, ft2⟩, ⟨⟨p0, p1, p2⟩, pst⟩, _⟩ := HE.out
  clear pst
  go_wp2_with fail
  refine (l3At_anyO S b oo _ _ _ a s _ HE.out.2.2.1 hn2).mono ?_
  rintro e w5 ⟨r, rfl, hr, rfl⟩
  obtain rfl : r = false := bool_no hr hat
  clear hr hat
  go_wp2_with fail
  refine (l3Unlock_any S.nl S.l _ (w.heap.size + 1) a s _ (HS.out.1.1.later B23.out).2.1 (by omega)).mono ?_
  rintro e w6 ⟨y1, z1, rfl, O6, q6⟩
  have ft1' : w6.frozen? ⟨w2.heap.size, 1, none⟩ = false := (q6.frozen (p := ⟨w2.heap.size, 1, none⟩) hz3).trans ft1
  have t1' : w6.cell? ⟨w2.heap.size, 1, none⟩ = some (.slice d1 S.nl e1) := (q6.cell (p := ⟨w2.heap.size, 1, none⟩) hz3).trans t1
  have HE6 : Hid (CmE w b oo S (.slice a0 S.nc c0) (.slice a1 S.nl c1) (.slice a2 S.nw c2) w2.heap.size (.slice d0 S.nc e0) (.slice d1 S.nl e1) (.slice d2 S.nw e2) w6) := HE.out.later q6
  have B26 : Hid (Below w2.heap.size w2 w6) := B23.out.trans (q6.mono (Nat.le_of_lt hz3))
  obtain ⟨U, hU⟩ : ∃ U, unlL S.l a s S.nl = U := ⟨_, rfl⟩
  have HU : Hid (unlL S.l a s S.nl = U) := hU
  rw [hU] at O6
  have O6' : Hid (OwnM w6 w5.heap.size 61 5 (.slice y1 U.length z1) U.length U.flatten) := O6
  have hz6 : w5.heap.size ≤ w6.heap.size := q6.size
  rw [hU]
  clear O6 q6 hU r0 r1 r2 r3 f0 f1 f2 f3 t0 t1 t2 ft0 ft1 ft2 p0 p1 p2
  go_upto_region 12 with fail
  -- the world behind the store of the locks
  have BX : Hid (Below w.heap.size w (w6.setCell ⟨w2.heap.size, 1, none⟩ (.slice y1 U.length z1))) := HE6.out.2.2.2.setCell (Nat.le_of_lt hzw) _
  have B2X : Hid (Below w2.heap.size w2 (w6.setCell ⟨w2.heap.size, 1, none⟩ (.slice y1 U.length z1))) := B26.out.setCell (Nat.le_refl _) _
  have RX : Hid (Blk4 (w6.setCell ⟨w2.heap.size, 1, none⟩ (.slice y1 U.length z1)) w.heap.size (.int .i64 0) (.slice none 0 0) (.slice none 0 0) (.slice none 0 0)) := HE6.out.1.kept (Below.heap_setCell _ _ _ _ (Nat.ne_of_lt hzw))
  have TX : Hid (Blk3 (w6.setCell ⟨w2.heap.size, 1, none⟩ (.slice y1 U.length z1)) w2.heap.size (.slice d0 S.nc e0) (.slice y1 U.length z1) (.slice d2 S.nw e2)) := HE6.out.2.1.set1 _
  have OX : Hid (OwnM (w6.setCell ⟨w2.heap.size, 1, none⟩ (.slice y1 U.length z1)) w5.heap.size 61 5 (.slice y1 U.length z1) U.length U.flatten) := O6'.out.far hz3 _
  have LX : Hid (LiesO (w6.setCell ⟨w2.heap.size, 1, none⟩ (.slice y1 U.length z1)) b oo S (.slice a0 S.nc c0) (.slice a1 S.nl c1) (.slice a2 S.nw c2)) := H.out.later BX.out
  have zX : w2.heap.size < (w6.setCell ⟨w2.heap.size, 1, none⟩ (.slice y1 U.length z1)).heap.size := TX.out.lt
  have z5X : w5.heap.size ≤ (w6.setCell ⟨w2.heap.size, 1, none⟩ (.slice y1 U.length z1)).heap.size := by simpa [World.setCell] using hz6
  generalize w6.setCell ⟨w2.heap.size, 1, none⟩ (.slice y1 U.length z1) = X0 at BX B2X RX TX OX LX zX z5X ⊢
  clear HE6 O6' B26 hz6 t1' ft1' HE
  go_wp2_with fail
  refine (cellAt_isO S b oo _ _ _ a s (j : Int) _ LX.out hn0 hcl).mono ?_
  rintro e X1 ⟨rfl, hX1⟩
  obtain rfl := hX1.symm
  clear hX1
  obtain ⟨i0, hi0, hz0, hz1, hz2⟩ := info_parts info_Cell
  obtain ⟨cg, co, hd0, _⟩ := HS.out.1.1.1.at (k := 0) (by omega)
  subst hd0
  have hw1 : IntKind.i64.wrap ((j : Int) + 1) = ((j + 1 : Nat) : Int) := by simp [IntKind.wrap, IntKind.bits, IntKind.signed]; omega
  have hj1 : j + 1 ≤ S.nc := hjn
  have hj2 : j + 1 ≤ e0 := by omega
  have hj3 : j ≤ e0 := by omega
  have hj4 : j ≤ S.nc := by omega
  have hq1 : (0 : Int) ≤ (j : Int) + 1 := by omega
  have hq2 : (j : Int) + 1 ≤ (S.nc : Int) := by omega
  have hq3 : (0 : Int) ≤ (j : Int) + 1 ∧ (j : Int) + 1 ≤ (S.nc : Int) := ⟨hq1, hq2⟩
  obtain ⟨A, hA⟩ : ∃ A, (if e0 = j + 1 then (some ⟨cg, co, none⟩ : Option Addr) else some ⟨cg, co + (j + 1) * 3, none⟩) = A := ⟨_, rfl⟩
  have F0 : X0.drew.cell? ⟨w2.heap.size, 0, none⟩ = some (.slice (some ⟨cg, co, none⟩) S.nc e0) := TX.out.1.1
  have F1 : (X0.alloc (.cells #[] 75)).drew.cell? ⟨w2.heap.size, 0, none⟩ = some (.slice (some ⟨cg, co, none⟩) S.nc e0) := (TX.out.alloc _).1.1
  have F1d : (X0.alloc (.cells #[] 75)).cell? ⟨w2.heap.size, 0, none⟩ = some (.slice (some ⟨cg, co, none⟩) S.nc e0) := (TX.out.alloc _).1.1
  have F0d : X0.cell? ⟨w2.heap.size, 0, none⟩ = some (.slice (some ⟨cg, co, none⟩) S.nc e0) := TX.out.1.1
  have O0 : Hid (OwnM (X0.alloc (.cells #[] 75)).drew X0.heap.size 75 3 (.slice (some ⟨X0.heap.size, 0, none⟩) 0 0) 0 []) := OwnM.lit0 X0.drew X0.heap.size _ _ rfl
  have C0 : Hid (Row (X0.alloc (.cells #[] 75)).drew (w.heap.size + 1) 3 S.nc S.c (.slice (some ⟨cg, co, none⟩) S.nc e0)) := ((HS.out.1.1.1.later B2X.out).drewN 1).alloc _
  go_wp2_with fail
  refine wp_regionZ 13 (S := fun X => X.cell? ⟨w2.heap.size, 0, none⟩ = some (.slice (some ⟨cg, co, none⟩) S.nc e0)) (by kernel_rfl) F0 (fun hS => ?_)
  refine wpAnyZ_take (i := 1) (v := ?_) rfl (by kernel_rfl) (by kernel_rfl) (by kernel_rfl) (by kernel_rfl) (fun _ _ _ h => h) (Or.inl ⟨by kernel_rfl, ?_⟩) hS ?_
  rotate_left
  · intro wx hx
    try dsimp only at hx
    go_simp
    try with_reducible rfl
  refine wpAnyZ_take (i := 2) (v := ?_) rfl (by kernel_rfl) (by kernel_rfl) (by kernel_rfl) (by kernel_rfl) (fun _ _ _ h => h) (Or.inl ⟨by kernel_rfl, ?_⟩) hS ?_
  rotate_left
  · intro wx hx
    try dsimp only at hx
    go_simp
    try with_reducible rfl
  refine wpAnyZ_take (i := 3) (v := ?_) rfl (by kernel_rfl) (by kernel_rfl) (by kernel_rfl) (by kernel_rfl) (fun _ _ _ h => h) (Or.inl ⟨by kernel_rfl, ?_⟩) hS ?_
  rotate_left
  · intro wx hx
    try dsimp only at hx
    go_simp
    try with_reducible rfl
  refine wpAnyZ_take (i := 4) (v := ?_) rfl (by kernel_rfl) (by kernel_rfl) (by kernel_rfl) (by kernel_rfl) (fun _ _ _ h => h) (Or.inl ⟨by kernel_rfl, ?_⟩) hS ?_
  rotate_left
  · intro wx hx
    try dsimp only at hx
    go_simp
    try with_reducible rfl
  refine wpAnyZ_take (i := 6) (v := ?_) rfl (by kernel_rfl) (by kernel_rfl) (by kernel_rfl) (by kernel_rfl) (fun _ _ _ h => h) (Or.inl ⟨by kernel_rfl, ?_⟩) hS ?_
  rotate_left
  · intro wx hx
    try dsimp only at hx
    go_simp
    try with_reducible rfl
  refine wpAnyZ_take (i := 7) (v := ?_) rfl (by kernel_rfl) (by kernel_rfl) (by kernel_rfl) (by kernel_rfl) (fun _ _ _ h => h) (Or.inl ⟨by kernel_rfl, ?_⟩) hS ?_
  rotate_left
  · intro wx hx
    try dsimp only at hx
    go_simp
    try with_reducible rfl
  refine wpAnyZ_take (i := 8) (v := ?_) rfl (by kernel_rfl) (by kernel_rfl) (by kernel_rfl) (by kernel_rfl) (fun _ _ _ h => h) (Or.inl ⟨by kernel_rfl, ?_⟩) hS ?_
  rotate_left
  · intro wx hx
    try dsimp only at hx
    go_simp
    try with_reducible rfl
  refine wpAnyZ_take (i := 9) (v := ?_) rfl (by kernel_rfl) (by kernel_rfl) (by kernel_rfl) (by kernel_rfl) (fun _ _ _ h => h) (Or.inl ⟨by kernel_rfl, ?_⟩) hS ?_
  rotate_left
  · intro wx hx
    try dsimp only at hx
    go_simp
    try with_reducible rfl
  refine wpAnyZ_take (i := 10) (v := ?_) rfl (by kernel_rfl) (by kernel_rfl) (by kernel_rfl) (by kernel_rfl) (fun _ _ _ h => h) (Or.inl ⟨by kernel_rfl, ?_⟩) hS ?_
  rotate_left
  · intro wx hx
    try dsimp only at hx
    go_simp
    try with_reducible rfl
  clear hS
  refine wpAnyZ_one 0 (by kernel_rfl) rfl (fun K hK => ?_)
  go_simp
  refine hK.out _ _ F1 (fun _ => ?_)
  clear hK K
  refine wpAnyZ_one 5 (by kernel_rfl) rfl (fun K hK => ?_)
  refine step_app 75 i0 (.agg #[.int .i64 0, .int .i64 0, .int .i64 0]) 3 24 (by rfl) _ _ 24 (by rfl) Tryz.underlying24 hi0 hz0 hz1 hz2 rfl (by omega) (by omega) _ X0.heap.size 0 [] (.slice (some ⟨X0.heap.size, 0, none⟩) 0 0) (by rfl) O0.out (w.heap.size + 1) j S.c (.slice (some ⟨cg, co, none⟩) j e0) (by rfl) (C0.out.head hj4 e0) (by omega) (by show X0.heap.size ≤ (World.alloc X0 _).heap.size; simp) ?_
  intro ao5 cp5 w7 O7 G7
  rw [Nat.zero_add, List.nil_append] at O7
  rw [show (0 : Nat) + j = j from Nat.zero_add j]
  have F2 : w7.cell? ⟨w2.heap.size, 0, none⟩ = some (.slice (some ⟨cg, co, none⟩) S.nc e0) := G7.cell F1 (fun q => by simp [Value.ownBlock] at q; omega)
  refine hK.out _ _ F2 (fun _ => ?_)
  clear hK K
  have C7 : Hid (Row w7 (w.heap.size + 1) 3 S.nc S.c (.slice (some ⟨cg, co, none⟩) S.nc e0)) := C0.out.turned G7 (fun h0 k hk q => by
    have h1 := (HS.out.1.1.1.lt h0 k hk).2
    rw [q] at hk
    simp [Value.ownBlock] at hk q
    omega)
  refine wpAnyZ_one 11 (by kernel_rfl) rfl (fun K hK => ?_)
  refine step_app 75 i0 (.agg #[.int .i64 0, .int .i64 0, .int .i64 0]) 3 24 (by rfl) _ _ 24 (by rfl) Tryz.underlying24 hi0 hz0 hz1 hz2 rfl (by omega) (by omega) _ X0.heap.size j (nums S.c (j * 3)) (.slice ao5 j cp5) (by rfl) O7 (w.heap.size + 1) (S.nc - (j + 1)) (fun p => S.c ((j + 1) * 3 + p)) (.slice A (S.nc - (j + 1)) (e0 - (j + 1))) (by rfl) (hA ▸ C7.out.tailR (j + 1) g0) (by omega) (Nat.le_trans (by show X0.heap.size ≤ (World.alloc X0 _).heap.size; simp) G7.size) ?_
  intro ao6 cp6 wC O8 G8
  have keep : ∀ q, q < X0.heap.size → wC.heap[q]? = X0.heap[q]? := fun q hq => by
    have h1 : (X0.alloc (.cells #[] 75)).drew.heap[q]? = X0.heap[q]? := (below_alloc X0 (.cells #[] 75)).block q hq
    have h2 : w7.heap[q]? = (X0.alloc (.cells #[] 75)).drew.heap[q]? := G7.block q (by show q < (World.alloc X0 _).heap.size; simp; omega) (fun e => by simp [Value.ownBlock] at e; omega)
    have h3 : wC.heap[q]? = w7.heap[q]? := G8.block q (Nat.lt_of_lt_of_le (by show q < (World.alloc X0 _).heap.size; simp; omega) G7.size) (fun e => by have := (O7.block q e.symm).1; omega)
    exact h3.trans (h2.trans h1)
  have szC : X0.heap.size ≤ wC.heap.size := Nat.le_trans (Nat.le_trans (by show X0.heap.size ≤ (World.alloc X0 _).heap.size; simp) G7.size) G8.size
  have osC : wC.os = X0.os ∧ wC.tape = X0.tape ∧ wC.output = X0.output := ⟨G8.os.trans G7.os, G8.tape.trans G7.tape, G8.output.trans G7.output⟩
  have TC : Blk3 wC w2.heap.size (.slice (some ⟨cg, co, none⟩) S.nc e0) (.slice y1 U.length z1) (.slice d2 S.nw e2) := TX.out.kept (keep _ zX)
  refine hK.out _ _ TC.1.1 (fun hS => ?_)
  clear hK K
  refine wpAnyZ_take (i := 12) (v := ?_) rfl (by kernel_rfl) (by kernel_rfl) (by kernel_rfl) (by kernel_rfl) (fun _ _ _ h => h) (Or.inl ⟨by kernel_rfl, ?_⟩) hS ?_
  rotate_left
  · intro wx hx
    try dsimp only at hx
    go_simp
    try with_reducible rfl
  obtain ⟨⟨t0, t1, t2⟩, ft0, ft1, ft2⟩ := TC
  clear hS
  refine wpAnyZ_last (by kernel_rfl) rfl (fun K hK => ?_)
  go_simp
  refine hK.out _ _ ?_
  clear hK K
  have TC : Blk3 wC w2.heap.size (.slice (some ⟨cg, co, none⟩) S.nc e0) (.slice y1 U.length z1) (.slice d2 S.nw e2) := TX.out.kept (keep _ zX)
  have BC : Below X0.heap.size X0 wC := ⟨osC.1, osC.2.1, osC.2.2, szC, keep⟩
  have BX1 : Hid (Below w.heap.size w (wC.setCell ⟨w2.heap.size, 0, none⟩ (.slice ao6 (j + (S.nc - (j + 1))) cp6))) := (BX.out.trans (BC.mono BX.out.size)).setCell (Nat.le_of_lt hzw) _
  have B2X1 : Hid (Below w2.heap.size w2 (wC.setCell ⟨w2.heap.size, 0, none⟩ (.slice ao6 (j + (S.nc - (j + 1))) cp6))) := (B2X.out.trans (BC.mono (Nat.le_of_lt zX))).setCell (Nat.le_refl _) _
  have RX1 : Hid (Blk4 (wC.setCell ⟨w2.heap.size, 0, none⟩ (.slice ao6 (j + (S.nc - (j + 1))) cp6)) w.heap.size (.int .i64 0) (.slice none 0 0) (.slice none 0 0) (.slice none 0 0)) := (RX.out.later BC).kept (Below.heap_setCell _ _ _ _ (Nat.ne_of_lt hzw))
  have TX1 : Hid (Blk3 (wC.setCell ⟨w2.heap.size, 0, none⟩ (.slice ao6 (j + (S.nc - (j + 1))) cp6)) w2.heap.size (.slice ao6 (j + (S.nc - (j + 1))) cp6) (.slice y1 U.length z1) (.slice d2 S.nw e2)) := TC.set0 _
  have OX1 : Hid (OwnM (wC.setCell ⟨w2.heap.size, 0, none⟩ (.slice ao6 (j + (S.nc - (j + 1))) cp6)) w5.heap.size 61 5 (.slice y1 U.length z1) U.length U.flatten) := (OX.out.later BC).far hz3 _
  have hobX : Hid (∀ q, (Value.slice y1 U.length z1).ownBlock = some q → w5.heap.size ≤ q ∧ q < X0.heap.size) := OX.out.block
  have OC : Hid (OwnM (wC.setCell ⟨w2.heap.size, 0, none⟩ (.slice ao6 (j + (S.nc - (j + 1))) cp6)) X0.heap.size 75 3 (.slice ao6 (j + (S.nc - (j + 1))) cp6) (j + (S.nc - (j + 1))) (nums S.c (j * 3) ++ nums (fun p => S.c ((j + 1) * 3 + p)) ((S.nc - (j + 1)) * 3))) := O8.far zX _
  have hobC : Hid (∀ q, (Value.slice ao6 (j + (S.nc - (j + 1))) cp6).ownBlock = some q → X0.heap.size ≤ q ∧ q < (wC.setCell ⟨w2.heap.size, 0, none⟩ (.slice ao6 (j + (S.nc - (j + 1))) cp6)).heap.size) := OC.out.block
  have zX0 : w2.heap.size < X0.heap.size := zX
  have zX1 : w2.heap.size < (wC.setCell ⟨w2.heap.size, 0, none⟩ (.slice ao6 (j + (S.nc - (j + 1))) cp6)).heap.size := TX1.out.lt
  have z5X1 : w5.heap.size ≤ (wC.setCell ⟨w2.heap.size, 0, none⟩ (.slice ao6 (j + (S.nc - (j + 1))) cp6)).heap.size := Nat.le_trans z5X (by simpa [World.setCell] using szC)
  generalize wC.setCell ⟨w2.heap.size, 0, none⟩ (.slice ao6 (j + (S.nc - (j + 1))) cp6) = X1 at BX1 B2X1 RX1 TX1 OX1 OC hobC zX1 z5X1 ⊢
  clear BX B2X RX TX OX zX z5X LX F0 F1 F1d F0d F2 O0 C0 C7 O7 G7 O8 G8 keep szC osC TC BC t0 t1 t2 ft0 ft1 ft2
  have BX := BX1
  have B2X := B2X1
  have RX := RX1
  have TX := TX1
  have OX := OX1
  have zX := zX1
  have z5X := z5X1
  have LX : True := trivial
  clear BX1 B2X1 RX1 TX1 OX1 zX1 z5X1
  refine wpAnyZ_done (by kernel_rfl) ?_ _
  obtain ⟨⟨t0, t1, t2⟩, _⟩ := TX.out
  go_simp
  go_wp2_with fail
  refine (l2AddWrite_any S.nw S.k d2 e2 (w.heap.size + 1) a s s 4 _ (HS.out.1.1.2.2.later B2X.out) (by omega) g2).mono ?_
  rintro e w7 ⟨k', y2, z2, hk', rfl, O7, q7⟩
  obtain rfl : k' = k := hk'.one HK.out
  have BY : Hid (Below w.heap.size w w7) := BX.out.trans (q7.mono BX.out.size)
  have B2Y : Hid (Below w2.heap.size w2 w7) := B2X.out.trans (q7.mono (Nat.le_of_lt zX))
  have RY : Hid (Blk4 w7 w.heap.size (.int .i64 0) (.slice none 0 0) (.slice none 0 0) (.slice none 0 0)) := RX.out.later q7
  have TY : Hid (Blk3 w7 w2.heap.size (.slice ao6 (j + (S.nc - (j + 1))) cp6) (.slice y1 U.length z1) (.slice d2 S.nw e2)) := TX.out.later q7
  have OY : Hid (OwnM w7 w5.heap.size 61 5 (.slice y1 U.length z1) U.length U.flatten) := OX.out.later q7
  have hob : Hid (∀ q, (Value.slice y1 U.length z1).ownBlock = some q → w5.heap.size ≤ q ∧ q < X1.heap.size) := OX.out.block
  have PY : Hid (OwnM w7 X1.heap.size 38 4 (.slice y2 (S.nw + 1) z2) (S.nw + 1) (nums S.k (k' * 4) ++ [a, s, s, 4] ++ nums (fun p => S.k (k' * 4 + p)) ((S.nw - k') * 4))) := O7
  have hkn : k' ≤ S.nw := hk'.1
  have hqX : Hid (Below X1.heap.size X1 w7) := q7
  clear O7 q7 hk' OX RX TX LX BX B2X HK t0 t1 t2
  obtain ⟨⟨t0, t1, t2⟩, ft0, ft1, ft2⟩ := TY.out
  go_upto_region 16 with fail
  have RZ := RY.out.kept (Below.heap_setCell w7 ⟨w2.heap.size, 2, none⟩ (.slice y2 (S.nw + 1) z2) _ (Nat.ne_of_lt hzw))
  have TZ := TY.out.set2 (.slice y2 (S.nw + 1) z2)
  have BZ : Hid (Below w.heap.size w (w7.setCell ⟨w2.heap.size, 2, none⟩ (.slice y2 (S.nw + 1) z2))) := BY.out.setCell (Nat.le_of_lt hzw) _
  have B2Z : Hid (Below w2.heap.size w2 (w7.setCell ⟨w2.heap.size, 2, none⟩ (.slice y2 (S.nw + 1) z2))) := B2Y.out.setCell (Nat.le_refl _) _
  have OZ : Hid (OwnM (w7.setCell ⟨w2.heap.size, 2, none⟩ (.slice y2 (S.nw + 1) z2)) w5.heap.size 61 5 (.slice y1 U.length z1) U.length U.flatten) := OY.out.far hz3 _
  have PZ : Hid (OwnM (w7.setCell ⟨w2.heap.size, 2, none⟩ (.slice y2 (S.nw + 1) z2)) X1.heap.size 38 4 (.slice y2 (S.nw + 1) z2) (S.nw + 1) (nums S.k (k' * 4) ++ [a, s, s, 4] ++ nums (fun p => S.k (k' * 4 + p)) ((S.nw - k') * 4))) := PY.out.far zX _
  have OC8 : Hid (OwnM (w7.setCell ⟨w2.heap.size, 2, none⟩ (.slice y2 (S.nw + 1) z2)) X0.heap.size 75 3 (.slice ao6 (j + (S.nc - (j + 1))) cp6) (j + (S.nc - (j + 1))) (nums S.c (j * 3) ++ nums (fun p => S.c ((j + 1) * 3 + p)) ((S.nc - (j + 1)) * 3))) := (OC.out.later hqX.out).far zX0 _
  generalize w7.setCell ⟨w2.heap.size, 2, none⟩ (.slice y2 (S.nw + 1) z2) = w8 at RZ TZ BZ B2Z OZ PZ OC8 ⊢
  clear t0 t1 t2 ft0 ft1 ft2 RY TY BY B2Y OY PY
  obtain ⟨⟨r0, r1, r2, r3⟩, f0, f1, f2, f3⟩ := RZ
  obtain ⟨⟨t0, t1, t2⟩, _⟩ := TZ
  go_wp2
  have hone := selD_one (F := S.c) (m := 3) (D := goneK a s) (j := j) (goneK_iff.2 hcl.at.2.1) S.nc hjn (fun i hi' hne => goneK_not (fun q => hne (cell_once HZ.out hi' hjn q hcl.at.2.1)))
  have hN : (unlC S.c a s S.nc).length = j + (S.nc - (j + 1)) := by
    have : (unlC S.c a s S.nc).length = S.nc - 1 := hone.1
    omega
  have lenC : (nums S.c (j * 3) ++ nums (fun p => S.c ((j + 1) * 3 + p)) ((S.nc - (j + 1)) * 3)).length = (j + (S.nc - (j + 1))) * 3 := by
    rw [List.length_append, nums_length, nums_length]
    omega
  have rC : Own w8 (w.heap.size + 1) 75 3 (j + (S.nc - (j + 1))) (fun p => (unlC S.c a s S.nc).flatten.getD p 0) (.slice ao6 (j + (S.nc - (j + 1))) cp6) := (own_congr (OC8.out.own lenC) (fun p hp => (roll_cells hjn p (by omega)).trans (hone.2 p (by omega)).symm)).mono (by omega)
  have A8 : ApartB (.slice ao6 (j + (S.nc - (j + 1))) cp6) (.slice y1 U.length z1) (.slice y2 (S.nw + 1) z2) :=
    ⟨fun q a b => by have := (hobC.out q a).1; have := (hobX.out q b).2; omega, fun q a b => by have := (hobC.out q a).2; have := (PZ.out.block q b).1; omega, fun q a b => by have := (hob.out q a).2; have := (PZ.out.block q b).1; omega⟩
  have lenL : U.flatten.length = U.length * 5 := flat_len U (by rw [← HU.out]; exact selD_len _ _ _ _)
  have lenW : (nums S.k (k' * 4) ++ [a, s, s, 4] ++ nums (fun p => S.k (k' * 4 + p)) ((S.nw - k') * 4)).length = (S.nw + 1) * 4 := by
    rw [List.length_append, List.length_append, nums_length, nums_length]
    simp only [List.length_cons, List.length_nil]
    omega
  have O8 : OwnS w8 (w.heap.size + 1) (rollS S a s k') (.slice ao6 (j + (S.nc - (j + 1))) cp6) (.slice y1 U.length z1) (.slice y2 (S.nw + 1) z2) := by
    unfold rollS
    rw [HU.out, hN]
    exact ⟨⟨rC, (OZ.out.own lenL).mono (by omega), (PZ.out.own lenW).mono (by omega)⟩, A8⟩
  have hlo : (w.heap.size : Nat) < w.heap.size + 1 := Nat.lt_succ_self _
  have hul : (rollS S a s k').nl = U.length := by unfold rollS; rw [HU.out]
  have hcl' : (rollS S a s k').nc = j + (S.nc - (j + 1)) := hN
  refine bodyPost_ret (v := .agg #[.int .i64 0, .slice ao6 (j + (S.nc - (j + 1))) cp6, .slice y1 U.length z1, .slice y2 (S.nw + 1) z2]) (by simp [results, Tryz.results94, go_sem, r0, r1, r2, r3]) rfl ?_
  refine ⟨ao6, cp6, y1, z1, y2, z2, ?_, ?_, (((BZ.out.setCell (Nat.le_refl _) _).setCell (Nat.le_refl _) _).setCell (Nat.le_refl _) _).setCell (Nat.le_refl _) _⟩
  · rw [hul, hcl']; rfl
  · rw [hul, hcl']
    exact ((((O8.far hlo _).far hlo _).far hlo _).far hlo _).mono (by omega)
end
end Go.Proofs.YtnikdbebfofcaaaGreatDoor

namespace Go.Proofs.YtnikdbebfofcaaaGreatDoor
section
open Go.RowKit
end

section
open Go.RowKit Go.Maps Go.Lib
/-- What a rollback comes to on a store without a fault: a code and a store. -/
def RollRes (S : Sto) (a s : Int) (r : Int) (R : Sto) : Prop :=
  (∃ i : Nat, FirstAt (writeIs S.k a s) S.nw i ∧ S.k (i * 4 + 3) = 4 ∧ r = 0 ∧ R = S) ∨
  (∃ i : Nat, FirstAt (writeIs S.k a s) S.nw i ∧ S.k (i * 4 + 3) ≠ 4 ∧ r = 6 ∧ R = emptyS) ∨
  (FirstAt (writeIs S.k a s) S.nw (-1) ∧ (∃ i, i < S.nw ∧ writeAt S.k a s i) ∧ r = 6 ∧ R = emptyS) ∨
  (FirstAt (writeIs S.k a s) S.nw (-1) ∧ (¬ ∃ i, i < S.nw ∧ writeAt S.k a s i) ∧ 200 ≤ S.nw ∧ r = 2 ∧ R = emptyS) ∨
  (∃ k : Nat, FirstAt (writeIs S.k a s) S.nw (-1) ∧ (¬ ∃ i, i < S.nw ∧ writeAt S.k a s i) ∧ S.nw < 200 ∧ placeAt (aheadW S.k a s) S.nw k ∧ r = 0 ∧ R = rollS S a s k)
theorem l3Roll_ownO (S : Sto) (b oo : Nat) (v0 v1 v2 : Value) (a s r : Int) (R : Sto) (w : World) (h : LiesO w b oo S v0 v1 v2) (hz : storeF S = 0) (hA : RollRes S a s r R) :
    Calls Tryz.prog 94 #[.pointer (some ⟨b, oo, none⟩), .int .i64 a, .int .i64 s] w (ResStoK w r R) := by
  rcases hA with ⟨i, h1, h2, rfl, rfl⟩ | ⟨i, h1, h2, rfl, rfl⟩ | ⟨h1, h2, rfl, rfl⟩ | ⟨h1, h2, h3, rfl, rfl⟩ | ⟨k, h1, h2, h3, h4, rfl, rfl⟩
  · exact l3Roll_sameO _ b oo v0 v1 v2 a s i w h hz h1 h2
  · exact l3Roll_takenO S b oo v0 v1 v2 a s i w h hz h1 h2
  · exact l3Roll_atO S b oo v0 v1 v2 a s w h hz h1 h2
  · exact l3Roll_manyO S b oo v0 v1 v2 a s w h hz h1 h2 h3
  · obtain ⟨j, hj⟩ := FirstAt.get (cellIs S.c a s) S.nc
    rcases hj with ⟨rfl, q⟩ | ⟨j, hjn, rfl, q1, q2⟩
    · exact l3Roll_noneO S b oo v0 v1 v2 a s k w h hz h1 h2 h3 h4 (Or.inl ⟨rfl, q⟩)
    · exact l3Roll_cellO S b oo v0 v1 v2 a s k j w h hz h1 h2 h3 h4 (Or.inr ⟨j, hjn, rfl, q1, q2⟩)
def RollAns (S : Sto) (a s : Int) (r : Int) (R : Sto) : Prop :=
  (askF S a ≠ 0 ∧ r = askF S a ∧ R = emptyS) ∨ (askF S a = 0 ∧ ¬ isT s ∧ r = 3 ∧ R = emptyS) ∨ (askF S a = 0 ∧ isT s ∧ RollRes S a s r R)
set_option maxRecDepth 100000 in
set_option maxHeartbeats 8000000 in
theorem specRollbackKey_own (S : Sto) (v0 v1 v2 : Value) (a s r : Int) (R : Sto) (B : Nat) (w : World) (h : St w B S v0 v1 v2) (hA : RollAns S a s r R) :
    Calls Tryz.prog 74 #[.agg #[v0, v1, v2], .int .i64 a, .int .i64 s] w (ResStoK w r R) := by
  obtain ⟨a0, c0, a1, c1, a2, c2, rfl, rfl, rfl⟩ := h.form
  have HE : Hid (CallSto w B S (.slice a0 S.nc c0) (.slice a1 S.nl c1) (.slice a2 S.nw c2) ((w.alloc (.cells #[.slice a0 S.nc c0, .slice a1 S.nl c1, .slice a2 S.nw c2] 28)).alloc (.cells #[.int .i64 0, .slice none 0 0, .slice none 0 0, .slice none 0 0] 32))) := CallSto.new h _ _
  clear h
  unfold ResStoK
  rcases hA with ⟨hz, rfl, rfl⟩ | ⟨hz, ht, rfl, rfl⟩ | ⟨hz, ht, hR⟩
  · obtain ⟨f, hf⟩ : ∃ f, askF S a = f := ⟨_, rfl⟩
    have HF : Hid (askF S a = f) := hf
    have hfn : (f == 0) = false := beq_eq_false_iff_ne.2 (by rw [← hf]; exact hz)
    have hfn' : (f != 0) = true := by rw [bne_iff_ne, ← hf]; exact hz
    rw [hf]
    clear hz hf
    go_enter Tryz.func74, Tryz.ntmps74
    go_wp2_with fail
    refine (asked_any S w.heap.size _ _ _ _ _ ⟨HE.out.1.1, HE.out.2.2.1.mono (Nat.zero_le _)⟩).mono ?_
    rw [HF.out]
    rintro e w1 ⟨rfl, q1⟩
    have HE : Hid (CallSto w B S (.slice a0 S.nc c0) (.slice a1 S.nl c1) (.slice a2 S.nw c2) w1) := HE.out.later q1
    obtain ⟨⟨⟨p0, p1, p2⟩, _⟩, ⟨⟨r0, r1, r2, r3⟩, f0, f1, f2, f3⟩, _⟩ := HE.out
    clear q1
    go_wp2_with fail
    refine (l3Bad_own f _).mono ?_
    rintro e w4 ⟨d0, e0, d1, e1, d2, e2, rfl, o3, q4⟩
    have z3 : Hid (w.heap.size + 2 ≤ w1.heap.size) := HE.out.2.1.lt
    have S3 : Hid (OwnS w4 (w.heap.size + 2) emptyS (.slice d0 (emptyS).nc e0) (.slice d1 (emptyS).nl e1) (.slice d2 (emptyS).nw e2)) := o3.mono z3.out
    have HBW : Hid (Below w.heap.size w w4) := HE.out.2.2.2.trans (q4.mono HE.out.2.2.2.size)
    obtain ⟨⟨r0, r1, r2, r3⟩, f0, f1, f2, f3⟩ := HE.out.2.1.later q4
    clear o3 q4
    have hlo : (w.heap.size + 1 : Nat) < w.heap.size + 2 := Nat.lt_succ_self _
    go_wp2
    exact bodyPost_ret (v := .agg #[.int .i64 f, .slice d0 (emptyS).nc e0, .slice d1 (emptyS).nl e1, .slice d2 (emptyS).nw e2]) (by simp [results, Tryz.results74, go_sem, r0, r1, r2, r3]) rfl ⟨d0, e0, d1, e1, d2, e2, rfl, ((((S3.out.far hlo _).far hlo _).far hlo _).far hlo _).mono (by omega), (((HBW.out.setCell (Nat.le_succ _) _).setCell (Nat.le_succ _) _).setCell (Nat.le_succ _) _).setCell (Nat.le_succ _) _⟩
  · have HA : Hid (askF S a = 0) := hz
    have HT : Hid (decide (1 ≤ s ∧ s ≤ 100000) = false) := decide_eq_false ht
    clear hz ht
    go_enter Tryz.func74, Tryz.ntmps74
    go_wp2_with fail
    refine (asked_any S w.heap.size _ _ _ _ _ ⟨HE.out.1.1, HE.out.2.2.1.mono (Nat.zero_le _)⟩).mono ?_
    rw [HA.out]
    rintro e w1 ⟨rfl, q1⟩
    have HE : Hid (CallSto w B S (.slice a0 S.nc c0) (.slice a1 S.nl c1) (.slice a2 S.nw c2) w1) := HE.out.later q1
    obtain ⟨⟨⟨p0, p1, p2⟩, _⟩, ⟨⟨r0, r1, r2, r3⟩, f0, f1, f2, f3⟩, _⟩ := HE.out
    clear q1
    go_wp2_with fail
    refine (l2Ts_is s false HT.out _).mono ?_
    rintro e w1' ⟨rfl, rfl⟩
    go_wp2_with fail
    refine (l3Bad_own 3 _).mono ?_
    rintro e w4 ⟨d0, e0, d1, e1, d2, e2, rfl, o3, q4⟩
    have z3 : Hid (w.heap.size + 2 ≤ w1'.heap.size) := HE.out.2.1.lt
    have S3 : Hid (OwnS w4 (w.heap.size + 2) emptyS (.slice d0 (emptyS).nc e0) (.slice d1 (emptyS).nl e1) (.slice d2 (emptyS).nw e2)) := o3.mono z3.out
    have HBW : Hid (Below w.heap.size w w4) := HE.out.2.2.2.trans (q4.mono HE.out.2.2.2.size)
    obtain ⟨⟨r0, r1, r2, r3⟩, f0, f1, f2, f3⟩ := HE.out.2.1.later q4
    clear o3 q4
    have hlo : (w.heap.size + 1 : Nat) < w.heap.size + 2 := Nat.lt_succ_self _
    go_wp2
    exact bodyPost_ret (v := .agg #[.int .i64 3, .slice d0 (emptyS).nc e0, .slice d1 (emptyS).nl e1, .slice d2 (emptyS).nw e2]) (by simp [results, Tryz.results74, go_sem, r0, r1, r2, r3]) rfl ⟨d0, e0, d1, e1, d2, e2, rfl, ((((S3.out.far hlo _).far hlo _).far hlo _).far hlo _).mono (by omega), (((HBW.out.setCell (Nat.le_succ _) _).setCell (Nat.le_succ _) _).setCell (Nat.le_succ _) _).setCell (Nat.le_succ _) _⟩
  · have HA : Hid (askF S a = 0) := hz
    have HT : Hid (decide (1 ≤ s ∧ s ≤ 100000) = true) := decide_eq_true ht
    have HP : Hid (∀ (b : Nat) (u0 u1 u2 : Value) (x : World), Lies x b S u0 u1 u2 → Calls Tryz.prog 94 #[.pointer (some ⟨b, 0, none⟩), .int .i64 a, .int .i64 s] x (ResStoK x r R)) := fun b u0 u1 u2 x hx => l3Roll_ownO S b 0 u0 u1 u2 a s r R x hx (askF_zero hz).1 hR
    clear hz ht hR
    go_enter Tryz.func74, Tryz.ntmps74
    go_wp2_with fail
    refine (asked_any S w.heap.size _ _ _ _ _ ⟨HE.out.1.1, HE.out.2.2.1.mono (Nat.zero_le _)⟩).mono ?_
    rw [HA.out]
    rintro e w1 ⟨rfl, q1⟩
    have HE : Hid (CallSto w B S (.slice a0 S.nc c0) (.slice a1 S.nl c1) (.slice a2 S.nw c2) w1) := HE.out.later q1
    obtain ⟨⟨⟨p0, p1, p2⟩, _⟩, ⟨⟨r0, r1, r2, r3⟩, f0, f1, f2, f3⟩, _⟩ := HE.out
    clear q1
    go_wp2_with fail
    refine (l2Ts_is s true HT.out _).mono ?_
    rintro e w1' ⟨rfl, rfl⟩
    go_wp2_with fail
    refine (HP.out w.heap.size _ _ _ _ ⟨HE.out.1.1, HE.out.2.2.1.mono (Nat.zero_le _)⟩).mono ?_
    rintro e w4 ⟨d0, e0, d1, e1, d2, e2, rfl, o3, q4⟩
    have z3 : Hid (w.heap.size + 2 ≤ w1'.heap.size) := HE.out.2.1.lt
    have S3 : Hid (OwnS w4 (w.heap.size + 2) R (.slice d0 (R).nc e0) (.slice d1 (R).nl e1) (.slice d2 (R).nw e2)) := o3.mono z3.out
    have HBW : Hid (Below w.heap.size w w4) := HE.out.2.2.2.trans (q4.mono HE.out.2.2.2.size)
    obtain ⟨⟨r0, r1, r2, r3⟩, f0, f1, f2, f3⟩ := HE.out.2.1.later q4
    clear o3 q4
    have hlo : (w.heap.size + 1 : Nat) < w.heap.size + 2 := Nat.lt_succ_self _
    go_wp2
    exact bodyPost_ret (v := .agg #[.int .i64 r, .slice d0 (R).nc e0, .slice d1 (R).nl e1, .slice d2 (R).nw e2]) (by simp [results, Tryz.results74, go_sem, r0, r1, r2, r3]) rfl ⟨d0, e0, d1, e1, d2, e2, rfl, ((((S3.out.far hlo _).far hlo _).far hlo _).far hlo _).mono (by omega), (((HBW.out.setCell (Nat.le_succ _) _).setCell (Nat.le_succ _) _).setCell (Nat.le_succ _) _).setCell (Nat.le_succ _) _⟩
theorem RollRes.get (S : Sto) (hz : storeF S = 0) (a s : Int) : ∃ r R, Small R ∧ RollRes S a s r R := by
  obtain ⟨⟨hc, hl, hw⟩, _⟩ := storeF_zero hz
  have hS : Small S := ⟨by omega, by omega, by omega⟩
  obtain ⟨i, hi⟩ := FirstAt.get (writeIs S.k a s) S.nw
  rcases hi with ⟨rfl, hn⟩ | ⟨i, hi, rfl, hp, hq⟩
  · have h1 : FirstAt (writeIs S.k a s) S.nw (-1) := Or.inl ⟨rfl, hn⟩
    by_cases h4 : ∃ i, i < S.nw ∧ writeAt S.k a s i
    · exact ⟨6, emptyS, small_empty, Or.inr (Or.inr (Or.inl ⟨h1, h4, rfl, rfl⟩))⟩
    · by_cases h5 : 200 ≤ S.nw
      · exact ⟨2, emptyS, small_empty, Or.inr (Or.inr (Or.inr (Or.inl ⟨h1, h4, h5, rfl, rfl⟩)))⟩
      · obtain ⟨k, hk⟩ := placeAt.get (aheadW S.k a s) S.nw
        refine ⟨0, rollS S a s k, ⟨Nat.le_trans (selD_le _ _ _ _) hS.1, Nat.le_trans (selD_le _ _ _ _) hS.2.1, ?_⟩, Or.inr (Or.inr (Or.inr (Or.inr ⟨k, h1, h4, by omega, hk, rfl, rfl⟩)))⟩
        show S.nw + 1 ≤ _
        omega
  · have h1 : FirstAt (writeIs S.k a s) S.nw (i : Int) := Or.inr ⟨i, hi, rfl, hp, hq⟩
    by_cases h2 : S.k (i * 4 + 3) = 4
    · exact ⟨0, S, hS, Or.inl ⟨i, h1, h2, rfl, rfl⟩⟩
    · exact ⟨6, emptyS, small_empty, Or.inr (Or.inl ⟨i, h1, h2, rfl, rfl⟩)⟩
theorem RollAns.get (S : Sto) (a s : Int) : ∃ r R, Small R ∧ RollAns S a s r R := by
  by_cases hz : askF S a = 0
  · by_cases hs : isT s
    · obtain ⟨r, R, h1, h2⟩ := RollRes.get S (askF_zero hz).1 a s
      exact ⟨r, R, h1, Or.inr (Or.inr ⟨hz, hs, h2⟩)⟩
    · exact ⟨3, emptyS, small_empty, Or.inr (Or.inl ⟨hz, hs, rfl, rfl⟩)⟩
  · exact ⟨_, emptyS, small_empty, Or.inl ⟨hz, rfl, rfl⟩⟩
end
end Go.Proofs.YtnikdbebfofcaaaGreatDoor

