/-
  Own text. The program's columns.store: a new store that has what the columns have; its cells are sorted.
-/
import Derived.Test.YtpfmbfmlpoibeaaGreatStorA
import Derived.Test.YtpfmbfmlpoibeaaGreatSortD
import Derived.Laws.AppendOwnNone
import Derived.Deep.RegionHeld
namespace Go.Proofs.YtpfmbfmlpoibeaaGreat
open Go.RowKit Go.Maps Go.Sort Go.Shelf Go.Lib

theorem run_copy (t ty e : TypeId) (i : TypeInfo) (z : Value) (m bytes : Nat) (ht : Tryz.prog.underlying t = some (.slice e)) (hi : Tryz.prog.info? e = some i) (hz : i.zero = some z) (hsize : i.size = m) (hby : i.bytes = bytes) (hzs : z.cells.size = m) (hm : 0 < m) (hb5 : bytes ≤ 1000)
    (w : World) (B n : Nat) (F : Nat → Int) (v : Value) (h : Own w B e m n F v) (hn : n ≤ 1048576) : ∃ v' w', (Builtin.append_ #[t, t] ty #[.slice none 0 0, v]).run Tryz.prog w = .ok v' w' ∧ Own w' w.heap.size e m n F v' ∧ Below w.heap.size w w' := by
  have hr := h.row.1
  rcases h.2 with ⟨rfl, rfl⟩ | ⟨g, cap, cur, rfl, hg, hw, _⟩
  · exact ⟨_, _, run_append_owned_none (P := Tryz.prog) w w.heap.size t ty e i m ht hi _ 0 [] ⟨by simp, Or.inl ⟨rfl, rfl⟩⟩, Own.nil _ _ _ _ _, Below.refl _ _⟩
  · have hbb : n * bytes ≤ 1048576 * 1000 := Nat.mul_le_mul hn hb5
    obtain ⟨v', w', h1, h2, h3, _⟩ := run_append_own (P := Tryz.prog) w w.heap.size t ty e i z m bytes ht hi hz hsize hby hzs hm (.slice none 0 0) 0 [] ⟨by simp, Or.inl ⟨rfl, rfl⟩⟩ ⟨g, 0, none⟩ n cap (vals F (n * m)) (vals_length _ _) (row_cells hr) (vals_one _ _) (by unfold maxLen; omega) (by rw [Nat.zero_add]; omega) (Nat.le_refl _)
    refine ⟨v', w', h1, ?_, ⟨h3.os, h3.tape, h3.output, h3.size, fun i hi => h3.block i hi (by simp [Value.ownBlock])⟩⟩
    simpa [Own] using h2
/-- 'append([]T(nil), row...)' at a step of a region that draws its order. -/
theorem step_copy {ops : Array Oper} {o : Oper} {a : Act} {K : Act → World → Prop} {Q : Exit → Act → World → Prop} {E : Prop} (hgd : o.guard = none) (x : Operand) (t : TypeId) (ho : o.op = .call { callee := .builtin .append, args := #[.const (.slice none 0 0), x], argTypes := #[t, t] })
    (e : TypeId) (i : TypeInfo) (z : Value) (m bytes : Nat) (ht : Tryz.prog.underlying t = some (.slice e)) (hi : Tryz.prog.info? e = some i) (hz : i.zero = some z) (hsize : i.size = m) (hby : i.bytes = bytes) (hzs : z.cells.size = m) (hm : 0 < m) (hb5 : bytes ≤ 1000)
    (w : World) (B n : Nat) (F : Nat → Int) (v : Value) (hx : a.eval x = v) (h : Own w B e m n F v) (hn : n ≤ 1048576) (hK : ∀ v' w', Own w' w.heap.size e m n F v' → Below w.heap.size w w' → K (a.put o.dst v') w') :
    if Region.wanted o (yielded ops a.tmps) = true then Oper.wp Tryz.prog o a w K Q else E := by
  have hw : Region.wanted o (yielded ops a.tmps) = true := by simp [Region.wanted, hgd]
  rw [if_pos hw]
  obtain ⟨v', w', hr, h2, h3⟩ := run_copy t o.type e i z m bytes ht hi hz hsize hby hzs hm hb5 w B n F v h hn
  have hc : a.eval (.const (.slice none 0 0)) = .slice none 0 0 := rfl
  unfold Oper.wp execOp
  simp only [ho, resolve, invoke, builtin, Sem.run_bind, Sem.run_pure, Result.andThen_ok, List.map_toArray, List.map_cons, List.map_nil, hc, hx, hr]
  exact hK v' w' h2 h3
theorem grown_set (w : World) (a : Addr) (u : Value) : w.grownBy (w.setCell a u) (some a.block) := ⟨rfl, rfl, rfl, by simp, fun i _ hne => Below.heap_setCell w a u i (fun e => hne (by rw [e]))⟩
/-- What store stands on behind its copies: the columns; its answer (the first new block); its own store (block b3), of which two rows are done. -/
structure Leaf (w : World) (b oo N : Nat) (m : Int → Int → Option Int) (nl : Nat) (l : Nat → Int) (nw : Nat) (k : Nat → Int) (g : Nat) (u1 u2 : Value) (b3 : Nat) (q0 q1 q2 r1 r2 : Value) (x : World) : Prop where
  cols : Blk3O x b oo (.map (some g)) u1 u2
  pm : PM x g N m
  gl : g < w.heap.size
  res : Blk3 x w.heap.size (.slice none 0 0) (.slice none 0 0) (.slice none 0 0)
  own : Blk3 x b3 q0 q1 q2
  lo : w.heap.size < b3
  bl : b < w.heap.size
  s1 : Own x (w.heap.size + 1) 96 5 nl l r1
  s2 : Own x (w.heap.size + 1) 45 4 nw k r2
  a1 : r1.ownBlock ≠ some b3
  a2 : r2.ownBlock ≠ some b3
  a12 : ∀ q, r1.ownBlock = some q → r2.ownBlock ≠ some q
  below : Below w.heap.size w x
theorem Leaf.later {w : World} {b oo N : Nat} {m : Int → Int → Option Int} {nl : Nat} {l : Nat → Int} {nw : Nat} {k : Nat → Int} {g : Nat} {u1 u2 : Value} {b3 : Nat} {q0 q1 q2 r1 r2 : Value} {x x' : World} (h : Leaf w b oo N m nl l nw k g u1 u2 b3 q0 q1 q2 r1 r2 x) (hb : Below x.heap.size x x') : Leaf w b oo N m nl l nw k g u1 u2 b3 q0 q1 q2 r1 r2 x' :=
  ⟨h.cols.later hb, h.pm.later hb, h.gl, h.res.later hb, h.own.later hb, h.lo, h.bl, h.s1.later hb, h.s2.later hb, h.a1, h.a2, h.a12, h.below.trans (hb.mono h.below.size)⟩
theorem Own.block {w : World} {B : Nat} {e : TypeId} {m n : Nat} {F : Nat → Int} {v : Value} (h : Own w B e m n F v) : ∀ k, v.ownBlock = some k → B ≤ k ∧ k < w.heap.size := own_in h
theorem Own.kept {w w' : World} {B : Nat} {e : TypeId} {m n : Nat} {F : Nat → Int} {v : Value} (h : Own w B e m n F v) (hb : ∀ k, v.ownBlock = some k → w'.heap[k]? = w.heap[k]?) : Own w' B e m n F v := by
  refine ⟨h.1, ?_⟩
  rcases h.2 with q | ⟨g, cap, cur, rfl, hg, hw, r⟩
  · exact Or.inl q
  · exact Or.inr ⟨g, cap, cur, rfl, hg, (hb g rfl).trans hw, r⟩
theorem Leaf.put {w : World} {b oo N : Nat} {m : Int → Int → Option Int} {nl : Nat} {l : Nat → Int} {nw : Nat} {k : Nat → Int} {g : Nat} {u1 u2 : Value} {b3 : Nat} {q0 q1 q2 r1 r2 : Value} {x : World} (h : Leaf w b oo N m nl l nw k g u1 u2 b3 q0 q1 q2 r1 r2 x) (a0 a1 a2 : Value) :
    Leaf w b oo N m nl l nw k g u1 u2 b3 a0 a1 a2 r1 r2 (((x.setCell ⟨b3, 0, none⟩ a0).setCell ⟨b3, 1, none⟩ a1).setCell ⟨b3, 2, none⟩ a2) := by
  have hb : ∀ i, i ≠ b3 → (((x.setCell ⟨b3, 0, none⟩ a0).setCell ⟨b3, 1, none⟩ a1).setCell ⟨b3, 2, none⟩ a2).heap[i]? = x.heap[i]? := fun i hi => (Below.heap_setCell _ _ _ i hi).trans ((Below.heap_setCell _ _ _ i hi).trans (Below.heap_setCell _ _ _ i hi))
  have h1 := h.lo
  have h2 := h.gl
  have h3 := h.bl
  exact ⟨h.cols.kept (hb _ (by omega)), h.pm.kept (hb _ (by omega)), h.gl, h.res.kept (hb _ (by omega)), ((h.own.set0 a0).set1 a1).set2 a2, h.lo, h.bl, h.s1.kept (fun q hq => hb q (fun e => h.a1 (by rw [hq, e]))), h.s2.kept (fun q hq => hb q (fun e => h.a2 (by rw [hq, e]))), h.a1, h.a2, h.a12, ((h.below.setCell (by simp; omega) _).setCell (by simp; omega) _).setCell (by simp; omega) _⟩
/-- x is y but for block b3, block r and what lies from Z on. -/
def Sam (y x : World) (Z b3 r : Nat) : Prop := (x.os = y.os ∧ x.tape = y.tape ∧ x.output = y.output) ∧ Z ≤ x.heap.size ∧ ∀ i, i < Z → i ≠ b3 → i ≠ r → x.heap[i]? = y.heap[i]?
theorem Sam.step {y x x' : World} {Z b3 r : Nat} {row : Option Nat} (h : Sam y x Z b3 r) (hg : x.grownBy x' row) (hq : ∀ q, row = some q → q = b3 ∨ q = r ∨ Z ≤ q) : Sam y x' Z b3 r :=
  ⟨⟨hg.os.trans h.1.1, hg.tape.trans h.1.2.1, hg.output.trans h.1.2.2⟩, Nat.le_trans h.2.1 hg.size, fun i h1 h2 h3 => (hg.block i (Nat.lt_of_lt_of_le h1 h.2.1) (fun e => by have := hq i e.symm; omega)).trans (h.2.2 i h1 h2 h3)⟩
theorem Sam.later {y x x' : World} {Z b3 r : Nat} (h : Sam y x Z b3 r) (hb : Below x.heap.size x x') : Sam y x' Z b3 r :=
  ⟨⟨hb.os.trans h.1.1, hb.tape.trans h.1.2.1, hb.output.trans h.1.2.2⟩, Nat.le_trans h.2.1 hb.size, fun i h1 h2 h3 => (hb.block i (Nat.lt_of_lt_of_le h1 h.2.1)).trans (h.2.2 i h1 h2 h3)⟩
/-- What a round of store's loop stands on. -/
structure Rnd (w y : World) (g r N : Nat) (m : Int → Int → Option Int) (b3 : Nat) (r1 r2 : Value) (left : Int → Int → Bool) (cnt : Nat) (v : Value) (L : List (List Int)) (x : World) : Prop where
  pr : PR x g r N m left cnt
  sam : Sam y x (r + 1) b3 r
  own : Blk3 x b3 v r1 r2
  row : OwnM x (r + 1) 140 3 v L.length L.flatten
  col : Col3 m left L
  len : L.length + cnt ≤ N
theorem Rnd.later {w y x x' : World} {g r N : Nat} {m : Int → Int → Option Int} {b3 : Nat} {r1 r2 : Value} {left : Int → Int → Bool} {cnt : Nat} {v : Value} {L : List (List Int)} (h : Rnd w y g r N m b3 r1 r2 left cnt v L x) (hb : Below x.heap.size x x') : Rnd w y g r N m b3 r1 r2 left cnt v L x' :=
  ⟨h.pr.later hb, h.sam.later hb, h.own.later hb, h.row.later hb, h.col, h.len⟩
/-- The iterator goes on. -/
theorem Rnd.next {w y x x' : World} {g r N : Nat} {m : Int → Int → Option Int} {b3 : Nat} {r1 r2 : Value} {left : Int → Int → Bool} {cnt cnt' : Nat} {v : Value} {L : List (List Int)} (h : Rnd w y g r N m b3 r1 r2 left cnt v L x) (hb : b3 < r) {left' : Int → Int → Bool} (hp : PR x' g r N m left' cnt') (hg : x.grownBy x' (some r)) :
    (PR x' g r N m left' cnt' ∧ Sam y x' (r + 1) b3 r) ∧ Blk3 x' b3 v r1 r2 ∧ OwnM x' (r + 1) 140 3 v L.length L.flatten :=
  ⟨⟨hp, h.sam.step hg (fun q e => by simp at e; omega)⟩, h.own.kept (hg.block b3 h.own.lt (by simp; omega)), h.row.kept (fun i h1 h2 => hg.block i h2 (by simp; omega))⟩
/-- The cell is appended, and the row stored. -/
theorem Rnd.put {w y x x' : World} {g r N : Nat} {m : Int → Int → Option Int} {b3 : Nat} {r1 r2 : Value} {left : Int → Int → Bool} {cnt : Nat} {v v' : Value} {L : List (List Int)} {p q c : Int} (hg3 : g < b3) (hb3 : b3 < r)
    (hp : (PR x g r N m (strike left p q) cnt ∧ Sam y x (r + 1) b3 r) ∧ Blk3 x b3 v r1 r2 ∧ OwnM x (r + 1) 140 3 v L.length L.flatten) (hc : Col3 m left L) (hx : Wf p) (hy : Wf q) (hl : left p q = true) (hm : m p q = some c) (hn : L.length + 1 + cnt ≤ N)
    (ho : x'.ownsRow (r + 1) 140 3 v' (L.length + 1) (L.flatten.map (Value.int .i64) ++ [.int .i64 p, .int .i64 q, .int .i64 c])) (hg : x.grownBy x' v.ownBlock) :
    Rnd w y g r N m b3 r1 r2 (strike left p q) cnt v' (L ++ [[p, q, c]]) (x'.setCell ⟨b3, 0, none⟩ v') := by
  have hv : ∀ j, v.ownBlock = some j → r + 1 ≤ j := fun j hj => (hp.2.2.block j hj).1
  have k1 : some g ≠ v.ownBlock := fun e => by have := hv g e.symm; omega
  have k2 : some r ≠ v.ownBlock := fun e => by have := hv r e.symm; omega
  have k3 : some b3 ≠ v.ownBlock := fun e => by have := hv b3 e.symm; omega
  have ho' : OwnM x' (r + 1) 140 3 v' (L.length + 1) (L ++ [[p, q, c]]).flatten := by
    unfold OwnM
    rw [List.flatten_append, List.map_append]
    exact ho
  refine ⟨(hp.1.1.kept hg k1 k2).kept (grown_set _ _ _) (by simp; omega) (by simp; omega), (hp.1.2.step hg (fun j e => Or.inr (Or.inr (hv j e)))).step (grown_set _ _ _) (fun j e => by simp at e; omega), (hp.2.1.kept (hg.block b3 hp.2.1.lt k3)).set0 v', ?_, hc.step hx hy hl hm, by simp; omega⟩
  rw [List.length_append]
  exact ho'.far (by simp; omega) _
theorem flatten_len {m : Nat} : ∀ (L : List (List Int)), (∀ t ∈ L, t.length = m) → L.flatten.length = L.length * m
  | [], _ => by simp
  | x :: r, h => by
    rw [List.flatten_cons, List.length_append, h x List.mem_cons_self, flatten_len r (fun t ht => h t (List.mem_cons_of_mem _ ht)), List.length_cons, Nat.succ_mul, Nat.add_comm]
theorem apart_mk {w : World} {B0 B1 : Nat} {S : Sto} {u0 u1 u2 : Value} (r0 : Row w B0 3 S.nc S.c u0) (r1 : Row w B1 5 S.nl S.l u1) (h1 : ∀ i j, u0.ownBlock = some i → u1.ownBlock = some j → i ≠ j) (h2 : ∀ i j, u0.ownBlock = some i → u2.ownBlock = some j → i ≠ j) (h3 : ∀ i j, u1.ownBlock = some i → u2.ownBlock = some j → i ≠ j) : ApartD S u0 u1 u2 := by
  have own : ∀ {B m n : Nat} {F : Nat → Int} {u : Value}, Row w B m n F u → 0 < n → ∃ k, u.ownBlock = some k := fun hr hn => by
    obtain ⟨ao, cp, rfl, hr⟩ := hr
    obtain ⟨g, o, rfl, _⟩ := hr hn
    exact ⟨g, rfl⟩
  refine ⟨fun ha hb e => ?_, fun ha hb e => ?_, fun ha hb e => ?_⟩
  · obtain ⟨k, hk⟩ := own r0 ha
    exact h1 k k hk (e ▸ hk) rfl
  · obtain ⟨k, hk⟩ := own r0 ha
    exact h2 k k hk (e ▸ hk) rfl
  · obtain ⟨k, hk⟩ := own r1 ha
    exact h3 k k hk (e ▸ hk) rfl
/-- What the copies find: all of Leaf that was there ahead of them. -/
structure Pre (w : World) (b oo N : Nat) (m : Int → Int → Option Int) (g : Nat) (u1 u2 : Value) (x : World) : Prop where
  cols : Blk3O x b oo (.map (some g)) u1 u2
  pm : PM x g N m
  gl : g < w.heap.size
  res : Blk3 x w.heap.size (.slice none 0 0) (.slice none 0 0) (.slice none 0 0)
  bl : b < w.heap.size
  below : Below w.heap.size w x
theorem Pre.later {w : World} {b oo N : Nat} {m : Int → Int → Option Int} {g : Nat} {u1 u2 : Value} {x x' : World} (h : Pre w b oo N m g u1 u2 x) (hb : Below x.heap.size x x') : Pre w b oo N m g u1 u2 x' :=
  ⟨h.cols.later hb, h.pm.later hb, h.gl, h.res.later hb, h.bl, h.below.trans (hb.mono h.below.size)⟩
theorem Pre.leaf {w : World} {b oo N : Nat} {m : Int → Int → Option Int} {g : Nat} {u1 u2 : Value} {x : World} (h : Pre w b oo N m g u1 u2 x) {b3 : Nat} {q0 q1 q2 : Value} (ho : Blk3 x b3 q0 q1 q2) (hlo : w.heap.size < b3) {nl : Nat} {l : Nat → Int} {nw : Nat} {k : Nat → Int} {r1 r2 : Value} (h1 : Own x (w.heap.size + 1) 96 5 nl l r1) (h2 : Own x (w.heap.size + 1) 45 4 nw k r2)
    (a1 : ∀ j, r1.ownBlock = some j → j ≠ b3) (a2 : ∀ j, r2.ownBlock = some j → j ≠ b3) (a12 : ∀ i j, r1.ownBlock = some i → r2.ownBlock = some j → i ≠ j) : Leaf w b oo N m nl l nw k g u1 u2 b3 q0 q1 q2 r1 r2 x :=
  ⟨h.cols, h.pm, h.gl, h.res, ho, hlo, h.bl, h1, h2, fun e => a1 b3 e rfl, fun e => a2 b3 e rfl, fun q e e' => a12 q q e e' rfl, h.below⟩
theorem size_drew (w : World) (o : Obj) : (w.alloc o).drew.heap.size = w.heap.size + 1 := by simp
/-- What the copying region stands on: the columns' block. -/
def ColBox (w : World) (b oo : Nat) (v0 v1 v2 : Value) (x : World) : Prop := Blk3O x b oo v0 v1 v2 ∧ Below w.heap.size w x
theorem ColBox.later {w x x' : World} {b oo : Nat} {v0 v1 v2 : Value} (h : ColBox w b oo v0 v1 v2 x) (hb : Below x.heap.size x x') : ColBox w b oo v0 v1 v2 x' := ⟨h.1.later hb, h.2.trans (hb.mono h.2.size)⟩
set_option maxRecDepth 100000 in
set_option maxHeartbeats 16000000 in
theorem store_isO (B b oo N : Nat) (m : Int → Int → Option Int) (nl : Nat) (l : Nat → Int) (nw : Nat) (k : Nat → Int) (g : Nat) (u1 u2 : Value) (w : World) (h : ColsO w B b oo N m nl l nw k g u1 u2) (hl : nl ≤ 200) (hw : nw ≤ 200) (hN : N ≤ 400) (nc : Nat) (c : Nat → Int) (hM : MapRow m nc c) :
    Calls Tryz.prog 63 #[.pointer (some ⟨b, oo, none⟩)] w (NewSto w ⟨nc, c, nl, l, nw, k⟩) := by
  unfold NewSto
  obtain ⟨b1, d1, rfl⟩ := h.2.2.2.2.1.form
  obtain ⟨b2, d2, rfl⟩ := h.2.2.2.2.2.form
  have H1 : Hid (Own w B 96 5 nl l (.slice b1 nl d1)) := h.2.2.2.2.1
  have H2 : Hid (Own w B 45 4 nw k (.slice b2 nw d2)) := h.2.2.2.2.2
  have HM : Hid (MapRow m nc c) := hM
  obtain ⟨i1, hi1, hz01, hz11, hz21⟩ := info_parts infoz_Lock
  obtain ⟨i2, hi2, hz02, hz12, hz22⟩ := info_parts infoz_Write
  obtain ⟨i0, hi, hz0, hz1, hz2⟩ := info_parts info_Cell
  have h0 : ColBox w b oo (.map (some g)) (.slice b1 nl d1) (.slice b2 nw d2) (w.alloc (.cells #[.slice none 0 0, .slice none 0 0, .slice none 0 0] 37)).drew := ⟨h.2.2.1.alloc _, (below_alloc _ _).drew⟩
  have HP0 : Hid (Pre w b oo N m g (.slice b1 nl d1) (.slice b2 nw d2) (w.alloc (.cells #[.slice none 0 0, .slice none 0 0, .slice none 0 0] 37)).drew) := ⟨h.2.2.1.alloc _, h.2.2.2.1.later (w' := (w.alloc (.cells #[.slice none 0 0, .slice none 0 0, .slice none 0 0] 37)).drew) (below_alloc _ _).drew, h.2.2.2.1.lt, Blk3.new w _ _ _ _, h.2.2.1.lt, (below_alloc _ _).drew⟩
  have HPB : Hid (Pre w b oo N m g (.slice b1 nl d1) (.slice b2 nw d2) ((w.alloc (.cells #[.slice none 0 0, .slice none 0 0, .slice none 0 0] 37)).alloc (.cells #[.slice none 0 0, .slice none 0 0, .slice none 0 0] 37)).drew) := ⟨(h.2.2.1.alloc _).alloc _, h.2.2.2.1.later (w' := ((w.alloc (.cells #[.slice none 0 0, .slice none 0 0, .slice none 0 0] 37)).alloc (.cells #[.slice none 0 0, .slice none 0 0, .slice none 0 0] 37)).drew) ((below_alloc _ _).alloc (by simp) _).drew, h.2.2.2.1.lt, (Blk3.new w _ _ _ _).alloc _, h.2.2.1.lt, ((below_alloc _ _).alloc (by simp) _).drew⟩
  have HBB : Hid (Blk3 ((w.alloc (.cells #[.slice none 0 0, .slice none 0 0, .slice none 0 0] 37)).alloc (.cells #[.slice none 0 0, .slice none 0 0, .slice none 0 0] 37)).drew (w.heap.size + 1) (.slice none 0 0) (.slice none 0 0) (.slice none 0 0)) := by have := Blk3.new (w.alloc (.cells #[.slice none 0 0, .slice none 0 0, .slice none 0 0] 37)) (.slice none 0 0) (.slice none 0 0) (.slice none 0 0) 37; rw [World.size_alloc] at this; exact this
  clear h hM
  go_enter Tryz.func63, Tryz.ntmps63
  go_wp2_with fail
  rename_i Kr hKr
  have rest : Hid (∀ (b3 : Nat) (e1 : Option Addr) (f1 : Nat) (e2 : Option Addr) (f2 : Nat) (y : World), Leaf w b oo N m nl l nw k g (.slice b1 nl d1) (.slice b2 nw d2) b3 (.slice none 0 0) (.slice e1 nl f1) (.slice e2 nw f2) (.slice e1 nl f1) (.slice e2 nw f2) y → Kr ⟨#[.pointer (some ⟨b, oo, none⟩), undef, .pointer (some ⟨w.heap.size, 0, none⟩), .pointer (some ⟨b3, 0, none⟩), undef, undef, .pointer (some ⟨b, oo, none⟩), .pointer (some ⟨b, oo, none⟩), .pointer (some ⟨b, oo + 1, none⟩), .slice b1 nl d1, .slice e1 nl f1, .pointer (some ⟨b, oo, none⟩), .pointer (some ⟨b, oo, none⟩), .pointer (some ⟨b, oo + 2, none⟩), .slice b2 nw d2, .slice e2 nw f2, .agg #[.slice none 0 0, .slice e1 nl f1, .slice e2 nw f2], undef, undef, undef, undef, undef, undef, undef, undef, undef, undef, undef, undef, undef, undef, undef, undef, undef, undef, undef, undef, undef, undef, undef, undef, undef], []⟩ y) := by
    intro b3 e1 f1 e2 f2 y hLf
    refine hKr _ _ ?_
    clear hKr h0 HP0 HPB HBB H1 H2
    have HLf : Hid (Leaf w b oo N m nl l nw k g (.slice b1 nl d1) (.slice b2 nw d2) b3 (.slice none 0 0) (.slice e1 nl f1) (.slice e2 nw f2) (.slice e1 nl f1) (.slice e2 nw f2) y) := hLf
    have p0 := hLf.cols.1.1
    have hP := hLf.pm
    clear hLf
    go_wp2_with (first | (at_range; refine wpList_prange _ rfl _ rfl g N m rfl hP ?_; intro w0 cnt hcnt hPR hB0 hs0) | go_in)
    go_frame
    have HL0 : Hid (Leaf w b oo N m nl l nw k g (.slice b1 nl d1) (.slice b2 nw d2) b3 (.slice none 0 0) (.slice e1 nl f1) (.slice e2 nw f2) (.slice e1 nl f1) (.slice e2 nw f2) w0) := HLf.out.later hB0
    have hbr : b3 < y.heap.size := HLf.out.own.lt
    obtain ⟨r, hr⟩ : ∃ r, y.heap.size = r := ⟨_, rfl⟩
    rw [hr] at hPR hs0 hbr
    rw [hr]
    have hg3 : g < b3 := by have := HLf.out.gl; have := HLf.out.lo; omega
    have hlo := HLf.out.lo
    have HY : Hid ((∀ q, (Value.slice e1 nl f1).ownBlock = some q → q < r) ∧ ∀ q, (Value.slice e2 nw f2).ownBlock = some q → q < r) := ⟨fun q e => by have := (HLf.out.s1.block q e).2; omega, fun q e => by have := (HLf.out.s2.block q e).2; omega⟩
    clear p0 hP hB0 HLf hr
    go_loopw [5] (fun _ wr => ∃ (left : Int → Int → Bool) (cnt : Nat) (v : Value) (L : List (List Int)), Hid (Rnd w w0 g r N m b3 (.slice e1 nl f1) (.slice e2 nw f2) left cnt v L wr)) (fun _ wr => wr.rangeLeft g r)
    case atStart => exact ⟨_, cnt, .slice none 0 0, [], hPR, ⟨⟨rfl, rfl, rfl⟩, by omega, fun _ _ _ _ => rfl⟩, HL0.out.own, OwnM.nil _ _ _ _, Col3.start m, by simpa using hcnt⟩
    case round =>
      clear hPR hcnt
      obtain ⟨left, cnt1, v, L, HR⟩ := hrel
      obtain ⟨ao, cp, rfl⟩ := HR.out.row.form
      have hpr := HR.out.pr
      have hcl : ∀ x y, Wf x → Wf y → left x y = true → (m x y).isSome = true := fun x y _ _ q => HR.out.col.2.2.2 x y q
      go_wp2_with (first | (at_next; refine wpList_pnext _ rfl _ rfl g r N m left cnt1 rfl hpr hcl ?_ ?_) | go_in)
      · intro hdone
        have hsr := HM.out.sorted HR.out.col hdone
        obtain ⟨rfl, hsr2⟩ := hsr
        have HSR : Hid (∀ d : Array (List Int), d.size = L.length → d.toList.Perm (rowD 3 L.length (fun p => L.flatten.getD p 0)).toList → SortedIn (ltOf (cf2 (fun x => x.getD 0 0) (fun x => x.getD 1 0))) 0 L.length d → ∀ t, t < L.length * 3 → rowF 3 d t = c t) := hsr2
        have HO : Hid (Row wr (r + 1) 3 L.length (fun p => L.flatten.getD p 0) (.slice ao L.length cp) ∧ Free wr (L.length * 3) (.slice ao L.length cp)) := (HR.out.row.own (flatten_len L HR.out.col.len)).row
        have t0 := HR.out.own.1.1
        have hlN : L.length ≤ 400 := by have := HR.out.len; omega
        clear hdone hpr hcl hsr2
        go_wp2_with fail
        refine (sortCell_any (r + 1) L.length _ _ _ HO.out.1 HO.out.2 (by omega)).mono ?_
        rintro e w5 ⟨rfl, d, hd1, ⟨hd2, hd3⟩, hrow5, hg5⟩
        have hturn : ∀ q, turn L.length (.slice ao L.length cp) = some q → r + 1 ≤ q := turn_off (fun _ kk hk => (HR.out.row.block kk hk).1)
        have hsam := HR.out.sam.step hg5 (fun q e => Or.inr (Or.inr (hturn q e)))
        have hB5 := HR.out.own.kept (hg5.block b3 HR.out.own.lt (fun e => by have := hturn b3 e.symm; omega))
        have hres := HL0.out.res.kept (hsam.2.2 w.heap.size (by omega) (by omega) (by omega))
        have hk1 := HL0.out.s1.kept (fun q hq => hsam.2.2 q (by have := HY.out.1 q hq; omega) (fun e => HL0.out.a1 (by rw [hq, e])) (by have := HY.out.1 q hq; omega))
        have hk2 := HL0.out.s2.kept (fun q hq => hsam.2.2 q (by have := HY.out.2 q hq; omega) (fun e => HL0.out.a2 (by rw [hq, e])) (by have := HY.out.2 q hq; omega))
        have HBW : Hid (Below w.heap.size w w5) := ⟨hsam.1.1.trans HL0.out.below.os, hsam.1.2.1.trans HL0.out.below.tape, hsam.1.2.2.trans HL0.out.below.output, by have := hsam.2.1; omega, fun i hi => (hsam.2.2 i (by omega) (by omega) (by omega)).trans (HL0.out.below.block i hi)⟩
        have HK : Hid ((Row w5 (r + 1) 3 L.length c (.slice ao L.length cp) ∧ Free w5 (L.length * 3) (.slice ao L.length cp)) ∧ (Own w5 (w.heap.size + 1) 96 5 nl l (.slice e1 nl f1) ∧ Own w5 (w.heap.size + 1) 45 4 nw k (.slice e2 nw f2))) := ⟨⟨hrow5.1.congr (HSR.out d hd1 hd2 hd3), hrow5.2⟩, hk1, hk2⟩
        have HAP : Hid (ApartD ⟨L.length, c, nl, l, nw, k⟩ (.slice ao L.length cp) (.slice e1 nl f1) (.slice e2 nw f2)) := apart_mk HK.out.1.1 hk1.row.1 (fun i j hi hj => by have := (HR.out.row.block i hi).1; have := HY.out.1 j hj; omega) (fun i j hi hj => by have := (HR.out.row.block i hi).1; have := HY.out.2 j hj; omega) (fun i j hi hj e => HL0.out.a12 i hi (by rw [hj, e]))
        obtain ⟨⟨y0, y1, y2⟩, _⟩ := hB5
        obtain ⟨⟨s0, s1, s2⟩, g0, g1, g2⟩ := hres
        have hlw : w.heap.size < w.heap.size + 1 := Nat.lt_succ_self _
        have hlr : w.heap.size < r + 1 := by omega
        clear t0 hd1 hd2 hd3 hrow5 hg5 hturn hsam hk1 hk2 HSR HO HR
        go_wp2
        exact bodyPost_ret (v := .agg #[.slice ao L.length cp, .slice e1 nl f1, .slice e2 nw f2]) (by simp [results, Tryz.results63, go_sem, s0, s1, s2]) rfl ⟨ao, cp, e1, f1, e2, f2, rfl, ⟨⟨(((HK.out.1.1.far (Or.inl hlr) _).far (Or.inl hlr) _).far (Or.inl hlr) _).mono (by omega), (((HK.out.2.1.row.1.far (Or.inl hlw) _).far (Or.inl hlw) _).far (Or.inl hlw) _).mono (by omega), (((HK.out.2.2.row.1.far (Or.inl hlw) _).far (Or.inl hlw) _).far (Or.inl hlw) _).mono (by omega)⟩, ⟨((HK.out.1.2.far _ _).far _ _).far _ _, ((HK.out.2.1.row.2.far _ _).far _ _).far _ _, ((HK.out.2.2.row.2.far _ _).far _ _).far _ _⟩, HAP.out⟩, ((HBW.out.setCell (Nat.le_refl _) _).setCell (Nat.le_refl _) _).setCell (Nat.le_refl _) _⟩
      · intro p q cc w1 cnt2 hx hy hc hlf hm hPR1 hlt hg1 hs1 hen
        have HN := HR.out.next hbr hPR1 hg1
        have hcl1 := HR.out.col
        have hlen : L.length + 1 + cnt2 ≤ N := by have := HR.out.len; omega
        have HLT : Hid (cnt2 < wr.rangeLeft g r) := by unfold Hid; rw [HR.out.pr.left_eq]; exact hlt
        have HX : Hid (((Wf p ∧ Wf q) ∧ left p q = true ∧ m p q = some cc) ∧ Col3 m left L) := ⟨⟨⟨hx, hy⟩, hlf, hm⟩, hcl1⟩
        have t0 := HN.2.1.1.1
        have zb : b3 < w1.heap.size := HN.2.1.lt
        have hbl := (below_alloc w1 (.cells #[.int .i64 p, .int .i64 q] 172)).alloc (by simp) (.cells #[.int .i64 p, .int .i64 q, .int .i64 cc] 140)
        have HN2 : Hid ((PR ((w1.alloc (.cells #[.int .i64 p, .int .i64 q] 172)).alloc (.cells #[.int .i64 p, .int .i64 q, .int .i64 cc] 140)) g r N m (strike left p q) cnt2 ∧ Sam w0 ((w1.alloc (.cells #[.int .i64 p, .int .i64 q] 172)).alloc (.cells #[.int .i64 p, .int .i64 q, .int .i64 cc] 140)) (r + 1) b3 r) ∧ Blk3 ((w1.alloc (.cells #[.int .i64 p, .int .i64 q] 172)).alloc (.cells #[.int .i64 p, .int .i64 q, .int .i64 cc] 140)) b3 (.slice ao L.length cp) (.slice e1 nl f1) (.slice e2 nw f2) ∧ OwnM ((w1.alloc (.cells #[.int .i64 p, .int .i64 q] 172)).alloc (.cells #[.int .i64 p, .int .i64 q, .int .i64 cc] 140)) (r + 1) 140 3 (.slice ao L.length cp) L.length L.flatten) := ⟨⟨HN.1.1.later hbl, HN.1.2.later hbl⟩, HN.2.1.later hbl, HN.2.2.later hbl⟩
        have hown := HN2.out.2.2
        clear hpr hcl HR hPR1 hg1 hlt hs1 HN hcl1 hx hy hlf hm hbl hc
        go_wp2_with (at_builtin; refine wpList_append_own _ rfl _ _ 33 rfl (r + 1) 140 i0 (.agg #[.int .i64 0, .int .i64 0, .int .i64 0]) 3 24 Tryz.underlying33 hi hz0 hz1 hz2 rfl (by decide) _ _ _ rfl hown ⟨_, 0, none⟩ 1 1 [.int .i64 p, .int .i64 q, .int .i64 cc] rfl rfl ?c1 ?c2 ?c3 ?c4 ?c5 ?_)
        case c1 =>
          intro j u hj
          match j, hj with
          | 0, hj => simp at hj; subst hj; simp [Addr.add]
          | 1, hj => simp at hj; subst hj; simp [Addr.add]
          | 2, hj => simp at hj; subst hj; simp [Addr.add]
        case c2 =>
          intro u hu
          simp at hu
          rcases hu with rfl | rfl | rfl <;> rfl
        case c3 => unfold maxLen; omega
        case c4 => omega
        case c5 => exact HN2.out.1.2.2.1
        intro v' w2 ho hg2 _
        rw [← List.map_flatten] at ho
        obtain ⟨ao', cp', rfl⟩ := (show OwnM w2 (r + 1) 140 3 v' (L.length + 1) (L.flatten ++ [p, q, cc]) from by unfold OwnM; rw [List.map_append]; exact ho).form
        have hvb : ∀ j, (Value.slice ao L.length cp).ownBlock = some j → r + 1 ≤ j := fun j hj => (HN2.out.2.2.block j hj).1
        have hB3 := HN2.out.2.1.kept (hg2.block b3 HN2.out.2.1.lt (fun e => by have := hvb b3 e.symm; omega))
        have HRn : Hid (Rnd w w0 g r N m b3 (.slice e1 nl f1) (.slice e2 nw f2) (strike left p q) cnt2 (.slice ao' (L.length + 1) cp') (L ++ [[p, q, cc]]) (w2.setCell ⟨b3, 0, none⟩ (.slice ao' (L.length + 1) cp'))) := Rnd.put hg3 hbr HN2.out HX.out.2 HX.out.1.1.1 HX.out.1.1.2 HX.out.1.2.1 HX.out.1.2.2 hlen ho hg2
        obtain ⟨⟨y0, _, _⟩, z0, _, _⟩ := hB3
        clear ho hg2 hvb hown HN2 t0 HX
        go_wp2
        go_roundw
        case rel => exact ⟨_, _, _, _, HRn⟩
        case measure => rw [HRn.out.pr.left_eq]; exact HLT.out
  refine wp_region_held_drew (S := ColBox w b oo (.map (some g)) (.slice b1 nl d1) (.slice b2 nw d2)) (by kernel_rfl) h0 (fun hS => ?_)
  clear h0
  refine wpAnyH_take (i := 0) (v := ?_) rfl (by kernel_rfl) (by kernel_rfl) (by kernel_rfl) (fun _ _ _ h => h) (Or.inl ⟨by kernel_rfl, ?_⟩) hS ?_
  rotate_left
  · intro wx hx
    obtain ⟨⟨⟨hx0, hx1, hx2⟩, _⟩, _⟩ := hx
    go_simp
    try with_reducible rfl
  refine wpAnyH_take (i := 1) (v := ?_) rfl (by kernel_rfl) (by kernel_rfl) (by kernel_rfl) (fun _ _ _ h => h) (Or.inl ⟨by kernel_rfl, ?_⟩) hS ?_
  rotate_left
  · intro wx hx
    obtain ⟨⟨⟨hx0, hx1, hx2⟩, _⟩, _⟩ := hx
    go_simp
    try with_reducible rfl
  refine wpAnyH_take (i := 2) (v := ?_) rfl (by kernel_rfl) (by kernel_rfl) (by kernel_rfl) (fun _ _ _ h => h) (Or.inl ⟨by kernel_rfl, ?_⟩) hS ?_
  rotate_left
  · intro wx hx
    obtain ⟨⟨⟨hx0, hx1, hx2⟩, _⟩, _⟩ := hx
    go_simp
    try with_reducible rfl
  refine wpAnyH_take (i := 3) (v := ?_) rfl (by kernel_rfl) (by kernel_rfl) (by kernel_rfl) (fun _ _ _ h => h) (Or.inl ⟨by kernel_rfl, ?_⟩) hS ?_
  rotate_left
  · intro wx hx
    obtain ⟨⟨⟨hx0, hx1, hx2⟩, _⟩, _⟩ := hx
    go_simp
    try with_reducible rfl
  refine wpAnyH_take (i := 5) (v := ?_) rfl (by kernel_rfl) (by kernel_rfl) (by kernel_rfl) (fun _ _ _ h => h) (Or.inl ⟨by kernel_rfl, ?_⟩) hS ?_
  rotate_left
  · intro wx hx
    obtain ⟨⟨⟨hx0, hx1, hx2⟩, _⟩, _⟩ := hx
    go_simp
    try with_reducible rfl
  refine wpAnyH_take (i := 6) (v := ?_) rfl (by kernel_rfl) (by kernel_rfl) (by kernel_rfl) (fun _ _ _ h => h) (Or.inl ⟨by kernel_rfl, ?_⟩) hS ?_
  rotate_left
  · intro wx hx
    obtain ⟨⟨⟨hx0, hx1, hx2⟩, _⟩, _⟩ := hx
    go_simp
    try with_reducible rfl
  refine wpAnyH_take (i := 7) (v := ?_) rfl (by kernel_rfl) (by kernel_rfl) (by kernel_rfl) (fun _ _ _ h => h) (Or.inl ⟨by kernel_rfl, ?_⟩) hS ?_
  rotate_left
  · intro wx hx
    obtain ⟨⟨⟨hx0, hx1, hx2⟩, _⟩, _⟩ := hx
    go_simp
    try with_reducible rfl
  refine wpAnyH_take (i := 8) (v := ?_) rfl (by kernel_rfl) (by kernel_rfl) (by kernel_rfl) (fun _ _ _ h => h) (Or.inl ⟨by kernel_rfl, ?_⟩) hS ?_
  rotate_left
  · intro wx hx
    obtain ⟨⟨⟨hx0, hx1, hx2⟩, _⟩, _⟩ := hx
    go_simp
    try with_reducible rfl
  refine wpAnyH_ready (rs := [4, 11]) (by kernel_rfl) (by simp) ?_
  refine AllReadyH.cons rfl (fun K hK => ?_) (AllReadyH.cons rfl (fun K hK => ?_) AllReadyH.nil)
  · refine step_copy (by rfl) _ 34 (by rfl) 96 i1 (.agg #[.int .i64 0, .int .i64 0, .int .i64 0, .int .i64 0, .int .i64 0]) 5 40 Tryz.underlying34 hi1 hz01 hz11 hz21 rfl (by omega) (by omega) _ B nl l (.slice b1 nl d1) (by rfl) (H1.out.later (w' := (w.alloc (.cells #[.slice none 0 0, .slice none 0 0, .slice none 0 0] 37)).drew) (below_alloc _ _).drew) (by omega) ?_
    intro r1 wA ho1 hb1
    obtain ⟨e1, f1, rfl⟩ := ho1.form
    have hS' := hS.later hb1
    have HP1 : Hid (Pre w b oo N m g (.slice b1 nl d1) (.slice b2 nw d2) wA) := HP0.out.later hb1
    have HO1 : Hid (Own wA (w.heap.size + 1) 96 5 nl l (.slice e1 nl f1)) := by rw [size_drew] at ho1; exact ho1
    have zA : Hid (w.heap.size + 1 ≤ wA.heap.size) := by have := hb1.size; rw [size_drew] at this; exact this
    clear ho1 hb1
    go_simp
    refine hK.out _ _ hS' (fun hS => ?_)
    clear hK K hS'
    refine wpAnyH_ready (rs := [9, 11]) (by kernel_rfl) (by simp) ?_
    refine AllReadyH.cons rfl (fun K hK => ?_) (AllReadyH.cons rfl (fun K hK => ?_) AllReadyH.nil)
    · refine step_copy (by rfl) _ 35 (by rfl) 45 i2 (.agg #[.int .i64 0, .int .i64 0, .int .i64 0, .int .i64 0]) 4 32 Tryz.underlying35 hi2 hz02 hz12 hz22 rfl (by omega) (by omega) _ B nw k (.slice b2 nw d2) (by rfl) (H2.out.later HP1.out.below) (by omega) ?_
      intro r2 wB ho2 hb2
      obtain ⟨e2, f2, rfl⟩ := ho2.form
      have hS' := hS.later hb2
      have HP2 : Hid (Pre w b oo N m g (.slice b1 nl d1) (.slice b2 nw d2) wB) := HP1.out.later hb2
      have HLf : Hid (Leaf w b oo N m nl l nw k g (.slice b1 nl d1) (.slice b2 nw d2) wB.heap.size (.slice none 0 0) (.slice e1 nl f1) (.slice e2 nw f2) (.slice e1 nl f1) (.slice e2 nw f2) (wB.alloc (.cells #[.slice none 0 0, .slice e1 nl f1, .slice e2 nw f2] 37))) :=
        (HP2.out.later (below_alloc wB (.cells #[.slice none 0 0, .slice e1 nl f1, .slice e2 nw f2] 37))).leaf (Blk3.new wB _ _ _ _) (by have := zA.out; have := hb2.size; omega) ((HO1.out.later hb2).alloc _) ((ho2.mono zA.out).alloc _) (fun j hj => by have := HO1.out.block j hj; have := hb2.size; omega) (fun j hj => by have := ho2.block j hj; omega) (fun i j hi hj => by have := HO1.out.block i hi; have := ho2.block j hj; omega)
      clear ho2 hb2 HP1 HO1 zA
      go_simp
      refine hK.out _ _ hS' (fun hS => ?_)
      clear hK K hS'
      refine wpAnyH_take (i := 10) (v := ?_) rfl (by kernel_rfl) (by kernel_rfl) (by kernel_rfl) (fun _ _ _ h => h) (Or.inl ⟨by kernel_rfl, ?_⟩) hS ?_
      rotate_left
      · intro wx hx
        obtain ⟨⟨⟨hx0, hx1, hx2⟩, _⟩, _⟩ := hx
        go_simp
        try with_reducible rfl
      refine wpAnyH_ready (rs := [11]) (by kernel_rfl) (by simp) ?_
      refine AllReadyH.cons rfl (fun K hK => ?_) AllReadyH.nil
      go_simp
      refine hK.out _ _ (hS.later (below_alloc _ _)) (fun hS => ?_)
      clear hK K
      refine wpAnyH_ready (rs := [12]) (by kernel_rfl) (by simp) ?_
      refine AllReadyH.cons rfl (fun K hK => ?_) AllReadyH.nil
      go_simp
      refine hK.out _ _ ⟨HLf.out.cols, HLf.out.below⟩ (fun hS => ?_)
      clear hK K hS HP2
      refine wpAnyH_done (by kernel_rfl) ?_ _
      go_simp
      exact rest.out _ _ _ _ _ _ HLf.out
    · have hS' := hS.later (below_alloc wA (.cells #[.slice none 0 0, .slice none 0 0, .slice none 0 0] 37))
      have HP2 : Hid (Pre w b oo N m g (.slice b1 nl d1) (.slice b2 nw d2) (wA.alloc (.cells #[.slice none 0 0, .slice none 0 0, .slice none 0 0] 37))) := HP1.out.later (below_alloc wA (.cells #[.slice none 0 0, .slice none 0 0, .slice none 0 0] 37))
      have HO2 : Hid (Own (wA.alloc (.cells #[.slice none 0 0, .slice none 0 0, .slice none 0 0] 37)) (w.heap.size + 1) 96 5 nl l (.slice e1 nl f1)) := HO1.out.alloc _
      go_simp
      refine hK.out _ _ hS' (fun hS => ?_)
      clear hK K hS'
      refine wpAnyH_ready (rs := [9]) (by kernel_rfl) (by simp) ?_
      refine AllReadyH.cons rfl (fun K hK => ?_) AllReadyH.nil
      refine step_copy (by rfl) _ 35 (by rfl) 45 i2 (.agg #[.int .i64 0, .int .i64 0, .int .i64 0, .int .i64 0]) 4 32 Tryz.underlying35 hi2 hz02 hz12 hz22 rfl (by omega) (by omega) _ B nw k (.slice b2 nw d2) (by rfl) (H2.out.later HP2.out.below) (by omega) ?_
      intro r2 wC ho2 hb2
      obtain ⟨e2, f2, rfl⟩ := ho2.form
      have hS' := hS.later hb2
      rw [World.size_alloc] at ho2
      have HLf : Hid (Leaf w b oo N m nl l nw k g (.slice b1 nl d1) (.slice b2 nw d2) wA.heap.size (.slice none 0 0) (.slice none 0 0) (.slice none 0 0) (.slice e1 nl f1) (.slice e2 nw f2) wC) :=
        (HP2.out.later hb2).leaf ((Blk3.new wA _ _ _ _).later hb2) (by have := zA.out; omega) (HO2.out.later hb2) (ho2.mono (by have := zA.out; omega)) (fun j hj => by have := HO1.out.block j hj; omega) (fun j hj => by have := ho2.block j hj; omega) (fun i j hi hj => by have := HO1.out.block i hi; have := ho2.block j hj; omega)
      clear ho2 hb2 HP1 HO1 zA HP2 HO2
      go_simp
      refine hK.out _ _ hS' (fun hS => ?_)
      clear hK K hS'
      refine wpAnyH_take (i := 10) (v := ?_) rfl (by kernel_rfl) (by kernel_rfl) (by kernel_rfl) (fun _ _ _ h => h) (Or.inl ⟨by kernel_rfl, ?_⟩) hS ?_
      rotate_left
      · intro wx hx
        obtain ⟨⟨⟨hx0, hx1, hx2⟩, _⟩, _⟩ := hx
        go_simp
        try with_reducible rfl
      refine wpAnyH_ready (rs := [12]) (by kernel_rfl) (by simp) ?_
      refine AllReadyH.cons rfl (fun K hK => ?_) AllReadyH.nil
      obtain ⟨⟨y0, y1, y2⟩, z0, z1, z2⟩ := HLf.out.own
      have HLg : Hid (Leaf w b oo N m nl l nw k g (.slice b1 nl d1) (.slice b2 nw d2) wA.heap.size (.slice none 0 0) (.slice e1 nl f1) (.slice e2 nw f2) (.slice e1 nl f1) (.slice e2 nw f2) (((wC.setCell ⟨wA.heap.size, 0, none⟩ (.slice none 0 0)).setCell ⟨wA.heap.size, 1, none⟩ (.slice e1 nl f1)).setCell ⟨wA.heap.size, 2, none⟩ (.slice e2 nw f2))) := HLf.out.put _ _ _
      go_simp
      refine hK.out _ _ ⟨HLg.out.cols, HLg.out.below⟩ (fun hS => ?_)
      clear hK K hS
      refine wpAnyH_done (by kernel_rfl) ?_ _
      go_simp
      exact rest.out _ _ _ _ _ _ HLg.out
  · have hS' : ColBox w b oo (.map (some g)) (.slice b1 nl d1) (.slice b2 nw d2) ((w.alloc (.cells #[.slice none 0 0, .slice none 0 0, .slice none 0 0] 37)).alloc (.cells #[.slice none 0 0, .slice none 0 0, .slice none 0 0] 37)).drew := ⟨HPB.out.cols, HPB.out.below⟩
    go_simp
    refine hK.out _ _ hS' (fun hS => ?_)
    clear hK K hS'
    refine wpAnyH_ready (rs := [4]) (by kernel_rfl) (by simp) ?_
    refine AllReadyH.cons rfl (fun K hK => ?_) AllReadyH.nil
    refine step_copy (by rfl) _ 34 (by rfl) 96 i1 (.agg #[.int .i64 0, .int .i64 0, .int .i64 0, .int .i64 0, .int .i64 0]) 5 40 Tryz.underlying34 hi1 hz01 hz11 hz21 rfl (by omega) (by omega) ((w.alloc (.cells #[.slice none 0 0, .slice none 0 0, .slice none 0 0] 37)).alloc (.cells #[.slice none 0 0, .slice none 0 0, .slice none 0 0] 37)).drew B nl l (.slice b1 nl d1) (by rfl) (H1.out.later HPB.out.below) (by omega) ?_
    intro r1 wB ho1 hb1
    obtain ⟨e1, f1, rfl⟩ := ho1.form
    have hS' := hS.later hb1
    have HP1 : Hid (Pre w b oo N m g (.slice b1 nl d1) (.slice b2 nw d2) wB) := HPB.out.later hb1
    have hX : (((w.alloc (.cells #[.slice none 0 0, .slice none 0 0, .slice none 0 0] 37)).alloc (.cells #[.slice none 0 0, .slice none 0 0, .slice none 0 0] 37)).drew).heap.size = w.heap.size + 2 := by simp
    rw [hX] at ho1
    have HO1 : Hid (Own wB (w.heap.size + 2) 96 5 nl l (.slice e1 nl f1)) := ho1
    have zB : Hid (w.heap.size + 2 ≤ wB.heap.size) := by have := hb1.size; rw [hX] at this; exact this
    have HB1 : Hid (Blk3 wB (w.heap.size + 1) (.slice none 0 0) (.slice none 0 0) (.slice none 0 0)) := HBB.out.later (x := ((w.alloc (.cells #[.slice none 0 0, .slice none 0 0, .slice none 0 0] 37)).alloc (.cells #[.slice none 0 0, .slice none 0 0, .slice none 0 0] 37)).drew) hb1
    clear ho1 hb1 hX
    go_simp
    refine hK.out _ _ hS' (fun hS => ?_)
    clear hK K hS'
    refine wpAnyH_ready (rs := [9]) (by kernel_rfl) (by simp) ?_
    refine AllReadyH.cons rfl (fun K hK => ?_) AllReadyH.nil
    refine step_copy (by rfl) _ 35 (by rfl) 45 i2 (.agg #[.int .i64 0, .int .i64 0, .int .i64 0, .int .i64 0]) 4 32 Tryz.underlying35 hi2 hz02 hz12 hz22 rfl (by omega) (by omega) _ B nw k (.slice b2 nw d2) (by rfl) (H2.out.later HP1.out.below) (by omega) ?_
    intro r2 wC ho2 hb2
    obtain ⟨e2, f2, rfl⟩ := ho2.form
    have hS' := hS.later hb2
    have HLf : Hid (Leaf w b oo N m nl l nw k g (.slice b1 nl d1) (.slice b2 nw d2) (w.heap.size + 1) (.slice none 0 0) (.slice none 0 0) (.slice none 0 0) (.slice e1 nl f1) (.slice e2 nw f2) wC) :=
      (HP1.out.later hb2).leaf (HB1.out.later hb2) (Nat.lt_succ_self _) ((HO1.out.later hb2).mono (by omega)) (ho2.mono (by have := zB.out; omega)) (fun j hj => by have := HO1.out.block j hj; omega) (fun j hj => by have := ho2.block j hj; have := zB.out; omega) (fun i j hi hj => by have := HO1.out.block i hi; have := ho2.block j hj; omega)
    clear ho2 hb2 HP1 HO1 zB HB1
    go_simp
    refine hK.out _ _ hS' (fun hS => ?_)
    clear hK K hS'
    refine wpAnyH_take (i := 10) (v := ?_) rfl (by kernel_rfl) (by kernel_rfl) (by kernel_rfl) (fun _ _ _ h => h) (Or.inl ⟨by kernel_rfl, ?_⟩) hS ?_
    rotate_left
    · intro wx hx
      obtain ⟨⟨⟨hx0, hx1, hx2⟩, _⟩, _⟩ := hx
      go_simp
      try with_reducible rfl
    refine wpAnyH_ready (rs := [12]) (by kernel_rfl) (by simp) ?_
    refine AllReadyH.cons rfl (fun K hK => ?_) AllReadyH.nil
    obtain ⟨⟨y0, y1, y2⟩, z0, z1, z2⟩ := HLf.out.own
    have HLg : Hid (Leaf w b oo N m nl l nw k g (.slice b1 nl d1) (.slice b2 nw d2) (w.heap.size + 1) (.slice none 0 0) (.slice e1 nl f1) (.slice e2 nw f2) (.slice e1 nl f1) (.slice e2 nw f2) (((wC.setCell ⟨w.heap.size + 1, 0, none⟩ (.slice none 0 0)).setCell ⟨w.heap.size + 1, 1, none⟩ (.slice e1 nl f1)).setCell ⟨w.heap.size + 1, 2, none⟩ (.slice e2 nw f2))) := HLf.out.put _ _ _
    go_simp
    refine hK.out _ _ ⟨HLg.out.cols, HLg.out.below⟩ (fun hS => ?_)
    clear hK K hS
    refine wpAnyH_done (by kernel_rfl) ?_ _
    go_simp
    exact rest.out _ _ _ _ _ _ HLg.out
theorem store_is (B b N : Nat) (m : Int → Int → Option Int) (nl : Nat) (l : Nat → Int) (nw : Nat) (k : Nat → Int) (g : Nat) (u1 u2 : Value) (w : World) (h : Cols w B b N m nl l nw k g u1 u2) (hl : nl ≤ 200) (hw : nw ≤ 200) (hN : N ≤ 400) (nc : Nat) (c : Nat → Int) (hM : MapRow m nc c) :
    Calls Tryz.prog 63 #[.pointer (some ⟨b, 0, none⟩)] w (NewSto w ⟨nc, c, nl, l, nw, k⟩) := store_isO B b 0 N m nl l nw k g u1 u2 w h.o hl hw hN nc c hM
end Go.Proofs.YtpfmbfmlpoibeaaGreat
