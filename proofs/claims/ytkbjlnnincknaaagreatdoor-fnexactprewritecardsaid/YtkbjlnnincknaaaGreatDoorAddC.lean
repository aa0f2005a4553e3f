/-
  Own text, merged of AddA, AddW, AddL, AddC.
-/
import Derived.Test.YtkbjlnnincknaaaGreatDoorPartA
import Derived.Test.YtkbjlnnincknaaaGreatDoorColsE
import Derived.Deep.RegionHeld
import Derived.Deep.AppendLies
import Derived.Laws.AppendOwnNone
namespace Go.Proofs.YtkbjlnnincknaaaGreatDoor
section
open Go.RowKit
-- Own text. An append of a row of structs behind a row that a call has made: plain facts, no condition but that the rows are no longer than a million.
/-- The first N numbers. -/
def nums (F : Nat → Int) (N : Nat) : List Int := (List.range N).map F
theorem nums_length (F : Nat → Int) (N : Nat) : (nums F N).length = N := by simp [nums]
theorem nums_vals (F : Nat → Int) (N : Nat) : (nums F N).map (Value.int .i64) = vals F N := by simp [nums, vals]
theorem run_app (t ty e : TypeId) (i : TypeInfo) (z : Value) (m bytes : Nat) (ht : Tryz.prog.underlying t = some (.slice e)) (hi : Tryz.prog.info? e = some i) (hz : i.zero = some z) (hsize : i.size = m) (hby : i.bytes = bytes) (hzs : z.cells.size = m) (hm : 0 < m) (hb5 : bytes ≤ 1000)
    (w : World) (base n0 : Nat) (L : List Int) (v : Value) (hown : OwnM w base e m v n0 L) (B n : Nat) (F : Nat → Int) (x : Value) (h : Row w B m n F x) (hn : n0 + n ≤ 1048576) (hbase : base ≤ w.heap.size) :
    ∃ ao cp w', (Builtin.append_ #[t, t] ty #[v, x]).run Tryz.prog w = .ok (.slice ao (n0 + n) cp) w' ∧ OwnM w' base e m (.slice ao (n0 + n) cp) (n0 + n) (L ++ nums F (n * m)) ∧ w.grownBy w' v.ownBlock := by
  have hbb : (n0 + n) * bytes ≤ 1048576 * 1000 := Nat.mul_le_mul hn hb5
  obtain ⟨ao, cp, rfl⟩ := h.form
  cases ao with
  | none =>
    have e0 : n = 0 := by
      rcases Nat.eq_zero_or_pos n with q | q
      · exact q
      · obtain ⟨g, o, hg, _⟩ := h.at q
        cases hg
    subst e0
    obtain ⟨av, cv, rfl⟩ := hown.form
    refine ⟨av, cv, w, ?_, ?_, ⟨rfl, rfl, rfl, Nat.le_refl _, fun _ _ _ => rfl⟩⟩
    · rcases hown.2 with ⟨q, _⟩ | ⟨g, cap, cur, q, _, _, hnc, _⟩
      · cases q
        simp [Builtin.append_, run_underlying ht, sizeOf, typeInfo, hi, Builtin.lenOf, Builtin.firstCells]
      · cases q
        simp [Builtin.append_, run_underlying ht, sizeOf, typeInfo, hi, Builtin.lenOf, Builtin.firstCells, hnc, storeCells]
    · simpa [nums] using hown
  | some a =>
    obtain ⟨v', w', h1, h2, h3, _⟩ := run_append_own (P := Tryz.prog) w base t ty e i z m bytes ht hi hz hsize hby hzs hm v n0 _ hown a n cp (vals F (n * m)) (vals_length _ _) (row_cells h) (vals_one _ _) (by unfold maxLen; omega) (by omega) hbase
    have h2' : OwnM w' base e m v' (n0 + n) (L ++ nums F (n * m)) := by
      unfold OwnM
      rw [List.map_append, nums_vals]
      exact h2
    obtain ⟨ao', cp', rfl⟩ := h2'.form
    exact ⟨ao', cp', w', h1, h2', h3⟩
/-- The law for the walk. -/
theorem wpList_app (e : TypeId) (i : TypeInfo) (z : Value) (m bytes : Nat) {ops : Array Oper} {rest : List Oper} {o : Oper} {a : Act} {Q : Exit → Act → World → Prop} (hgd : o.guard = none) (s x : Operand) (t : TypeId) (ho : o.op = .call { callee := .builtin .append, args := #[s, x], argTypes := #[t, t] })
    (ht : Tryz.prog.underlying t = some (.slice e)) (hi : Tryz.prog.info? e = some i) (hz : i.zero = some z) (hsize : i.size = m) (hby : i.bytes = bytes) (hzs : z.cells.size = m) (hm : 0 < m) (hb5 : bytes ≤ 1000)
    (w : World) (base n0 : Nat) (L : List Int) (v : Value) (hs : a.eval s = v) (hown : OwnM w base e m v n0 L) (B n : Nat) (F : Nat → Int) (u : Value) (hx : a.eval x = u) (h : Row w B m n F u) (hn : n0 + n ≤ 1048576) (hbase : base ≤ w.heap.size)
    (hK : ∀ ao cp w', OwnM w' base e m (.slice ao (n0 + n) cp) (n0 + n) (L ++ nums F (n * m)) → w.grownBy w' v.ownBlock → wpList Tryz.prog ops Q rest (a.put o.dst (.slice ao (n0 + n) cp)) w') : wpList Tryz.prog ops Q (o :: rest) a w := by
  refine wpList_plain hgd fun K hK' => ?_
  obtain ⟨ao, cp, w', hr, h2, h3⟩ := run_app t o.type e i z m bytes ht hi hz hsize hby hzs hm hb5 w base n0 L v hown B n F u h hn hbase
  unfold Oper.wp execOp
  simp only [ho, resolve, invoke, builtin, Sem.run_bind, Sem.run_pure, Result.andThen_ok, List.map_toArray, List.map_cons, List.map_nil, hs, hx, hr]
  exact hK' _ _ (hK ao cp w' h2 h3)
/-- .. and at one operation. -/
theorem wp_app (e : TypeId) (i : TypeInfo) (z : Value) (m bytes : Nat) {o : Oper} {a : Act} {K : Act → World → Prop} {Q : Exit → Act → World → Prop} (s x : Operand) (t : TypeId) (ho : o.op = .call { callee := .builtin .append, args := #[s, x], argTypes := #[t, t] })
    (ht : Tryz.prog.underlying t = some (.slice e)) (hi : Tryz.prog.info? e = some i) (hz : i.zero = some z) (hsize : i.size = m) (hby : i.bytes = bytes) (hzs : z.cells.size = m) (hm : 0 < m) (hb5 : bytes ≤ 1000)
    (w : World) (base n0 : Nat) (L : List Int) (v : Value) (hs : a.eval s = v) (hown : OwnM w base e m v n0 L) (B n : Nat) (F : Nat → Int) (u : Value) (hx : a.eval x = u) (h : Row w B m n F u) (hn : n0 + n ≤ 1048576) (hbase : base ≤ w.heap.size)
    (hK : ∀ ao cp w', OwnM w' base e m (.slice ao (n0 + n) cp) (n0 + n) (L ++ nums F (n * m)) → w.grownBy w' v.ownBlock → K (a.put o.dst (.slice ao (n0 + n) cp)) w') : o.wp Tryz.prog a w K Q := by
  obtain ⟨ao, cp, w', hr, h2, h3⟩ := run_app t o.type e i z m bytes ht hi hz hsize hby hzs hm hb5 w base n0 L v hown B n F u h hn hbase
  unfold Oper.wp execOp
  simp only [ho, resolve, invoke, builtin, Sem.run_bind, Sem.run_pure, Result.andThen_ok, List.map_toArray, List.map_cons, List.map_nil, hs, hx, hr]
  exact hK ao cp w' h2 h3
/-- .. and at one step of a region that draws. -/
theorem step_app (e : TypeId) (i : TypeInfo) (z : Value) (m bytes : Nat) {ops : Array Oper} {o : Oper} {a : Act} {K : Act → World → Prop} {Q : Exit → Act → World → Prop} {E : Prop} (hgd : o.guard = none) (s x : Operand) (t : TypeId) (ho : o.op = .call { callee := .builtin .append, args := #[s, x], argTypes := #[t, t] })
    (ht : Tryz.prog.underlying t = some (.slice e)) (hi : Tryz.prog.info? e = some i) (hz : i.zero = some z) (hsize : i.size = m) (hby : i.bytes = bytes) (hzs : z.cells.size = m) (hm : 0 < m) (hb5 : bytes ≤ 1000)
    (w : World) (base n0 : Nat) (L : List Int) (v : Value) (hs : a.eval s = v) (hown : OwnM w base e m v n0 L) (B n : Nat) (F : Nat → Int) (u : Value) (hx : a.eval x = u) (h : Row w B m n F u) (hn : n0 + n ≤ 1048576) (hbase : base ≤ w.heap.size)
    (hK : ∀ ao cp w', OwnM w' base e m (.slice ao (n0 + n) cp) (n0 + n) (L ++ nums F (n * m)) → w.grownBy w' v.ownBlock → K (a.put o.dst (.slice ao (n0 + n) cp)) w') :
    if Region.wanted o (yielded ops a.tmps) = true then Oper.wp Tryz.prog o a w K Q else E := by
  have hw : Region.wanted o (yielded ops a.tmps) = true := by simp [Region.wanted, hgd]
  rw [if_pos hw]
  exact wp_app e i z m bytes s x t ho ht hi hz hsize hby hzs hm hb5 w base n0 L v hs hown B n F u hx h hn hbase hK
theorem OwnM.lit0 (Y : World) (b : Nat) (e : TypeId) (m : Nat) (hb : Y.heap.size = b) : OwnM (Y.alloc (.cells #[] e)) b e m (.slice (some ⟨b, 0, none⟩) 0 0) 0 [] := by
  subst hb
  exact World.ownsRow_lit Y #[] 0 (Nat.le_refl _) (Nat.zero_le _) (by simp)
/-- The first k elements, and those from k on. -/
theorem Row.head {w : World} {B m n : Nat} {F : Nat → Int} {ao : Option Addr} {cp : Nat} (h : Row w B m n F (.slice ao n cp)) {k : Nat} (hk : k ≤ n) (c' : Nat) : Row w B m k F (.slice ao k c') := by
  obtain ⟨ao', cp', hv, h⟩ := h
  simp only [Value.slice.injEq] at hv
  obtain ⟨rfl, _, _⟩ := hv
  refine ⟨_, _, rfl, fun hn => ?_⟩
  obtain ⟨g, o, ha, hB, hg, hc⟩ := h (by omega)
  exact ⟨g, o, ha, hB, hg, fun p hp => hc p (Nat.lt_of_lt_of_le hp (Nat.mul_le_mul_right m hk))⟩
theorem Row.tail {w : World} {B m n g o : Nat} {F : Nat → Int} {cp : Nat} (h : Row w B m n F (.slice (some ⟨g, o, none⟩) n cp)) {k : Nat} (hk : k < n) (c' : Nat) : Row w B m (n - k) (fun p => F (k * m + p)) (.slice (some ⟨g, o + k * m, none⟩) (n - k) c') := by
  obtain ⟨ao', cp', hv, h⟩ := h
  obtain ⟨g', o', ha, hB, hg, hc⟩ := h (by omega)
  simp only [Value.slice.injEq] at hv
  obtain ⟨rfl, _, _⟩ := hv
  simp only [Option.some.injEq, Addr.mk.injEq] at ha
  obtain ⟨rfl, rfl, _⟩ := ha
  refine ⟨_, _, rfl, fun _ => ⟨g, o + k * m, rfl, hB, hg, fun p hp => ?_⟩⟩
  rw [Nat.add_assoc]
  refine hc _ ?_
  have e1 : (n - k) * m = n * m - k * m := Nat.sub_mul n k m
  have e2 : k * m ≤ n * m := Nat.mul_le_mul_right m (by omega)
  omega
theorem Row.tailS {w : World} {B m n g o : Nat} {F : Nat → Int} {cp : Nat} (h : Row w B m n F (.slice (some ⟨g, o, none⟩) n cp)) {k : Nat} (hk : k < n) (hc : n ≤ cp) : Row w B m (n - k) (fun p => F (k * m + p)) (.slice (if cp = k then some ⟨g, o, none⟩ else some ⟨g, o + k * m, none⟩) (n - k) (cp - k)) := by
  rw [if_neg (by omega)]
  exact h.tail hk _
theorem Row.over (w : World) (B m n k : Nat) (F : Nat → Int) (ao : Option Addr) (c : Nat) (hk : ¬ k < n) : Row w B m (n - k) F (.slice ao (n - k) c) := ⟨_, _, rfl, fun q => by omega⟩
end

section
open Go.RowKit
-- Own text. The model's l2AddWrite: one more write in its place, in a new row.
/-- Write j stands ahead of one of key a and commit b. -/
def aheadW (F : Nat → Int) (a b : Int) (j : Nat) : Prop := F (j * 4) < a ∨ F (j * 4) = a ∧ F (j * 4 + 1) < b
/-- The place of one more. -/
def placeAt (p : Nat → Prop) (n k : Nat) : Prop := k ≤ n ∧ (∀ j, j < k → p j) ∧ (k < n → ¬ p k)

/-- What the last region of l2AddWrite holds. -/
def AW (w : World) (B n : Nat) (F : Nat → Int) (ao : Option Addr) (cp : Nat) (x0 x1 x2 x3 : Int) (X : World) : Prop :=
  (X.cell? ⟨w.heap.size, 0, none⟩ = some (.int .i64 x0) ∧ X.cell? ⟨w.heap.size, 1, none⟩ = some (.int .i64 x1) ∧ X.cell? ⟨w.heap.size, 2, none⟩ = some (.int .i64 x2) ∧ X.cell? ⟨w.heap.size, 3, none⟩ = some (.int .i64 x3)) ∧ Row X B 4 n F (.slice ao n cp) ∧ Below w.heap.size w X
theorem AW.drew {w X : World} {B n : Nat} {F : Nat → Int} {ao : Option Addr} {cp : Nat} {x0 x1 x2 x3 : Int} (h : AW w B n F ao cp x0 x1 x2 x3 X) : AW w B n F ao cp x0 x1 x2 x3 X.drew := ⟨h.1, h.2.1, h.2.2.drew⟩
theorem AW.grown {w X X' : World} {B n : Nat} {F : Nat → Int} {ao : Option Addr} {cp : Nat} {x0 x1 x2 x3 : Int} {row : Option Nat} (h : AW w B n F ao cp x0 x1 x2 x3 X) (h0 : Row w B 4 n F (.slice ao n cp)) (hg : X.grownBy X' row) (hr : ∀ r, row = some r → w.heap.size < r) : AW w B n F ao cp x0 x1 x2 x3 X' := by
  obtain ⟨⟨c0, c1, c2, c3⟩, _, hb⟩ := h
  have far : ∀ k v, X.cell? ⟨w.heap.size, k, none⟩ = some v → X'.cell? ⟨w.heap.size, k, none⟩ = some v := fun k v hc => hg.cell hc (fun e => by have := hr _ e.symm; simp at this)
  have hb' : Below w.heap.size w X' := hb.grown hg hb.size (fun r e => Nat.le_of_lt (hr r e))
  exact ⟨⟨far _ _ c0, far _ _ c1, far _ _ c2, far _ _ c3⟩, h0.later hb', hb'⟩
theorem aw_first {w w2 : World} {B n q : Nat} {F : Nat → Int} {ao : Option Addr} {cp : Nat} {x0 x1 x2 x3 : Int} (h : Row w B 4 n F (.slice ao n cp))
    (hg : (((w.alloc (.cells #[.int .i64 x0, .int .i64 x1, .int .i64 x2, .int .i64 x3] 84)).drewN q).alloc (.cells #[] 84)).grownBy w2 (some (w.heap.size + 1))) : AW w B n F ao cp x0 x1 x2 x3 w2 := by
  have hb : Below w.heap.size w (((w.alloc (.cells #[.int .i64 x0, .int .i64 x1, .int .i64 x2, .int .i64 x3] 84)).drewN q).alloc (.cells #[] 84)) := (below_drewN ((Below.refl _ _).alloc (Nat.le_refl _) _) q).alloc (by simp) _
  have b1 : Below (w.heap.size + 1) (w.alloc (.cells #[.int .i64 x0, .int .i64 x1, .int .i64 x2, .int .i64 x3] 84)) (((w.alloc (.cells #[.int .i64 x0, .int .i64 x1, .int .i64 x2, .int .i64 x3] 84)).drewN q).alloc (.cells #[] 84)) := (below_drewN (Below.refl _ _) q).alloc (by simp) _
  have near : ∀ k v, (w.alloc (.cells #[.int .i64 x0, .int .i64 x1, .int .i64 x2, .int .i64 x3] 84)).cell? ⟨w.heap.size, k, none⟩ = some v → (((w.alloc (.cells #[.int .i64 x0, .int .i64 x1, .int .i64 x2, .int .i64 x3] 84)).drewN q).alloc (.cells #[] 84)).cell? ⟨w.heap.size, k, none⟩ = some v := fun k v hc => (b1.cell (p := ⟨w.heap.size, k, none⟩) (Nat.lt_succ_self _)).trans hc
  refine AW.grown (X := ((w.alloc (.cells #[.int .i64 x0, .int .i64 x1, .int .i64 x2, .int .i64 x3] 84)).drewN q).alloc (.cells #[] 84)) ⟨⟨near _ _ (World.cell?_alloc_mark w _ _ _ 0), near _ _ (World.cell?_alloc_mark w _ _ _ 1), near _ _ (World.cell?_alloc_mark w _ _ _ 2), near _ _ (World.cell?_alloc_mark w _ _ _ 3)⟩, h.later hb, hb⟩ h hg (fun r e => by cases e; omega)
theorem row_lit4 (w : World) (x0 x1 x2 x3 : Int) (t : TypeId) : Row (w.alloc (.cells #[.int .i64 x0, .int .i64 x1, .int .i64 x2, .int .i64 x3] t)) 0 4 1 (fun p => [x0, x1, x2, x3].getD p 0) (.slice (some ⟨w.heap.size, 0, none⟩) 1 1) := by
  refine ⟨_, _, rfl, fun _ => ⟨w.heap.size, 0, rfl, Nat.zero_le _, by simp, fun p hp => ?_⟩⟩
  rw [Nat.zero_add, World.cell?_alloc_mark]
  match p, hp with
  | 0, _ => rfl
  | 1, _ => rfl
  | 2, _ => rfl
  | 3, _ => rfl
theorem lt_cell {X : World} {b k : Nat} {v : Value} (h : X.cell? ⟨b, k, none⟩ = some v) : b < X.heap.size := World.block_lt_of_cell? X ⟨b, k, none⟩ h
/-- What l2AddWrite answers. -/
def AddedW (w : World) (n : Nat) (F : Nat → Int) (x0 x1 x2 x3 : Int) (e : Ending) (w' : World) : Prop := ∃ k ao' cp', placeAt (aheadW F x0 x1) n k ∧ e = .returned (.slice ao' (n + 1) cp') ∧
  OwnM w' w.heap.size 84 4 (.slice ao' (n + 1) cp') (n + 1) (nums F (k * 4) ++ [x0, x1, x2, x3] ++ nums (fun p => F (k * 4 + p)) ((n - k) * 4)) ∧ Below w.heap.size w w'
end

section
open Go.RowKit
-- Own text. The model's l2AddLock: one more write in its place, in a new row.
/-- Write j stands ahead of one of key a and commit b. -/
def aheadL (F : Nat → Int) (a : Int) (j : Nat) : Prop := F (j * 5) < a

/-- What the last region of l2AddLock holds. -/
def AL (w : World) (B n : Nat) (F : Nat → Int) (ao : Option Addr) (cp : Nat) (x0 x1 x2 x3 x4 : Int) (X : World) : Prop :=
  (X.cell? ⟨w.heap.size, 0, none⟩ = some (.int .i64 x0) ∧ X.cell? ⟨w.heap.size, 1, none⟩ = some (.int .i64 x1) ∧ X.cell? ⟨w.heap.size, 2, none⟩ = some (.int .i64 x2) ∧ X.cell? ⟨w.heap.size, 3, none⟩ = some (.int .i64 x3) ∧ X.cell? ⟨w.heap.size, 4, none⟩ = some (.int .i64 x4)) ∧ Row X B 5 n F (.slice ao n cp) ∧ Below w.heap.size w X
theorem AL.drew {w X : World} {B n : Nat} {F : Nat → Int} {ao : Option Addr} {cp : Nat} {x0 x1 x2 x3 x4 : Int} (h : AL w B n F ao cp x0 x1 x2 x3 x4 X) : AL w B n F ao cp x0 x1 x2 x3 x4 X.drew := ⟨h.1, h.2.1, h.2.2.drew⟩
theorem AL.grown {w X X' : World} {B n : Nat} {F : Nat → Int} {ao : Option Addr} {cp : Nat} {x0 x1 x2 x3 x4 : Int} {row : Option Nat} (h : AL w B n F ao cp x0 x1 x2 x3 x4 X) (h0 : Row w B 5 n F (.slice ao n cp)) (hg : X.grownBy X' row) (hr : ∀ r, row = some r → w.heap.size < r) : AL w B n F ao cp x0 x1 x2 x3 x4 X' := by
  obtain ⟨⟨c0, c1, c2, c3, c4⟩, _, hb⟩ := h
  have far : ∀ k v, X.cell? ⟨w.heap.size, k, none⟩ = some v → X'.cell? ⟨w.heap.size, k, none⟩ = some v := fun k v hc => hg.cell hc (fun e => by have := hr _ e.symm; simp at this)
  have hb' : Below w.heap.size w X' := hb.grown hg hb.size (fun r e => Nat.le_of_lt (hr r e))
  exact ⟨⟨far _ _ c0, far _ _ c1, far _ _ c2, far _ _ c3, far _ _ c4⟩, h0.later hb', hb'⟩
theorem al_first {w w2 : World} {B n q : Nat} {F : Nat → Int} {ao : Option Addr} {cp : Nat} {x0 x1 x2 x3 x4 : Int} (h : Row w B 5 n F (.slice ao n cp))
    (hg : (((w.alloc (.cells #[.int .i64 x0, .int .i64 x1, .int .i64 x2, .int .i64 x3, .int .i64 x4] 53)).drewN q).alloc (.cells #[] 53)).grownBy w2 (some (w.heap.size + 1))) : AL w B n F ao cp x0 x1 x2 x3 x4 w2 := by
  have hb : Below w.heap.size w (((w.alloc (.cells #[.int .i64 x0, .int .i64 x1, .int .i64 x2, .int .i64 x3, .int .i64 x4] 53)).drewN q).alloc (.cells #[] 53)) := (below_drewN ((Below.refl _ _).alloc (Nat.le_refl _) _) q).alloc (by simp) _
  have b1 : Below (w.heap.size + 1) (w.alloc (.cells #[.int .i64 x0, .int .i64 x1, .int .i64 x2, .int .i64 x3, .int .i64 x4] 53)) (((w.alloc (.cells #[.int .i64 x0, .int .i64 x1, .int .i64 x2, .int .i64 x3, .int .i64 x4] 53)).drewN q).alloc (.cells #[] 53)) := (below_drewN (Below.refl _ _) q).alloc (by simp) _
  have near : ∀ k v, (w.alloc (.cells #[.int .i64 x0, .int .i64 x1, .int .i64 x2, .int .i64 x3, .int .i64 x4] 53)).cell? ⟨w.heap.size, k, none⟩ = some v → (((w.alloc (.cells #[.int .i64 x0, .int .i64 x1, .int .i64 x2, .int .i64 x3, .int .i64 x4] 53)).drewN q).alloc (.cells #[] 53)).cell? ⟨w.heap.size, k, none⟩ = some v := fun k v hc => (b1.cell (p := ⟨w.heap.size, k, none⟩) (Nat.lt_succ_self _)).trans hc
  refine AL.grown (X := ((w.alloc (.cells #[.int .i64 x0, .int .i64 x1, .int .i64 x2, .int .i64 x3, .int .i64 x4] 53)).drewN q).alloc (.cells #[] 53)) ⟨⟨near _ _ (World.cell?_alloc_mark w _ _ _ 0), near _ _ (World.cell?_alloc_mark w _ _ _ 1), near _ _ (World.cell?_alloc_mark w _ _ _ 2), near _ _ (World.cell?_alloc_mark w _ _ _ 3), near _ _ (World.cell?_alloc_mark w _ _ _ 4)⟩, h.later hb, hb⟩ h hg (fun r e => by cases e; omega)
theorem row_lit5 (w : World) (x0 x1 x2 x3 x4 : Int) (t : TypeId) : Row (w.alloc (.cells #[.int .i64 x0, .int .i64 x1, .int .i64 x2, .int .i64 x3, .int .i64 x4] t)) 0 5 1 (fun p => [x0, x1, x2, x3, x4].getD p 0) (.slice (some ⟨w.heap.size, 0, none⟩) 1 1) := by
  refine ⟨_, _, rfl, fun _ => ⟨w.heap.size, 0, rfl, Nat.zero_le _, by simp, fun p hp => ?_⟩⟩
  rw [Nat.zero_add, World.cell?_alloc_mark]
  match p, hp with
  | 0, _ => rfl
  | 1, _ => rfl
  | 2, _ => rfl
  | 3, _ => rfl
  | 4, _ => rfl
/-- What l2AddLock answers. -/
def AddedL (w : World) (n : Nat) (F : Nat → Int) (x0 x1 x2 x3 x4 : Int) (e : Ending) (w' : World) : Prop := ∃ k ao' cp', placeAt (aheadL F x0) n k ∧ e = .returned (.slice ao' (n + 1) cp') ∧
  OwnM w' w.heap.size 53 5 (.slice ao' (n + 1) cp') (n + 1) (nums F (k * 5) ++ [x0, x1, x2, x3, x4] ++ nums (fun p => F (k * 5 + p)) ((n - k) * 5)) ∧ Below w.heap.size w w'
set_option maxRecDepth 100000 in
set_option maxHeartbeats 4000000 in
theorem l2AddLock_any (n : Nat) (F : Nat → Int) (ao : Option Addr) (cp : Nat) (B : Nat) (x0 x1 x2 x3 x4 : Int) (w : World) (h : Row w B 5 n F (.slice ao n cp)) (hn : n ≤ 1000) (hcap : n ≤ cp) :
    Calls Tryz.prog 47 #[.slice ao n cp, .agg #[.int .i64 x0, .int .i64 x1, .int .i64 x2, .int .i64 x3, .int .i64 x4]] w (AddedL w n F x0 x1 x2 x3 x4) := by
  have H : Hid (Row w B 5 n F (.slice ao n cp)) := h
  clear h
  obtain ⟨i0, hi, hz0, hz1, hz2⟩ := info_parts info_Lock
  go_enter Tryz.func47, Tryz.ntmps47
  go_wp2
  go_loopw [5] (fun i wr => ∃ k q : Nat, i = .int .i64 k ∧ k ≤ n ∧ Hid (∀ j, j < k → aheadL F x0 j) ∧ wr = (w.alloc (.cells #[.int .i64 x0, .int .i64 x1, .int .i64 x2, .int .i64 x3, .int .i64 x4] 53)).drewN q) (fun i _ => n - (intOf i).toNat)
  case atStart => exact ⟨0, 0, rfl, Nat.zero_le _, fun j hj => absurd hj (Nat.not_lt_zero j), rfl⟩
  case round =>
    obtain ⟨k, q, rfl, hk, hP, rfl⟩ := hrel
    by_cases hlt : k < n
    · obtain ⟨g, o, hao, _, hg, c0, c1, c2, c3, c4⟩ := H.out.at5 hlt
      subst hao
      have d0 : (w.alloc (.cells #[.int .i64 x0, .int .i64 x1, .int .i64 x2, .int .i64 x3, .int .i64 x4] 53)).cell? ⟨g, o + k * 5, none⟩ = some (.int .i64 (F (k * 5))) := (World.cell?_alloc_lt _ _ _ hg).trans c0
      have d1 : (w.alloc (.cells #[.int .i64 x0, .int .i64 x1, .int .i64 x2, .int .i64 x3, .int .i64 x4] 53)).cell? ⟨g, o + k * 5 + 1, none⟩ = some (.int .i64 (F (k * 5 + 1))) := (World.cell?_alloc_lt _ _ _ hg).trans c1
      obtain ⟨y0, N0⟩ : ∃ y, F (k * 5) = y := ⟨_, rfl⟩
      rw [N0] at d0
      have HA : Hid (aheadL F x0 k ↔ y0 < x0) := by unfold aheadL; rw [N0]; exact Iff.rfl
      clear c0 c1 c2 c3 c4 N0 d1
      by_cases h0 : y0 < x0
      · have HP : Hid (∀ j, j < k + 1 → aheadL F x0 j) := fun j hj => by
          rcases Nat.lt_or_ge j k with q | q
          · exact hP.out j q
          · obtain rfl : j = k := by omega
            exact HA.out.2 h0
        clear HA hP
        have t0 : decide (y0 < x0) = true := decide_eq_true h0
        go_wp2
        go_quiet (fail)
        go_wp2
        go_roundw
        case rel => exact ⟨k + 1, _, by go_num, by omega, HP, rfl⟩
        case measure => simp [intOf]; omega
      · have t0 : decide (y0 < x0) = false := decide_eq_false h0
        have HL : Hid (placeAt (aheadL F x0) n k) := ⟨hk, hP.out, fun _ q => h0 (HA.out.1 q)⟩
        clear HA hP
        go_wp2
        go_quiet (fail)
        have hkcp : k ≤ cp := by omega
        go_wp2_with (at_builtin; refine wpList_app 53 i0 (.agg #[.int .i64 0, .int .i64 0, .int .i64 0, .int .i64 0, .int .i64 0]) 5 40 rfl _ _ 29 rfl Tryz.underlying29 hi hz0 hz1 hz2 rfl (by omega) (by omega) _ (w.heap.size + 1) 0 [] _ rfl (OwnM.lit0 _ _ _ _ (by simp)) B k F _ rfl ((((H.out.head hk cp).alloc _).drewN _).alloc _) (by omega) (by simp) ?_; intro ao1 cp1 w2 O2 G2)
        rw [Nat.zero_add, List.nil_append] at O2
        have D2 := al_first H.out G2
        have O2' : Hid (OwnM w2 (w.heap.size + 1) 53 5 (.slice ao1 k cp1) k (nums F (k * 5))) := O2
        clear O2 G2
        refine wp_region_held_drew (S := AL w B n F (some ⟨g, o, none⟩) cp x0 x1 x2 x3 x4) (by kernel_rfl) D2.drew (fun hS => ?_)
        refine wpAnyH_take (i := 0) (v := ?_) rfl (by kernel_rfl) (by kernel_rfl) (by kernel_rfl) (fun _ _ _ h => h) (Or.inl ⟨by kernel_rfl, ?_⟩) hS ?_
        rotate_left
        · intro wx hx
          obtain ⟨⟨hx0, hx1, hx2, hx3, hx4⟩, _⟩ := hx
          go_simp
          try with_reducible rfl
        refine wpAnyH_take (i := 1) (v := ?_) rfl (by kernel_rfl) (by kernel_rfl) (by kernel_rfl) (fun _ _ _ h => h) (Or.inl ⟨by kernel_rfl, ?_⟩) hS ?_
        rotate_left
        · intro wx hx
          obtain ⟨⟨hx0, hx1, hx2, hx3, hx4⟩, _⟩ := hx
          go_simp
          try with_reducible rfl
        refine wpAnyH_take (i := 4) (v := ?_) rfl (by kernel_rfl) (by kernel_rfl) (by kernel_rfl) (fun _ _ _ h => h) (Or.inl ⟨by kernel_rfl, ?_⟩) hS ?_
        rotate_left
        · intro wx hx
          obtain ⟨⟨hx0, hx1, hx2, hx3, hx4⟩, _⟩ := hx
          go_simp
          try with_reducible rfl
        refine wpAnyH_take (i := 5) (v := ?_) rfl (by kernel_rfl) (by kernel_rfl) (by kernel_rfl) (fun _ _ _ h => h) (Or.inl ⟨by kernel_rfl, ?_⟩) hS ?_
        rotate_left
        · intro wx hx
          obtain ⟨⟨hx0, hx1, hx2, hx3, hx4⟩, _⟩ := hx
          go_simp
          try with_reducible rfl
        refine wpAnyH_take (i := 6) (v := ?_) rfl (by kernel_rfl) (by kernel_rfl) (by kernel_rfl) (fun _ _ _ h => h) (Or.inl ⟨by kernel_rfl, ?_⟩) hS ?_
        rotate_left
        · intro wx hx
          obtain ⟨⟨hx0, hx1, hx2, hx3, hx4⟩, _⟩ := hx
          go_simp
          try with_reducible rfl
        refine wpAnyH_ready (rs := [2]) (by kernel_rfl) (by simp) ?_
        refine AllReadyH.cons rfl (fun K hK => ?_) AllReadyH.nil
        go_simp
        have S3 := hS.grown H.out (World.grownBy_alloc w2.drew (.cells #[.int .i64 x0, .int .i64 x1, .int .i64 x2, .int .i64 x3, .int .i64 x4] 53) none) (fun r e => by cases e)
        have O3 : Hid (OwnM (w2.drew.alloc (.cells #[.int .i64 x0, .int .i64 x1, .int .i64 x2, .int .i64 x3, .int .i64 x4] 53)) (w.heap.size + 1) 53 5 (.slice ao1 k cp1) k (nums F (k * 5))) := O2'.out.later (below_alloc w2 _).drew
        have R3 : Hid (Row (w2.drew.alloc (.cells #[.int .i64 x0, .int .i64 x1, .int .i64 x2, .int .i64 x3, .int .i64 x4] 53)) 0 5 1 (fun p => [x0, x1, x2, x3, x4].getD p 0) (.slice (some ⟨w2.heap.size, 0, none⟩) 1 1)) := row_lit5 w2.drew x0 x1 x2 x3 x4 53
        refine hK.out _ _ S3 (fun hS => ?_)
        clear hK K S3
        refine wpAnyH_ready (rs := [3]) (by kernel_rfl) (by simp) ?_
        refine AllReadyH.cons rfl (fun K hK => ?_) AllReadyH.nil
        refine step_app 53 i0 (.agg #[.int .i64 0, .int .i64 0, .int .i64 0, .int .i64 0, .int .i64 0]) 5 40 (by rfl) _ _ 29 (by rfl) Tryz.underlying29 hi hz0 hz1 hz2 rfl (by omega) (by omega) _ (w.heap.size + 1) k (nums F (k * 5)) (.slice ao1 k cp1) (by rfl) O3.out 0 1 (fun p => [x0, x1, x2, x3, x4].getD p 0) (.slice (some ⟨w2.heap.size, 0, none⟩) 1 1) (by rfl) R3.out (by omega) (by have := hS.2.2.size; have := hS.1.1; have := lt_cell hS.1.1; omega) ?_
        intro ao3 cp3 w4 O4 G4
        have S4 := hS.grown H.out G4 (fun r e => by have := (O3.out.block r e).1; omega)
        have O4' : Hid (OwnM w4 (w.heap.size + 1) 53 5 (.slice ao3 (k + 1) cp3) (k + 1) (nums F (k * 5) ++ [x0, x1, x2, x3, x4])) := O4
        clear O4 G4 O3 R3 O2'
        refine hK.out _ _ S4 (fun hS => ?_)
        clear hK K S4
        refine wpAnyH_ready (rs := [7]) (by kernel_rfl) (by simp) ?_
        refine AllReadyH.cons rfl (fun K hK => ?_) AllReadyH.nil
        refine step_app 53 i0 (.agg #[.int .i64 0, .int .i64 0, .int .i64 0, .int .i64 0, .int .i64 0]) 5 40 (by rfl) _ _ 29 (by rfl) Tryz.underlying29 hi hz0 hz1 hz2 rfl (by omega) (by omega) _ (w.heap.size + 1) (k + 1) (nums F (k * 5) ++ [x0, x1, x2, x3, x4]) (.slice ao3 (k + 1) cp3) (by rfl) O4'.out B (n - k) (fun p => F (k * 5 + p)) (.slice (if cp = k then some ⟨g, o, none⟩ else some ⟨g, o + k * 5, none⟩) (n - k) (cp - k)) (by rfl) (hS.2.1.tailS hlt hcap) (by omega) (by have := hS.2.2.size; have := lt_cell hS.1.1; omega) ?_
        intro ao5 cp5 w6 O6 G6
        have S6 := hS.grown H.out G6 (fun r e => by have := (O4'.out.block r e).1; omega)
        have O6' : Hid (OwnM w6 w.heap.size 53 5 (.slice ao5 (n + 1) cp5) (n + 1) (nums F (k * 5) ++ [x0, x1, x2, x3, x4] ++ nums (fun p => F (k * 5 + p)) ((n - k) * 5))) := by
          have e1 : k + 1 + (n - k) = n + 1 := by omega
          rw [e1] at O6
          exact World.ownsRow.mono O6 (Nat.le_succ _)
        clear O6 G6 O4'
        refine hK.out _ _ S6 (fun hS => ?_)
        clear hK K S6
        refine wpAnyH_take (i := 8) (v := ?_) rfl (by kernel_rfl) (by kernel_rfl) (by kernel_rfl) (fun _ _ _ h => h) (Or.inl ⟨by kernel_rfl, ?_⟩) hS ?_
        rotate_left
        · intro wx hx
          obtain ⟨⟨hx0, hx1, hx2, hx3, hx4⟩, _⟩ := hx
          go_simp
          try with_reducible rfl
        refine wpAnyH_done (by kernel_rfl) ?_ _
        go_simp
        go_wp2
        all_goals
          go_ret
          refine ⟨k, ao5, cp5, HL.out, ?_, O6'.out, hS.2.2⟩
          show Ending.returned (Value.slice ao5 (k + 1 + (n - k)) cp5) = _
          rw [show k + 1 + (n - k) = n + 1 by omega]
    · have HL : Hid (placeAt (aheadL F x0) n k) := ⟨hk, hP.out, fun q => absurd q hlt⟩
      clear hP
      go_wp2
      go_quiet (fail)
      have hkcp : k ≤ cp := by omega
      go_wp2_with (at_builtin; refine wpList_app 53 i0 (.agg #[.int .i64 0, .int .i64 0, .int .i64 0, .int .i64 0, .int .i64 0]) 5 40 rfl _ _ 29 rfl Tryz.underlying29 hi hz0 hz1 hz2 rfl (by omega) (by omega) _ (w.heap.size + 1) 0 [] _ rfl (OwnM.lit0 _ _ _ _ (by simp)) B k F _ rfl ((((H.out.head hk cp).alloc _).drewN _).alloc _) (by omega) (by simp) ?_; intro ao1 cp1 w2 O2 G2)
      rw [Nat.zero_add, List.nil_append] at O2
      have D2 := al_first H.out G2
      have O2' : Hid (OwnM w2 (w.heap.size + 1) 53 5 (.slice ao1 k cp1) k (nums F (k * 5))) := O2
      clear O2 G2
      refine wp_region_held_drew (S := AL w B n F ao cp x0 x1 x2 x3 x4) (by kernel_rfl) D2.drew (fun hS => ?_)
      refine wpAnyH_take (i := 0) (v := ?_) rfl (by kernel_rfl) (by kernel_rfl) (by kernel_rfl) (fun _ _ _ h => h) (Or.inl ⟨by kernel_rfl, ?_⟩) hS ?_
      rotate_left
      · intro wx hx
        obtain ⟨⟨hx0, hx1, hx2, hx3, hx4⟩, _⟩ := hx
        go_simp
        try with_reducible rfl
      refine wpAnyH_take (i := 1) (v := ?_) rfl (by kernel_rfl) (by kernel_rfl) (by kernel_rfl) (fun _ _ _ h => h) (Or.inl ⟨by kernel_rfl, ?_⟩) hS ?_
      rotate_left
      · intro wx hx
        obtain ⟨⟨hx0, hx1, hx2, hx3, hx4⟩, _⟩ := hx
        go_simp
        try with_reducible rfl
      refine wpAnyH_take (i := 4) (v := ?_) rfl (by kernel_rfl) (by kernel_rfl) (by kernel_rfl) (fun _ _ _ h => h) (Or.inl ⟨by kernel_rfl, ?_⟩) hS ?_
      rotate_left
      · intro wx hx
        obtain ⟨⟨hx0, hx1, hx2, hx3, hx4⟩, _⟩ := hx
        go_simp
        try with_reducible rfl
      refine wpAnyH_take (i := 5) (v := ?_) rfl (by kernel_rfl) (by kernel_rfl) (by kernel_rfl) (fun _ _ _ h => h) (Or.inl ⟨by kernel_rfl, ?_⟩) hS ?_
      rotate_left
      · intro wx hx
        obtain ⟨⟨hx0, hx1, hx2, hx3, hx4⟩, _⟩ := hx
        go_simp
        try with_reducible rfl
      refine wpAnyH_take (i := 6) (v := ?_) rfl (by kernel_rfl) (by kernel_rfl) (by kernel_rfl) (fun _ _ _ h => h) (Or.inl ⟨by kernel_rfl, ?_⟩) hS ?_
      rotate_left
      · intro wx hx
        obtain ⟨⟨hx0, hx1, hx2, hx3, hx4⟩, _⟩ := hx
        go_simp
        try with_reducible rfl
      refine wpAnyH_ready (rs := [2]) (by kernel_rfl) (by simp) ?_
      refine AllReadyH.cons rfl (fun K hK => ?_) AllReadyH.nil
      go_simp
      have S3 := hS.grown H.out (World.grownBy_alloc w2.drew (.cells #[.int .i64 x0, .int .i64 x1, .int .i64 x2, .int .i64 x3, .int .i64 x4] 53) none) (fun r e => by cases e)
      have O3 : Hid (OwnM (w2.drew.alloc (.cells #[.int .i64 x0, .int .i64 x1, .int .i64 x2, .int .i64 x3, .int .i64 x4] 53)) (w.heap.size + 1) 53 5 (.slice ao1 k cp1) k (nums F (k * 5))) := O2'.out.later (below_alloc w2 _).drew
      have R3 : Hid (Row (w2.drew.alloc (.cells #[.int .i64 x0, .int .i64 x1, .int .i64 x2, .int .i64 x3, .int .i64 x4] 53)) 0 5 1 (fun p => [x0, x1, x2, x3, x4].getD p 0) (.slice (some ⟨w2.heap.size, 0, none⟩) 1 1)) := row_lit5 w2.drew x0 x1 x2 x3 x4 53
      refine hK.out _ _ S3 (fun hS => ?_)
      clear hK K S3
      refine wpAnyH_ready (rs := [3]) (by kernel_rfl) (by simp) ?_
      refine AllReadyH.cons rfl (fun K hK => ?_) AllReadyH.nil
      refine step_app 53 i0 (.agg #[.int .i64 0, .int .i64 0, .int .i64 0, .int .i64 0, .int .i64 0]) 5 40 (by rfl) _ _ 29 (by rfl) Tryz.underlying29 hi hz0 hz1 hz2 rfl (by omega) (by omega) _ (w.heap.size + 1) k (nums F (k * 5)) (.slice ao1 k cp1) (by rfl) O3.out 0 1 (fun p => [x0, x1, x2, x3, x4].getD p 0) (.slice (some ⟨w2.heap.size, 0, none⟩) 1 1) (by rfl) R3.out (by omega) (by have := hS.2.2.size; have := hS.1.1; have := lt_cell hS.1.1; omega) ?_
      intro ao3 cp3 w4 O4 G4
      have S4 := hS.grown H.out G4 (fun r e => by have := (O3.out.block r e).1; omega)
      have O4' : Hid (OwnM w4 (w.heap.size + 1) 53 5 (.slice ao3 (k + 1) cp3) (k + 1) (nums F (k * 5) ++ [x0, x1, x2, x3, x4])) := O4
      clear O4 G4 O3 R3 O2'
      refine hK.out _ _ S4 (fun hS => ?_)
      clear hK K S4
      refine wpAnyH_ready (rs := [7]) (by kernel_rfl) (by simp) ?_
      refine AllReadyH.cons rfl (fun K hK => ?_) AllReadyH.nil
      refine step_app 53 i0 (.agg #[.int .i64 0, .int .i64 0, .int .i64 0, .int .i64 0, .int .i64 0]) 5 40 (by rfl) _ _ 29 (by rfl) Tryz.underlying29 hi hz0 hz1 hz2 rfl (by omega) (by omega) _ (w.heap.size + 1) (k + 1) (nums F (k * 5) ++ [x0, x1, x2, x3, x4]) (.slice ao3 (k + 1) cp3) (by rfl) O4'.out B (n - k) (fun p => F (k * 5 + p)) (.slice (if cp = k then ao else Option.map (fun x => x.add (k * 5)) ao) (n - k) (cp - k)) (by rfl) (Row.over _ _ _ _ _ _ _ _ hlt) (by omega) (by have := hS.2.2.size; have := lt_cell hS.1.1; omega) ?_
      intro ao5 cp5 w6 O6 G6
      have S6 := hS.grown H.out G6 (fun r e => by have := (O4'.out.block r e).1; omega)
      have O6' : Hid (OwnM w6 w.heap.size 53 5 (.slice ao5 (n + 1) cp5) (n + 1) (nums F (k * 5) ++ [x0, x1, x2, x3, x4] ++ nums (fun p => F (k * 5 + p)) ((n - k) * 5))) := by
        have e1 : k + 1 + (n - k) = n + 1 := by omega
        rw [e1] at O6
        exact World.ownsRow.mono O6 (Nat.le_succ _)
      clear O6 G6 O4'
      refine hK.out _ _ S6 (fun hS => ?_)
      clear hK K S6
      refine wpAnyH_take (i := 8) (v := ?_) rfl (by kernel_rfl) (by kernel_rfl) (by kernel_rfl) (fun _ _ _ h => h) (Or.inl ⟨by kernel_rfl, ?_⟩) hS ?_
      rotate_left
      · intro wx hx
        obtain ⟨⟨hx0, hx1, hx2, hx3, hx4⟩, _⟩ := hx
        go_simp
        try with_reducible rfl
      refine wpAnyH_done (by kernel_rfl) ?_ _
      go_simp
      go_wp2
      all_goals
        go_ret
        refine ⟨k, ao5, cp5, HL.out, ?_, O6'.out, hS.2.2⟩
        show Ending.returned (Value.slice ao5 (k + 1 + (n - k)) cp5) = _
        rw [show k + 1 + (n - k) = n + 1 by omega]
end

section
open Go.RowKit
-- Own text. The model's l2AddCell: one more write in its place, in a new row.
/-- Write j stands ahead of one of key a and commit b. -/
def aheadC (F : Nat → Int) (a b : Int) (j : Nat) : Prop := F (j * 3) < a ∨ F (j * 3) = a ∧ F (j * 3 + 1) < b

/-- What the last region of l2AddCell holds. -/
def AC (w : World) (B n : Nat) (F : Nat → Int) (ao : Option Addr) (cp : Nat) (x0 x1 x2 : Int) (X : World) : Prop :=
  (X.cell? ⟨w.heap.size, 0, none⟩ = some (.int .i64 x0) ∧ X.cell? ⟨w.heap.size, 1, none⟩ = some (.int .i64 x1) ∧ X.cell? ⟨w.heap.size, 2, none⟩ = some (.int .i64 x2)) ∧ Row X B 3 n F (.slice ao n cp) ∧ Below w.heap.size w X
theorem AC.drew {w X : World} {B n : Nat} {F : Nat → Int} {ao : Option Addr} {cp : Nat} {x0 x1 x2 : Int} (h : AC w B n F ao cp x0 x1 x2 X) : AC w B n F ao cp x0 x1 x2 X.drew := ⟨h.1, h.2.1, h.2.2.drew⟩
theorem AC.grown {w X X' : World} {B n : Nat} {F : Nat → Int} {ao : Option Addr} {cp : Nat} {x0 x1 x2 : Int} {row : Option Nat} (h : AC w B n F ao cp x0 x1 x2 X) (h0 : Row w B 3 n F (.slice ao n cp)) (hg : X.grownBy X' row) (hr : ∀ r, row = some r → w.heap.size < r) : AC w B n F ao cp x0 x1 x2 X' := by
  obtain ⟨⟨c0, c1, c2⟩, _, hb⟩ := h
  have far : ∀ k v, X.cell? ⟨w.heap.size, k, none⟩ = some v → X'.cell? ⟨w.heap.size, k, none⟩ = some v := fun k v hc => hg.cell hc (fun e => by have := hr _ e.symm; simp at this)
  have hb' : Below w.heap.size w X' := hb.grown hg hb.size (fun r e => Nat.le_of_lt (hr r e))
  exact ⟨⟨far _ _ c0, far _ _ c1, far _ _ c2⟩, h0.later hb', hb'⟩
theorem ac_first {w w2 : World} {B n q : Nat} {F : Nat → Int} {ao : Option Addr} {cp : Nat} {x0 x1 x2 : Int} (h : Row w B 3 n F (.slice ao n cp))
    (hg : (((w.alloc (.cells #[.int .i64 x0, .int .i64 x1, .int .i64 x2] 78)).drewN q).alloc (.cells #[] 78)).grownBy w2 (some (w.heap.size + 1))) : AC w B n F ao cp x0 x1 x2 w2 := by
  have hb : Below w.heap.size w (((w.alloc (.cells #[.int .i64 x0, .int .i64 x1, .int .i64 x2] 78)).drewN q).alloc (.cells #[] 78)) := (below_drewN ((Below.refl _ _).alloc (Nat.le_refl _) _) q).alloc (by simp) _
  have b1 : Below (w.heap.size + 1) (w.alloc (.cells #[.int .i64 x0, .int .i64 x1, .int .i64 x2] 78)) (((w.alloc (.cells #[.int .i64 x0, .int .i64 x1, .int .i64 x2] 78)).drewN q).alloc (.cells #[] 78)) := (below_drewN (Below.refl _ _) q).alloc (by simp) _
  have near : ∀ k v, (w.alloc (.cells #[.int .i64 x0, .int .i64 x1, .int .i64 x2] 78)).cell? ⟨w.heap.size, k, none⟩ = some v → (((w.alloc (.cells #[.int .i64 x0, .int .i64 x1, .int .i64 x2] 78)).drewN q).alloc (.cells #[] 78)).cell? ⟨w.heap.size, k, none⟩ = some v := fun k v hc => (b1.cell (p := ⟨w.heap.size, k, none⟩) (Nat.lt_succ_self _)).trans hc
  refine AC.grown (X := ((w.alloc (.cells #[.int .i64 x0, .int .i64 x1, .int .i64 x2] 78)).drewN q).alloc (.cells #[] 78)) ⟨⟨near _ _ (World.cell?_alloc_mark w _ _ _ 0), near _ _ (World.cell?_alloc_mark w _ _ _ 1), near _ _ (World.cell?_alloc_mark w _ _ _ 2)⟩, h.later hb, hb⟩ h hg (fun r e => by cases e; omega)
theorem row_lit3 (w : World) (x0 x1 x2 : Int) (t : TypeId) : Row (w.alloc (.cells #[.int .i64 x0, .int .i64 x1, .int .i64 x2] t)) 0 3 1 (fun p => [x0, x1, x2].getD p 0) (.slice (some ⟨w.heap.size, 0, none⟩) 1 1) := by
  refine ⟨_, _, rfl, fun _ => ⟨w.heap.size, 0, rfl, Nat.zero_le _, by simp, fun p hp => ?_⟩⟩
  rw [Nat.zero_add, World.cell?_alloc_mark]
  match p, hp with
  | 0, _ => rfl
  | 1, _ => rfl
  | 2, _ => rfl
/-- What l2AddCell answers. -/
def AddedC (w : World) (n : Nat) (F : Nat → Int) (x0 x1 x2 : Int) (e : Ending) (w' : World) : Prop := ∃ k ao' cp', placeAt (aheadC F x0 x1) n k ∧ e = .returned (.slice ao' (n + 1) cp') ∧
  OwnM w' w.heap.size 78 3 (.slice ao' (n + 1) cp') (n + 1) (nums F (k * 3) ++ [x0, x1, x2] ++ nums (fun p => F (k * 3 + p)) ((n - k) * 3)) ∧ Below w.heap.size w w'
set_option maxRecDepth 100000 in
set_option maxHeartbeats 4000000 in
theorem l2AddCell_any (n : Nat) (F : Nat → Int) (ao : Option Addr) (cp : Nat) (B : Nat) (x0 x1 x2 : Int) (w : World) (h : Row w B 3 n F (.slice ao n cp)) (hn : n ≤ 1000) (hcap : n ≤ cp) :
    Calls Tryz.prog 48 #[.slice ao n cp, .agg #[.int .i64 x0, .int .i64 x1, .int .i64 x2]] w (AddedC w n F x0 x1 x2) := by
  have H : Hid (Row w B 3 n F (.slice ao n cp)) := h
  clear h
  obtain ⟨i0, hi, hz0, hz1, hz2⟩ := info_parts info_Cell
  go_enter Tryz.func48, Tryz.ntmps48
  go_wp2
  go_loopw [5] (fun i wr => ∃ k q : Nat, i = .int .i64 k ∧ k ≤ n ∧ Hid (∀ j, j < k → aheadC F x0 x1 j) ∧ wr = (w.alloc (.cells #[.int .i64 x0, .int .i64 x1, .int .i64 x2] 78)).drewN q) (fun i _ => n - (intOf i).toNat)
  case atStart => exact ⟨0, 0, rfl, Nat.zero_le _, fun j hj => absurd hj (Nat.not_lt_zero j), rfl⟩
  case round =>
    obtain ⟨k, q, rfl, hk, hP, rfl⟩ := hrel
    by_cases hlt : k < n
    · obtain ⟨g, o, hao, _, hg, c0, c1, c2⟩ := H.out.at3 hlt
      subst hao
      have d0 : (w.alloc (.cells #[.int .i64 x0, .int .i64 x1, .int .i64 x2] 78)).cell? ⟨g, o + k * 3, none⟩ = some (.int .i64 (F (k * 3))) := (World.cell?_alloc_lt _ _ _ hg).trans c0
      have d1 : (w.alloc (.cells #[.int .i64 x0, .int .i64 x1, .int .i64 x2] 78)).cell? ⟨g, o + k * 3 + 1, none⟩ = some (.int .i64 (F (k * 3 + 1))) := (World.cell?_alloc_lt _ _ _ hg).trans c1
      obtain ⟨y0, N0⟩ : ∃ y, F (k * 3) = y := ⟨_, rfl⟩
      obtain ⟨y1, N1⟩ : ∃ y, F (k * 3 + 1) = y := ⟨_, rfl⟩
      rw [N0] at d0
      rw [N1] at d1
      have HA : Hid (aheadC F x0 x1 k ↔ y0 < x0 ∨ y0 = x0 ∧ y1 < x1) := by unfold aheadC; rw [N0, N1]; exact Iff.rfl
      clear c0 c1 c2 N0 N1
      by_cases h0 : y0 < x0
      · have HP : Hid (∀ j, j < k + 1 → aheadC F x0 x1 j) := fun j hj => by
          rcases Nat.lt_or_ge j k with q | q
          · exact hP.out j q
          · obtain rfl : j = k := by omega
            exact HA.out.2 (Or.inl h0)
        clear HA hP
        have t0 : decide (y0 < x0) = true := decide_eq_true h0
        go_wp2
        go_quiet (fail)
        go_wp2
        go_roundw
        case rel => exact ⟨k + 1, _, by go_num, by omega, HP, rfl⟩
        case measure => simp [intOf]; omega
      · have t0 : decide (y0 < x0) = false := decide_eq_false h0
        by_cases h1 : y0 = x0
        · have t1 : (y0 == x0) = true := beq_iff_eq.2 h1
          by_cases h2 : y1 < x1
          · have HP : Hid (∀ j, j < k + 1 → aheadC F x0 x1 j) := fun j hj => by
              rcases Nat.lt_or_ge j k with q | q
              · exact hP.out j q
              · obtain rfl : j = k := by omega
                exact HA.out.2 (Or.inr ⟨h1, h2⟩)
            have t2 : decide (y1 < x1) = true := decide_eq_true h2
            clear HA hP
            subst h1
            go_wp2
            go_quiet (fail)
            go_wp2
            go_roundw
            case rel => exact ⟨k + 1, _, by go_num, by omega, HP, rfl⟩
            case measure => simp [intOf]; omega
          · have HL : Hid (placeAt (aheadC F x0 x1) n k) := ⟨hk, hP.out, fun _ q => by rcases HA.out.1 q with r | r; exact h0 r; exact h2 r.2⟩
            have t2 : decide (y1 < x1) = false := decide_eq_false h2
            clear HA hP
            subst h1
            go_wp2
            go_quiet (fail)
            have hkcp : k ≤ cp := by omega
            go_wp2_with (at_builtin; refine wpList_app 78 i0 (.agg #[.int .i64 0, .int .i64 0, .int .i64 0]) 3 24 rfl _ _ 28 rfl Tryz.underlying28 hi hz0 hz1 hz2 rfl (by omega) (by omega) _ (w.heap.size + 1) 0 [] _ rfl (OwnM.lit0 _ _ _ _ (by simp)) B k F _ rfl ((((H.out.head hk cp).alloc _).drewN _).alloc _) (by omega) (by simp) ?_; intro ao1 cp1 w2 O2 G2)
            rw [Nat.zero_add, List.nil_append] at O2
            have D2 := ac_first H.out G2
            have O2' : Hid (OwnM w2 (w.heap.size + 1) 78 3 (.slice ao1 k cp1) k (nums F (k * 3))) := O2
            clear O2 G2
            refine wp_region_held_drew (S := AC w B n F (some ⟨g, o, none⟩) cp y0 x1 x2) (by kernel_rfl) D2.drew (fun hS => ?_)
            refine wpAnyH_take (i := 0) (v := ?_) rfl (by kernel_rfl) (by kernel_rfl) (by kernel_rfl) (fun _ _ _ h => h) (Or.inl ⟨by kernel_rfl, ?_⟩) hS ?_
            rotate_left
            · intro wx hx
              obtain ⟨⟨hx0, hx1, hx2⟩, _⟩ := hx
              go_simp
              try with_reducible rfl
            refine wpAnyH_take (i := 1) (v := ?_) rfl (by kernel_rfl) (by kernel_rfl) (by kernel_rfl) (fun _ _ _ h => h) (Or.inl ⟨by kernel_rfl, ?_⟩) hS ?_
            rotate_left
            · intro wx hx
              obtain ⟨⟨hx0, hx1, hx2⟩, _⟩ := hx
              go_simp
              try with_reducible rfl
            refine wpAnyH_take (i := 4) (v := ?_) rfl (by kernel_rfl) (by kernel_rfl) (by kernel_rfl) (fun _ _ _ h => h) (Or.inl ⟨by kernel_rfl, ?_⟩) hS ?_
            rotate_left
            · intro wx hx
              obtain ⟨⟨hx0, hx1, hx2⟩, _⟩ := hx
              go_simp
              try with_reducible rfl
            refine wpAnyH_take (i := 5) (v := ?_) rfl (by kernel_rfl) (by kernel_rfl) (by kernel_rfl) (fun _ _ _ h => h) (Or.inl ⟨by kernel_rfl, ?_⟩) hS ?_
            rotate_left
            · intro wx hx
              obtain ⟨⟨hx0, hx1, hx2⟩, _⟩ := hx
              go_simp
              try with_reducible rfl
            refine wpAnyH_take (i := 6) (v := ?_) rfl (by kernel_rfl) (by kernel_rfl) (by kernel_rfl) (fun _ _ _ h => h) (Or.inl ⟨by kernel_rfl, ?_⟩) hS ?_
            rotate_left
            · intro wx hx
              obtain ⟨⟨hx0, hx1, hx2⟩, _⟩ := hx
              go_simp
              try with_reducible rfl
            refine wpAnyH_ready (rs := [2]) (by kernel_rfl) (by simp) ?_
            refine AllReadyH.cons rfl (fun K hK => ?_) AllReadyH.nil
            go_simp
            have S3 := hS.grown H.out (World.grownBy_alloc w2.drew (.cells #[.int .i64 y0, .int .i64 x1, .int .i64 x2] 78) none) (fun r e => by cases e)
            have O3 : Hid (OwnM (w2.drew.alloc (.cells #[.int .i64 y0, .int .i64 x1, .int .i64 x2] 78)) (w.heap.size + 1) 78 3 (.slice ao1 k cp1) k (nums F (k * 3))) := O2'.out.later (below_alloc w2 _).drew
            have R3 : Hid (Row (w2.drew.alloc (.cells #[.int .i64 y0, .int .i64 x1, .int .i64 x2] 78)) 0 3 1 (fun p => [y0, x1, x2].getD p 0) (.slice (some ⟨w2.heap.size, 0, none⟩) 1 1)) := row_lit3 w2.drew y0 x1 x2 78
            refine hK.out _ _ S3 (fun hS => ?_)
            clear hK K S3
            refine wpAnyH_ready (rs := [3]) (by kernel_rfl) (by simp) ?_
            refine AllReadyH.cons rfl (fun K hK => ?_) AllReadyH.nil
            refine step_app 78 i0 (.agg #[.int .i64 0, .int .i64 0, .int .i64 0]) 3 24 (by rfl) _ _ 28 (by rfl) Tryz.underlying28 hi hz0 hz1 hz2 rfl (by omega) (by omega) _ (w.heap.size + 1) k (nums F (k * 3)) (.slice ao1 k cp1) (by rfl) O3.out 0 1 (fun p => [y0, x1, x2].getD p 0) (.slice (some ⟨w2.heap.size, 0, none⟩) 1 1) (by rfl) R3.out (by omega) (by have := hS.2.2.size; have := hS.1.1; have := lt_cell hS.1.1; omega) ?_
            intro ao3 cp3 w4 O4 G4
            have S4 := hS.grown H.out G4 (fun r e => by have := (O3.out.block r e).1; omega)
            have O4' : Hid (OwnM w4 (w.heap.size + 1) 78 3 (.slice ao3 (k + 1) cp3) (k + 1) (nums F (k * 3) ++ [y0, x1, x2])) := O4
            clear O4 G4 O3 R3 O2'
            refine hK.out _ _ S4 (fun hS => ?_)
            clear hK K S4
            refine wpAnyH_ready (rs := [7]) (by kernel_rfl) (by simp) ?_
            refine AllReadyH.cons rfl (fun K hK => ?_) AllReadyH.nil
            refine step_app 78 i0 (.agg #[.int .i64 0, .int .i64 0, .int .i64 0]) 3 24 (by rfl) _ _ 28 (by rfl) Tryz.underlying28 hi hz0 hz1 hz2 rfl (by omega) (by omega) _ (w.heap.size + 1) (k + 1) (nums F (k * 3) ++ [y0, x1, x2]) (.slice ao3 (k + 1) cp3) (by rfl) O4'.out B (n - k) (fun p => F (k * 3 + p)) (.slice (if cp = k then some ⟨g, o, none⟩ else some ⟨g, o + k * 3, none⟩) (n - k) (cp - k)) (by rfl) (hS.2.1.tailS hlt hcap) (by omega) (by have := hS.2.2.size; have := lt_cell hS.1.1; omega) ?_
            intro ao5 cp5 w6 O6 G6
            have S6 := hS.grown H.out G6 (fun r e => by have := (O4'.out.block r e).1; omega)
            have O6' : Hid (OwnM w6 w.heap.size 78 3 (.slice ao5 (n + 1) cp5) (n + 1) (nums F (k * 3) ++ [y0, x1, x2] ++ nums (fun p => F (k * 3 + p)) ((n - k) * 3))) := by
              have e1 : k + 1 + (n - k) = n + 1 := by omega
              rw [e1] at O6
              exact World.ownsRow.mono O6 (Nat.le_succ _)
            clear O6 G6 O4'
            refine hK.out _ _ S6 (fun hS => ?_)
            clear hK K S6
            refine wpAnyH_take (i := 8) (v := ?_) rfl (by kernel_rfl) (by kernel_rfl) (by kernel_rfl) (fun _ _ _ h => h) (Or.inl ⟨by kernel_rfl, ?_⟩) hS ?_
            rotate_left
            · intro wx hx
              obtain ⟨⟨hx0, hx1, hx2⟩, _⟩ := hx
              go_simp
              try with_reducible rfl
            refine wpAnyH_done (by kernel_rfl) ?_ _
            go_simp
            go_wp2
            all_goals
              go_ret
              refine ⟨k, ao5, cp5, HL.out, ?_, O6'.out, hS.2.2⟩
              show Ending.returned (Value.slice ao5 (k + 1 + (n - k)) cp5) = _
              rw [show k + 1 + (n - k) = n + 1 by omega]
        · have t1 : (y0 == x0) = false := beq_eq_false_iff_ne.2 h1
          have HL : Hid (placeAt (aheadC F x0 x1) n k) := ⟨hk, hP.out, fun _ q => by rcases HA.out.1 q with r | r; exact h0 r; exact h1 r.1⟩
          clear HA hP
          go_wp2
          go_quiet (fail)
          have hkcp : k ≤ cp := by omega
          go_wp2_with (at_builtin; refine wpList_app 78 i0 (.agg #[.int .i64 0, .int .i64 0, .int .i64 0]) 3 24 rfl _ _ 28 rfl Tryz.underlying28 hi hz0 hz1 hz2 rfl (by omega) (by omega) _ (w.heap.size + 1) 0 [] _ rfl (OwnM.lit0 _ _ _ _ (by simp)) B k F _ rfl ((((H.out.head hk cp).alloc _).drewN _).alloc _) (by omega) (by simp) ?_; intro ao1 cp1 w2 O2 G2)
          rw [Nat.zero_add, List.nil_append] at O2
          have D2 := ac_first H.out G2
          have O2' : Hid (OwnM w2 (w.heap.size + 1) 78 3 (.slice ao1 k cp1) k (nums F (k * 3))) := O2
          clear O2 G2
          refine wp_region_held_drew (S := AC w B n F (some ⟨g, o, none⟩) cp x0 x1 x2) (by kernel_rfl) D2.drew (fun hS => ?_)
          refine wpAnyH_take (i := 0) (v := ?_) rfl (by kernel_rfl) (by kernel_rfl) (by kernel_rfl) (fun _ _ _ h => h) (Or.inl ⟨by kernel_rfl, ?_⟩) hS ?_
          rotate_left
          · intro wx hx
            obtain ⟨⟨hx0, hx1, hx2⟩, _⟩ := hx
            go_simp
            try with_reducible rfl
          refine wpAnyH_take (i := 1) (v := ?_) rfl (by kernel_rfl) (by kernel_rfl) (by kernel_rfl) (fun _ _ _ h => h) (Or.inl ⟨by kernel_rfl, ?_⟩) hS ?_
          rotate_left
          · intro wx hx
            obtain ⟨⟨hx0, hx1, hx2⟩, _⟩ := hx
            go_simp
            try with_reducible rfl
          refine wpAnyH_take (i := 4) (v := ?_) rfl (by kernel_rfl) (by kernel_rfl) (by kernel_rfl) (fun _ _ _ h => h) (Or.inl ⟨by kernel_rfl, ?_⟩) hS ?_
          rotate_left
          · intro wx hx
            obtain ⟨⟨hx0, hx1, hx2⟩, _⟩ := hx
            go_simp
            try with_reducible rfl
          refine wpAnyH_take (i := 5) (v := ?_) rfl (by kernel_rfl) (by kernel_rfl) (by kernel_rfl) (fun _ _ _ h => h) (Or.inl ⟨by kernel_rfl, ?_⟩) hS ?_
          rotate_left
          · intro wx hx
            obtain ⟨⟨hx0, hx1, hx2⟩, _⟩ := hx
            go_simp
            try with_reducible rfl
          refine wpAnyH_take (i := 6) (v := ?_) rfl (by kernel_rfl) (by kernel_rfl) (by kernel_rfl) (fun _ _ _ h => h) (Or.inl ⟨by kernel_rfl, ?_⟩) hS ?_
          rotate_left
          · intro wx hx
            obtain ⟨⟨hx0, hx1, hx2⟩, _⟩ := hx
            go_simp
            try with_reducible rfl
          refine wpAnyH_ready (rs := [2]) (by kernel_rfl) (by simp) ?_
          refine AllReadyH.cons rfl (fun K hK => ?_) AllReadyH.nil
          go_simp
          have S3 := hS.grown H.out (World.grownBy_alloc w2.drew (.cells #[.int .i64 x0, .int .i64 x1, .int .i64 x2] 78) none) (fun r e => by cases e)
          have O3 : Hid (OwnM (w2.drew.alloc (.cells #[.int .i64 x0, .int .i64 x1, .int .i64 x2] 78)) (w.heap.size + 1) 78 3 (.slice ao1 k cp1) k (nums F (k * 3))) := O2'.out.later (below_alloc w2 _).drew
          have R3 : Hid (Row (w2.drew.alloc (.cells #[.int .i64 x0, .int .i64 x1, .int .i64 x2] 78)) 0 3 1 (fun p => [x0, x1, x2].getD p 0) (.slice (some ⟨w2.heap.size, 0, none⟩) 1 1)) := row_lit3 w2.drew x0 x1 x2 78
          refine hK.out _ _ S3 (fun hS => ?_)
          clear hK K S3
          refine wpAnyH_ready (rs := [3]) (by kernel_rfl) (by simp) ?_
          refine AllReadyH.cons rfl (fun K hK => ?_) AllReadyH.nil
          refine step_app 78 i0 (.agg #[.int .i64 0, .int .i64 0, .int .i64 0]) 3 24 (by rfl) _ _ 28 (by rfl) Tryz.underlying28 hi hz0 hz1 hz2 rfl (by omega) (by omega) _ (w.heap.size + 1) k (nums F (k * 3)) (.slice ao1 k cp1) (by rfl) O3.out 0 1 (fun p => [x0, x1, x2].getD p 0) (.slice (some ⟨w2.heap.size, 0, none⟩) 1 1) (by rfl) R3.out (by omega) (by have := hS.2.2.size; have := hS.1.1; have := lt_cell hS.1.1; omega) ?_
          intro ao3 cp3 w4 O4 G4
          have S4 := hS.grown H.out G4 (fun r e => by have := (O3.out.block r e).1; omega)
          have O4' : Hid (OwnM w4 (w.heap.size + 1) 78 3 (.slice ao3 (k + 1) cp3) (k + 1) (nums F (k * 3) ++ [x0, x1, x2])) := O4
          clear O4 G4 O3 R3 O2'
          refine hK.out _ _ S4 (fun hS => ?_)
          clear hK K S4
          refine wpAnyH_ready (rs := [7]) (by kernel_rfl) (by simp) ?_
          refine AllReadyH.cons rfl (fun K hK => ?_) AllReadyH.nil
          refine step_app 78 i0 (.agg #[.int .i64 0, .int .i64 0, .int .i64 0]) 3 24 (by rfl) _ _ 28 (by rfl) Tryz.underlying28 hi hz0 hz1 hz2 rfl (by omega) (by omega) _ (w.heap.size + 1) (k + 1) (nums F (k * 3) ++ [x0, x1, x2]) (.slice ao3 (k + 1) cp3) (by rfl) O4'.out B (n - k) (fun p => F (k * 3 + p)) (.slice (if cp = k then some ⟨g, o, none⟩ else some ⟨g, o + k * 3, none⟩) (n - k) (cp - k)) (by rfl) (hS.2.1.tailS hlt hcap) (by omega) (by have := hS.2.2.size; have := lt_cell hS.1.1; omega) ?_
          intro ao5 cp5 w6 O6 G6
          have S6 := hS.grown H.out G6 (fun r e => by have := (O4'.out.block r e).1; omega)
          have O6' : Hid (OwnM w6 w.heap.size 78 3 (.slice ao5 (n + 1) cp5) (n + 1) (nums F (k * 3) ++ [x0, x1, x2] ++ nums (fun p => F (k * 3 + p)) ((n - k) * 3))) := by
            have e1 : k + 1 + (n - k) = n + 1 := by omega
            rw [e1] at O6
            exact World.ownsRow.mono O6 (Nat.le_succ _)
          clear O6 G6 O4'
          refine hK.out _ _ S6 (fun hS => ?_)
          clear hK K S6
          refine wpAnyH_take (i := 8) (v := ?_) rfl (by kernel_rfl) (by kernel_rfl) (by kernel_rfl) (fun _ _ _ h => h) (Or.inl ⟨by kernel_rfl, ?_⟩) hS ?_
          rotate_left
          · intro wx hx
            obtain ⟨⟨hx0, hx1, hx2⟩, _⟩ := hx
            go_simp
            try with_reducible rfl
          refine wpAnyH_done (by kernel_rfl) ?_ _
          go_simp
          go_wp2
          all_goals
            go_ret
            refine ⟨k, ao5, cp5, HL.out, ?_, O6'.out, hS.2.2⟩
            show Ending.returned (Value.slice ao5 (k + 1 + (n - k)) cp5) = _
            rw [show k + 1 + (n - k) = n + 1 by omega]
    · have HL : Hid (placeAt (aheadC F x0 x1) n k) := ⟨hk, hP.out, fun q => absurd q hlt⟩
      clear hP
      go_wp2
      go_quiet (fail)
      have hkcp : k ≤ cp := by omega
      go_wp2_with (at_builtin; refine wpList_app 78 i0 (.agg #[.int .i64 0, .int .i64 0, .int .i64 0]) 3 24 rfl _ _ 28 rfl Tryz.underlying28 hi hz0 hz1 hz2 rfl (by omega) (by omega) _ (w.heap.size + 1) 0 [] _ rfl (OwnM.lit0 _ _ _ _ (by simp)) B k F _ rfl ((((H.out.head hk cp).alloc _).drewN _).alloc _) (by omega) (by simp) ?_; intro ao1 cp1 w2 O2 G2)
      rw [Nat.zero_add, List.nil_append] at O2
      have D2 := ac_first H.out G2
      have O2' : Hid (OwnM w2 (w.heap.size + 1) 78 3 (.slice ao1 k cp1) k (nums F (k * 3))) := O2
      clear O2 G2
      refine wp_region_held_drew (S := AC w B n F ao cp x0 x1 x2) (by kernel_rfl) D2.drew (fun hS => ?_)
      refine wpAnyH_take (i := 0) (v := ?_) rfl (by kernel_rfl) (by kernel_rfl) (by kernel_rfl) (fun _ _ _ h => h) (Or.inl ⟨by kernel_rfl, ?_⟩) hS ?_
      rotate_left
      · intro wx hx
        obtain ⟨⟨hx0, hx1, hx2⟩, _⟩ := hx
        go_simp
        try with_reducible rfl
      refine wpAnyH_take (i := 1) (v := ?_) rfl (by kernel_rfl) (by kernel_rfl) (by kernel_rfl) (fun _ _ _ h => h) (Or.inl ⟨by kernel_rfl, ?_⟩) hS ?_
      rotate_left
      · intro wx hx
        obtain ⟨⟨hx0, hx1, hx2⟩, _⟩ := hx
        go_simp
        try with_reducible rfl
      refine wpAnyH_take (i := 4) (v := ?_) rfl (by kernel_rfl) (by kernel_rfl) (by kernel_rfl) (fun _ _ _ h => h) (Or.inl ⟨by kernel_rfl, ?_⟩) hS ?_
      rotate_left
      · intro wx hx
        obtain ⟨⟨hx0, hx1, hx2⟩, _⟩ := hx
        go_simp
        try with_reducible rfl
      refine wpAnyH_take (i := 5) (v := ?_) rfl (by kernel_rfl) (by kernel_rfl) (by kernel_rfl) (fun _ _ _ h => h) (Or.inl ⟨by kernel_rfl, ?_⟩) hS ?_
      rotate_left
      · intro wx hx
        obtain ⟨⟨hx0, hx1, hx2⟩, _⟩ := hx
        go_simp
        try with_reducible rfl
      refine wpAnyH_take (i := 6) (v := ?_) rfl (by kernel_rfl) (by kernel_rfl) (by kernel_rfl) (fun _ _ _ h => h) (Or.inl ⟨by kernel_rfl, ?_⟩) hS ?_
      rotate_left
      · intro wx hx
        obtain ⟨⟨hx0, hx1, hx2⟩, _⟩ := hx
        go_simp
        try with_reducible rfl
      refine wpAnyH_ready (rs := [2]) (by kernel_rfl) (by simp) ?_
      refine AllReadyH.cons rfl (fun K hK => ?_) AllReadyH.nil
      go_simp
      have S3 := hS.grown H.out (World.grownBy_alloc w2.drew (.cells #[.int .i64 x0, .int .i64 x1, .int .i64 x2] 78) none) (fun r e => by cases e)
      have O3 : Hid (OwnM (w2.drew.alloc (.cells #[.int .i64 x0, .int .i64 x1, .int .i64 x2] 78)) (w.heap.size + 1) 78 3 (.slice ao1 k cp1) k (nums F (k * 3))) := O2'.out.later (below_alloc w2 _).drew
      have R3 : Hid (Row (w2.drew.alloc (.cells #[.int .i64 x0, .int .i64 x1, .int .i64 x2] 78)) 0 3 1 (fun p => [x0, x1, x2].getD p 0) (.slice (some ⟨w2.heap.size, 0, none⟩) 1 1)) := row_lit3 w2.drew x0 x1 x2 78
      refine hK.out _ _ S3 (fun hS => ?_)
      clear hK K S3
      refine wpAnyH_ready (rs := [3]) (by kernel_rfl) (by simp) ?_
      refine AllReadyH.cons rfl (fun K hK => ?_) AllReadyH.nil
      refine step_app 78 i0 (.agg #[.int .i64 0, .int .i64 0, .int .i64 0]) 3 24 (by rfl) _ _ 28 (by rfl) Tryz.underlying28 hi hz0 hz1 hz2 rfl (by omega) (by omega) _ (w.heap.size + 1) k (nums F (k * 3)) (.slice ao1 k cp1) (by rfl) O3.out 0 1 (fun p => [x0, x1, x2].getD p 0) (.slice (some ⟨w2.heap.size, 0, none⟩) 1 1) (by rfl) R3.out (by omega) (by have := hS.2.2.size; have := hS.1.1; have := lt_cell hS.1.1; omega) ?_
      intro ao3 cp3 w4 O4 G4
      have S4 := hS.grown H.out G4 (fun r e => by have := (O3.out.block r e).1; omega)
      have O4' : Hid (OwnM w4 (w.heap.size + 1) 78 3 (.slice ao3 (k + 1) cp3) (k + 1) (nums F (k * 3) ++ [x0, x1, x2])) := O4
      clear O4 G4 O3 R3 O2'
      refine hK.out _ _ S4 (fun hS => ?_)
      clear hK K S4
      refine wpAnyH_ready (rs := [7]) (by kernel_rfl) (by simp) ?_
      refine AllReadyH.cons rfl (fun K hK => ?_) AllReadyH.nil
      refine step_app 78 i0 (.agg #[.int .i64 0, .int .i64 0, .int .i64 0]) 3 24 (by rfl) _ _ 28 (by rfl) Tryz.underlying28 hi hz0 hz1 hz2 rfl (by omega) (by omega) _ (w.heap.size + 1) (k + 1) (nums F (k * 3) ++ [x0, x1, x2]) (.slice ao3 (k + 1) cp3) (by rfl) O4'.out B (n - k) (fun p => F (k * 3 + p)) (.slice (if cp = k then ao else Option.map (fun x => x.add (k * 3)) ao) (n - k) (cp - k)) (by rfl) (Row.over _ _ _ _ _ _ _ _ hlt) (by omega) (by have := hS.2.2.size; have := lt_cell hS.1.1; omega) ?_
      intro ao5 cp5 w6 O6 G6
      have S6 := hS.grown H.out G6 (fun r e => by have := (O4'.out.block r e).1; omega)
      have O6' : Hid (OwnM w6 w.heap.size 78 3 (.slice ao5 (n + 1) cp5) (n + 1) (nums F (k * 3) ++ [x0, x1, x2] ++ nums (fun p => F (k * 3 + p)) ((n - k) * 3))) := by
        have e1 : k + 1 + (n - k) = n + 1 := by omega
        rw [e1] at O6
        exact World.ownsRow.mono O6 (Nat.le_succ _)
      clear O6 G6 O4'
      refine hK.out _ _ S6 (fun hS => ?_)
      clear hK K S6
      refine wpAnyH_take (i := 8) (v := ?_) rfl (by kernel_rfl) (by kernel_rfl) (by kernel_rfl) (fun _ _ _ h => h) (Or.inl ⟨by kernel_rfl, ?_⟩) hS ?_
      rotate_left
      · intro wx hx
        obtain ⟨⟨hx0, hx1, hx2⟩, _⟩ := hx
        go_simp
        try with_reducible rfl
      refine wpAnyH_done (by kernel_rfl) ?_ _
      go_simp
      go_wp2
      all_goals
        go_ret
        refine ⟨k, ao5, cp5, HL.out, ?_, O6'.out, hS.2.2⟩
        show Ending.returned (Value.slice ao5 (k + 1 + (n - k)) cp5) = _
        rw [show k + 1 + (n - k) = n + 1 by omega]
end
end Go.Proofs.YtkbjlnnincknaaaGreatDoor
