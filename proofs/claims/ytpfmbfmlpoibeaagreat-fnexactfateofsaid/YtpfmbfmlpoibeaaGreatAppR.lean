/-
  Own text. An append of a row of structs behind a row that a call has made: plain facts, no condition but that the rows are no longer than a million.
-/
import Derived.Test.YtpfmbfmlpoibeaaGreatColsZ
import Derived.Deep.RegionHeld
import Derived.Deep.AppendLies
import Derived.Laws.AppendOwnNone
namespace Go.Proofs.YtpfmbfmlpoibeaaGreat
section
open Go.RowKit
-- Own text. An append of a row of structs behind a row that a call has made: plain facts, no condition but that the rows are no longer than a million.
/-- The first N numbers. -/
def nums (F : Nat → Int) (N : Nat) : List Int := (List.range N).map F
theorem nums_length (F : Nat → Int) (N : Nat) : (nums F N).length = N := by simp [nums]
theorem nums_vals (F : Nat → Int) (N : Nat) : (nums F N).map (Value.int .i64) = vals F N := by simp [nums, vals]
theorem run_app (t ty e : TypeId) (i : TypeInfo) (z : Value) (m bytes : Nat) (ht : Tryz.prog.underlying t = some (.slice e)) (hi : Tryz.prog.info? e = some i) (hz : i.zero = some z) (hsize : i.size = m) (hby : i.bytes = bytes) (hzs : z.cells.size = m) (hm : 0 < m) (hb5 : bytes ≤ 1000)
    (w : World) (base n0 : Nat) (L : List Int) (v : Value) (hown : OwnM w base e m v n0 L) (B n : Nat) (F : Nat → Int) (x : Value) (h : Row w B m n F x) (hn : n0 + n ≤ 1048576) (hbase : base ≤ w.heap.size) :
    ∃ ao cp w', (Builtin.append_ #[t, t] ty #[v, x]).run Tryz.prog w = .ok (.slice ao (n0 + n) cp) w' ∧ OwnM w' base e m (.slice ao (n0 + n) cp) (n0 + n) (L ++ nums F (n * m)) ∧ w.grownBy w' v.ownBlock := by
  have hbb : (n0 + n) * bytes ≤ 1048576 * 1000 := Nat.mul_le_mul hn hb5
  obtain ⟨ao, cp, rfl⟩ := h.form
  cases ao with
  | none =>
    have e0 : n = 0 := by
      rcases Nat.eq_zero_or_pos n with q | q
      · exact q
      · obtain ⟨g, o, hg, _⟩ := h.at q
        cases hg
    subst e0
    obtain ⟨av, cv, rfl⟩ := hown.form
    refine ⟨av, cv, w, ?_, ?_, ⟨rfl, rfl, rfl, Nat.le_refl _, fun _ _ _ => rfl⟩⟩
    · rcases hown.2 with ⟨q, _⟩ | ⟨g, cap, cur, q, _, _, hnc, _⟩
      · cases q
        simp [Builtin.append_, run_underlying ht, sizeOf, typeInfo, hi, Builtin.lenOf, Builtin.firstCells]
      · cases q
        simp [Builtin.append_, run_underlying ht, sizeOf, typeInfo, hi, Builtin.lenOf, Builtin.firstCells, hnc, storeCells]
    · simpa [nums] using hown
  | some a =>
    obtain ⟨v', w', h1, h2, h3, _⟩ := run_append_own (P := Tryz.prog) w base t ty e i z m bytes ht hi hz hsize hby hzs hm v n0 _ hown a n cp (vals F (n * m)) (vals_length _ _) (row_cells h) (vals_one _ _) (by unfold maxLen; omega) (by omega) hbase
    have h2' : OwnM w' base e m v' (n0 + n) (L ++ nums F (n * m)) := by
      unfold OwnM
      rw [List.map_append, nums_vals]
      exact h2
    obtain ⟨ao', cp', rfl⟩ := h2'.form
    exact ⟨ao', cp', w', h1, h2', h3⟩
/-- The law for the walk. -/
theorem wpList_app (e : TypeId) (i : TypeInfo) (z : Value) (m bytes : Nat) {ops : Array Oper} {rest : List Oper} {o : Oper} {a : Act} {Q : Exit → Act → World → Prop} (hgd : o.guard = none) (s x : Operand) (t : TypeId) (ho : o.op = .call { callee := .builtin .append, args := #[s, x], argTypes := #[t, t] })
    (ht : Tryz.prog.underlying t = some (.slice e)) (hi : Tryz.prog.info? e = some i) (hz : i.zero = some z) (hsize : i.size = m) (hby : i.bytes = bytes) (hzs : z.cells.size = m) (hm : 0 < m) (hb5 : bytes ≤ 1000)
    (w : World) (base n0 : Nat) (L : List Int) (v : Value) (hs : a.eval s = v) (hown : OwnM w base e m v n0 L) (B n : Nat) (F : Nat → Int) (u : Value) (hx : a.eval x = u) (h : Row w B m n F u) (hn : n0 + n ≤ 1048576) (hbase : base ≤ w.heap.size)
    (hK : ∀ ao cp w', OwnM w' base e m (.slice ao (n0 + n) cp) (n0 + n) (L ++ nums F (n * m)) → w.grownBy w' v.ownBlock → wpList Tryz.prog ops Q rest (a.put o.dst (.slice ao (n0 + n) cp)) w') : wpList Tryz.prog ops Q (o :: rest) a w := by
  refine wpList_plain hgd fun K hK' => ?_
  obtain ⟨ao, cp, w', hr, h2, h3⟩ := run_app t o.type e i z m bytes ht hi hz hsize hby hzs hm hb5 w base n0 L v hown B n F u h hn hbase
  unfold Oper.wp execOp
  simp only [ho, resolve, invoke, builtin, Sem.run_bind, Sem.run_pure, Result.andThen_ok, List.map_toArray, List.map_cons, List.map_nil, hs, hx, hr]
  exact hK' _ _ (hK ao cp w' h2 h3)
/-- .. and at one operation. -/
theorem wp_app (e : TypeId) (i : TypeInfo) (z : Value) (m bytes : Nat) {o : Oper} {a : Act} {K : Act → World → Prop} {Q : Exit → Act → World → Prop} (s x : Operand) (t : TypeId) (ho : o.op = .call { callee := .builtin .append, args := #[s, x], argTypes := #[t, t] })
    (ht : Tryz.prog.underlying t = some (.slice e)) (hi : Tryz.prog.info? e = some i) (hz : i.zero = some z) (hsize : i.size = m) (hby : i.bytes = bytes) (hzs : z.cells.size = m) (hm : 0 < m) (hb5 : bytes ≤ 1000)
    (w : World) (base n0 : Nat) (L : List Int) (v : Value) (hs : a.eval s = v) (hown : OwnM w base e m v n0 L) (B n : Nat) (F : Nat → Int) (u : Value) (hx : a.eval x = u) (h : Row w B m n F u) (hn : n0 + n ≤ 1048576) (hbase : base ≤ w.heap.size)
    (hK : ∀ ao cp w', OwnM w' base e m (.slice ao (n0 + n) cp) (n0 + n) (L ++ nums F (n * m)) → w.grownBy w' v.ownBlock → K (a.put o.dst (.slice ao (n0 + n) cp)) w') : o.wp Tryz.prog a w K Q := by
  obtain ⟨ao, cp, w', hr, h2, h3⟩ := run_app t o.type e i z m bytes ht hi hz hsize hby hzs hm hb5 w base n0 L v hown B n F u h hn hbase
  unfold Oper.wp execOp
  simp only [ho, resolve, invoke, builtin, Sem.run_bind, Sem.run_pure, Result.andThen_ok, List.map_toArray, List.map_cons, List.map_nil, hs, hx, hr]
  exact hK ao cp w' h2 h3
/-- .. and at one step of a region that draws. -/
theorem step_app (e : TypeId) (i : TypeInfo) (z : Value) (m bytes : Nat) {ops : Array Oper} {o : Oper} {a : Act} {K : Act → World → Prop} {Q : Exit → Act → World → Prop} {E : Prop} (hgd : o.guard = none) (s x : Operand) (t : TypeId) (ho : o.op = .call { callee := .builtin .append, args := #[s, x], argTypes := #[t, t] })
    (ht : Tryz.prog.underlying t = some (.slice e)) (hi : Tryz.prog.info? e = some i) (hz : i.zero = some z) (hsize : i.size = m) (hby : i.bytes = bytes) (hzs : z.cells.size = m) (hm : 0 < m) (hb5 : bytes ≤ 1000)
    (w : World) (base n0 : Nat) (L : List Int) (v : Value) (hs : a.eval s = v) (hown : OwnM w base e m v n0 L) (B n : Nat) (F : Nat → Int) (u : Value) (hx : a.eval x = u) (h : Row w B m n F u) (hn : n0 + n ≤ 1048576) (hbase : base ≤ w.heap.size)
    (hK : ∀ ao cp w', OwnM w' base e m (.slice ao (n0 + n) cp) (n0 + n) (L ++ nums F (n * m)) → w.grownBy w' v.ownBlock → K (a.put o.dst (.slice ao (n0 + n) cp)) w') :
    if Region.wanted o (yielded ops a.tmps) = true then Oper.wp Tryz.prog o a w K Q else E := by
  have hw : Region.wanted o (yielded ops a.tmps) = true := by simp [Region.wanted, hgd]
  rw [if_pos hw]
  exact wp_app e i z m bytes s x t ho ht hi hz hsize hby hzs hm hb5 w base n0 L v hs hown B n F u hx h hn hbase hK
theorem OwnM.lit0 (Y : World) (b : Nat) (e : TypeId) (m : Nat) (hb : Y.heap.size = b) : OwnM (Y.alloc (.cells #[] e)) b e m (.slice (some ⟨b, 0, none⟩) 0 0) 0 [] := by
  subst hb
  exact World.ownsRow_lit Y #[] 0 (Nat.le_refl _) (Nat.zero_le _) (by simp)
/-- The first k elements, and those from k on. -/
theorem Row.head {w : World} {B m n : Nat} {F : Nat → Int} {ao : Option Addr} {cp : Nat} (h : Row w B m n F (.slice ao n cp)) {k : Nat} (hk : k ≤ n) (c' : Nat) : Row w B m k F (.slice ao k c') := by
  obtain ⟨ao', cp', hv, h⟩ := h
  simp only [Value.slice.injEq] at hv
  obtain ⟨rfl, _, _⟩ := hv
  refine ⟨_, _, rfl, fun hn => ?_⟩
  obtain ⟨g, o, ha, hB, hg, hc⟩ := h (by omega)
  exact ⟨g, o, ha, hB, hg, fun p hp => hc p (Nat.lt_of_lt_of_le hp (Nat.mul_le_mul_right m hk))⟩
theorem Row.tail {w : World} {B m n g o : Nat} {F : Nat → Int} {cp : Nat} (h : Row w B m n F (.slice (some ⟨g, o, none⟩) n cp)) {k : Nat} (hk : k < n) (c' : Nat) : Row w B m (n - k) (fun p => F (k * m + p)) (.slice (some ⟨g, o + k * m, none⟩) (n - k) c') := by
  obtain ⟨ao', cp', hv, h⟩ := h
  obtain ⟨g', o', ha, hB, hg, hc⟩ := h (by omega)
  simp only [Value.slice.injEq] at hv
  obtain ⟨rfl, _, _⟩ := hv
  simp only [Option.some.injEq, Addr.mk.injEq] at ha
  obtain ⟨rfl, rfl, _⟩ := ha
  refine ⟨_, _, rfl, fun _ => ⟨g, o + k * m, rfl, hB, hg, fun p hp => ?_⟩⟩
  rw [Nat.add_assoc]
  refine hc _ ?_
  have e1 : (n - k) * m = n * m - k * m := Nat.sub_mul n k m
  have e2 : k * m ≤ n * m := Nat.mul_le_mul_right m (by omega)
  omega
theorem Row.tailS {w : World} {B m n g o : Nat} {F : Nat → Int} {cp : Nat} (h : Row w B m n F (.slice (some ⟨g, o, none⟩) n cp)) {k : Nat} (hk : k < n) (hc : n ≤ cp) : Row w B m (n - k) (fun p => F (k * m + p)) (.slice (if cp = k then some ⟨g, o, none⟩ else some ⟨g, o + k * m, none⟩) (n - k) (cp - k)) := by
  rw [if_neg (by omega)]
  exact h.tail hk _
theorem Row.over (w : World) (B m n k : Nat) (F : Nat → Int) (ao : Option Addr) (c : Nat) (hk : ¬ k < n) : Row w B m (n - k) F (.slice ao (n - k) c) := ⟨_, _, rfl, fun q => by omega⟩
theorem OwnM.keptB {w w' : World} {B : Nat} {e : TypeId} {m : Nat} {v : Value} {n : Nat} {L : List Int} (h : OwnM w B e m v n L) (hb : ∀ k, v.ownBlock = some k → w'.heap[k]? = w.heap[k]?) : OwnM w' B e m v n L := by
  obtain ⟨h1, h2⟩ := h
  refine ⟨h1, ?_⟩
  rcases h2 with q | ⟨g, cap, cur, rfl, q1, q2, q3⟩
  · exact Or.inl q
  · exact Or.inr ⟨g, cap, cur, rfl, q1, (hb g rfl).trans q2, q3⟩
theorem OwnM.set {w : World} {B : Nat} {e : TypeId} {m : Nat} {v : Value} {n : Nat} {L : List Int} (h : OwnM w B e m v n L) {c : Nat} (hc : ∀ k, v.ownBlock = some k → k ≠ c) (j : Nat) (u : Value) : OwnM (w.setCell ⟨c, j, none⟩ u) B e m v n L :=
  h.keptB (fun k hk => Below.heap_setCell w _ u k (hc k hk))
theorem OwnM.cap {w : World} {B : Nat} {e : TypeId} {m n : Nat} {ao : Option Addr} {cp : Nat} {L : List Int} (h : OwnM w B e m (.slice ao n cp) n L) : n ≤ cp := by
  rcases h.2 with ⟨q, e⟩ | ⟨g, cap, cur, q, _, _, hn, _⟩
  · cases q; exact Nat.le_refl _
  · cases q; exact hn
theorem run_appL (t ty e : TypeId) (i : TypeInfo) (z : Value) (m bytes : Nat) (ht : Tryz.prog.underlying t = some (.slice e)) (hi : Tryz.prog.info? e = some i) (hz : i.zero = some z) (hsize : i.size = m) (hby : i.bytes = bytes) (hzs : z.cells.size = m) (hm : 0 < m) (hb5 : bytes ≤ 1000)
    (w : World) (base n0 : Nat) (L : List Int) (v : Value) (hown : OwnM w base e m v n0 L) (B n : Nat) (F : Nat → Int) (x : Value) (h : Row w B m n F x) (hn : n0 + n ≤ 1048576) (hbase : base ≤ w.heap.size) :
    ∃ ao cp w', (Builtin.append_ #[t, t] ty #[v, x]).run Tryz.prog w = .ok (.slice ao (n0 + n) cp) w' ∧ OwnM w' base e m (.slice ao (n0 + n) cp) (n0 + n) (L ++ nums F (n * m)) ∧ w.grownBy w' v.ownBlock ∧ ((Value.slice ao (n0 + n) cp).ownBlock = v.ownBlock ∨ (Value.slice ao (n0 + n) cp).ownBlock = some w.heap.size) := by
  have hbb : (n0 + n) * bytes ≤ 1048576 * 1000 := Nat.mul_le_mul hn hb5
  obtain ⟨ao, cp, rfl⟩ := h.form
  cases ao with
  | none =>
    have e0 : n = 0 := by
      rcases Nat.eq_zero_or_pos n with q | q
      · exact q
      · obtain ⟨g, o, hg, _⟩ := h.at q
        cases hg
    subst e0
    obtain ⟨av, cv, rfl⟩ := hown.form
    refine ⟨av, cv, w, ?_, ?_, ⟨rfl, rfl, rfl, Nat.le_refl _, fun _ _ _ => rfl⟩, Or.inl rfl⟩
    · rcases hown.2 with ⟨q, _⟩ | ⟨g, cap, cur, q, _, _, hnc, _⟩
      · cases q
        simp [Builtin.append_, run_underlying ht, sizeOf, typeInfo, hi, Builtin.lenOf, Builtin.firstCells]
      · cases q
        simp [Builtin.append_, run_underlying ht, sizeOf, typeInfo, hi, Builtin.lenOf, Builtin.firstCells, hnc, storeCells]
    · simpa [nums] using hown
  | some a =>
    obtain ⟨v', w', h1, h2, h3, _, h5⟩ := run_append_own_at (P := Tryz.prog) w base t ty e i z m bytes ht hi hz hsize hby hzs hm v n0 _ hown a n cp (vals F (n * m)) (vals_length _ _) (row_cells h) (vals_one _ _) (by unfold maxLen; omega) (by omega) hbase
    have h2' : OwnM w' base e m v' (n0 + n) (L ++ nums F (n * m)) := by
      unfold OwnM
      rw [List.map_append, nums_vals]
      exact h2
    obtain ⟨ao', cp', rfl⟩ := h2'.form
    exact ⟨ao', cp', w', h1, h2', h3, h5⟩
/-- .. with the word where the new row lies, for the walk. -/
theorem wpList_appL (e : TypeId) (i : TypeInfo) (z : Value) (m bytes : Nat) {ops : Array Oper} {rest : List Oper} {o : Oper} {a : Act} {Q : Exit → Act → World → Prop} (hgd : o.guard = none) (s x : Operand) (t : TypeId) (ho : o.op = .call { callee := .builtin .append, args := #[s, x], argTypes := #[t, t] })
    (ht : Tryz.prog.underlying t = some (.slice e)) (hi : Tryz.prog.info? e = some i) (hz : i.zero = some z) (hsize : i.size = m) (hby : i.bytes = bytes) (hzs : z.cells.size = m) (hm : 0 < m) (hb5 : bytes ≤ 1000)
    (w : World) (base n0 : Nat) (L : List Int) (v : Value) (hs : a.eval s = v) (hown : OwnM w base e m v n0 L) (B n : Nat) (F : Nat → Int) (u : Value) (hx : a.eval x = u) (h : Row w B m n F u) (hn : n0 + n ≤ 1048576) (hbase : base ≤ w.heap.size)
    (hK : ∀ ao cp w', OwnM w' base e m (.slice ao (n0 + n) cp) (n0 + n) (L ++ nums F (n * m)) → w.grownBy w' v.ownBlock → ((Value.slice ao (n0 + n) cp).ownBlock = v.ownBlock ∨ (Value.slice ao (n0 + n) cp).ownBlock = some w.heap.size) → wpList Tryz.prog ops Q rest (a.put o.dst (.slice ao (n0 + n) cp)) w') : wpList Tryz.prog ops Q (o :: rest) a w := by
  refine wpList_plain hgd fun K hK' => ?_
  obtain ⟨ao, cp, w', hr, h2, h3, h5⟩ := run_appL t o.type e i z m bytes ht hi hz hsize hby hzs hm hb5 w base n0 L v hown B n F u h hn hbase
  unfold Oper.wp execOp
  simp only [ho, resolve, invoke, builtin, Sem.run_bind, Sem.run_pure, Result.andThen_ok, List.map_toArray, List.map_cons, List.map_nil, hs, hx, hr]
  exact hK' _ _ (hK ao cp w' h2 h3 h5)
theorem wp_appL (e : TypeId) (i : TypeInfo) (z : Value) (m bytes : Nat) {o : Oper} {a : Act} {K : Act → World → Prop} {Q : Exit → Act → World → Prop} (s x : Operand) (t : TypeId) (ho : o.op = .call { callee := .builtin .append, args := #[s, x], argTypes := #[t, t] })
    (ht : Tryz.prog.underlying t = some (.slice e)) (hi : Tryz.prog.info? e = some i) (hz : i.zero = some z) (hsize : i.size = m) (hby : i.bytes = bytes) (hzs : z.cells.size = m) (hm : 0 < m) (hb5 : bytes ≤ 1000)
    (w : World) (base n0 : Nat) (L : List Int) (v : Value) (hs : a.eval s = v) (hown : OwnM w base e m v n0 L) (B n : Nat) (F : Nat → Int) (u : Value) (hx : a.eval x = u) (h : Row w B m n F u) (hn : n0 + n ≤ 1048576) (hbase : base ≤ w.heap.size)
    (hK : ∀ ao cp w', OwnM w' base e m (.slice ao (n0 + n) cp) (n0 + n) (L ++ nums F (n * m)) → w.grownBy w' v.ownBlock → ((Value.slice ao (n0 + n) cp).ownBlock = v.ownBlock ∨ (Value.slice ao (n0 + n) cp).ownBlock = some w.heap.size) → K (a.put o.dst (.slice ao (n0 + n) cp)) w') : o.wp Tryz.prog a w K Q := by
  obtain ⟨ao, cp, w', hr, h2, h3, h5⟩ := run_appL t o.type e i z m bytes ht hi hz hsize hby hzs hm hb5 w base n0 L v hown B n F u h hn hbase
  unfold Oper.wp execOp
  simp only [ho, resolve, invoke, builtin, Sem.run_bind, Sem.run_pure, Result.andThen_ok, List.map_toArray, List.map_cons, List.map_nil, hs, hx, hr]
  exact hK ao cp w' h2 h3 h5
theorem step_appL (e : TypeId) (i : TypeInfo) (z : Value) (m bytes : Nat) {ops : Array Oper} {o : Oper} {a : Act} {K : Act → World → Prop} {Q : Exit → Act → World → Prop} {E : Prop} (hgd : o.guard = none) (s x : Operand) (t : TypeId) (ho : o.op = .call { callee := .builtin .append, args := #[s, x], argTypes := #[t, t] })
    (ht : Tryz.prog.underlying t = some (.slice e)) (hi : Tryz.prog.info? e = some i) (hz : i.zero = some z) (hsize : i.size = m) (hby : i.bytes = bytes) (hzs : z.cells.size = m) (hm : 0 < m) (hb5 : bytes ≤ 1000)
    (w : World) (base n0 : Nat) (L : List Int) (v : Value) (hs : a.eval s = v) (hown : OwnM w base e m v n0 L) (B n : Nat) (F : Nat → Int) (u : Value) (hx : a.eval x = u) (h : Row w B m n F u) (hn : n0 + n ≤ 1048576) (hbase : base ≤ w.heap.size)
    (hK : ∀ ao cp w', OwnM w' base e m (.slice ao (n0 + n) cp) (n0 + n) (L ++ nums F (n * m)) → w.grownBy w' v.ownBlock → ((Value.slice ao (n0 + n) cp).ownBlock = v.ownBlock ∨ (Value.slice ao (n0 + n) cp).ownBlock = some w.heap.size) → K (a.put o.dst (.slice ao (n0 + n) cp)) w') :
    if Region.wanted o (yielded ops a.tmps) = true then Oper.wp Tryz.prog o a w K Q else E := by
  have hw : Region.wanted o (yielded ops a.tmps) = true := by simp [Region.wanted, hgd]
  rw [if_pos hw]
  exact wp_appL e i z m bytes s x t ho ht hi hz hsize hby hzs hm hb5 w base n0 L v hs hown B n F u hx h hn hbase hK
end
end Go.Proofs.YtpfmbfmlpoibeaaGreat
