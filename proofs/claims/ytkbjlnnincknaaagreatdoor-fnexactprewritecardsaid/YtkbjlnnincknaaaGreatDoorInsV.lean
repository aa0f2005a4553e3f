/-
  Own text, merged of InsA, InsW, InsV.
-/
import Derived.Test.YtkbjlnnincknaaaGreatDoorCmtD
import Derived.Test.YtkbjlnnincknaaaGreatDoorDelB
import Derived.Laws.IdiomCopy
import Derived.Laws.Externs
import Derived.Lib.Overlaps
import Derived.Lib.AppendZerosOnto
import Derived.Deep.RegionLaw
import Derived.ArgAppend
import Derived.Deep.AppendSrc
namespace Go.Proofs.YtkbjlnnincknaaaGreatDoor
section
open Go.RowKit Go.Lib
-- Own text. What slices.Insert needs at rows of structs: copy over cells, the cells of a row into which a struct was put.
/-- 'copy(d, s)' at slices of structs of m cells: what s held goes over. -/
theorem run_copyM (w : World) (dT sT ty elem : TypeId) (m b o dLen dCap : Nat) (a : Addr) (sLen sCap : Nat) (cs : List Value)
    (hu : Tryz.prog.underlying dT = some (.slice elem)) (hs : (Tryz.prog.info? elem).map (·.size) = some m) (hn : cs.length = Nat.min sLen dLen * m)
    (hsrc : ∀ j v, cs[j]? = some v → w.cell? (a.add j) = some v) (hc : ∀ j, j < cs.length → (w.cell? ⟨b, o + j, none⟩).isSome = true) (hf : ∀ j, j < cs.length → w.frozen? ⟨b, o + j, none⟩ = false) (h1 : ∀ v ∈ cs, v.oneCell' = true) :
    (Builtin.copy_ #[dT, sT] ty #[.slice (some ⟨b, o, none⟩) dLen dCap, .slice (some a) sLen sCap]).run Tryz.prog w = .ok (goInt (Nat.min sLen dLen)) (w.setCells b o cs) := by
  have hl := run_loadCells_list (P := Tryz.prog) w a cs hsrc
  have hst := run_storeCells_cells (P := Tryz.prog) b o cs 0 w (by simpa using hc) (by simpa using hf) h1
  cases hq : Tryz.prog.info? elem with
  | none => simp [hq] at hs
  | some i =>
    have hi : i.size = m := by simpa [hq] using hs
    simp [Builtin.copy_, run_underlying hu, Builtin.lenOf, Builtin.firstCells, sizeOf, typeInfo, hq, hi, ← hn, hl, hst]
theorem wpList_copyM (w : World) {ops : Array Oper} {rest : List Oper} {o : Oper} {a : Act} {Q : Exit → Act → World → Prop} (hgd : o.guard = none) (d s : Operand) (t t' : TypeId)
    (ho : o.op = .call { callee := .builtin .copy, args := #[d, s], argTypes := #[t, t'] }) (v u : Value) (hd : a.eval d = v) (hs : a.eval s = u) {v' : Value} {w' : World}
    (hr : (Builtin.copy_ #[t, t'] o.type #[v, u]).run Tryz.prog w = .ok v' w') (h : wpList Tryz.prog ops Q rest (a.put o.dst v') w') : wpList Tryz.prog ops Q (o :: rest) a w := by
  refine wpList_plain hgd fun K hK => ?_
  unfold Oper.wp execOp
  simp only [ho, resolve, invoke, builtin, Sem.run_bind, Sem.run_pure, Result.andThen_ok, List.map_toArray, List.map_cons, List.map_nil, hd, hs, hr]
  exact hK _ _ h
theorem wpList_appM (w : World) {ops : Array Oper} {rest : List Oper} {o : Oper} {a : Act} {Q : Exit → Act → World → Prop} (hgd : o.guard = none) (d s : Operand) (t t' : TypeId)
    (ho : o.op = .call { callee := .builtin .append, args := #[d, s], argTypes := #[t, t'] }) (v u : Value) (hd : a.eval d = v) (hs : a.eval s = u) {v' : Value} {w' : World}
    (hr : (Builtin.append_ #[t, t'] o.type #[v, u]).run Tryz.prog w = .ok v' w') (h : wpList Tryz.prog ops Q rest (a.put o.dst v') w') : wpList Tryz.prog ops Q (o :: rest) a w := by
  refine wpList_plain hgd fun K hK => ?_
  unfold Oper.wp execOp
  simp only [ho, resolve, invoke, builtin, Sem.run_bind, Sem.run_pure, Result.andThen_ok, List.map_toArray, List.map_cons, List.map_nil, hd, hs, hr]
  exact hK _ _ h
theorem step_copyM {ops : Array Oper} {o : Oper} {a : Act} {w : World} {K : Act → World → Prop} {Q : Exit → Act → World → Prop} {E : Prop}
    (hg : o.guard = none) (d x : Operand) (dT sT : TypeId) (hop : o.op = Op.call { callee := Callee.builtin Builtin.copy, args := #[d, x], argTypes := #[dT, sT] })
    (v u : Value) (hd : a.eval d = v) (hx : a.eval x = u) {v' : Value} {w' : World} (hr : (Builtin.copy_ #[dT, sT] o.type #[v, u]).run Tryz.prog w = .ok v' w') (hK : K (a.put o.dst v') w') :
    if Region.wanted o (yielded ops a.tmps) = true then Oper.wp Tryz.prog o a w K Q else E := by
  have hw : Region.wanted o (yielded ops a.tmps) = true := by simp [Region.wanted, hg]
  rw [if_pos hw]
  unfold Oper.wp
  simp [execOp, hop, resolve, invoke, builtin, hd, hx, hr, Result.andThen]
  exact hK
theorem grown_drew (w : World) (r : Option Nat) : w.grownBy w.drew r := ⟨rfl, rfl, rfl, Nat.le_refl _, fun _ _ _ => rfl⟩
theorem grown_trans {a b c : World} {r : Option Nat} (h : a.grownBy b r) (h' : b.grownBy c r) : a.grownBy c r :=
  ⟨h'.os.trans h.os, h'.tape.trans h.tape, h'.output.trans h.output, Nat.le_trans h.size h'.size, fun i hi hne => (h'.block i (Nat.lt_of_lt_of_le hi h.size) hne).trans (h.block i hi hne)⟩
theorem grown_over {a b c : World} {r : Option Nat} {z : Nat} (h : a.grownBy b r) (h' : b.grownBy c (some z)) (hz : a.heap.size ≤ z) : a.grownBy c r :=
  ⟨h'.os.trans h.os, h'.tape.trans h.tape, h'.output.trans h.output, Nat.le_trans h.size h'.size, fun i hi hne => (h'.block i (Nat.lt_of_lt_of_le hi h.size) (fun e => by cases e; omega)).trans (h.block i hi hne)⟩
theorem grown_alloc (w : World) (o : Obj) (r : Option Nat) : w.grownBy (w.alloc o) r := ⟨rfl, rfl, rfl, by simp, fun i hi _ => Below.block (below_alloc w o) i hi⟩
theorem Blkk.frozen {x : World} {g : Nat} {e : TypeId} {N : Nat} (h : Blkk x g e N) (p : Nat) : x.frozen? ⟨g, p, none⟩ = false := by
  obtain ⟨cur, h1, _⟩ := h
  simp [World.frozen?, h1]
theorem drew_cell (x : World) (a : Addr) : x.drew.cell? a = x.cell? a := rfl
theorem Blkk.drew {x : World} {g : Nat} {e : TypeId} {N : Nat} (h : Blkk x g e N) : Blkk x.drew g e N := h
theorem Blkk.made (w : World) (ROW : Array Value) (e : TypeId) (N : Nat) (h : ROW.size = N) : Blkk (w.alloc (.cells ROW e)) w.heap.size e N := ⟨ROW, by show (w.heap.push _)[w.heap.size]? = _; simp, h⟩
theorem Blkk.any {x : World} {g : Nat} {e : TypeId} {N : Nat} (h : Blkk x g e N) {p : Nat} (hp : p < N) : (x.cell? ⟨g, p, none⟩).isSome = true := by
  obtain ⟨u, hu⟩ := (h.cell hp).1
  rw [hu]; rfl
theorem Blkk.shape {x : World} {g : Nat} {e : TypeId} {N : Nat} (h : Blkk x g e N) : x.shape? g = some (e, N) := by
  obtain ⟨cur, h1, h2⟩ := h
  simp [World.shape?, h1, h2]
theorem insF_lt {F : Nat → Int} {m n i p : Nat} {xs : List Int} (hp : p < i * m) : insF F m n i xs p = F p := by
  unfold insF
  rw [List.append_assoc, List.getD_eq_getElem?_getD, List.getElem?_append_left (by rw [nums_length]; exact hp)]
  simp [nums, hp]
theorem insF_at {F : Nat → Int} {m n i p : Nat} {xs : List Int} (hx : xs.length = m) (hp : p < m) : insF F m n i xs (i * m + p) = xs.getD p 0 := by
  unfold insF
  rw [List.append_assoc, List.getD_eq_getElem?_getD, List.getElem?_append_right (by rw [nums_length]; omega), nums_length, Nat.add_sub_cancel_left, List.getElem?_append_left (by omega), List.getD_eq_getElem?_getD]
theorem insF_gt {F : Nat → Int} {m n i p : Nat} {xs : List Int} (hx : xs.length = m) (hp : p < (n - i) * m) : insF F m n i xs ((i + 1) * m + p) = F (i * m + p) := by
  unfold insF
  have e : (i + 1) * m = i * m + m := Nat.succ_mul _ _
  rw [List.append_assoc, List.getD_eq_getElem?_getD, List.getElem?_append_right (by rw [nums_length]; omega), nums_length, List.getElem?_append_right (by omega), show (i + 1) * m + p - i * m - xs.length = p by omega]
  simp [nums, hp]
/-- The cells of a row into which a struct was put. -/
theorem ins_cells {x : World} {g m n i : Nat} {F : Nat → Int} {xs : List Int} (hx : xs.length = m) (hi : i ≤ n) (h1 : ∀ p, p < i * m → x.cell? ⟨g, p, none⟩ = some (.int .i64 (F p))) (h2 : ∀ p, p < m → x.cell? ⟨g, i * m + p, none⟩ = some (.int .i64 (xs.getD p 0)))
    (h3 : ∀ p, p < (n - i) * m → x.cell? ⟨g, (i + 1) * m + p, none⟩ = some (.int .i64 (F (i * m + p)))) : ∀ p, p < (n + 1) * m → x.cell? ⟨g, p, none⟩ = some (.int .i64 (insF F m n i xs p)) := by
  intro p hp
  have e : (i + 1) * m = i * m + m := Nat.succ_mul _ _
  have e2 : (n + 1) * m = (i + 1) * m + (n - i) * m := by rw [← Nat.add_mul]; congr 1; omega
  by_cases a1 : p < i * m
  · rw [h1 p a1, insF_lt a1]
  · by_cases a2 : p < (i + 1) * m
    · have := h2 (p - i * m) (by omega)
      rw [← insF_at (F := F) (n := n) (i := i) hx (by omega), show i * m + (p - i * m) = p by omega] at this
      exact this
    · have := h3 (p - (i + 1) * m) (by omega)
      rw [← insF_gt (F := F) (n := n) (xs := xs) hx (by omega), show (i + 1) * m + (p - (i + 1) * m) = p by omega] at this
      exact this
theorem sets_in (g o N : Nat) (F : Nat → Int) (w : World) (h : ∀ j, j < N → (w.cell? ⟨g, o + j, none⟩).isSome = true) {p : Nat} (hp : p < N) : (w.setCells g o (vals F N)).cell? ⟨g, o + p, none⟩ = some (.int .i64 (F p)) := by
  rw [World.cell?_setCells_in g (vals F N) o w (fun j hj => h j (by rwa [vals_length] at hj)) p (by rw [vals_length]; exact hp)]
  simp [vals]
/-- An append of one struct lies in the row's own block or in a new one. -/
theorem app_block (t ty e : TypeId) (i : TypeInfo) (z : Value) (m bytes : Nat) (ht : Tryz.prog.underlying t = some (.slice e)) (hi : Tryz.prog.info? e = some i) (hz : i.zero = some z) (hsize : i.size = m) (hby : i.bytes = bytes) (hb5 : bytes ≤ 1000)
    (w : World) (B n : Nat) (F X : Nat → Int) (v : Value) (h : Own w B e m n F v) (hn : n < 1048576) (a : Addr) (vc : Nat) (hx : ∀ p, p < m → w.cell? (a.add p) = some (.int .i64 (X p))) {v' : Value} {w' : World}
    (hr : (Builtin.append_ #[t, t] ty #[v, .slice (some a) 1 vc]).run Tryz.prog w = .ok v' w') : ∀ q, v'.ownBlock = some q → v.ownBlock = some q ∨ w.heap.size ≤ q := by
  have hbb : (n + 1) * bytes ≤ 1048576 * 1000 := Nat.mul_le_mul (by omega) hb5
  have hc : ∀ j u, (vals X m)[j]? = some u → w.cell? (a.add j) = some u := fun j u hj => by obtain ⟨h1, rfl⟩ := vals_inv hj; exact hx j h1
  have hsrc : Src Tryz.prog i.size t (.slice (some a) 1 vc) 1 (vals X m) w := Src.ofSlice w ht a 1 vc _ (by rw [vals_length, hsize, Nat.one_mul]) hc (vals_one _ _)
  rcases h.parts with ⟨rfl, rfl⟩ | ⟨g, c, rfl, hg, hnc, hcm, hb, hF⟩
  · have h2 := run_append_grow_src w t t ty e i z ht hi hz none 0 0 [] (run_firstCells_none w.drew _ 0 0 0) _ 1 _ hsrc (by omega) (by omega) (by rw [hby]; exact growslice_fits (by omega) (by omega))
    rw [h2] at hr
    cases hr
    intro q hq
    cases hq
    exact Or.inr (Nat.le_refl _)
  · by_cases hroom : n + 1 ≤ c
    · have hm1 : (n + 1) * m ≤ c * m := Nat.mul_le_mul_right m hroom
      have e1 : (n + 1) * m = n * m + m := Nat.succ_mul _ _
      have h2 := run_append_room_cells w t ty e i ht hi g 0 n c a 1 vc (vals X m) (by rw [vals_length, hsize, Nat.one_mul]) hc (vals_one _ _) hroom (fun j hj => by rw [vals_length] at hj; rw [hsize]; exact hb.any (by omega)) (fun j hj => hb.frozen _)
      rw [h2] at hr
      cases hr
      intro q hq
      exact Or.inl hq
    · have h2 := run_append_grow_src w t t ty e i z ht hi hz (some ⟨g, 0, none⟩) n c (vals F (n * m)) (by rw [hsize]; exact run_firstCells_some w.drew m n _ n c _ (vals_length _ _) (fun j u hj => by obtain ⟨h1, rfl⟩ := vals_inv hj; rw [Addr.add_lit, Nat.zero_add]; exact hF j h1)) _ 1 _ hsrc (by omega) (by omega) (by rw [hby]; exact growslice_fits (by omega) (by omega))
      rw [h2] at hr
      cases hr
      intro q hq
      cases hq
      exact Or.inr (Nat.le_refl _)
end

section
open Go.RowKit Go.Lib
-- Own text. slices.Insert at a row of Writes of which the call has the block: one struct at place i.
theorem sizeW : (Tryz.prog.info? 84).map (·.size) = some 4 := by kernel_rfl
theorem underW : Tryz.prog.underlying 30 = some (.slice 84) := by kernel_rfl

end

section
open Go.RowKit Go.Lib
-- Own text. slices.Insert at a row of Writes: every way in one.
/-- What slices.Insert answers: the row with the struct at place i; nothing else has turned but the row's own block. -/
def InsW (w : World) (B n i : Nat) (F : Nat → Int) (xs : List Int) (v : Value) (e : Ending) (w' : World) : Prop :=
  ∃ ao cp, e = .returned (.slice ao (n + 1) cp) ∧ Own w' B 84 4 (n + 1) (insF F 4 n i xs) (.slice ao (n + 1) cp) ∧ w.grownBy w' v.ownBlock ∧ ∀ q, (Value.slice ao (n + 1) cp).ownBlock = some q → v.ownBlock = some q ∨ w.heap.size ≤ q
end
end Go.Proofs.YtkbjlnnincknaaaGreatDoor
