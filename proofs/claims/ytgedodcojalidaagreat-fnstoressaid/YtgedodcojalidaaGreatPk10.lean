/-
  Own text, merged of DrawE, DrawX, StoM, KeepA, KeepB, PartB, PartC.
-/
import Derived.Test.YtgedodcojalidaaGreatPk9
namespace Go.Proofs.YtgedodcojalidaaGreat
open Go.RowKit

def Sz2 (R : Sto) : Prop := R.nc ≤ 202 ∧ R.nl ≤ 202 ∧ R.nw ≤ 202
/-- A drawn store in its box (block bx), its rows its own. -/
structure DrB (w : World) (b : Nat) (o : Option Addr) (len cap bx : Nat) (S : Sto) (v0 v1 v2 : Value) (a : Int) (x : World) : Prop where
  src : Src x b o len cap a
  but : But b w x
  res : Blk3 x w.heap.size (.slice none 0 0) (.slice none 0 0) (.slice none 0 0)
  box : Blk3 x bx v0 v1 v2
  own : OwnS x (w.heap.size + 1) S v0 v1 v2
  ne : ∀ v ∈ [v0, v1, v2], v.ownBlock ≠ some bx
  lo : b < w.heap.size
  bl : w.heap.size < bx
  base : ∃ z, Src w b o len cap z
theorem DrB.step {w : World} {b : Nat} {o : Option Addr} {len cap bx : Nat} {S : Sto} {v0 v1 v2 : Value} {a a' : Int} {x x' : World} (h : DrB w b o len cap bx S v0 v1 v2 a x) (hT : But b x x') (hS : Src x' b o len cap a') : DrB w b o len cap bx S v0 v1 v2 a' x' where
  src := hS
  but := h.but.trans hT
  res := h.res.butS hT (by have := h.lo; omega)
  box := h.box.butS hT (by have := h.lo; have := h.bl; omega)
  own := h.own.keptS (fun k hk hl => hT.block k hl (fun e => by have := Option.some.inj e; have := h.lo; omega))
  ne := h.ne
  lo := h.lo
  bl := h.bl
  base := h.base
theorem DrB.later {w : World} {b : Nat} {o : Option Addr} {len cap bx : Nat} {S : Sto} {v0 v1 v2 : Value} {a : Int} {x x' : World} (h : DrB w b o len cap bx S v0 v1 v2 a x) (hb : Below x.heap.size x x') : DrB w b o len cap bx S v0 v1 v2 a x' :=
  h.step ((But.refl _ _).below hb) (h.src.later hb)
/-- A drawn store in its box, whatever its rows are. -/
structure DrF (w : World) (b : Nat) (o : Option Addr) (len cap bx : Nat) (S : Sto) (v0 v1 v2 : Value) (a : Int) (x : World) : Prop where
  src : Src x b o len cap a
  but : But b w x
  res : Blk3 x w.heap.size (.slice none 0 0) (.slice none 0 0) (.slice none 0 0)
  box : Blk3 x bx v0 v1 v2
  st : St x (w.heap.size + 1) S v0 v1 v2
  sz : Sz2 S
  base : ∃ z, Src w b o len cap z
theorem DrB.f {w : World} {b : Nat} {o : Option Addr} {len cap bx : Nat} {S : Sto} {v0 v1 v2 : Value} {a : Int} {x : World} (h : DrB w b o len cap bx S v0 v1 v2 a x) (hz : Sz S) : DrF w b o len cap bx S v0 v1 v2 a x := ⟨h.src, h.but, h.res, h.box, h.own.st, ⟨by have := hz.1; omega, by have := hz.2.1; omega, by have := hz.2.2; omega⟩, h.base⟩
theorem St.setO {x : World} {B : Nat} {S : Sto} {v0 v1 v2 : Value} (h : St x B S v0 v1 v2) {c : Nat} (hc : ∀ v ∈ [v0, v1, v2], v.ownBlock ≠ some c) (j : Nat) (u : Value) : St (x.setCell ⟨c, j, none⟩ u) B S v0 v1 v2 := by
  have kp : ∀ {m n : Nat} {F : Nat → Int} {v : Value}, Row x B m n F v → v.ownBlock ≠ some c → Row (x.setCell ⟨c, j, none⟩ u) B m n F v := fun {m n F v} hr hv => by
    obtain ⟨ao, cp, rfl, hr⟩ := hr
    refine ⟨ao, cp, rfl, fun hn => ?_⟩
    obtain ⟨g, o, rfl, h1, h2, h3⟩ := hr hn
    refine ⟨g, o, rfl, h1, by simpa [World.setCell] using h2, fun p hp => ?_⟩
    rw [World.cell?_setCell_other _ _ _ _ (by intro e; simp at e; exact hv (by simp [Value.ownBlock, e.1]))]
    exact h3 p hp
  exact ⟨kp h.1 (hc v0 (by simp)), kp h.2.1 (hc v1 (by simp)), kp h.2.2 (hc v2 (by simp))⟩
/-- A drawn store whose rows are laid anew, its box not yet. -/
structure DrW (w : World) (b : Nat) (o : Option Addr) (len cap bx : Nat) (T : Sto) (u0 u1 u2 v0 v1 v2 : Value) (a : Int) (x : World) : Prop where
  src : Src x b o len cap a
  but : But b w x
  res : Blk3 x w.heap.size (.slice none 0 0) (.slice none 0 0) (.slice none 0 0)
  box : Blk3 x bx v0 v1 v2
  st : St x (w.heap.size + 1) T u0 u1 u2
  ne : ∀ u ∈ [u0, u1, u2], u.ownBlock ≠ some bx
  sz : Sz2 T
  bl : w.heap.size < bx
  base : ∃ z, Src w b o len cap z
theorem DrW.store0 {w : World} {b : Nat} {o : Option Addr} {len cap bx : Nat} {T : Sto} {u0 u1 u2 v : Value} {a : Int} {x : World} (h : DrW w b o len cap bx T u0 u1 u2 v u1 u2 a x) : DrF w b o len cap bx T u0 u1 u2 a (x.setCell ⟨bx, 0, none⟩ u0) := by
  obtain ⟨z, h0⟩ := h.base
  have hb := h.bl
  exact {
    src := h.src.setS h0 h.but (by omega) _ _
    but := h.but.setS (by omega) _ _
    res := h.res.kept (Below.heap_setCell _ _ _ _ (by show w.heap.size ≠ bx; omega))
    box := h.box.set0 u0
    st := h.st.setO h.ne _ _
    sz := h.sz
    base := h.base }
theorem DrW.store1 {w : World} {b : Nat} {o : Option Addr} {len cap bx : Nat} {T : Sto} {u0 u1 u2 v : Value} {a : Int} {x : World} (h : DrW w b o len cap bx T u0 u1 u2 u0 v u2 a x) : DrF w b o len cap bx T u0 u1 u2 a (x.setCell ⟨bx, 1, none⟩ u1) := by
  obtain ⟨z, h0⟩ := h.base
  have hb := h.bl
  exact {
    src := h.src.setS h0 h.but (by omega) _ _
    but := h.but.setS (by omega) _ _
    res := h.res.kept (Below.heap_setCell _ _ _ _ (by show w.heap.size ≠ bx; omega))
    box := h.box.set1 u1
    st := h.st.setO h.ne _ _
    sz := h.sz
    base := h.base }
theorem DrW.store2 {w : World} {b : Nat} {o : Option Addr} {len cap bx : Nat} {T : Sto} {u0 u1 u2 v : Value} {a : Int} {x : World} (h : DrW w b o len cap bx T u0 u1 u2 u0 u1 v a x) : DrF w b o len cap bx T u0 u1 u2 a (x.setCell ⟨bx, 2, none⟩ u2) := by
  obtain ⟨z, h0⟩ := h.base
  have hb := h.bl
  exact {
    src := h.src.setS h0 h.but (by omega) _ _
    but := h.but.setS (by omega) _ _
    res := h.res.kept (Below.heap_setCell _ _ _ _ (by show w.heap.size ≠ bx; omega))
    box := h.box.set2 u2
    st := h.st.setO h.ne _ _
    sz := h.sz
    base := h.base }
theorem DrB.app0 {w : World} {b : Nat} {o : Option Addr} {len cap bx : Nat} {S : Sto} {v0 v1 v2 : Value} {a : Int} {y2 y3 : World} (h : DrB w b o len cap bx S v0 v1 v2 a y2) (hz : Sz S) {ao : Option Addr} {cp : Nat} {L : List Int} (O5 : OwnM y3 (w.heap.size + 1) 59 3 (.slice ao (S.nc + 1) cp) (S.nc + 1) L) (hL : L.length = (S.nc + 1) * 3) (G5 : y2.grownBy y3 v0.ownBlock) (hw : (Value.slice ao (S.nc + 1) cp).ownBlock = v0.ownBlock ∨ (Value.slice ao (S.nc + 1) cp).ownBlock = some y2.heap.size) :
    DrW w b o len cap bx ⟨S.nc + 1, fun p => L.getD p 0, S.nl, S.l, S.nw, S.k⟩ (.slice ao (S.nc + 1) cp) v1 v2 v0 v1 v2 a y3 := by
  obtain ⟨z, h0⟩ := h.base
  have lo := h.lo
  have bl := h.bl
  have hsz := h.but.size
  have hbx := h.box.lt
  have kb : ∀ k, k < y2.heap.size → v0.ownBlock ≠ some k → y3.heap[k]? = y2.heap[k]? := fun k hk hne => G5.block k hk (fun e => hne e.symm)
  have nlo : ∀ k, k ≤ w.heap.size → v0.ownBlock ≠ some k := fun k hk e => by have := (own_blk h.own.1.1 k e).1; omega
  have nb : (Value.slice ao (S.nc + 1) cp).ownBlock ≠ some bx := by
    rcases hw with e | e
    · rw [e]; exact h.ne v0 (by simp)
    · rw [e]; intro e'; have := Option.some.inj e'; omega
  have hB : But b w y3 := ⟨G5.os.trans h.but.os, G5.tape.trans h.but.tape, G5.output.trans h.but.output, Nat.le_trans hsz G5.size, fun i hi hne => (kb i (by omega) (nlo i (by omega))).trans (h.but.block i hi hne)⟩
  have kbb := kb b (by omega) (nlo b (by omega))
  exact {
    src := ⟨(World.cell?_of_block (w := y2) (a := ⟨b, 0, none⟩) kbb).trans h.src.code, (World.cell?_of_block (w := y2) (a := ⟨b, 1, none⟩) kbb).trans h.src.count, (World.frozen?_of_block (w := y2) (a := ⟨b, 1, none⟩) kbb).trans h.src.live, h.src.pos, fun j hj => by
      obtain ⟨g, off', n, e1, e2, e3, e4⟩ := h0.bytes j hj
      exact ⟨g, off', n, e1, e2, hB.cell e3 e2, e4⟩⟩
    but := hB
    res := h.res.kept (kb _ (by omega) (nlo _ (Nat.le_refl _)))
    box := h.box.kept (kb bx hbx (h.ne v0 (by simp)))
    st := ⟨(O5.own hL).row.1, (own_kept h.own.1.2.1 (fun k hk => kb k (own_blk h.own.1.2.1 k hk).2 (fun e => h.own.2.1 k e hk))).row.1, (own_kept h.own.1.2.2 (fun k hk => kb k (own_blk h.own.1.2.2 k hk).2 (fun e => h.own.2.2.1 k e hk))).row.1⟩
    ne := fun u hu => by
      simp only [List.mem_cons, List.not_mem_nil, or_false] at hu
      rcases hu with rfl | rfl | rfl
      · exact nb
      · exact h.ne _ (by simp)
      · exact h.ne _ (by simp)
    sz := ⟨by have := hz.1; show S.nc + 1 ≤ 202; omega, by have := hz.2.1; show S.nl ≤ 202; omega, by have := hz.2.2; show S.nw ≤ 202; omega⟩
    bl := bl
    base := ⟨z, h0⟩ }
theorem DrB.app1 {w : World} {b : Nat} {o : Option Addr} {len cap bx : Nat} {S : Sto} {v0 v1 v2 : Value} {a : Int} {y2 y3 : World} (h : DrB w b o len cap bx S v0 v1 v2 a y2) (hz : Sz S) {ao : Option Addr} {cp : Nat} {L : List Int} (O5 : OwnM y3 (w.heap.size + 1) 62 5 (.slice ao (S.nl + 1) cp) (S.nl + 1) L) (hL : L.length = (S.nl + 1) * 5) (G5 : y2.grownBy y3 v1.ownBlock) (hw : (Value.slice ao (S.nl + 1) cp).ownBlock = v1.ownBlock ∨ (Value.slice ao (S.nl + 1) cp).ownBlock = some y2.heap.size) :
    DrW w b o len cap bx ⟨S.nc, S.c, S.nl + 1, fun p => L.getD p 0, S.nw, S.k⟩ v0 (.slice ao (S.nl + 1) cp) v2 v0 v1 v2 a y3 := by
  obtain ⟨z, h0⟩ := h.base
  have lo := h.lo
  have bl := h.bl
  have hsz := h.but.size
  have hbx := h.box.lt
  have kb : ∀ k, k < y2.heap.size → v1.ownBlock ≠ some k → y3.heap[k]? = y2.heap[k]? := fun k hk hne => G5.block k hk (fun e => hne e.symm)
  have nlo : ∀ k, k ≤ w.heap.size → v1.ownBlock ≠ some k := fun k hk e => by have := (own_blk h.own.1.2.1 k e).1; omega
  have nb : (Value.slice ao (S.nl + 1) cp).ownBlock ≠ some bx := by
    rcases hw with e | e
    · rw [e]; exact h.ne v1 (by simp)
    · rw [e]; intro e'; have := Option.some.inj e'; omega
  have hB : But b w y3 := ⟨G5.os.trans h.but.os, G5.tape.trans h.but.tape, G5.output.trans h.but.output, Nat.le_trans hsz G5.size, fun i hi hne => (kb i (by omega) (nlo i (by omega))).trans (h.but.block i hi hne)⟩
  have kbb := kb b (by omega) (nlo b (by omega))
  exact {
    src := ⟨(World.cell?_of_block (w := y2) (a := ⟨b, 0, none⟩) kbb).trans h.src.code, (World.cell?_of_block (w := y2) (a := ⟨b, 1, none⟩) kbb).trans h.src.count, (World.frozen?_of_block (w := y2) (a := ⟨b, 1, none⟩) kbb).trans h.src.live, h.src.pos, fun j hj => by
      obtain ⟨g, off', n, e1, e2, e3, e4⟩ := h0.bytes j hj
      exact ⟨g, off', n, e1, e2, hB.cell e3 e2, e4⟩⟩
    but := hB
    res := h.res.kept (kb _ (by omega) (nlo _ (Nat.le_refl _)))
    box := h.box.kept (kb bx hbx (h.ne v1 (by simp)))
    st := ⟨(own_kept h.own.1.1 (fun k hk => kb k (own_blk h.own.1.1 k hk).2 (fun e => h.own.2.1 k hk e))).row.1, (O5.own hL).row.1, (own_kept h.own.1.2.2 (fun k hk => kb k (own_blk h.own.1.2.2 k hk).2 (fun e => h.own.2.2.2 k e hk))).row.1⟩
    ne := fun u hu => by
      simp only [List.mem_cons, List.not_mem_nil, or_false] at hu
      rcases hu with rfl | rfl | rfl
      · exact h.ne _ (by simp)
      · exact nb
      · exact h.ne _ (by simp)
    sz := ⟨by have := hz.1; show S.nc ≤ 202; omega, by have := hz.2.1; show S.nl + 1 ≤ 202; omega, by have := hz.2.2; show S.nw ≤ 202; omega⟩
    bl := bl
    base := ⟨z, h0⟩ }
theorem DrB.app2 {w : World} {b : Nat} {o : Option Addr} {len cap bx : Nat} {S : Sto} {v0 v1 v2 : Value} {a : Int} {y2 y3 : World} (h : DrB w b o len cap bx S v0 v1 v2 a y2) (hz : Sz S) {ao : Option Addr} {cp : Nat} {L : List Int} (O5 : OwnM y3 (w.heap.size + 1) 36 4 (.slice ao (S.nw + 1) cp) (S.nw + 1) L) (hL : L.length = (S.nw + 1) * 4) (G5 : y2.grownBy y3 v2.ownBlock) (hw : (Value.slice ao (S.nw + 1) cp).ownBlock = v2.ownBlock ∨ (Value.slice ao (S.nw + 1) cp).ownBlock = some y2.heap.size) :
    DrW w b o len cap bx ⟨S.nc, S.c, S.nl, S.l, S.nw + 1, fun p => L.getD p 0⟩ v0 v1 (.slice ao (S.nw + 1) cp) v0 v1 v2 a y3 := by
  obtain ⟨z, h0⟩ := h.base
  have lo := h.lo
  have bl := h.bl
  have hsz := h.but.size
  have hbx := h.box.lt
  have kb : ∀ k, k < y2.heap.size → v2.ownBlock ≠ some k → y3.heap[k]? = y2.heap[k]? := fun k hk hne => G5.block k hk (fun e => hne e.symm)
  have nlo : ∀ k, k ≤ w.heap.size → v2.ownBlock ≠ some k := fun k hk e => by have := (own_blk h.own.1.2.2 k e).1; omega
  have nb : (Value.slice ao (S.nw + 1) cp).ownBlock ≠ some bx := by
    rcases hw with e | e
    · rw [e]; exact h.ne v2 (by simp)
    · rw [e]; intro e'; have := Option.some.inj e'; omega
  have hB : But b w y3 := ⟨G5.os.trans h.but.os, G5.tape.trans h.but.tape, G5.output.trans h.but.output, Nat.le_trans hsz G5.size, fun i hi hne => (kb i (by omega) (nlo i (by omega))).trans (h.but.block i hi hne)⟩
  have kbb := kb b (by omega) (nlo b (by omega))
  exact {
    src := ⟨(World.cell?_of_block (w := y2) (a := ⟨b, 0, none⟩) kbb).trans h.src.code, (World.cell?_of_block (w := y2) (a := ⟨b, 1, none⟩) kbb).trans h.src.count, (World.frozen?_of_block (w := y2) (a := ⟨b, 1, none⟩) kbb).trans h.src.live, h.src.pos, fun j hj => by
      obtain ⟨g, off', n, e1, e2, e3, e4⟩ := h0.bytes j hj
      exact ⟨g, off', n, e1, e2, hB.cell e3 e2, e4⟩⟩
    but := hB
    res := h.res.kept (kb _ (by omega) (nlo _ (Nat.le_refl _)))
    box := h.box.kept (kb bx hbx (h.ne v2 (by simp)))
    st := ⟨(own_kept h.own.1.1 (fun k hk => kb k (own_blk h.own.1.1 k hk).2 (fun e => h.own.2.2.1 k hk e))).row.1, (own_kept h.own.1.2.1 (fun k hk => kb k (own_blk h.own.1.2.1 k hk).2 (fun e => h.own.2.2.2 k hk e))).row.1, (O5.own hL).row.1⟩
    ne := fun u hu => by
      simp only [List.mem_cons, List.not_mem_nil, or_false] at hu
      rcases hu with rfl | rfl | rfl
      · exact h.ne _ (by simp)
      · exact h.ne _ (by simp)
      · exact nb
    sz := ⟨by have := hz.1; show S.nc ≤ 202; omega, by have := hz.2.1; show S.nl ≤ 202; omega, by have := hz.2.2; show S.nw + 1 ≤ 202; omega⟩
    bl := bl
    base := ⟨z, h0⟩ }
theorem own_m {w : World} {B : Nat} {e : TypeId} {m n : Nat} {F : Nat → Int} {v : Value} (h : Own w B e m n F v) : OwnM w B e m v n (nums F (n * m)) := by
  have : vals F (n * m) = (nums F (n * m)).map (Value.int .i64) := by simp [vals, nums, List.map_map, Function.comp_def]
  unfold OwnM
  rw [← this]
  exact h
theorem row_zeros (w : World) (t : TypeId) {B : Nat} (hB : B ≤ w.heap.size) : Row (w.alloc (.cells (madeCells #[.int .i64 0, .int .i64 0, .int .i64 0, .int .i64 0] 804) t)) B 4 201 (fun _ => 0) (.slice (some ⟨w.heap.size, 0, none⟩) 201 201) := by
  refine ⟨_, _, rfl, fun _ => ⟨w.heap.size, 0, rfl, hB, by simp, fun p hp => ?_⟩⟩
  rw [Nat.zero_add, World.cell?_alloc_mark]
  have hs : (madeCells #[Value.int .i64 0, .int .i64 0, .int .i64 0, .int .i64 0] 804).size = 804 := size_madeCells _ _
  rw [Array.getElem?_eq_getElem (by omega)]
  have h4 : p % 4 = 0 ∨ p % 4 = 1 ∨ p % 4 = 2 ∨ p % 4 = 3 := by omega
  simp only [madeCells]
  rcases h4 with e | e | e | e <;> simp [e]
set_option maxRecDepth 100000 in
set_option maxHeartbeats 16000000 in
theorem l3Bent_any (w : World) (b : Nat) (o : Option Addr) (len cap : Nat) (a : Int) (h : Src w b o len cap a) (ha : a ≤ 100000) (hl : len ≤ 1048576) :
    Calls Tryz.prog 12 #[.pointer (some ⟨b, 0, none⟩)] w fun e w' => ∃ (S : Sto) (a0 : Option Addr) (c0 : Nat) (a1 : Option Addr) (c1 : Nat) (a2 : Option Addr) (c2 : Nat) (z : Int), e = .returned (.agg #[.slice a0 S.nc c0, .slice a1 S.nl c1, .slice a2 S.nw c2]) ∧ (Sz2 S ∧ z ≤ a + 800) ∧ St w' w.heap.size S (.slice a0 S.nc c0) (.slice a1 S.nl c1) (.slice a2 S.nw c2) ∧ Src w' b o len cap z ∧ But b w w' := by
  have hbl := h.lt
  have hpos := h.pos
  have H0 : Hid (Src w b o len cap a) := h
  clear h
  go_enter Tryz.func12, Tryz.ntmps12
  go_wp2_with fail
  try dsimp only
  have HH := l3Right_any (w.alloc (.cells #[.slice none 0 0, .slice none 0 0, .slice none 0 0] 28)) b o len cap a (H0.out.alloc _) ha hl
  refine HH.mono ?_
  rintro e w1 ⟨S, a0, c0, a1, c1, a2, c2, c, rfl, ⟨hZ, hc⟩, hO, hS1, hT1⟩
  have hc0 := hS1.pos
  have HZ : Hid (Sz S) := hZ
  have z1 : w.heap.size < w1.heap.size := by have := hT1.size; simp at this; omega
  have HD : Hid (DrB w b o len cap w1.heap.size S (.slice a0 S.nc c0) (.slice a1 S.nl c1) (.slice a2 S.nw c2) c (w1.alloc (.cells #[.slice a0 S.nc c0, .slice a1 S.nl c1, .slice a2 S.nw c2] 28))) := {
    src := hS1.alloc _
    but := (((But.refl _ _).alloc _).trans hT1).alloc _
    res := ((Blk3.new w (.slice none 0 0) (.slice none 0 0) (.slice none 0 0) 28).butS hT1 (by omega)).alloc _
    box := Blk3.new w1 _ _ _ _
    own := (by simpa using hO : OwnS w1 (w.heap.size + 1) S _ _ _).later (below_alloc _ _)
    ne := hO.fresh
    lo := hbl
    bl := z1
    base := ⟨a, H0.out⟩ }
  clear hO hS1 hT1 hZ
  go_wp2_with fail
  generalize w1.alloc (.cells #[.slice a0 S.nc c0, .slice a1 S.nl c1, .slice a2 S.nw c2] 28) = w2 at HD ⊢
  obtain ⟨bx, hbx⟩ : ∃ bx, w1.heap.size = bx := ⟨_, rfl⟩
  rw [hbx] at HD z1 ⊢
  clear hbx
  refine (l1Next_any _ b o len cap c 20 HD.out.src (by omega) hl).mono ?_
  rintro e w3 ⟨sw, rfl, s0, s1, hS3, hT3⟩
  have HD : Hid (DrB w b o len cap bx S (.slice a0 S.nc c0) (.slice a1 S.nl c1) (.slice a2 S.nw c2) (c + 1) w3) := HD.out.step hT3 hS3
  clear hS3 hT3 s1
  go_upto_block 0 with fail
  go_cut [3] (fun s wx => s = .pointer (some ⟨bx, 0, none⟩) ∧ ∃ (T : Sto) (a0 : Option Addr) (c0 : Nat) (a1 : Option Addr) (c1 : Nat) (a2 : Option Addr) (c2 : Nat) (e : Int), (0 ≤ e ∧ e ≤ c + 10) ∧ Hid (DrF w b o len cap bx T (.slice a0 T.nc c0) (.slice a1 T.nl c1) (.slice a2 T.nw c2) e wx))
  case first =>
    have hsw : sw = 0 ∨ sw = 1 ∨ sw = 2 ∨ sw = 3 ∨ sw = 4 ∨ 5 ≤ sw := by omega
    rcases hsw with rfl | rfl | rfl | rfl | rfl | h5
    · go_wp2_with fail
      refine wp_region_held_drew (S := fun _ => True) (by kernel_rfl) trivial (fun hS => ?_)
      have HD : Hid (DrB w b o len cap bx S (.slice a0 S.nc c0) (.slice a1 S.nl c1) (.slice a2 S.nw c2) (c + 1) w3.drew) := HD.out.later (below_dr (Below.refl _ _) 1)
      generalize w3.drew = y0 at HD ⊢
      refine tkH 0 ?_ hS (fun wx hx => ?_) ?_; rotate_left
      · go_simp; try with_reducible rfl
      refine tkH 2 ?_ hS (fun wx hx => ?_) ?_; rotate_left
      · go_simp; try with_reducible rfl
      refine tkH 5 ?_ hS (fun wx hx => ?_) ?_; rotate_left
      · go_simp; try with_reducible rfl
      refine tkH 8 ?_ hS (fun wx hx => ?_) ?_; rotate_left
      · go_simp; try with_reducible rfl
      simp only [Act.put, List.getElem_toArray, List.getElem_cons_zero, List.getElem_cons_succ, List.setIfInBounds_toArray, List.set_cons_succ, List.set_cons_zero]
      refine wpAnyH_at (n' := 7 + 5) (L' := mkL [⟨3, 13, 4, 14, 12, [189, 5, 0]⟩, ⟨6, 16, 7, 17, 15, [3, 0]⟩, ⟨9, 19, 10, 20, 18, [3, -1]⟩] ⟨1, 11, .slice a0 S.nc c0⟩ #[true, false, true, false, false, true, false, false, true, false, false, false, false, false, false, false] [false, false, false] false 0) (by kernel_rfl) (by kernel_rfl) ?_
      refine wpAnyH_picks (H := fun x => Blk3 x bx (.slice a0 S.nc c0) (.slice a1 S.nl c1) (.slice a2 S.nw c2)) [⟨3, 13, 4, 14, 12, [189, 5, 0]⟩, ⟨6, 16, 7, 17, 15, [3, 0]⟩, ⟨9, 19, 10, 20, 18, [3, -1]⟩] ⟨1, 11, .slice a0 S.nc c0⟩ #[true, false, true, false, false, true, false, false, true, false, false, false, false, false, false, false] _ y0 b o len cap (c + 1) 5 (by kernel_rfl) (by kernel_rfl) (by kernel_rfl) ?ok ?ld ?sr (fun x x' h hT => h.butS hT (by have := HD.out.lo; have := HD.out.bl; omega)) (fun _ _ => trivial) (by show c + 1 + 3 ≤ 1000000; omega) hl ?cont 7 _ _ 0 _ _ (by kernel_rfl) (Stand.start HD.out.src HD.out.box)
      case ok =>
        intro p hp
        simp only [List.mem_cons, List.not_mem_nil, or_false] at hp
        rcases hp with rfl | rfl | rfl
        · exact pkOk3 3 13 4 14 12 (189) (5) (0) _ _ rfl rfl rfl rfl rfl rfl rfl _ rfl
        · exact pkOk2 6 16 7 17 15 (3) (0) _ _ rfl rfl rfl rfl rfl rfl rfl _ rfl
        · exact pkOk2 9 19 10 20 18 (3) (-1) _ _ rfl rfl rfl rfl rfl rfl rfl _ rfl
      case ld =>
        exact ⟨_, rfl, rfl, rfl, fun a' w' K hag hH hk => wp_loadS 24 (fun _ => by kernel_rfl) 10 rfl rfl bx 0 (by rw [hag 10 (by simp) (by simp)]; rfl) _ hH.1.1 hk⟩
      case sr =>
        intro p hp
        simp only [List.mem_cons, List.not_mem_nil, or_false] at hp
        rcases hp with rfl | rfl | rfl <;> rfl
      case cont =>
        intro e x r y1 hr hsrc hbut hH
        obtain ⟨k0, hk0⟩ : ∃ k, r ⟨3, 13, 4, 14, 12, [189, 5, 0]⟩ = k := ⟨_, rfl⟩
        obtain ⟨x0, hx0⟩ : ∃ k, x ⟨3, 13, 4, 14, 12, [189, 5, 0]⟩ = k := ⟨_, rfl⟩
        obtain ⟨k1, hk1⟩ : ∃ k, r ⟨6, 16, 7, 17, 15, [3, 0]⟩ = k := ⟨_, rfl⟩
        obtain ⟨x1, hx1⟩ : ∃ k, x ⟨6, 16, 7, 17, 15, [3, 0]⟩ = k := ⟨_, rfl⟩
        obtain ⟨k2, hk2⟩ : ∃ k, r ⟨9, 19, 10, 20, 18, [3, -1]⟩ = k := ⟨_, rfl⟩
        obtain ⟨x2, hx2⟩ : ∃ k, x ⟨9, 19, 10, 20, 18, [3, -1]⟩ = k := ⟨_, rfl⟩
        simp only [putAll, hk0, hx0, hk1, hx1, hk2, hx2]
        have HD : Hid (DrB w b o len cap bx S (.slice a0 S.nc c0) (.slice a1 S.nl c1) (.slice a2 S.nw c2) (c + 1 + 3) y1) := HD.out.step hbut hsrc
        clear hr hsrc hbut hH hk0 hx0 hk1 hx1 hk2 hx2
        cases e with
        | true =>
          refine wpAnyH_at (n' := 5) (L' := #[true, true, true, true, true, true, true, true, true, true, true, false, false, false, false, false]) rfl (by kernel_rfl) ?_
          simp only [putE, if_true]
          simp only [Act.put, List.setIfInBounds_toArray, List.set_cons_succ, List.set_cons_zero]
          refine tkH 11 ?_ hS (fun wx hx => ?_) ?_; rotate_left
          · go_simp; try with_reducible rfl
          refine rdH 12 (fun K hK => ?_)
          go_simp
          have HI : Hid (Row (y1.alloc (.cells #[.int .i64 k0, .int .i64 k1, .int .i64 k2] 59)) 0 3 1 (fun p => [k0, k1, k2].getD p 0) (.slice (some ⟨y1.heap.size, 0, none⟩) 1 1)) := row_lit3 y1 k0 k1 k2 _
          have HD : Hid (DrB w b o len cap bx S (.slice a0 S.nc c0) (.slice a1 S.nl c1) (.slice a2 S.nw c2) (c + 1 + 3) (y1.alloc (.cells #[.int .i64 k0, .int .i64 k1, .int .i64 k2] 59))) := HD.out.later (below_alloc _ _)
          refine hK.out _ _ trivial (fun hS => ?_)
          clear hK K
          generalize y1.alloc (.cells #[.int .i64 k0, .int .i64 k1, .int .i64 k2] 59) = y2 at HD HI ⊢
          obtain ⟨i0, hi, hz0, hz1, hz2⟩ := info_parts info_Cell
          refine rdH 13 (fun K hK => ?_)
          refine step_appL 59 i0 (.agg #[.int .i64 0, .int .i64 0, .int .i64 0]) 3 24 (by rfl) _ _ 24 (by rfl) Tryz.underlying24 hi hz0 hz1 hz2 rfl (by omega) (by omega) _ (w.heap.size + 1) S.nc (nums S.c (S.nc * 3)) (.slice a0 S.nc c0) (by rfl) (own_m HD.out.own.1.1) 0 1 (fun p => [k0, k1, k2].getD p 0) (.slice (some ⟨y1.heap.size, 0, none⟩) 1 1) (by rfl) HI.out (by have := HZ.out; unfold Sz at this; omega) (by have := HD.out.but.size; have := HD.out.box.lt; have := HD.out.bl; omega) ?_
          intro ao5 cp5 y3 O5 G5 W5
          have HW : Hid (DrW w b o len cap bx ⟨S.nc + 1, fun p => (nums S.c (S.nc * 3) ++ nums (fun p => [k0, k1, k2].getD p 0) (1 * 3)).getD p 0, S.nl, S.l, S.nw, S.k⟩ (.slice ao5 (S.nc + 1) cp5) (.slice a1 S.nl c1) (.slice a2 S.nw c2) (.slice a0 S.nc c0) (.slice a1 S.nl c1) (.slice a2 S.nw c2) (c + 1 + 3) y3) := HD.out.app0 HZ.out O5 (by rw [List.length_append, nums_length, nums_length]; omega) G5 W5
          refine hK.out _ _ trivial (fun hS => ?_)
          clear hK K O5 G5 W5 HI HD hi hz0 hz1 hz2
          refine tkH 14 ?_ hS (fun wx hx => ?_) ?_; rotate_left
          · go_simp; try with_reducible rfl
          obtain ⟨⟨t0, t1, t2⟩, f0, f1, f2⟩ := HW.out.box
          refine rdH 15 (fun K hK => ?_)
          go_simp
          have HF := hid_mk HW.out.store0
          refine hK.out _ _ trivial (fun hS => ?_)
          clear hK K t0 t1 t2 f0 f1 f2
          refine wpAnyH_done (by kernel_rfl) ?_ _
          go_simp
          go_wp2_with fail
          go_meet
          case rel => exact ⟨rfl, ⟨S.nc + 1, fun p => (nums S.c (S.nc * 3) ++ nums (fun p => [k0, k1, k2].getD p 0) (1 * 3)).getD p 0, S.nl, S.l, S.nw, S.k⟩, ao5, cp5, a1, c1, a2, c2, c + 1 + 3, ⟨by omega, by omega⟩, HF⟩
        | false =>
          refine wpAnyH_at (n' := 6) (L' := #[true, false, true, true, true, true, true, true, true, true, true, false, false, false, false, false]) rfl (by kernel_rfl) ?_
          simp only [putE, Bool.false_eq_true, if_false]
          simp only [Act.put, List.setIfInBounds_toArray, List.set_cons_succ, List.set_cons_zero]
          refine tkH 11 ?_ hS (fun wx hx => ?_) ?_; rotate_left
          · go_simp; try with_reducible rfl
          simp only [Act.put, List.getElem_toArray, List.getElem_cons_zero, List.getElem_cons_succ, List.setIfInBounds_toArray, List.set_cons_succ, List.set_cons_zero]
          refine wpAnyH_ready (rs := [1, 12]) (by kernel_rfl) (by simp) ?_
          refine AllReadyH.cons rfl ?_ (AllReadyH.cons rfl ?_ AllReadyH.nil)
          · intro K hK
            obtain ⟨⟨t0, t1, t2⟩, _⟩ := HD.out.box
            go_simp
            refine hK.out _ _ trivial (fun hS => ?_)
            clear hK K t0 t1 t2
            refine rdH 12 (fun K hK => ?_)
            go_simp
            have HI : Hid (Row (y1.alloc (.cells #[.int .i64 k0, .int .i64 k1, .int .i64 k2] 59)) 0 3 1 (fun p => [k0, k1, k2].getD p 0) (.slice (some ⟨y1.heap.size, 0, none⟩) 1 1)) := row_lit3 y1 k0 k1 k2 _
            have HD : Hid (DrB w b o len cap bx S (.slice a0 S.nc c0) (.slice a1 S.nl c1) (.slice a2 S.nw c2) (c + 1 + 3) (y1.alloc (.cells #[.int .i64 k0, .int .i64 k1, .int .i64 k2] 59))) := HD.out.later (below_alloc _ _)
            refine hK.out _ _ trivial (fun hS => ?_)
            clear hK K
            generalize y1.alloc (.cells #[.int .i64 k0, .int .i64 k1, .int .i64 k2] 59) = y2 at HD HI ⊢
            obtain ⟨i0, hi, hz0, hz1, hz2⟩ := info_parts info_Cell
            refine rdH 13 (fun K hK => ?_)
            refine step_appL 59 i0 (.agg #[.int .i64 0, .int .i64 0, .int .i64 0]) 3 24 (by rfl) _ _ 24 (by rfl) Tryz.underlying24 hi hz0 hz1 hz2 rfl (by omega) (by omega) _ (w.heap.size + 1) S.nc (nums S.c (S.nc * 3)) (.slice a0 S.nc c0) (by rfl) (own_m HD.out.own.1.1) 0 1 (fun p => [k0, k1, k2].getD p 0) (.slice (some ⟨y1.heap.size, 0, none⟩) 1 1) (by rfl) HI.out (by have := HZ.out; unfold Sz at this; omega) (by have := HD.out.but.size; have := HD.out.box.lt; have := HD.out.bl; omega) ?_
            intro ao5 cp5 y3 O5 G5 W5
            have HW : Hid (DrW w b o len cap bx ⟨S.nc + 1, fun p => (nums S.c (S.nc * 3) ++ nums (fun p => [k0, k1, k2].getD p 0) (1 * 3)).getD p 0, S.nl, S.l, S.nw, S.k⟩ (.slice ao5 (S.nc + 1) cp5) (.slice a1 S.nl c1) (.slice a2 S.nw c2) (.slice a0 S.nc c0) (.slice a1 S.nl c1) (.slice a2 S.nw c2) (c + 1 + 3) y3) := HD.out.app0 HZ.out O5 (by rw [List.length_append, nums_length, nums_length]; omega) G5 W5
            refine hK.out _ _ trivial (fun hS => ?_)
            clear hK K O5 G5 W5 HI HD hi hz0 hz1 hz2
            refine tkH 14 ?_ hS (fun wx hx => ?_) ?_; rotate_left
            · go_simp; try with_reducible rfl
            obtain ⟨⟨t0, t1, t2⟩, f0, f1, f2⟩ := HW.out.box
            refine rdH 15 (fun K hK => ?_)
            go_simp
            have HF := hid_mk HW.out.store0
            refine hK.out _ _ trivial (fun hS => ?_)
            clear hK K t0 t1 t2 f0 f1 f2
            refine wpAnyH_done (by kernel_rfl) ?_ _
            go_simp
            go_wp2_with fail
            go_meet
            case rel => exact ⟨rfl, ⟨S.nc + 1, fun p => (nums S.c (S.nc * 3) ++ nums (fun p => [k0, k1, k2].getD p 0) (1 * 3)).getD p 0, S.nl, S.l, S.nw, S.k⟩, ao5, cp5, a1, c1, a2, c2, c + 1 + 3, ⟨by omega, by omega⟩, HF⟩
          · intro K hK
            go_simp
            have HI : Hid (Row (y1.alloc (.cells #[.int .i64 k0, .int .i64 k1, .int .i64 k2] 59)) 0 3 1 (fun p => [k0, k1, k2].getD p 0) (.slice (some ⟨y1.heap.size, 0, none⟩) 1 1)) := row_lit3 y1 k0 k1 k2 _
            have HD : Hid (DrB w b o len cap bx S (.slice a0 S.nc c0) (.slice a1 S.nl c1) (.slice a2 S.nw c2) (c + 1 + 3) (y1.alloc (.cells #[.int .i64 k0, .int .i64 k1, .int .i64 k2] 59))) := HD.out.later (below_alloc _ _)
            refine hK.out _ _ trivial (fun hS => ?_)
            clear hK K
            generalize y1.alloc (.cells #[.int .i64 k0, .int .i64 k1, .int .i64 k2] 59) = y2 at HD HI ⊢
            refine rdH 1 (fun K hK => ?_)
            obtain ⟨⟨t0, t1, t2⟩, _⟩ := HD.out.box
            go_simp
            refine hK.out _ _ trivial (fun hS => ?_)
            clear hK K t0 t1 t2
            obtain ⟨i0, hi, hz0, hz1, hz2⟩ := info_parts info_Cell
            refine rdH 13 (fun K hK => ?_)
            refine step_appL 59 i0 (.agg #[.int .i64 0, .int .i64 0, .int .i64 0]) 3 24 (by rfl) _ _ 24 (by rfl) Tryz.underlying24 hi hz0 hz1 hz2 rfl (by omega) (by omega) _ (w.heap.size + 1) S.nc (nums S.c (S.nc * 3)) (.slice a0 S.nc c0) (by rfl) (own_m HD.out.own.1.1) 0 1 (fun p => [k0, k1, k2].getD p 0) (.slice (some ⟨y1.heap.size, 0, none⟩) 1 1) (by rfl) HI.out (by have := HZ.out; unfold Sz at this; omega) (by have := HD.out.but.size; have := HD.out.box.lt; have := HD.out.bl; omega) ?_
            intro ao5 cp5 y3 O5 G5 W5
            have HW : Hid (DrW w b o len cap bx ⟨S.nc + 1, fun p => (nums S.c (S.nc * 3) ++ nums (fun p => [k0, k1, k2].getD p 0) (1 * 3)).getD p 0, S.nl, S.l, S.nw, S.k⟩ (.slice ao5 (S.nc + 1) cp5) (.slice a1 S.nl c1) (.slice a2 S.nw c2) (.slice a0 S.nc c0) (.slice a1 S.nl c1) (.slice a2 S.nw c2) (c + 1 + 3) y3) := HD.out.app0 HZ.out O5 (by rw [List.length_append, nums_length, nums_length]; omega) G5 W5
            refine hK.out _ _ trivial (fun hS => ?_)
            clear hK K O5 G5 W5 HI HD hi hz0 hz1 hz2
            refine tkH 14 ?_ hS (fun wx hx => ?_) ?_; rotate_left
            · go_simp; try with_reducible rfl
            obtain ⟨⟨t0, t1, t2⟩, f0, f1, f2⟩ := HW.out.box
            refine rdH 15 (fun K hK => ?_)
            go_simp
            have HF := hid_mk HW.out.store0
            refine hK.out _ _ trivial (fun hS => ?_)
            clear hK K t0 t1 t2 f0 f1 f2
            refine wpAnyH_done (by kernel_rfl) ?_ _
            go_simp
            go_wp2_with fail
            go_meet
            case rel => exact ⟨rfl, ⟨S.nc + 1, fun p => (nums S.c (S.nc * 3) ++ nums (fun p => [k0, k1, k2].getD p 0) (1 * 3)).getD p 0, S.nl, S.l, S.nw, S.k⟩, ao5, cp5, a1, c1, a2, c2, c + 1 + 3, ⟨by omega, by omega⟩, HF⟩
    · go_wp2_with fail
      refine wp_region_held_drew (S := fun _ => True) (by kernel_rfl) trivial (fun hS => ?_)
      have HD : Hid (DrB w b o len cap bx S (.slice a0 S.nc c0) (.slice a1 S.nl c1) (.slice a2 S.nw c2) (c + 1) w3.drew) := HD.out.later (below_dr (Below.refl _ _) 1)
      generalize w3.drew = y0 at HD ⊢
      refine tkH 0 ?_ hS (fun wx hx => ?_) ?_; rotate_left
      · go_simp; try with_reducible rfl
      refine tkH 2 ?_ hS (fun wx hx => ?_) ?_; rotate_left
      · go_simp; try with_reducible rfl
      refine tkH 5 ?_ hS (fun wx hx => ?_) ?_; rotate_left
      · go_simp; try with_reducible rfl
      refine tkH 8 ?_ hS (fun wx hx => ?_) ?_; rotate_left
      · go_simp; try with_reducible rfl
      refine tkH 11 ?_ hS (fun wx hx => ?_) ?_; rotate_left
      · go_simp; try with_reducible rfl
      simp only [Act.put, List.getElem_toArray, List.getElem_cons_zero, List.getElem_cons_succ, List.setIfInBounds_toArray, List.set_cons_succ, List.set_cons_zero]
      refine wpAnyH_at (n' := 9 + 5) (L' := mkL [⟨3, 30, 4, 31, 29, [189, 5, 0]⟩, ⟨6, 33, 7, 34, 32, [3, 0]⟩, ⟨9, 36, 10, 37, 35, [1, 3, 4]⟩, ⟨12, 39, 13, 40, 38, [0, 5]⟩] ⟨1, 28, .slice a1 S.nl c1⟩ #[true, false, true, false, false, true, false, false, true, false, false, true, false, false, false, false, false, false, false] [false, false, false, false] false 0) (by kernel_rfl) (by kernel_rfl) ?_
      refine wpAnyH_picks (H := fun x => Blk3 x bx (.slice a0 S.nc c0) (.slice a1 S.nl c1) (.slice a2 S.nw c2)) [⟨3, 30, 4, 31, 29, [189, 5, 0]⟩, ⟨6, 33, 7, 34, 32, [3, 0]⟩, ⟨9, 36, 10, 37, 35, [1, 3, 4]⟩, ⟨12, 39, 13, 40, 38, [0, 5]⟩] ⟨1, 28, .slice a1 S.nl c1⟩ #[true, false, true, false, false, true, false, false, true, false, false, true, false, false, false, false, false, false, false] _ y0 b o len cap (c + 1) 5 (by kernel_rfl) (by kernel_rfl) (by kernel_rfl) ?ok ?ld ?sr (fun x x' h hT => h.butS hT (by have := HD.out.lo; have := HD.out.bl; omega)) (fun _ _ => trivial) (by show c + 1 + 4 ≤ 1000000; omega) hl ?cont 9 _ _ 0 _ _ (by kernel_rfl) (Stand.start HD.out.src HD.out.box)
      case ok =>
        intro p hp
        simp only [List.mem_cons, List.not_mem_nil, or_false] at hp
        rcases hp with rfl | rfl | rfl | rfl
        · exact pkOk3 3 30 4 31 29 (189) (5) (0) _ _ rfl rfl rfl rfl rfl rfl rfl _ rfl
        · exact pkOk2 6 33 7 34 32 (3) (0) _ _ rfl rfl rfl rfl rfl rfl rfl _ rfl
        · exact pkOk3 9 36 10 37 35 (1) (3) (4) _ _ rfl rfl rfl rfl rfl rfl rfl _ rfl
        · exact pkOk2 12 39 13 40 38 (0) (5) _ _ rfl rfl rfl rfl rfl rfl rfl _ rfl
      case ld =>
        exact ⟨_, rfl, rfl, rfl, fun a' w' K hag hH hk => wp_loadS 25 (fun _ => by kernel_rfl) 27 rfl rfl bx 1 (by rw [hag 27 (by simp) (by simp)]; rfl) _ hH.1.2.1 hk⟩
      case sr =>
        intro p hp
        simp only [List.mem_cons, List.not_mem_nil, or_false] at hp
        rcases hp with rfl | rfl | rfl | rfl <;> rfl
      case cont =>
        intro e x r y1 hr hsrc hbut hH
        obtain ⟨k0, hk0⟩ : ∃ k, r ⟨3, 30, 4, 31, 29, [189, 5, 0]⟩ = k := ⟨_, rfl⟩
        obtain ⟨x0, hx0⟩ : ∃ k, x ⟨3, 30, 4, 31, 29, [189, 5, 0]⟩ = k := ⟨_, rfl⟩
        obtain ⟨k1, hk1⟩ : ∃ k, r ⟨6, 33, 7, 34, 32, [3, 0]⟩ = k := ⟨_, rfl⟩
        obtain ⟨x1, hx1⟩ : ∃ k, x ⟨6, 33, 7, 34, 32, [3, 0]⟩ = k := ⟨_, rfl⟩
        obtain ⟨k2, hk2⟩ : ∃ k, r ⟨9, 36, 10, 37, 35, [1, 3, 4]⟩ = k := ⟨_, rfl⟩
        obtain ⟨x2, hx2⟩ : ∃ k, x ⟨9, 36, 10, 37, 35, [1, 3, 4]⟩ = k := ⟨_, rfl⟩
        obtain ⟨k3, hk3⟩ : ∃ k, r ⟨12, 39, 13, 40, 38, [0, 5]⟩ = k := ⟨_, rfl⟩
        obtain ⟨x3, hx3⟩ : ∃ k, x ⟨12, 39, 13, 40, 38, [0, 5]⟩ = k := ⟨_, rfl⟩
        simp only [putAll, hk0, hx0, hk1, hx1, hk2, hx2, hk3, hx3]
        have HD : Hid (DrB w b o len cap bx S (.slice a0 S.nc c0) (.slice a1 S.nl c1) (.slice a2 S.nw c2) (c + 1 + 4) y1) := HD.out.step hbut hsrc
        clear hr hsrc hbut hH hk0 hx0 hk1 hx1 hk2 hx2 hk3 hx3
        cases e with
        | true =>
          refine wpAnyH_at (n' := 5) (L' := #[true, true, true, true, true, true, true, true, true, true, true, true, true, true, false, false, false, false, false]) rfl (by kernel_rfl) ?_
          simp only [putE, if_true]
          simp only [Act.put, List.setIfInBounds_toArray, List.set_cons_succ, List.set_cons_zero]
          refine tkH 14 ?_ hS (fun wx hx => ?_) ?_; rotate_left
          · go_simp; try with_reducible rfl
          refine rdH 15 (fun K hK => ?_)
          go_simp
          have HI : Hid (Row (y1.alloc (.cells #[.int .i64 k0, .int .i64 k1, .int .i64 k2, .int .i64 k3, .int .i64 0] 62)) 0 5 1 (fun p => [k0, k1, k2, k3, 0].getD p 0) (.slice (some ⟨y1.heap.size, 0, none⟩) 1 1)) := row_lit5 y1 k0 k1 k2 k3 0 _
          have HD : Hid (DrB w b o len cap bx S (.slice a0 S.nc c0) (.slice a1 S.nl c1) (.slice a2 S.nw c2) (c + 1 + 4) (y1.alloc (.cells #[.int .i64 k0, .int .i64 k1, .int .i64 k2, .int .i64 k3, .int .i64 0] 62))) := HD.out.later (below_alloc _ _)
          refine hK.out _ _ trivial (fun hS => ?_)
          clear hK K
          generalize y1.alloc (.cells #[.int .i64 k0, .int .i64 k1, .int .i64 k2, .int .i64 k3, .int .i64 0] 62) = y2 at HD HI ⊢
          obtain ⟨i0, hi, hz0, hz1, hz2⟩ := info_parts info_Lock
          refine rdH 16 (fun K hK => ?_)
          refine step_appL 62 i0 (.agg #[.int .i64 0, .int .i64 0, .int .i64 0, .int .i64 0, .int .i64 0]) 5 40 (by rfl) _ _ 25 (by rfl) Tryz.underlying25 hi hz0 hz1 hz2 rfl (by omega) (by omega) _ (w.heap.size + 1) S.nl (nums S.l (S.nl * 5)) (.slice a1 S.nl c1) (by rfl) (own_m HD.out.own.1.2.1) 0 1 (fun p => [k0, k1, k2, k3, 0].getD p 0) (.slice (some ⟨y1.heap.size, 0, none⟩) 1 1) (by rfl) HI.out (by have := HZ.out; unfold Sz at this; omega) (by have := HD.out.but.size; have := HD.out.box.lt; have := HD.out.bl; omega) ?_
          intro ao5 cp5 y3 O5 G5 W5
          have HW : Hid (DrW w b o len cap bx ⟨S.nc, S.c, S.nl + 1, fun p => (nums S.l (S.nl * 5) ++ nums (fun p => [k0, k1, k2, k3, 0].getD p 0) (1 * 5)).getD p 0, S.nw, S.k⟩ (.slice a0 S.nc c0) (.slice ao5 (S.nl + 1) cp5) (.slice a2 S.nw c2) (.slice a0 S.nc c0) (.slice a1 S.nl c1) (.slice a2 S.nw c2) (c + 1 + 4) y3) := HD.out.app1 HZ.out O5 (by rw [List.length_append, nums_length, nums_length]; omega) G5 W5
          refine hK.out _ _ trivial (fun hS => ?_)
          clear hK K O5 G5 W5 HI HD hi hz0 hz1 hz2
          refine tkH 17 ?_ hS (fun wx hx => ?_) ?_; rotate_left
          · go_simp; try with_reducible rfl
          obtain ⟨⟨t0, t1, t2⟩, f0, f1, f2⟩ := HW.out.box
          refine rdH 18 (fun K hK => ?_)
          go_simp
          have HF := hid_mk HW.out.store1
          refine hK.out _ _ trivial (fun hS => ?_)
          clear hK K t0 t1 t2 f0 f1 f2
          refine wpAnyH_done (by kernel_rfl) ?_ _
          go_simp
          go_wp2_with fail
          go_meet
          case rel => exact ⟨rfl, ⟨S.nc, S.c, S.nl + 1, fun p => (nums S.l (S.nl * 5) ++ nums (fun p => [k0, k1, k2, k3, 0].getD p 0) (1 * 5)).getD p 0, S.nw, S.k⟩, a0, c0, ao5, cp5, a2, c2, c + 1 + 4, ⟨by omega, by omega⟩, HF⟩
        | false =>
          refine wpAnyH_at (n' := 6) (L' := #[true, false, true, true, true, true, true, true, true, true, true, true, true, true, false, false, false, false, false]) rfl (by kernel_rfl) ?_
          simp only [putE, Bool.false_eq_true, if_false]
          simp only [Act.put, List.setIfInBounds_toArray, List.set_cons_succ, List.set_cons_zero]
          refine tkH 14 ?_ hS (fun wx hx => ?_) ?_; rotate_left
          · go_simp; try with_reducible rfl
          simp only [Act.put, List.getElem_toArray, List.getElem_cons_zero, List.getElem_cons_succ, List.setIfInBounds_toArray, List.set_cons_succ, List.set_cons_zero]
          refine wpAnyH_ready (rs := [1, 15]) (by kernel_rfl) (by simp) ?_
          refine AllReadyH.cons rfl ?_ (AllReadyH.cons rfl ?_ AllReadyH.nil)
          · intro K hK
            obtain ⟨⟨t0, t1, t2⟩, _⟩ := HD.out.box
            go_simp
            refine hK.out _ _ trivial (fun hS => ?_)
            clear hK K t0 t1 t2
            refine rdH 15 (fun K hK => ?_)
            go_simp
            have HI : Hid (Row (y1.alloc (.cells #[.int .i64 k0, .int .i64 k1, .int .i64 k2, .int .i64 k3, .int .i64 0] 62)) 0 5 1 (fun p => [k0, k1, k2, k3, 0].getD p 0) (.slice (some ⟨y1.heap.size, 0, none⟩) 1 1)) := row_lit5 y1 k0 k1 k2 k3 0 _
            have HD : Hid (DrB w b o len cap bx S (.slice a0 S.nc c0) (.slice a1 S.nl c1) (.slice a2 S.nw c2) (c + 1 + 4) (y1.alloc (.cells #[.int .i64 k0, .int .i64 k1, .int .i64 k2, .int .i64 k3, .int .i64 0] 62))) := HD.out.later (below_alloc _ _)
            refine hK.out _ _ trivial (fun hS => ?_)
            clear hK K
            generalize y1.alloc (.cells #[.int .i64 k0, .int .i64 k1, .int .i64 k2, .int .i64 k3, .int .i64 0] 62) = y2 at HD HI ⊢
            obtain ⟨i0, hi, hz0, hz1, hz2⟩ := info_parts info_Lock
            refine rdH 16 (fun K hK => ?_)
            refine step_appL 62 i0 (.agg #[.int .i64 0, .int .i64 0, .int .i64 0, .int .i64 0, .int .i64 0]) 5 40 (by rfl) _ _ 25 (by rfl) Tryz.underlying25 hi hz0 hz1 hz2 rfl (by omega) (by omega) _ (w.heap.size + 1) S.nl (nums S.l (S.nl * 5)) (.slice a1 S.nl c1) (by rfl) (own_m HD.out.own.1.2.1) 0 1 (fun p => [k0, k1, k2, k3, 0].getD p 0) (.slice (some ⟨y1.heap.size, 0, none⟩) 1 1) (by rfl) HI.out (by have := HZ.out; unfold Sz at this; omega) (by have := HD.out.but.size; have := HD.out.box.lt; have := HD.out.bl; omega) ?_
            intro ao5 cp5 y3 O5 G5 W5
            have HW : Hid (DrW w b o len cap bx ⟨S.nc, S.c, S.nl + 1, fun p => (nums S.l (S.nl * 5) ++ nums (fun p => [k0, k1, k2, k3, 0].getD p 0) (1 * 5)).getD p 0, S.nw, S.k⟩ (.slice a0 S.nc c0) (.slice ao5 (S.nl + 1) cp5) (.slice a2 S.nw c2) (.slice a0 S.nc c0) (.slice a1 S.nl c1) (.slice a2 S.nw c2) (c + 1 + 4) y3) := HD.out.app1 HZ.out O5 (by rw [List.length_append, nums_length, nums_length]; omega) G5 W5
            refine hK.out _ _ trivial (fun hS => ?_)
            clear hK K O5 G5 W5 HI HD hi hz0 hz1 hz2
            refine tkH 17 ?_ hS (fun wx hx => ?_) ?_; rotate_left
            · go_simp; try with_reducible rfl
            obtain ⟨⟨t0, t1, t2⟩, f0, f1, f2⟩ := HW.out.box
            refine rdH 18 (fun K hK => ?_)
            go_simp
            have HF := hid_mk HW.out.store1
            refine hK.out _ _ trivial (fun hS => ?_)
            clear hK K t0 t1 t2 f0 f1 f2
            refine wpAnyH_done (by kernel_rfl) ?_ _
            go_simp
            go_wp2_with fail
            go_meet
            case rel => exact ⟨rfl, ⟨S.nc, S.c, S.nl + 1, fun p => (nums S.l (S.nl * 5) ++ nums (fun p => [k0, k1, k2, k3, 0].getD p 0) (1 * 5)).getD p 0, S.nw, S.k⟩, a0, c0, ao5, cp5, a2, c2, c + 1 + 4, ⟨by omega, by omega⟩, HF⟩
          · intro K hK
            go_simp
            have HI : Hid (Row (y1.alloc (.cells #[.int .i64 k0, .int .i64 k1, .int .i64 k2, .int .i64 k3, .int .i64 0] 62)) 0 5 1 (fun p => [k0, k1, k2, k3, 0].getD p 0) (.slice (some ⟨y1.heap.size, 0, none⟩) 1 1)) := row_lit5 y1 k0 k1 k2 k3 0 _
            have HD : Hid (DrB w b o len cap bx S (.slice a0 S.nc c0) (.slice a1 S.nl c1) (.slice a2 S.nw c2) (c + 1 + 4) (y1.alloc (.cells #[.int .i64 k0, .int .i64 k1, .int .i64 k2, .int .i64 k3, .int .i64 0] 62))) := HD.out.later (below_alloc _ _)
            refine hK.out _ _ trivial (fun hS => ?_)
            clear hK K
            generalize y1.alloc (.cells #[.int .i64 k0, .int .i64 k1, .int .i64 k2, .int .i64 k3, .int .i64 0] 62) = y2 at HD HI ⊢
            refine rdH 1 (fun K hK => ?_)
            obtain ⟨⟨t0, t1, t2⟩, _⟩ := HD.out.box
            go_simp
            refine hK.out _ _ trivial (fun hS => ?_)
            clear hK K t0 t1 t2
            obtain ⟨i0, hi, hz0, hz1, hz2⟩ := info_parts info_Lock
            refine rdH 16 (fun K hK => ?_)
            refine step_appL 62 i0 (.agg #[.int .i64 0, .int .i64 0, .int .i64 0, .int .i64 0, .int .i64 0]) 5 40 (by rfl) _ _ 25 (by rfl) Tryz.underlying25 hi hz0 hz1 hz2 rfl (by omega) (by omega) _ (w.heap.size + 1) S.nl (nums S.l (S.nl * 5)) (.slice a1 S.nl c1) (by rfl) (own_m HD.out.own.1.2.1) 0 1 (fun p => [k0, k1, k2, k3, 0].getD p 0) (.slice (some ⟨y1.heap.size, 0, none⟩) 1 1) (by rfl) HI.out (by have := HZ.out; unfold Sz at this; omega) (by have := HD.out.but.size; have := HD.out.box.lt; have := HD.out.bl; omega) ?_
            intro ao5 cp5 y3 O5 G5 W5
            have HW : Hid (DrW w b o len cap bx ⟨S.nc, S.c, S.nl + 1, fun p => (nums S.l (S.nl * 5) ++ nums (fun p => [k0, k1, k2, k3, 0].getD p 0) (1 * 5)).getD p 0, S.nw, S.k⟩ (.slice a0 S.nc c0) (.slice ao5 (S.nl + 1) cp5) (.slice a2 S.nw c2) (.slice a0 S.nc c0) (.slice a1 S.nl c1) (.slice a2 S.nw c2) (c + 1 + 4) y3) := HD.out.app1 HZ.out O5 (by rw [List.length_append, nums_length, nums_length]; omega) G5 W5
            refine hK.out _ _ trivial (fun hS => ?_)
            clear hK K O5 G5 W5 HI HD hi hz0 hz1 hz2
            refine tkH 17 ?_ hS (fun wx hx => ?_) ?_; rotate_left
            · go_simp; try with_reducible rfl
            obtain ⟨⟨t0, t1, t2⟩, f0, f1, f2⟩ := HW.out.box
            refine rdH 18 (fun K hK => ?_)
            go_simp
            have HF := hid_mk HW.out.store1
            refine hK.out _ _ trivial (fun hS => ?_)
            clear hK K t0 t1 t2 f0 f1 f2
            refine wpAnyH_done (by kernel_rfl) ?_ _
            go_simp
            go_wp2_with fail
            go_meet
            case rel => exact ⟨rfl, ⟨S.nc, S.c, S.nl + 1, fun p => (nums S.l (S.nl * 5) ++ nums (fun p => [k0, k1, k2, k3, 0].getD p 0) (1 * 5)).getD p 0, S.nw, S.k⟩, a0, c0, ao5, cp5, a2, c2, c + 1 + 4, ⟨by omega, by omega⟩, HF⟩
    · go_wp2_with fail
      refine wp_region_held_drew (S := fun _ => True) (by kernel_rfl) trivial (fun hS => ?_)
      have HD : Hid (DrB w b o len cap bx S (.slice a0 S.nc c0) (.slice a1 S.nl c1) (.slice a2 S.nw c2) (c + 1) w3.drew) := HD.out.later (below_dr (Below.refl _ _) 1)
      generalize w3.drew = y0 at HD ⊢
      refine tkH 0 ?_ hS (fun wx hx => ?_) ?_; rotate_left
      · go_simp; try with_reducible rfl
      refine tkH 2 ?_ hS (fun wx hx => ?_) ?_; rotate_left
      · go_simp; try with_reducible rfl
      refine tkH 5 ?_ hS (fun wx hx => ?_) ?_; rotate_left
      · go_simp; try with_reducible rfl
      refine tkH 8 ?_ hS (fun wx hx => ?_) ?_; rotate_left
      · go_simp; try with_reducible rfl
      simp only [Act.put, List.getElem_toArray, List.getElem_cons_zero, List.getElem_cons_succ, List.setIfInBounds_toArray, List.set_cons_succ, List.set_cons_zero]
      refine wpAnyH_at (n' := 7 + 5) (L' := mkL [⟨3, 50, 4, 51, 49, [189, 5, 0]⟩, ⟨6, 53, 7, 54, 52, [5, 3]⟩, ⟨9, 56, 10, 57, 55, [1, 2, 4, 5]⟩] ⟨1, 48, .slice a2 S.nw c2⟩ #[true, false, true, false, false, true, false, false, true, false, false, false, false, false, false, false] [false, false, false] false 0) (by kernel_rfl) (by kernel_rfl) ?_
      refine wpAnyH_picks (H := fun x => Blk3 x bx (.slice a0 S.nc c0) (.slice a1 S.nl c1) (.slice a2 S.nw c2)) [⟨3, 50, 4, 51, 49, [189, 5, 0]⟩, ⟨6, 53, 7, 54, 52, [5, 3]⟩, ⟨9, 56, 10, 57, 55, [1, 2, 4, 5]⟩] ⟨1, 48, .slice a2 S.nw c2⟩ #[true, false, true, false, false, true, false, false, true, false, false, false, false, false, false, false] _ y0 b o len cap (c + 1) 5 (by kernel_rfl) (by kernel_rfl) (by kernel_rfl) ?ok ?ld ?sr (fun x x' h hT => h.butS hT (by have := HD.out.lo; have := HD.out.bl; omega)) (fun _ _ => trivial) (by show c + 1 + 3 ≤ 1000000; omega) hl ?cont 7 _ _ 0 _ _ (by kernel_rfl) (Stand.start HD.out.src HD.out.box)
      case ok =>
        intro p hp
        simp only [List.mem_cons, List.not_mem_nil, or_false] at hp
        rcases hp with rfl | rfl | rfl
        · exact pkOk3 3 50 4 51 49 (189) (5) (0) _ _ rfl rfl rfl rfl rfl rfl rfl _ rfl
        · exact pkOk2 6 53 7 54 52 (5) (3) _ _ rfl rfl rfl rfl rfl rfl rfl _ rfl
        · exact pkOk4 9 56 10 57 55 (1) (2) (4) (5) _ _ rfl rfl rfl rfl rfl rfl rfl _ rfl
      case ld =>
        exact ⟨_, rfl, rfl, rfl, fun a' w' K hag hH hk => wp_loadS 26 (fun _ => by kernel_rfl) 47 rfl rfl bx 2 (by rw [hag 47 (by simp) (by simp)]; rfl) _ hH.1.2.2 hk⟩
      case sr =>
        intro p hp
        simp only [List.mem_cons, List.not_mem_nil, or_false] at hp
        rcases hp with rfl | rfl | rfl <;> rfl
      case cont =>
        intro e x r y1 hr hsrc hbut hH
        obtain ⟨k0, hk0⟩ : ∃ k, r ⟨3, 50, 4, 51, 49, [189, 5, 0]⟩ = k := ⟨_, rfl⟩
        obtain ⟨x0, hx0⟩ : ∃ k, x ⟨3, 50, 4, 51, 49, [189, 5, 0]⟩ = k := ⟨_, rfl⟩
        obtain ⟨k1, hk1⟩ : ∃ k, r ⟨6, 53, 7, 54, 52, [5, 3]⟩ = k := ⟨_, rfl⟩
        obtain ⟨x1, hx1⟩ : ∃ k, x ⟨6, 53, 7, 54, 52, [5, 3]⟩ = k := ⟨_, rfl⟩
        obtain ⟨k2, hk2⟩ : ∃ k, r ⟨9, 56, 10, 57, 55, [1, 2, 4, 5]⟩ = k := ⟨_, rfl⟩
        obtain ⟨x2, hx2⟩ : ∃ k, x ⟨9, 56, 10, 57, 55, [1, 2, 4, 5]⟩ = k := ⟨_, rfl⟩
        simp only [putAll, hk0, hx0, hk1, hx1, hk2, hx2]
        have HD : Hid (DrB w b o len cap bx S (.slice a0 S.nc c0) (.slice a1 S.nl c1) (.slice a2 S.nw c2) (c + 1 + 3) y1) := HD.out.step hbut hsrc
        clear hr hsrc hbut hH hk0 hx0 hk1 hx1 hk2 hx2
        cases e with
        | true =>
          refine wpAnyH_at (n' := 5) (L' := #[true, true, true, true, true, true, true, true, true, true, true, false, false, false, false, false]) rfl (by kernel_rfl) ?_
          simp only [putE, if_true]
          simp only [Act.put, List.setIfInBounds_toArray, List.set_cons_succ, List.set_cons_zero]
          refine tkH 11 ?_ hS (fun wx hx => ?_) ?_; rotate_left
          · go_simp; try with_reducible rfl
          refine rdH 12 (fun K hK => ?_)
          go_simp
          have HI : Hid (Row (y1.alloc (.cells #[.int .i64 k0, .int .i64 k1, .int .i64 3, .int .i64 k2] 36)) 0 4 1 (fun p => [k0, k1, 3, k2].getD p 0) (.slice (some ⟨y1.heap.size, 0, none⟩) 1 1)) := row_lit4 y1 k0 k1 3 k2 _
          have HD : Hid (DrB w b o len cap bx S (.slice a0 S.nc c0) (.slice a1 S.nl c1) (.slice a2 S.nw c2) (c + 1 + 3) (y1.alloc (.cells #[.int .i64 k0, .int .i64 k1, .int .i64 3, .int .i64 k2] 36))) := HD.out.later (below_alloc _ _)
          refine hK.out _ _ trivial (fun hS => ?_)
          clear hK K
          generalize y1.alloc (.cells #[.int .i64 k0, .int .i64 k1, .int .i64 3, .int .i64 k2] 36) = y2 at HD HI ⊢
          obtain ⟨i0, hi, hz0, hz1, hz2⟩ := info_parts info_Write
          refine rdH 13 (fun K hK => ?_)
          refine step_appL 36 i0 (.agg #[.int .i64 0, .int .i64 0, .int .i64 0, .int .i64 0]) 4 32 (by rfl) _ _ 26 (by rfl) Tryz.underlying26 hi hz0 hz1 hz2 rfl (by omega) (by omega) _ (w.heap.size + 1) S.nw (nums S.k (S.nw * 4)) (.slice a2 S.nw c2) (by rfl) (own_m HD.out.own.1.2.2) 0 1 (fun p => [k0, k1, 3, k2].getD p 0) (.slice (some ⟨y1.heap.size, 0, none⟩) 1 1) (by rfl) HI.out (by have := HZ.out; unfold Sz at this; omega) (by have := HD.out.but.size; have := HD.out.box.lt; have := HD.out.bl; omega) ?_
          intro ao5 cp5 y3 O5 G5 W5
          have HW : Hid (DrW w b o len cap bx ⟨S.nc, S.c, S.nl, S.l, S.nw + 1, fun p => (nums S.k (S.nw * 4) ++ nums (fun p => [k0, k1, 3, k2].getD p 0) (1 * 4)).getD p 0⟩ (.slice a0 S.nc c0) (.slice a1 S.nl c1) (.slice ao5 (S.nw + 1) cp5) (.slice a0 S.nc c0) (.slice a1 S.nl c1) (.slice a2 S.nw c2) (c + 1 + 3) y3) := HD.out.app2 HZ.out O5 (by rw [List.length_append, nums_length, nums_length]; omega) G5 W5
          refine hK.out _ _ trivial (fun hS => ?_)
          clear hK K O5 G5 W5 HI HD hi hz0 hz1 hz2
          refine tkH 14 ?_ hS (fun wx hx => ?_) ?_; rotate_left
          · go_simp; try with_reducible rfl
          obtain ⟨⟨t0, t1, t2⟩, f0, f1, f2⟩ := HW.out.box
          refine rdH 15 (fun K hK => ?_)
          go_simp
          have HF := hid_mk HW.out.store2
          refine hK.out _ _ trivial (fun hS => ?_)
          clear hK K t0 t1 t2 f0 f1 f2
          refine wpAnyH_done (by kernel_rfl) ?_ _
          go_simp
          go_wp2_with fail
          go_meet
          case rel => exact ⟨rfl, ⟨S.nc, S.c, S.nl, S.l, S.nw + 1, fun p => (nums S.k (S.nw * 4) ++ nums (fun p => [k0, k1, 3, k2].getD p 0) (1 * 4)).getD p 0⟩, a0, c0, a1, c1, ao5, cp5, c + 1 + 3, ⟨by omega, by omega⟩, HF⟩
        | false =>
          refine wpAnyH_at (n' := 6) (L' := #[true, false, true, true, true, true, true, true, true, true, true, false, false, false, false, false]) rfl (by kernel_rfl) ?_
          simp only [putE, Bool.false_eq_true, if_false]
          simp only [Act.put, List.setIfInBounds_toArray, List.set_cons_succ, List.set_cons_zero]
          refine tkH 11 ?_ hS (fun wx hx => ?_) ?_; rotate_left
          · go_simp; try with_reducible rfl
          simp only [Act.put, List.getElem_toArray, List.getElem_cons_zero, List.getElem_cons_succ, List.setIfInBounds_toArray, List.set_cons_succ, List.set_cons_zero]
          refine wpAnyH_ready (rs := [1, 12]) (by kernel_rfl) (by simp) ?_
          refine AllReadyH.cons rfl ?_ (AllReadyH.cons rfl ?_ AllReadyH.nil)
          · intro K hK
            obtain ⟨⟨t0, t1, t2⟩, _⟩ := HD.out.box
            go_simp
            refine hK.out _ _ trivial (fun hS => ?_)
            clear hK K t0 t1 t2
            refine rdH 12 (fun K hK => ?_)
            go_simp
            have HI : Hid (Row (y1.alloc (.cells #[.int .i64 k0, .int .i64 k1, .int .i64 3, .int .i64 k2] 36)) 0 4 1 (fun p => [k0, k1, 3, k2].getD p 0) (.slice (some ⟨y1.heap.size, 0, none⟩) 1 1)) := row_lit4 y1 k0 k1 3 k2 _
            have HD : Hid (DrB w b o len cap bx S (.slice a0 S.nc c0) (.slice a1 S.nl c1) (.slice a2 S.nw c2) (c + 1 + 3) (y1.alloc (.cells #[.int .i64 k0, .int .i64 k1, .int .i64 3, .int .i64 k2] 36))) := HD.out.later (below_alloc _ _)
            refine hK.out _ _ trivial (fun hS => ?_)
            clear hK K
            generalize y1.alloc (.cells #[.int .i64 k0, .int .i64 k1, .int .i64 3, .int .i64 k2] 36) = y2 at HD HI ⊢
            obtain ⟨i0, hi, hz0, hz1, hz2⟩ := info_parts info_Write
            refine rdH 13 (fun K hK => ?_)
            refine step_appL 36 i0 (.agg #[.int .i64 0, .int .i64 0, .int .i64 0, .int .i64 0]) 4 32 (by rfl) _ _ 26 (by rfl) Tryz.underlying26 hi hz0 hz1 hz2 rfl (by omega) (by omega) _ (w.heap.size + 1) S.nw (nums S.k (S.nw * 4)) (.slice a2 S.nw c2) (by rfl) (own_m HD.out.own.1.2.2) 0 1 (fun p => [k0, k1, 3, k2].getD p 0) (.slice (some ⟨y1.heap.size, 0, none⟩) 1 1) (by rfl) HI.out (by have := HZ.out; unfold Sz at this; omega) (by have := HD.out.but.size; have := HD.out.box.lt; have := HD.out.bl; omega) ?_
            intro ao5 cp5 y3 O5 G5 W5
            have HW : Hid (DrW w b o len cap bx ⟨S.nc, S.c, S.nl, S.l, S.nw + 1, fun p => (nums S.k (S.nw * 4) ++ nums (fun p => [k0, k1, 3, k2].getD p 0) (1 * 4)).getD p 0⟩ (.slice a0 S.nc c0) (.slice a1 S.nl c1) (.slice ao5 (S.nw + 1) cp5) (.slice a0 S.nc c0) (.slice a1 S.nl c1) (.slice a2 S.nw c2) (c + 1 + 3) y3) := HD.out.app2 HZ.out O5 (by rw [List.length_append, nums_length, nums_length]; omega) G5 W5
            refine hK.out _ _ trivial (fun hS => ?_)
            clear hK K O5 G5 W5 HI HD hi hz0 hz1 hz2
            refine tkH 14 ?_ hS (fun wx hx => ?_) ?_; rotate_left
            · go_simp; try with_reducible rfl
            obtain ⟨⟨t0, t1, t2⟩, f0, f1, f2⟩ := HW.out.box
            refine rdH 15 (fun K hK => ?_)
            go_simp
            have HF := hid_mk HW.out.store2
            refine hK.out _ _ trivial (fun hS => ?_)
            clear hK K t0 t1 t2 f0 f1 f2
            refine wpAnyH_done (by kernel_rfl) ?_ _
            go_simp
            go_wp2_with fail
            go_meet
            case rel => exact ⟨rfl, ⟨S.nc, S.c, S.nl, S.l, S.nw + 1, fun p => (nums S.k (S.nw * 4) ++ nums (fun p => [k0, k1, 3, k2].getD p 0) (1 * 4)).getD p 0⟩, a0, c0, a1, c1, ao5, cp5, c + 1 + 3, ⟨by omega, by omega⟩, HF⟩
          · intro K hK
            go_simp
            have HI : Hid (Row (y1.alloc (.cells #[.int .i64 k0, .int .i64 k1, .int .i64 3, .int .i64 k2] 36)) 0 4 1 (fun p => [k0, k1, 3, k2].getD p 0) (.slice (some ⟨y1.heap.size, 0, none⟩) 1 1)) := row_lit4 y1 k0 k1 3 k2 _
            have HD : Hid (DrB w b o len cap bx S (.slice a0 S.nc c0) (.slice a1 S.nl c1) (.slice a2 S.nw c2) (c + 1 + 3) (y1.alloc (.cells #[.int .i64 k0, .int .i64 k1, .int .i64 3, .int .i64 k2] 36))) := HD.out.later (below_alloc _ _)
            refine hK.out _ _ trivial (fun hS => ?_)
            clear hK K
            generalize y1.alloc (.cells #[.int .i64 k0, .int .i64 k1, .int .i64 3, .int .i64 k2] 36) = y2 at HD HI ⊢
            refine rdH 1 (fun K hK => ?_)
            obtain ⟨⟨t0, t1, t2⟩, _⟩ := HD.out.box
            go_simp
            refine hK.out _ _ trivial (fun hS => ?_)
            clear hK K t0 t1 t2
            obtain ⟨i0, hi, hz0, hz1, hz2⟩ := info_parts info_Write
            refine rdH 13 (fun K hK => ?_)
            refine step_appL 36 i0 (.agg #[.int .i64 0, .int .i64 0, .int .i64 0, .int .i64 0]) 4 32 (by rfl) _ _ 26 (by rfl) Tryz.underlying26 hi hz0 hz1 hz2 rfl (by omega) (by omega) _ (w.heap.size + 1) S.nw (nums S.k (S.nw * 4)) (.slice a2 S.nw c2) (by rfl) (own_m HD.out.own.1.2.2) 0 1 (fun p => [k0, k1, 3, k2].getD p 0) (.slice (some ⟨y1.heap.size, 0, none⟩) 1 1) (by rfl) HI.out (by have := HZ.out; unfold Sz at this; omega) (by have := HD.out.but.size; have := HD.out.box.lt; have := HD.out.bl; omega) ?_
            intro ao5 cp5 y3 O5 G5 W5
            have HW : Hid (DrW w b o len cap bx ⟨S.nc, S.c, S.nl, S.l, S.nw + 1, fun p => (nums S.k (S.nw * 4) ++ nums (fun p => [k0, k1, 3, k2].getD p 0) (1 * 4)).getD p 0⟩ (.slice a0 S.nc c0) (.slice a1 S.nl c1) (.slice ao5 (S.nw + 1) cp5) (.slice a0 S.nc c0) (.slice a1 S.nl c1) (.slice a2 S.nw c2) (c + 1 + 3) y3) := HD.out.app2 HZ.out O5 (by rw [List.length_append, nums_length, nums_length]; omega) G5 W5
            refine hK.out _ _ trivial (fun hS => ?_)
            clear hK K O5 G5 W5 HI HD hi hz0 hz1 hz2
            refine tkH 14 ?_ hS (fun wx hx => ?_) ?_; rotate_left
            · go_simp; try with_reducible rfl
            obtain ⟨⟨t0, t1, t2⟩, f0, f1, f2⟩ := HW.out.box
            refine rdH 15 (fun K hK => ?_)
            go_simp
            have HF := hid_mk HW.out.store2
            refine hK.out _ _ trivial (fun hS => ?_)
            clear hK K t0 t1 t2 f0 f1 f2
            refine wpAnyH_done (by kernel_rfl) ?_ _
            go_simp
            go_wp2_with fail
            go_meet
            case rel => exact ⟨rfl, ⟨S.nc, S.c, S.nl, S.l, S.nw + 1, fun p => (nums S.k (S.nw * 4) ++ nums (fun p => [k0, k1, 3, k2].getD p 0) (1 * 4)).getD p 0⟩, a0, c0, a1, c1, ao5, cp5, c + 1 + 3, ⟨by omega, by omega⟩, HF⟩
    · obtain ⟨⟨t0, t1, t2⟩, f0, f1, f2⟩ := HD.out.box
      by_cases hnc : 0 < S.nc
      · have dn : decide (0 < S.nc) = true := decide_eq_true hnc
        have hcap : S.nc ≤ c0 := own_cap HD.out.own.1.1
        obtain ⟨g, oo, rfl, _⟩ := HD.out.own.st.1.at hnc
        have HT := HD.out.own.st.1.tailR 1 hcap
        have HF : Hid (DrF w b o len cap bx ⟨S.nc - 1, fun p => S.c (1 * 3 + p), S.nl, S.l, S.nw, S.k⟩ (.slice (if c0 = 1 then some ⟨g, oo, none⟩ else some ⟨g, oo + 1 * 3, none⟩) (S.nc - 1) (c0 - 1)) (.slice a1 S.nl c1) (.slice a2 S.nw c2) (c + 1) (w3.setCell ⟨bx, 0, none⟩ (.slice (if c0 = 1 then some ⟨g, oo, none⟩ else some ⟨g, oo + 1 * 3, none⟩) (S.nc - 1) (c0 - 1)))) := DrW.store0 (v := .slice (some ⟨g, oo, none⟩) S.nc c0) {
          src := HD.out.src
          but := HD.out.but
          res := HD.out.res
          box := HD.out.box
          st := ⟨HT, HD.out.own.st.2.1, HD.out.own.st.2.2⟩
          ne := fun u hu => by
            simp only [List.mem_cons, List.not_mem_nil, or_false] at hu
            rcases hu with rfl | rfl | rfl
            · have := HD.out.ne (.slice (some ⟨g, oo, none⟩) S.nc c0) (by simp)
              split
              · exact this
              · simpa [Value.ownBlock] using this
            · exact HD.out.ne _ (by simp)
            · exact HD.out.ne _ (by simp)
          sz := ⟨by have := HZ.out.1; show S.nc - 1 ≤ 202; omega, by have := HZ.out.2.1; show S.nl ≤ 202; omega, by have := HZ.out.2.2; show S.nw ≤ 202; omega⟩
          bl := HD.out.bl
          base := HD.out.base }
        clear HT
        by_cases hc1 : c0 = 1
        · rw [if_pos hc1] at HF
          rw [show S.nc - 1 = 0 by omega] at HF
          subst hc1
          go_wp2_with fail
          go_meet
          case rel => exact ⟨rfl, ⟨0, fun p => S.c (1 * 3 + p), S.nl, S.l, S.nw, S.k⟩, some ⟨g, oo, none⟩, 0, a1, c1, a2, c2, c + 1, ⟨by omega, by omega⟩, HF⟩
        · rw [if_neg hc1] at HF
          have dc1 : (c0 == 1) = false := beq_eq_false_iff_ne.2 hc1
          go_wp2_with fail
          go_meet
          case rel => exact ⟨rfl, ⟨S.nc - 1, fun p => S.c (1 * 3 + p), S.nl, S.l, S.nw, S.k⟩, some ⟨g, oo + 3, none⟩, c0 - 1, a1, c1, a2, c2, c + 1, ⟨by omega, by omega⟩, HF⟩
      · have dn : decide (0 < S.nc) = false := decide_eq_false hnc
        go_wp2_with fail
        go_meet
        case rel => exact ⟨rfl, S, a0, c0, a1, c1, a2, c2, _, ⟨by omega, by omega⟩, HD.out.f HZ.out⟩
    · obtain ⟨⟨t0, t1, t2⟩, f0, f1, f2⟩ := HD.out.box
      have hmk : ∀ w : World, (Instr.makeSlice 26 (.int .i64 201) (.int .i64 201)).run Tryz.prog w = .ok (.slice (some ⟨w.heap.size, 0, none⟩) 201 201) (w.alloc (.cells (madeCells #[.int .i64 0, .int .i64 0, .int .i64 0, .int .i64 0] 804) 36)) := make_row Tryz.underlying26 info_Write 201 (by omega) (by omega)
      have hlb : bx < w3.heap.size := HD.out.box.lt
      have HB := HD.out.later (below_alloc w3 (.cells (madeCells #[.int .i64 0, .int .i64 0, .int .i64 0, .int .i64 0] 804) 36))
      have HF : Hid (DrF w b o len cap bx ⟨S.nc, S.c, S.nl, S.l, 201, fun _ => 0⟩ (.slice a0 S.nc c0) (.slice a1 S.nl c1) (.slice (some ⟨w3.heap.size, 0, none⟩) 201 201) (c + 1) ((w3.alloc (.cells (madeCells #[.int .i64 0, .int .i64 0, .int .i64 0, .int .i64 0] 804) 36)).setCell ⟨bx, 2, none⟩ (.slice (some ⟨w3.heap.size, 0, none⟩) 201 201))) := DrW.store2 (v := .slice a2 S.nw c2) {
          src := HB.src
          but := HB.but
          res := HB.res
          box := HB.box
          st := ⟨HB.own.st.1, HB.own.st.2.1, row_zeros w3 _ (by have := HD.out.bl; omega)⟩
          ne := fun u hu => by
            simp only [List.mem_cons, List.not_mem_nil, or_false] at hu
            rcases hu with rfl | rfl | rfl
            · exact HD.out.ne _ (by simp)
            · exact HD.out.ne _ (by simp)
            · simp [Value.ownBlock]; omega
          sz := ⟨by have := HZ.out.1; show S.nc ≤ 202; omega, by have := HZ.out.2.1; show S.nl ≤ 202; omega, by show 201 ≤ 202; omega⟩
          bl := HD.out.bl
          base := HD.out.base }
      clear HB
      rw [World.setCell_alloc_past _ _ _ _ hlb] at HF
      go_wp2_with fail
      go_meet
      case rel => exact ⟨rfl, ⟨S.nc, S.c, S.nl, S.l, 201, fun _ => 0⟩, a0, c0, a1, c1, some ⟨w3.heap.size, 0, none⟩, 201, c + 1, ⟨by omega, by omega⟩, HF⟩
    · have d0 : (sw == 0) = false := beq_eq_false_iff_ne.2 (by omega)
      have d1 : (sw == 1) = false := beq_eq_false_iff_ne.2 (by omega)
      have d2 : (sw == 2) = false := beq_eq_false_iff_ne.2 (by omega)
      have d3 : (sw == 3) = false := beq_eq_false_iff_ne.2 (by omega)
      have d4 : (sw == 4) = false := beq_eq_false_iff_ne.2 (by omega)
      go_wp2_with fail
      go_meet
      case rel => exact ⟨rfl, S, a0, c0, a1, c1, a2, c2, _, ⟨by omega, by omega⟩, HD.out.f HZ.out⟩
  case rest =>
    clear HD HZ
    obtain ⟨rfl, T, a0, c0, a1, c1, a2, c2, e, he, HF⟩ := hcut
    obtain ⟨⟨r0, r1, r2⟩, f0, f1, f2⟩ := HF.out.res
    obtain ⟨⟨t0, t1, t2⟩, _⟩ := HF.out.box
    go_wp2
    have hlo : (w.heap.size : Nat) < w.heap.size + 1 := by omega
    refine bodyPost_ret (v := .agg #[.slice a0 T.nc c0, .slice a1 T.nl c1, .slice a2 T.nw c2]) (by simp [results, Tryz.results12, go_sem, r0, r1, r2]) rfl ⟨T, a0, c0, a1, c1, a2, c2, e, rfl, ⟨HF.out.sz, by omega⟩, (((HF.out.st.far hlo _).far hlo _).far hlo _).mono (by omega), ?_, ?_⟩
    · exact ((HF.out.src.setS H0.out HF.out.but (Nat.le_refl _) _ _).setS H0.out (HF.out.but.setS (Nat.le_refl _) _ _) (Nat.le_refl _) _ _).setS H0.out ((HF.out.but.setS (Nat.le_refl _) _ _).setS (Nat.le_refl _) _ _) (Nat.le_refl _) _ _
    · exact ((HF.out.but.setS (Nat.le_refl _) _ _).setS (Nat.le_refl _) _ _).setS (Nat.le_refl _) _ _
end Go.Proofs.YtgedodcojalidaaGreat

namespace Go.Proofs.YtgedodcojalidaaGreat
open Go.RowKit

theorem Row.butX {w w' : World} {b B m n : Nat} {F : Nat → Int} {v : Value} (h : Row w B m n F v) (hT : But b w w') (hb : b < B) : Row w' B m n F v :=
  h.turned hT (fun hn k hk e => by have := (h.lt hn k hk).1; have := Option.some.inj e; omega)
/-- A drawn store in its box, the answer's block still empty. -/
structure DrX (w : World) (b : Nat) (o : Option Addr) (len cap bx : Nat) (S : Sto) (v0 v1 v2 : Value) (a : Int) (x : World) : Prop where
  src : Src x b o len cap a
  bel : Below w.heap.size w x
  res : Blk3 x w.heap.size (.slice none 0 0) (.slice none 0 0) (.slice none 0 0)
  box : Blk3 x bx v0 v1 v2
  st : St x (b + 1) S v0 v1 v2
  sz : Sz2 S
  lo : w.heap.size < b
  bl : b < bx
  base : ∃ (w0 : World) (z : Int), Src w0 b o len cap z ∧ But b w0 x ∧ w0.heap.size ≤ bx
theorem DrX.step {w : World} {b : Nat} {o : Option Addr} {len cap bx : Nat} {S : Sto} {v0 v1 v2 : Value} {a a' : Int} {x x' : World} (h : DrX w b o len cap bx S v0 v1 v2 a x) (hT : But b x x') (hS : Src x' b o len cap a') : DrX w b o len cap bx S v0 v1 v2 a' x' where
  src := hS
  bel := Below.but h.bel hT h.bel.size (Nat.le_of_lt h.lo)
  res := h.res.butS hT (by have := h.lo; omega)
  box := h.box.butS hT (by have := h.bl; omega)
  st := ⟨h.st.1.butX hT (Nat.lt_succ_self _), h.st.2.1.butX hT (Nat.lt_succ_self _), h.st.2.2.butX hT (Nat.lt_succ_self _)⟩
  sz := h.sz
  lo := h.lo
  bl := h.bl
  base := by
    obtain ⟨w0, z0, s0, t0, l0⟩ := h.base
    exact ⟨w0, z0, s0, t0.trans hT, l0⟩
theorem DrX.later {w : World} {b : Nat} {o : Option Addr} {len cap bx : Nat} {S : Sto} {v0 v1 v2 : Value} {a : Int} {x x' : World} (h : DrX w b o len cap bx S v0 v1 v2 a x) (hb : Below x.heap.size x x') : DrX w b o len cap bx S v0 v1 v2 a x' :=
  h.step ((But.refl _ _).below hb) (h.src.later hb)
/-- The answer's block is laid: the store stands. -/
theorem DrX.out {w : World} {b : Nat} {o : Option Addr} {len cap bx : Nat} {S : Sto} {v0 v1 v2 : Value} {a : Int} {x : World} (h : DrX w b o len cap bx S v0 v1 v2 a x) (u0 u1 u2 : Value) :
    BoxS bx v0 v1 v2 (((x.setCell ⟨w.heap.size, 0, none⟩ u0).setCell ⟨w.heap.size, 1, none⟩ u1).setCell ⟨w.heap.size, 2, none⟩ u2) ∧ Blk3 (((x.setCell ⟨w.heap.size, 0, none⟩ u0).setCell ⟨w.heap.size, 1, none⟩ u1).setCell ⟨w.heap.size, 2, none⟩ u2) w.heap.size u0 u1 u2 ∧ St (((x.setCell ⟨w.heap.size, 0, none⟩ u0).setCell ⟨w.heap.size, 1, none⟩ u1).setCell ⟨w.heap.size, 2, none⟩ u2) w.heap.size S v0 v1 v2 ∧ Below w.heap.size w (((x.setCell ⟨w.heap.size, 0, none⟩ u0).setCell ⟨w.heap.size, 1, none⟩ u1).setCell ⟨w.heap.size, 2, none⟩ u2) := by
  have lo := h.lo
  have bl := h.bl
  have hf : ∀ j, (⟨w.heap.size, j, none⟩ : Addr).block < b + 1 := fun j => by show w.heap.size < b + 1; omega
  refine ⟨((h.box.setFar (by show bx ≠ w.heap.size; omega) _).setFar (by show bx ≠ w.heap.size; omega) _).setFar (by show bx ≠ w.heap.size; omega) _, ((h.res.set0 u0).set1 u1).set2 u2, (((h.st.far (hf 0) _).far (hf 1) _).far (hf 2) _).mono (by omega), ?_⟩
  exact ((h.bel.setCell (Nat.le_refl _) _).setCell (Nat.le_refl _) _).setCell (Nat.le_refl _) _
end Go.Proofs.YtgedodcojalidaaGreat

namespace Go.Proofs.YtgedodcojalidaaGreat
open Go.RowKit

/-- What the draw of a store and two numbers answers. -/
def DrawnM (w : World) (e : Ending) (w' : World) : Prop := ∃ (S : Sto) (a0 : Option Addr) (c0 : Nat) (a1 : Option Addr) (c1 : Nat) (a2 : Option Addr) (c2 : Nat) (fr ub : Int), e = .returned (.tuple #[.agg #[.slice a0 S.nc c0, .slice a1 S.nl c1, .slice a2 S.nw c2], .int .i64 fr, .int .i64 ub]) ∧ St w' 0 S (.slice a0 S.nc c0) (.slice a1 S.nl c1) (.slice a2 S.nw c2) ∧ Below w.heap.size w w'
/-- What is read of: the drawn store's box. -/
def BxM (bx : Nat) (v0 v1 v2 : Value) (x : World) : Prop := Blk3 x bx v0 v1 v2
set_option maxRecDepth 100000 in
set_option maxHeartbeats 4000000 in
theorem drawPartStore_any (w : World) (o : Option Addr) (len cap : Nat) (h : Code w o len) (hl : len ≤ 1048576) :
    Calls Tryz.prog 5 #[.slice o len cap] w (DrawnM w) := by
  have H : Hid (Code w o len) := h
  have HR : Hid (Blk3 (w.alloc (.cells #[.slice none 0 0, .slice none 0 0, .slice none 0 0] 28)) w.heap.size (.slice none 0 0) (.slice none 0 0) (.slice none 0 0)) := Blk3.new w _ _ _ _
  have hsz : Hid ((w.alloc (.cells #[.slice none 0 0, .slice none 0 0, .slice none 0 0] 28)).heap.size = w.heap.size + 1) := World.size_alloc _ _
  clear h
  go_enter Tryz.func5, Tryz.ntmps5
  go_wp2_with fail
  refine (l1Source_any _ o len cap (H.out.later (below_alloc _ _))).mono ?_
  rintro e w1 ⟨rfl, hS, hb, hz⟩
  have H1 : Hid (Src w1 (w.heap.size + 1) o len cap 0 ∧ Below w.heap.size w w1 ∧ Blk3 w1 w.heap.size (.slice none 0 0) (.slice none 0 0) (.slice none 0 0)) := by
    rw [hsz.out] at hS
    exact ⟨hS, (below_alloc w _).trans (hb.mono (by rw [hsz.out]; omega)), HR.out.later hb⟩
  clear hS hb hz HR
  try rw [hsz.out]
  go_wp2_with fail
  refine (l3Bent_any w1 (w.heap.size + 1) o len cap 0 H1.out.1 (by omega) hl).mono ?_
  rintro e w2 ⟨S, a0, c0, a1, c1, a2, c2, z, rfl, ⟨hsz2, hz⟩, hst, hsrc, hT⟩
  have qa := below_alloc w2 (.cells #[.slice a0 S.nc c0, .slice a1 S.nl c1, .slice a2 S.nw c2] 28)
  have HX : Hid (DrX w (w.heap.size + 1) o len cap w2.heap.size S (.slice a0 S.nc c0) (.slice a1 S.nl c1) (.slice a2 S.nw c2) z (w2.alloc (.cells #[.slice a0 S.nc c0, .slice a1 S.nl c1, .slice a2 S.nw c2] 28))) := by
    have hlt := H1.out.1.lt
    have hs2 := hT.size
    exact { src := hsrc.alloc _, bel := (Below.but H1.out.2.1 hT H1.out.2.1.size (Nat.le_succ _)).alloc (by have := H1.out.2.1.size; omega) _, res := (H1.out.2.2.butS hT (by omega)).alloc _, box := Blk3.new _ _ _ _ _, st := (hst.mono (by omega)).alloc _, sz := hsz2, lo := Nat.lt_succ_self _, bl := by omega, base := ⟨w1, 0, H1.out.1, hT.alloc _, hs2⟩ }
  have HZ : Hid (z ≤ 1000) := by unfold Hid; omega
  clear hsz2 hz hst hsrc hT qa H1
  go_upto_region 3 with fail
  generalize w2.alloc (.cells #[.slice a0 S.nc c0, .slice a1 S.nl c1, .slice a2 S.nw c2] 28) = x0 at HX ⊢
  generalize w2.heap.size = bx at HX ⊢
  refine wp_region_held_drew (S := BxM bx (.slice a0 S.nc c0) (.slice a1 S.nl c1) (.slice a2 S.nw c2)) (by kernel_rfl) HX.out.box (fun hS => ?_)
  have HX : Hid (DrX w (w.heap.size + 1) o len cap bx S (.slice a0 S.nc c0) (.slice a1 S.nl c1) (.slice a2 S.nw c2) z x0.drew) := HX.out.later ((Below.refl _ _).drew)
  generalize x0.drew = y0 at HX hS ⊢
  refine tkH 0 ?_ hS (fun wx hx => ?_) ?_; rotate_left
  · obtain ⟨⟨hx0, hx1, hx2⟩, _⟩ := hx; go_simp; try with_reducible rfl
  refine tkH 1 ?_ hS (fun wx hx => ?_) ?_; rotate_left
  · obtain ⟨⟨hx0, hx1, hx2⟩, _⟩ := hx; go_simp; try with_reducible rfl
  refine tkH 4 ?_ hS (fun wx hx => ?_) ?_; rotate_left
  · obtain ⟨⟨hx0, hx1, hx2⟩, _⟩ := hx; go_simp; try with_reducible rfl
  refine wpAnyH_ready (rs := [2, 5]) (by kernel_rfl) (by simp) ?_
  refine AllReadyH.cons rfl (fun K hK => ?_) (AllReadyH.cons rfl (fun K hK => ?_) AllReadyH.nil)
  focus
    go_simp
    have qa := below_alloc y0 (.cells #[.int .i64 0, .int .i64 10, .int .i64 15, .int .i64 20, .int .i64 (-1)] 2)
    have I0 : Hid (Ints (y0.alloc (.cells #[.int .i64 0, .int .i64 10, .int .i64 15, .int .i64 20, .int .i64 (-1)] 2)) (y0.heap.size) (.slice (some ⟨y0.heap.size, 0, none⟩) 5 5) [0, 10, 15, 20, (-1)]) := World.ownsRow_lit y0 #[.int .i64 0, .int .i64 10, .int .i64 15, .int .i64 20, .int .i64 (-1)] 5 (Nat.le_refl _) (by decide) rfl
    have hg : w.heap.size + 1 < y0.heap.size := HX.out.src.lt
    have I0 : Hid (Ints (y0.alloc (.cells #[.int .i64 0, .int .i64 10, .int .i64 15, .int .i64 20, .int .i64 (-1)] 2)) (w.heap.size + 2) (.slice (some ⟨y0.heap.size, 0, none⟩) 5 5) [0, 10, 15, 20, (-1)]) := World.ownsRow.mono I0.out hg
    have HX := hid_mk (HX.out.later qa)
    have hS' : BxM bx (.slice a0 S.nc c0) (.slice a1 S.nl c1) (.slice a2 S.nw c2) (y0.alloc (.cells #[.int .i64 0, .int .i64 10, .int .i64 15, .int .i64 20, .int .i64 (-1)] 2)) := HX.out.box
    clear qa hg
    refine hK.out _ _ hS' (fun hS => ?_)
    clear hK K hS'
    generalize y0.heap.size = g0 at I0 ⊢
    generalize y0.alloc (.cells #[.int .i64 0, .int .i64 10, .int .i64 15, .int .i64 20, .int .i64 (-1)] 2) = y1 at HX hS I0 ⊢
    refine wpAnyH_ready (rs := [3, 5]) (by kernel_rfl) (by simp) ?_
    refine AllReadyH.cons rfl (fun K hK => ?_) (AllReadyH.cons rfl (fun K hK => ?_) AllReadyH.nil)
    focus
      go_simp
      go_wp2_with fail
      refine (l1Pick_any _ (w.heap.size + 1) o len cap _ _ (w.heap.size + 2) [0, 10, 15, 20, (-1)] HX.out.src (by have := HZ.out; omega) hl I0.out (Nat.lt_succ_self _) (by simp) (by simp)).mono ?_
      rintro e y2 ⟨n0, rfl, _, hsrc, hT⟩
      have HX := hid_mk (HX.out.step hT hsrc)
      have hS' : BxM bx (.slice a0 S.nc c0) (.slice a1 S.nl c1) (.slice a2 S.nw c2) y2 := HX.out.box
      clear hT hsrc I0
      go_wp2_with fail
      refine hK.out _ _ hS' (fun hS => ?_)
      clear hK K hS'
      refine rdH 5 (fun K hK => ?_)
      go_simp
      have qa := below_alloc y2 (.cells #[.int .i64 20, .int .i64 25, .int .i64 100, .int .i64 200, .int .i64 201] 2)
      have I1 : Hid (Ints (y2.alloc (.cells #[.int .i64 20, .int .i64 25, .int .i64 100, .int .i64 200, .int .i64 201] 2)) (y2.heap.size) (.slice (some ⟨y2.heap.size, 0, none⟩) 5 5) [20, 25, 100, 200, 201]) := World.ownsRow_lit y2 #[.int .i64 20, .int .i64 25, .int .i64 100, .int .i64 200, .int .i64 201] 5 (Nat.le_refl _) (by decide) rfl
      have hg : w.heap.size + 1 < y2.heap.size := HX.out.src.lt
      have I1 : Hid (Ints (y2.alloc (.cells #[.int .i64 20, .int .i64 25, .int .i64 100, .int .i64 200, .int .i64 201] 2)) (w.heap.size + 2) (.slice (some ⟨y2.heap.size, 0, none⟩) 5 5) [20, 25, 100, 200, 201]) := World.ownsRow.mono I1.out hg
      have HX := hid_mk (HX.out.later qa)
      have hS' : BxM bx (.slice a0 S.nc c0) (.slice a1 S.nl c1) (.slice a2 S.nw c2) (y2.alloc (.cells #[.int .i64 20, .int .i64 25, .int .i64 100, .int .i64 200, .int .i64 201] 2)) := HX.out.box
      clear qa hg
      refine hK.out _ _ hS' (fun hS => ?_)
      clear hK K hS'
      generalize y2.heap.size = g1 at I1 ⊢
      generalize y2.alloc (.cells #[.int .i64 20, .int .i64 25, .int .i64 100, .int .i64 200, .int .i64 201] 2) = y3 at HX hS I1 ⊢
    rotate_left
    focus
      go_simp
      have qa := below_alloc y1 (.cells #[.int .i64 20, .int .i64 25, .int .i64 100, .int .i64 200, .int .i64 201] 2)
      have I1 : Hid (Ints (y1.alloc (.cells #[.int .i64 20, .int .i64 25, .int .i64 100, .int .i64 200, .int .i64 201] 2)) (y1.heap.size) (.slice (some ⟨y1.heap.size, 0, none⟩) 5 5) [20, 25, 100, 200, 201]) := World.ownsRow_lit y1 #[.int .i64 20, .int .i64 25, .int .i64 100, .int .i64 200, .int .i64 201] 5 (Nat.le_refl _) (by decide) rfl
      have hg : w.heap.size + 1 < y1.heap.size := HX.out.src.lt
      have I1 : Hid (Ints (y1.alloc (.cells #[.int .i64 20, .int .i64 25, .int .i64 100, .int .i64 200, .int .i64 201] 2)) (w.heap.size + 2) (.slice (some ⟨y1.heap.size, 0, none⟩) 5 5) [20, 25, 100, 200, 201]) := World.ownsRow.mono I1.out hg
      have HX := hid_mk (HX.out.later qa)
      have I0 := hid_mk ((But.refl (w.heap.size + 1) y1).below qa |>.ints I0.out (Nat.lt_succ_self _))
      have hS' : BxM bx (.slice a0 S.nc c0) (.slice a1 S.nl c1) (.slice a2 S.nw c2) (y1.alloc (.cells #[.int .i64 20, .int .i64 25, .int .i64 100, .int .i64 200, .int .i64 201] 2)) := HX.out.box
      clear qa hg
      refine hK.out _ _ hS' (fun hS => ?_)
      clear hK K hS'
      generalize y1.heap.size = g1 at I1 ⊢
      generalize y1.alloc (.cells #[.int .i64 20, .int .i64 25, .int .i64 100, .int .i64 200, .int .i64 201] 2) = y2 at HX hS I0 I1 ⊢
      refine rdH 3 (fun K hK => ?_)
      go_simp
      go_wp2_with fail
      refine (l1Pick_any _ (w.heap.size + 1) o len cap _ _ (w.heap.size + 2) [0, 10, 15, 20, (-1)] HX.out.src (by have := HZ.out; omega) hl I0.out (Nat.lt_succ_self _) (by simp) (by simp)).mono ?_
      rintro e y3 ⟨n0, rfl, _, hsrc, hT⟩
      have HX := hid_mk (HX.out.step hT hsrc)
      have I1 := hid_mk (hT.ints I1.out (Nat.lt_succ_self _))
      have hS' : BxM bx (.slice a0 S.nc c0) (.slice a1 S.nl c1) (.slice a2 S.nw c2) y3 := HX.out.box
      clear hT hsrc I0
      go_wp2_with fail
      refine hK.out _ _ hS' (fun hS => ?_)
      clear hK K hS'
    rotate_left
  rotate_left 2
  focus
    go_simp
    have qa := below_alloc y0 (.cells #[.int .i64 20, .int .i64 25, .int .i64 100, .int .i64 200, .int .i64 201] 2)
    have I1 : Hid (Ints (y0.alloc (.cells #[.int .i64 20, .int .i64 25, .int .i64 100, .int .i64 200, .int .i64 201] 2)) (y0.heap.size) (.slice (some ⟨y0.heap.size, 0, none⟩) 5 5) [20, 25, 100, 200, 201]) := World.ownsRow_lit y0 #[.int .i64 20, .int .i64 25, .int .i64 100, .int .i64 200, .int .i64 201] 5 (Nat.le_refl _) (by decide) rfl
    have hg : w.heap.size + 1 < y0.heap.size := HX.out.src.lt
    have I1 : Hid (Ints (y0.alloc (.cells #[.int .i64 20, .int .i64 25, .int .i64 100, .int .i64 200, .int .i64 201] 2)) (w.heap.size + 2) (.slice (some ⟨y0.heap.size, 0, none⟩) 5 5) [20, 25, 100, 200, 201]) := World.ownsRow.mono I1.out hg
    have HX := hid_mk (HX.out.later qa)
    have hS' : BxM bx (.slice a0 S.nc c0) (.slice a1 S.nl c1) (.slice a2 S.nw c2) (y0.alloc (.cells #[.int .i64 20, .int .i64 25, .int .i64 100, .int .i64 200, .int .i64 201] 2)) := HX.out.box
    clear qa hg
    refine hK.out _ _ hS' (fun hS => ?_)
    clear hK K hS'
    generalize y0.heap.size = g1 at I1 ⊢
    generalize y0.alloc (.cells #[.int .i64 20, .int .i64 25, .int .i64 100, .int .i64 200, .int .i64 201] 2) = y1 at HX hS I1 ⊢
    refine rdH 2 (fun K hK => ?_)
    go_simp
    have qa := below_alloc y1 (.cells #[.int .i64 0, .int .i64 10, .int .i64 15, .int .i64 20, .int .i64 (-1)] 2)
    have I0 : Hid (Ints (y1.alloc (.cells #[.int .i64 0, .int .i64 10, .int .i64 15, .int .i64 20, .int .i64 (-1)] 2)) (y1.heap.size) (.slice (some ⟨y1.heap.size, 0, none⟩) 5 5) [0, 10, 15, 20, (-1)]) := World.ownsRow_lit y1 #[.int .i64 0, .int .i64 10, .int .i64 15, .int .i64 20, .int .i64 (-1)] 5 (Nat.le_refl _) (by decide) rfl
    have hg : w.heap.size + 1 < y1.heap.size := HX.out.src.lt
    have I0 : Hid (Ints (y1.alloc (.cells #[.int .i64 0, .int .i64 10, .int .i64 15, .int .i64 20, .int .i64 (-1)] 2)) (w.heap.size + 2) (.slice (some ⟨y1.heap.size, 0, none⟩) 5 5) [0, 10, 15, 20, (-1)]) := World.ownsRow.mono I0.out hg
    have HX := hid_mk (HX.out.later qa)
    have I1 := hid_mk ((But.refl (w.heap.size + 1) y1).below qa |>.ints I1.out (Nat.lt_succ_self _))
    have hS' : BxM bx (.slice a0 S.nc c0) (.slice a1 S.nl c1) (.slice a2 S.nw c2) (y1.alloc (.cells #[.int .i64 0, .int .i64 10, .int .i64 15, .int .i64 20, .int .i64 (-1)] 2)) := HX.out.box
    clear qa hg
    refine hK.out _ _ hS' (fun hS => ?_)
    clear hK K hS'
    generalize y1.heap.size = g0 at I0 ⊢
    generalize y1.alloc (.cells #[.int .i64 0, .int .i64 10, .int .i64 15, .int .i64 20, .int .i64 (-1)] 2) = y2 at HX hS I0 I1 ⊢
    refine rdH 3 (fun K hK => ?_)
    go_simp
    go_wp2_with fail
    refine (l1Pick_any _ (w.heap.size + 1) o len cap _ _ (w.heap.size + 2) [0, 10, 15, 20, (-1)] HX.out.src (by have := HZ.out; omega) hl I0.out (Nat.lt_succ_self _) (by simp) (by simp)).mono ?_
    rintro e y3 ⟨n0, rfl, _, hsrc, hT⟩
    have HX := hid_mk (HX.out.step hT hsrc)
    have I1 := hid_mk (hT.ints I1.out (Nat.lt_succ_self _))
    have hS' : BxM bx (.slice a0 S.nc c0) (.slice a1 S.nl c1) (.slice a2 S.nw c2) y3 := HX.out.box
    clear hT hsrc I0
    go_wp2_with fail
    refine hK.out _ _ hS' (fun hS => ?_)
    clear hK K hS'
  rotate_left
  all_goals
    refine rdH 6 (fun K hK => ?_)
    go_simp
    go_wp2_with fail
    refine (l1Pick_any _ (w.heap.size + 1) o len cap _ _ (w.heap.size + 2) [20, 25, 100, 200, 201] HX.out.src (by have := HZ.out; omega) hl I1.out (Nat.lt_succ_self _) (by simp) (by simp)).mono ?_
    rintro e y4 ⟨n1, rfl, _, hsrc, hT⟩
    have HX := hid_mk (HX.out.step hT hsrc)
    have hS' : BxM bx (.slice a0 S.nc c0) (.slice a1 S.nl c1) (.slice a2 S.nw c2) y4 := HX.out.box
    clear hT hsrc I1
    go_wp2_with fail
    refine hK.out _ _ hS' (fun hS => ?_)
    clear hK K hS'
    obtain ⟨⟨r0, r1, r2⟩, fr0, fr1, fr2⟩ := HX.out.res
    have hne : bx ≠ w.heap.size := by have := HX.out.bl; have := HX.out.lo; omega
    have HB := hid_mk (((HX.out.res.set0 (.slice a0 S.nc c0)).set1 (.slice a1 S.nl c1)).set2 (.slice a2 S.nw c2))
    refine rdH 7 (fun K hK => ?_)
    go_simp
    refine hK.out _ _ (((Blk3.setFar hS hne _).setFar hne _).setFar hne _) (fun hS => ?_)
    clear hK K r0 r1 r2 fr0 fr1 fr2
    refine tkH 8 ?_ hS (fun wx hx => ?_) ?_; rotate_left
    · obtain ⟨⟨hx0, hx1, hx2⟩, _⟩ := hx; go_simp; try with_reducible rfl
    refine tkH 9 ?_ hS (fun wx hx => ?_) ?_; rotate_left
    · obtain ⟨⟨hx0, hx1, hx2⟩, _⟩ := hx; go_simp; try with_reducible rfl
    clear hS
    refine wpAnyH_done (by kernel_rfl) ?_ _
    go_simp
    go_wp2
    obtain ⟨⟨p0, p1, p2⟩, _⟩ := HB.out
    have hf : ∀ j, (⟨w.heap.size, j, none⟩ : Addr).block < w.heap.size + 1 + 1 := fun j => by show w.heap.size < w.heap.size + 1 + 1; omega
    refine bodyPost_ret (v := .tuple #[.agg #[.slice a0 S.nc c0, .slice a1 S.nl c1, .slice a2 S.nw c2], .int .i64 n0, .int .i64 n1]) (by simp [results, Tryz.results5, go_sem, p0, p1, p2]) rfl ⟨S, a0, c0, a1, c1, a2, c2, n0, n1, rfl, (((HX.out.st.far (hf 0) _).far (hf 1) _).far (hf 2) _).mono (Nat.zero_le _), ((HX.out.bel.setCell (Nat.le_refl _) _).setCell (Nat.le_refl _) _).setCell (Nat.le_refl _) _⟩
end Go.Proofs.YtgedodcojalidaaGreat

namespace Go.Proofs.YtgedodcojalidaaGreat
open Go.RowKit

/-- 'gone', as a value: it has two variables, in blocks of their own. -/
def goneV (b1 b2 : Nat) : Value := .func (.func 35) #[] #[.pointer (some ⟨b1, 0, none⟩), .pointer (some ⟨b2, 0, none⟩)]
theorem gone_is (key fr tto : Int) (b1 b2 : Nat) (r : Bool) (hr : decide (key < fr ∨ tto ≤ key) = r) (w : World) (h1 : w.cell? ⟨b1, 0, none⟩ = some (.int .i64 fr)) (h2 : w.cell? ⟨b2, 0, none⟩ = some (.int .i64 tto)) :
    Calls Tryz.prog 35 #[.int .i64 key, .pointer (some ⟨b1, 0, none⟩), .pointer (some ⟨b2, 0, none⟩)] w fun e w' => e = .returned (.bool r) ∧ w' = w := by
  by_cases ha : key < fr
  · have hr' : r = true := by rw [← hr]; exact decide_eq_true (Or.inl ha)
    subst hr'
    clear hr
    go_enter Tryz.func35, Tryz.ntmps35
    go_wp2
    go_ret
    exact ⟨rfl, rfl⟩
  · have d1 : decide (key < fr) = false := decide_eq_false ha
    by_cases hb : tto ≤ key
    · have hr' : r = true := by rw [← hr]; exact decide_eq_true (Or.inr hb)
      subst hr'
      clear hr ha
      go_enter Tryz.func35, Tryz.ntmps35
      go_wp2
      go_ret
      exact ⟨rfl, rfl⟩
    · have hr' : r = false := by rw [← hr]; exact decide_eq_false (by omega)
      subst hr'
      have d2 : decide (tto ≤ key) = false := decide_eq_false hb
      clear hr ha hb
      go_enter Tryz.func35, Tryz.ntmps35
      go_wp2
      go_ret
      exact ⟨rfl, rfl⟩
theorem goneLock_is (x0 x1 x2 x3 x4 : Int) (fr tto : Int) (bg b1 b2 : Nat) (r : Bool) (hr : decide (x0 < fr ∨ tto ≤ x0) = r) (w : World) (hg : w.cell? ⟨bg, 0, none⟩ = some (goneV b1 b2)) (h1 : w.cell? ⟨b1, 0, none⟩ = some (.int .i64 fr)) (h2 : w.cell? ⟨b2, 0, none⟩ = some (.int .i64 tto)) :
    Calls Tryz.prog 37 #[.agg #[.int .i64 x0, .int .i64 x1, .int .i64 x2, .int .i64 x3, .int .i64 x4], .pointer (some ⟨bg, 0, none⟩)] w fun e w' => e = .returned (.bool r) ∧ w' = w.alloc (.cells #[.int .i64 x0, .int .i64 x1, .int .i64 x2, .int .i64 x3, .int .i64 x4] 62) := by
  have l0 := World.block_lt_of_cell? w _ hg
  have l1 := World.block_lt_of_cell? w _ h1
  have l2 := World.block_lt_of_cell? w _ h2
  have HC : Hid (∀ x : World, x.cell? ⟨b1, 0, none⟩ = some (.int .i64 fr) → x.cell? ⟨b2, 0, none⟩ = some (.int .i64 tto) → Calls Tryz.prog 35 #[.int .i64 x0, .pointer (some ⟨b1, 0, none⟩), .pointer (some ⟨b2, 0, none⟩)] x fun e w' => e = .returned (.bool r) ∧ w' = x) := fun x a b => gone_is x0 fr tto b1 b2 r hr x a b
  have q1 : (w.alloc (.cells #[.int .i64 x0, .int .i64 x1, .int .i64 x2, .int .i64 x3, .int .i64 x4] 62)).cell? ⟨b1, 0, none⟩ = some (.int .i64 fr) := ((below_alloc _ _).cell (p := ⟨b1, 0, none⟩) l1).trans h1
  have q2 : (w.alloc (.cells #[.int .i64 x0, .int .i64 x1, .int .i64 x2, .int .i64 x3, .int .i64 x4] 62)).cell? ⟨b2, 0, none⟩ = some (.int .i64 tto) := ((below_alloc _ _).cell (p := ⟨b2, 0, none⟩) l2).trans h2
  clear hr
  unfold goneV at hg
  go_enter Tryz.func37, Tryz.ntmps37
  go_wp2_with fail
  refine (HC.out _ q1 q2).mono ?_
  rintro e w1 ⟨rfl, rfl⟩
  go_wp2
  go_ret
  exact ⟨rfl, rfl⟩
theorem goneWrite_is (x0 x1 x2 x3 : Int) (fr tto : Int) (bg b1 b2 : Nat) (r : Bool) (hr : decide (x0 < fr ∨ tto ≤ x0) = r) (w : World) (hg : w.cell? ⟨bg, 0, none⟩ = some (goneV b1 b2)) (h1 : w.cell? ⟨b1, 0, none⟩ = some (.int .i64 fr)) (h2 : w.cell? ⟨b2, 0, none⟩ = some (.int .i64 tto)) :
    Calls Tryz.prog 39 #[.agg #[.int .i64 x0, .int .i64 x1, .int .i64 x2, .int .i64 x3], .pointer (some ⟨bg, 0, none⟩)] w fun e w' => e = .returned (.bool r) ∧ w' = w.alloc (.cells #[.int .i64 x0, .int .i64 x1, .int .i64 x2, .int .i64 x3] 36) := by
  have l0 := World.block_lt_of_cell? w _ hg
  have l1 := World.block_lt_of_cell? w _ h1
  have l2 := World.block_lt_of_cell? w _ h2
  have HC : Hid (∀ x : World, x.cell? ⟨b1, 0, none⟩ = some (.int .i64 fr) → x.cell? ⟨b2, 0, none⟩ = some (.int .i64 tto) → Calls Tryz.prog 35 #[.int .i64 x0, .pointer (some ⟨b1, 0, none⟩), .pointer (some ⟨b2, 0, none⟩)] x fun e w' => e = .returned (.bool r) ∧ w' = x) := fun x a b => gone_is x0 fr tto b1 b2 r hr x a b
  have q1 : (w.alloc (.cells #[.int .i64 x0, .int .i64 x1, .int .i64 x2, .int .i64 x3] 36)).cell? ⟨b1, 0, none⟩ = some (.int .i64 fr) := ((below_alloc _ _).cell (p := ⟨b1, 0, none⟩) l1).trans h1
  have q2 : (w.alloc (.cells #[.int .i64 x0, .int .i64 x1, .int .i64 x2, .int .i64 x3] 36)).cell? ⟨b2, 0, none⟩ = some (.int .i64 tto) := ((below_alloc _ _).cell (p := ⟨b2, 0, none⟩) l2).trans h2
  clear hr
  unfold goneV at hg
  go_enter Tryz.func39, Tryz.ntmps39
  go_wp2_with fail
  refine (HC.out _ q1 q2).mono ?_
  rintro e w1 ⟨rfl, rfl⟩
  go_wp2
  go_ret
  exact ⟨rfl, rfl⟩
end Go.Proofs.YtgedodcojalidaaGreat

namespace Go.Proofs.YtgedodcojalidaaGreat
open Go.RowKit Go.Maps Go.Sort Go.Shelf Go.Lib

/-- A struct whose key lies outside. -/
def outD (fr tto : Int) (t : List Int) : Bool := decide (t.getD 0 0 < fr ∨ tto ≤ t.getD 0 0)
/-- What a map has inside of a range. -/
def inM (m : Int → Int → Option Int) (fr tto : Int) : Int → Int → Option Int := fun x y => if x < fr ∨ tto ≤ x then none else m x y
/-- What it has while it is gone through. -/
def midM (m : Int → Int → Option Int) (fr tto : Int) (left : Int → Int → Bool) : Int → Int → Option Int := fun x y => if left x y = true then m x y else inM m fr tto x y
theorem midM_start (m : Int → Int → Option Int) (fr tto : Int) (x y : Int) : m x y = midM m fr tto (fun x y => (m x y).isSome) x y := by
  unfold midM inM
  cases h : m x y with
  | none => simp
  | some v => simp [h]
theorem midM_keep {m : Int → Int → Option Int} {fr tto : Int} {left : Int → Int → Bool} {p q : Int} (hl : left p q = true) (hin : ¬ (p < fr ∨ tto ≤ p)) (x y : Int) : midM m fr tto left x y = midM m fr tto (strike left p q) x y := by
  unfold midM strike
  by_cases e : x = p ∧ y = q
  · obtain ⟨rfl, rfl⟩ := e
    simp [hl, inM, hin]
  · rw [decide_eq_false e]
    simp
theorem midM_drop {m : Int → Int → Option Int} {fr tto : Int} {left : Int → Int → Bool} {p q : Int} (hout : p < fr ∨ tto ≤ p) (x y : Int) : delM (midM m fr tto left) p q x y = midM m fr tto (strike (strike left p q) p q) x y := by
  unfold midM strike delM
  by_cases e : x = p ∧ y = q
  · obtain ⟨rfl, rfl⟩ := e
    simp [inM, hout]
  · rw [decide_eq_false e, if_neg e]
    simp
/-- The three variables of keepKeys' closures. -/
def GoneE (b1 b2 bg : Nat) (fr tto : Int) (x : World) : Prop := x.cell? ⟨bg, 0, none⟩ = some (goneV b1 b2) ∧ x.cell? ⟨b1, 0, none⟩ = some (.int .i64 fr) ∧ x.cell? ⟨b2, 0, none⟩ = some (.int .i64 tto)
theorem GoneE.kept {b1 b2 bg : Nat} {fr tto : Int} {x x' : World} (h : GoneE b1 b2 bg fr tto x) (hb : ∀ i, i = b1 ∨ i = b2 ∨ i = bg → x'.heap[i]? = x.heap[i]?) : GoneE b1 b2 bg fr tto x' :=
  ⟨(World.cell?_of_block (w := x) (a := ⟨bg, 0, none⟩) (hb bg (by simp))).trans h.1, (World.cell?_of_block (w := x) (a := ⟨b1, 0, none⟩) (hb b1 (by simp))).trans h.2.1, (World.cell?_of_block (w := x) (a := ⟨b2, 0, none⟩) (hb b2 (by simp))).trans h.2.2⟩
theorem GoneE.lt {b1 b2 bg : Nat} {fr tto : Int} {x : World} (h : GoneE b1 b2 bg fr tto x) : ∀ i, i = b1 ∨ i = b2 ∨ i = bg → i < x.heap.size := by
  rintro i (rfl | rfl | rfl)
  · exact World.block_lt_of_cell? x _ h.2.1
  · exact World.block_lt_of_cell? x _ h.2.2
  · exact World.block_lt_of_cell? x _ h.1
theorem GoneE.later {b1 b2 bg : Nat} {fr tto : Int} {x x' : World} (h : GoneE b1 b2 bg fr tto x) (hb : Below x.heap.size x x') : GoneE b1 b2 bg fr tto x' := h.kept (fun i hi => hb.block i (h.lt i hi))
theorem GoneE.new (w : World) (fr tto : Int) (t t' : TypeId) : GoneE w.heap.size (w.heap.size + 1) (w.heap.size + 1 + 1) fr tto (((w.alloc (.cells #[.int .i64 fr] t)).alloc (.cells #[.int .i64 tto] t)).alloc (.cells #[goneV w.heap.size (w.heap.size + 1)] t')) := by
  have h1 := World.cell?_alloc_mark w #[.int .i64 fr] t (0, 0) 0
  have h2 := World.cell?_alloc_mark (w.alloc (.cells #[.int .i64 fr] t)) #[.int .i64 tto] t (0, 0) 0
  have h3 := World.cell?_alloc_mark ((w.alloc (.cells #[.int .i64 fr] t)).alloc (.cells #[.int .i64 tto] t)) #[goneV w.heap.size (w.heap.size + 1)] t' (0, 0) 0
  simp only [World.size_alloc] at h2 h3
  refine ⟨h3, ?_, ?_⟩
  · exact ((below_alloc _ _).cell (p := ⟨w.heap.size, 0, none⟩) (by simp; omega)).trans (((below_alloc _ _).cell (p := ⟨w.heap.size, 0, none⟩) (by simp)).trans h1)
  · exact ((below_alloc _ _).cell (p := ⟨w.heap.size + 1, 0, none⟩) (by simp)).trans h2
/-- What the deleting region stands on. -/
def DelBox (b g bp : Nat) (p q : Int) (x : World) : Prop := x.cell? ⟨b, 0, none⟩ = some (.map (some g)) ∧ x.cell? ⟨bp, 0, none⟩ = some (.int .i64 p) ∧ x.cell? ⟨bp, 1, none⟩ = some (.int .i64 q)
set_option maxRecDepth 100000 in
set_option maxHeartbeats 8000000 in
theorem keepKeys_is (B b N : Nat) (m : Int → Int → Option Int) (nl : Nat) (l : Nat → Int) (nw : Nat) (k : Nat → Int) (g : Nat) (u1 u2 : Value) (fr tto : Int) (w : World) (h : Cols w B b N m nl l nw k g u1 u2) (hA : ApartC b g u1 u2) (hl : nl ≤ 200) (hw : nw ≤ 200) :
    Calls Tryz.prog 16 #[.pointer (some ⟨b, 0, none⟩), .int .i64 fr, .int .i64 tto] w fun e w' => e = .returned (.tuple #[]) ∧ (∃ u1' u2', Cols w' B b N (inM m fr tto) (selD l 5 (outD fr tto) nl).length (fun p => (selD l 5 (outD fr tto) nl).flatten.getD p 0) (selD k 4 (outD fr tto) nw).length (fun p => (selD k 4 (outD fr tto) nw).flatten.getD p 0) g u1' u2') ∧ Below B w w' := by
  obtain ⟨b1, d1, rfl⟩ := h.2.2.2.2.1.form
  obtain ⟨b2, d2, rfl⟩ := h.2.2.2.2.2.form
  have H : Hid (Cols w B b N m nl l nw k g (.slice b1 nl d1) (.slice b2 nw d2)) := h
  have HA : Hid (ApartC b g (.slice b1 nl d1) (.slice b2 nw d2)) := hA
  have hbl := h.2.2.1.lt
  have hgl := h.2.2.2.1.lt
  have hbg := hA.1
  have hG : (GoneE w.heap.size (w.heap.size + 1) (w.heap.size + 1 + 1) fr tto (((w.alloc (.cells #[.int .i64 fr] 2)).alloc (.cells #[.int .i64 tto] 2)).alloc (.cells #[goneV w.heap.size (w.heap.size + 1)] 74))) := GoneE.new w fr tto _ _
  have hB3 : Below w.heap.size w (((w.alloc (.cells #[.int .i64 fr] 2)).alloc (.cells #[.int .i64 tto] 2)).alloc (.cells #[goneV w.heap.size (w.heap.size + 1)] 74)) := ((below_alloc _ _).alloc (by simp) _).alloc (by simp; omega) _
  have hP := h.2.2.2.1.later hB3
  have p0 := (h.2.2.1.later hB3).1.1
  clear h hA
  have hst := fun (W : World) (a : Addr) => run_store Tryz.prog W a (goneV w.heap.size (w.heap.size + 1)) .plain rfl
  unfold goneV at hB3 hP p0 hst
  go_enter Tryz.func16, Tryz.ntmps16
  go_wp2_with (first | (at_range; refine wpList_prange _ rfl _ rfl g N m rfl hP ?_; intro w0 cnt hcnt hPR hB0 hs0) | go_in)
  go_frame
  simp only [World.size_alloc] at hPR hs0 hB0
  have HK0 : Hid (∀ i, i < w.heap.size → w0.heap[i]? = w.heap[i]?) := fun i hi => (hB0.block i (by omega)).trans (hB3.block i hi)
  have HT0 : Hid (w0.os = w.os ∧ w0.tape = w.tape ∧ w0.output = w.output) := ⟨hB0.os.trans hB3.os, hB0.tape.trans hB3.tape, hB0.output.trans hB3.output⟩
  have HG0 : Hid (GoneE w.heap.size (w.heap.size + 1) (w.heap.size + 1 + 1) fr tto w0) := hG.later (by simp only [World.size_alloc]; exact hB0)
  have HH : Hid (∀ x y, (m x y).isSome = true → (m x y).isSome = true) := fun _ _ h => h
  obtain ⟨bg, hbgq⟩ : ∃ q, w.heap.size + 1 + 1 = q := ⟨_, rfl⟩
  obtain ⟨r, hr⟩ : ∃ r, bg + 1 = r := ⟨_, rfl⟩
  rw [hbgq] at hPR hs0 hB0 HG0
  rw [hr] at hPR hs0
  simp only [World.size_alloc, hbgq, hr]
  clear hP p0 hst hB3 hG hB0 HH
  go_loopw [7] (fun _ wr => ∃ (left : Int → Int → Bool) (cnt : Nat), Hid ((PR wr g r N (midM m fr tto left) left cnt ∧ Sam w0 wr (r + 1) g r) ∧ ∀ x y, left x y = true → (m x y).isSome = true)) (fun _ wr => wr.rangeLeft g r)
  case atStart => exact ⟨_, cnt, ⟨hPR.congrM (fun x y => midM_start m fr tto x y) (fun _ _ => rfl), ⟨⟨rfl, rfl, rfl⟩, by omega, fun _ _ _ _ => rfl⟩⟩, fun x y h => h⟩
  case round =>
    clear hPR hcnt
    obtain ⟨left, cnt1, HR⟩ := hrel
    have hpr := HR.out.1.1
    have hcl : ∀ x y, Wf x → Wf y → left x y = true → (midM m fr tto left x y).isSome = true := fun x y _ _ q => by unfold midM; rw [if_pos q]; exact HR.out.2 x y q
    go_wp2_with (first | (at_next; refine wpList_pnext _ rfl _ rfl g r N _ left cnt1 rfl hpr hcl ?_ ?_) | go_in)
    · intro hdone
      have HPM : Hid (PM wr g N (inM m fr tto)) := HR.out.1.1.pm.congrW (fun x y hx hy => by unfold midM; rw [if_neg (by rw [hdone x y hx hy]; exact Bool.false_ne_true)])
      have hK : ∀ i, i < w.heap.size → i ≠ g → wr.heap[i]? = w.heap[i]? := fun i h1 h2 => (HR.out.1.2.2.2 i (by omega) h2 (by omega)).trans (HK0.out i h1)
      have hsz := HR.out.1.2.2.1
      have HO1 : Hid (Own wr B 62 5 nl l (.slice b1 nl d1)) := H.out.2.2.2.2.1.kept (fun q hq => hK q (own_in H.out.2.2.2.2.1 q hq).2 (HA.out.2.1 q hq).2)
      have HO2 : Hid (Own wr B 36 4 nw k (.slice b2 nw d2)) := H.out.2.2.2.2.2.kept (fun q hq => hK q (own_in H.out.2.2.2.2.2 q hq).2 (HA.out.2.2.1 q hq).2)
      have HB : Hid (Blk3 wr b (.map (some g)) (.slice b1 nl d1) (.slice b2 nw d2)) := H.out.2.2.1.kept (hK b hbl (by omega))
      have HE : Hid (GoneE w.heap.size (w.heap.size + 1) bg fr tto wr) := HG0.out.kept (fun i hi => HR.out.1.2.2.2 i (by omega) (by omega) (by omega))
      have HBB : Hid (Below B w wr) := ⟨HR.out.1.2.1.1.trans HT0.out.1, HR.out.1.2.1.2.1.trans HT0.out.2.1, HR.out.1.2.1.2.2.trans HT0.out.2.2, by omega, fun i hi => hK i (by have := H.out.1; omega) (by have := H.out.2.1; omega)⟩
      have HQ : Hid ((∀ q, (Value.slice b1 nl d1).ownBlock = some q → q < w.heap.size) ∧ ∀ q, (Value.slice b2 nw d2).ownBlock = some q → q < w.heap.size) := ⟨fun q hq => (own_in H.out.2.2.2.2.1 q hq).2, fun q hq => (own_in H.out.2.2.2.2.2 q hq).2⟩
      have hl1 : Hid (B ≤ b ∧ B ≤ g) := ⟨H.out.1, H.out.2.1⟩
      have p1 := HB.out.1.2.1
      clear hpr hcl HR hdone hK hsz HG0 HK0 HT0 H
      go_wp2_with fail
      refine (deleteLock_is bg (GoneE w.heap.size (w.heap.size + 1) bg fr tto) (outD fr tto) (fun x n0 n1 n2 n3 n4 hx => (goneLock_is n0 n1 n2 n3 n4 fr tto bg _ _ _ rfl x hx.1 hx.2.1 hx.2.2).mono (fun e x' ⟨he, hx'⟩ => ⟨he, by rw [hx']; exact below_alloc _ _⟩)) (fun _ _ hx hb => hx.later hb) B nl l _ wr HO1.out hl HE.out (fun x x' q hq hx hgx => hx.kept (fun i hi => hgx.block i (hx.lt i hi) (by have := HQ.out.1 q hq; simp; omega)))).mono ?_
      rintro e w5 ⟨v1, rfl, ⟨ho1, hob1⟩, hg5, hE5⟩
      obtain ⟨e1, f1, rfl⟩ := ho1.form
      have hblk5 : ∀ i, i < wr.heap.size → (∀ q, (Value.slice b1 nl d1).ownBlock = some q → i ≠ q) → w5.heap[i]? = wr.heap[i]? := fun i h1 h2 => hg5.block i h1 (fun e => h2 i e.symm rfl)
      have HB5 : Hid (Blk3 w5 b (.map (some g)) (.slice b1 nl d1) (.slice b2 nw d2)) := HB.out.kept (hblk5 b HB.out.lt (fun q hq e => (HA.out.2.1 q hq).1 e.symm))
      have HP5 : Hid (PM w5 g N (inM m fr tto)) := HPM.out.kept (hblk5 g HPM.out.lt (fun q hq e => (HA.out.2.1 q hq).2 e.symm))
      have HO25 : Hid (Own w5 B 36 4 nw k (.slice b2 nw d2)) := HO2.out.kept (fun j hj => hblk5 j (own_in HO2.out j hj).2 (fun q hq e => HA.out.2.2.2 q hq (by rw [hj, e])))
      have HB5' : Hid (Below B w w5) := HBB.out.trans ⟨hg5.os, hg5.tape, hg5.output, hg5.size, fun i hi => hg5.block i (Nat.lt_of_lt_of_le (by have := hl1.out; omega) HBB.out.size) (fun e => by have := (own_in HO1.out i e.symm).1; omega)⟩
      have HO15 : Hid (Own w5 B 62 5 (selD l 5 (outD fr tto) nl).length (fun p => (selD l 5 (outD fr tto) nl).flatten.getD p 0) (.slice e1 (selD l 5 (outD fr tto) nl).length f1)) := ho1
      have HOB : Hid ((Value.slice e1 (selD l 5 (outD fr tto) nl).length f1).ownBlock = (Value.slice b1 nl d1).ownBlock) := hob1
      have HE5 : Hid (GoneE w.heap.size (w.heap.size + 1) bg fr tto w5) := hE5
      obtain ⟨n1, hn1⟩ : ∃ n, (selD l 5 (outD fr tto) nl).length = n := ⟨_, rfl⟩
      have HN1 : Hid ((selD l 5 (outD fr tto) nl).length = n1) := hn1
      rw [hn1] at HOB HO15
      rw [hn1]
      obtain ⟨⟨y0, y1, y2⟩, z0, z1, z2⟩ := HB5.out
      have hbl5 : b < w5.heap.size := HB5.out.lt
      clear ho1 hob1 hg5 hE5 hblk5 HB HPM HO2 HBB HO1 HE p1 hn1
      have HB6 : Hid (Blk3 (w5.setCell ⟨b, 1, none⟩ (.slice e1 n1 f1)) b (.map (some g)) (.slice e1 n1 f1) (.slice b2 nw d2)) := HB5.out.set1 _
      have HO26 : Hid (Own (w5.setCell ⟨b, 1, none⟩ (.slice e1 n1 f1)) B 36 4 nw k (.slice b2 nw d2)) := HO25.out.kept (fun q hq => Below.heap_setCell _ _ _ q (HA.out.2.2.1 q hq).1)
      have HO16 : Hid (Own (w5.setCell ⟨b, 1, none⟩ (.slice e1 n1 f1)) B 62 5 n1 (fun p => (selD l 5 (outD fr tto) nl).flatten.getD p 0) (.slice e1 n1 f1)) := HO15.out.kept (fun q hq => Below.heap_setCell _ _ _ q (HA.out.2.1 q (HOB.out ▸ hq)).1)
      have HP6 : Hid (PM (w5.setCell ⟨b, 1, none⟩ (.slice e1 n1 f1)) g N (inM m fr tto)) := HP5.out.setCell (a := ⟨b, 1, none⟩) hbg _
      have HE6 : Hid (GoneE w.heap.size (w.heap.size + 1) bg fr tto (w5.setCell ⟨b, 1, none⟩ (.slice e1 n1 f1))) := HE5.out.kept (fun i hi => Below.heap_setCell _ _ _ i (by simp; omega))
      have HBB6 : Hid (Below B w (w5.setCell ⟨b, 1, none⟩ (.slice e1 n1 f1))) := HB5'.out.setCell (by simp; exact hl1.out.1) _
      clear HO25 HO15 HP5 HE5 HB5' HB5
      have q2 := HB6.out.1.2.2
      go_wp2_with fail
      refine (deleteWrite_is bg (GoneE w.heap.size (w.heap.size + 1) bg fr tto) (outD fr tto) (fun x n0 n1 n2 n3 hx => (goneWrite_is n0 n1 n2 n3 fr tto bg _ _ _ rfl x hx.1 hx.2.1 hx.2.2).mono (fun e x' ⟨he, hx'⟩ => ⟨he, by rw [hx']; exact below_alloc _ _⟩)) (fun _ _ hx hb => hx.later hb) B nw k _ _ HO26.out hw HE6.out (fun x x' q hq hx hgx => hx.kept (fun i hi => hgx.block i (hx.lt i hi) (by have := HQ.out.2 q hq; simp; omega)))).mono ?_
      rintro e w7 ⟨v2, rfl, ⟨ho2, hob2⟩, hg7, hE7⟩
      obtain ⟨e2, f2, rfl⟩ := ho2.form
      have hblk7 : ∀ i, i < (w5.setCell ⟨b, 1, none⟩ (.slice e1 n1 f1)).heap.size → (∀ q, (Value.slice b2 nw d2).ownBlock = some q → i ≠ q) → w7.heap[i]? = (w5.setCell ⟨b, 1, none⟩ (.slice e1 n1 f1)).heap[i]? := fun i h1 h2 => hg7.block i h1 (fun e => h2 i e.symm rfl)
      have hB7 := HB6.out.kept (hblk7 b HB6.out.lt (fun q hq e => (HA.out.2.2.1 q hq).1 e.symm))
      have hP7 := HP6.out.kept (hblk7 g HP6.out.lt (fun q hq e => (HA.out.2.2.1 q hq).2 e.symm))
      have hO17 := HO16.out.kept (fun j hj => hblk7 j (own_in HO16.out j hj).2 (fun q hq e => HA.out.2.2.2 j (HOB.out ▸ hj) (by rw [hq, e])))
      have hBB7 := HBB6.out.trans (c := w7) ⟨hg7.os, hg7.tape, hg7.output, hg7.size, fun i hi => hg7.block i (Nat.lt_of_lt_of_le (by have := hl1.out; omega) HBB6.out.size) (fun e => by have := (own_in HO26.out i e.symm).1; omega)⟩
      have HF : Hid (Cols (w7.setCell ⟨b, 2, none⟩ (.slice e2 (selD k 4 (outD fr tto) nw).length f2)) B b N (inM m fr tto) (selD l 5 (outD fr tto) nl).length (fun p => (selD l 5 (outD fr tto) nl).flatten.getD p 0) (selD k 4 (outD fr tto) nw).length (fun p => (selD k 4 (outD fr tto) nw).flatten.getD p 0) g (.slice e1 n1 f1) (.slice e2 (selD k 4 (outD fr tto) nw).length f2) ∧ Below B w (w7.setCell ⟨b, 2, none⟩ (.slice e2 (selD k 4 (outD fr tto) nw).length f2))) := by
        refine ⟨⟨hl1.out.1, hl1.out.2, hB7.set2 _, hP7.setCell (a := ⟨b, 2, none⟩) hbg _, ?_, ho2.kept (fun q hq => Below.heap_setCell _ _ _ q (HA.out.2.2.1 q (hob2 ▸ hq)).1)⟩, hBB7.setCell (by simp; exact hl1.out.1) _⟩
        rw [HN1.out]
        exact hO17.kept (fun q hq => Below.heap_setCell _ _ _ q (HA.out.2.1 q (HOB.out ▸ hq)).1)
      have hbl7 : b < w7.heap.size := hB7.lt
      obtain ⟨⟨y0, y1, y2⟩, z0, z1, z2⟩ := hB7
      clear ho2 hob2 hg7 hE7 hblk7 hP7 hO17 hBB7 HB6 HP6 HO16 HO26 HBB6 HE6 q2
      go_wp2
      go_end0
      exact ⟨rfl, ⟨_, _, HF.out.1⟩, HF.out.2⟩
    · intro p q cc w1 cnt2 hx hy hc hlf hm hPR1 hlt hg1 hs1 hen
      have hsam := HR.out.1.2.step hg1 (fun j e => by simp at e; omega)
      have hG1 := HG0.out.kept (fun i hi => hsam.2.2 i (by omega) (by omega) (by omega))
      have HLT : Hid (cnt2 < wr.rangeLeft g r) := by unfold Hid; rw [hpr.left_eq]; exact hlt
      have HX : Hid (((Wf p ∧ Wf q) ∧ left p q = true) ∧ ∀ x y, left x y = true → (m x y).isSome = true) := ⟨⟨⟨hx, hy⟩, hlf⟩, HR.out.2⟩
      have HN : Hid (PR w1 g r N (midM m fr tto left) (strike left p q) cnt2 ∧ Sam w0 w1 (r + 1) g r) := ⟨hPR1, hsam⟩
      have hcb : w1.cell? ⟨b, 0, none⟩ = some (.map (some g)) := (World.cell?_of_block (w := w) (a := ⟨b, 0, none⟩) ((hsam.2.2 b (by omega) (by omega) (by omega)).trans (HK0.out b hbl))).trans H.out.2.2.1.1.1
      have zr : r < w1.heap.size := hPR1.lt
      have zg : bg < w1.heap.size := by omega
      have zb : b < w1.heap.size := by omega
      obtain ⟨c0, c1, c2⟩ := hG1
      have g1 : (w1.alloc (.cells #[.int .i64 p, .int .i64 q] 76)).cell? ⟨w.heap.size, 0, none⟩ = some (.int .i64 fr) := ((below_alloc _ _).cell (p := ⟨w.heap.size, 0, none⟩) (by simp; omega)).trans c1
      have g2 : (w1.alloc (.cells #[.int .i64 p, .int .i64 q] 76)).cell? ⟨w.heap.size + 1, 0, none⟩ = some (.int .i64 tto) := ((below_alloc _ _).cell (p := ⟨w.heap.size + 1, 0, none⟩) (by simp; omega)).trans c2
      have HGC : Hid ((w1.alloc (.cells #[.int .i64 p, .int .i64 q] 76)).cell? ⟨w.heap.size, 0, none⟩ = some (.int .i64 fr) ∧ (w1.alloc (.cells #[.int .i64 p, .int .i64 q] 76)).cell? ⟨w.heap.size + 1, 0, none⟩ = some (.int .i64 tto)) := ⟨g1, g2⟩
      unfold goneV at c0
      clear hpr hcl HR hPR1 hg1 hlt hs1 hsam hx hy hlf hm hc c1 c2 g1 g2
      by_cases hin : p < fr ∨ tto ≤ p
      · have HI : Hid (decide (p < fr ∨ tto ≤ p) = true) := decide_eq_true hin
        have HIN : Hid (p < fr ∨ tto ≤ p) := hin
        clear hin
        go_wp2_with fail
        refine (gone_is p fr tto _ _ true HI.out _ HGC.out.1 HGC.out.2).mono ?_
        rintro e w2 ⟨rfl, rfl⟩
        go_wp2_with fail
        have h0 : DelBox b g w1.heap.size p q (w1.alloc (.cells #[.int .i64 p, .int .i64 q] 76)).drew := ⟨((below_alloc _ _).cell (p := ⟨b, 0, none⟩) (by simp; omega)).trans hcb, World.cell?_alloc_mark w1 _ _ _ 0, World.cell?_alloc_mark w1 _ _ _ 1⟩
        refine wp_region_held_drew (S := DelBox b g w1.heap.size p q) (by kernel_rfl) h0 (fun hS => ?_)
        clear h0
        refine tkH 0 ?_ hS (fun wx hx => ?_) ?_; rotate_left
        · obtain ⟨hx0, hx1, hx2⟩ := hx; go_simp; try with_reducible rfl
        refine tkH 1 ?_ hS (fun wx hx => ?_) ?_; rotate_left
        · obtain ⟨hx0, hx1, hx2⟩ := hx; go_simp; try with_reducible rfl
        refine tkH 2 ?_ hS (fun wx hx => ?_) ?_; rotate_left
        · obtain ⟨hx0, hx1, hx2⟩ := hx; go_simp; try with_reducible rfl
        refine tkH 3 ?_ hS (fun wx hx => ?_) ?_; rotate_left
        · obtain ⟨hx0, hx1, hx2⟩ := hx; go_simp; try with_reducible rfl
        refine tkH 4 ?_ hS (fun wx hx => ?_) ?_; rotate_left
        · obtain ⟨hx0, hx1, hx2⟩ := hx; go_simp; try with_reducible rfl
        refine rdH 5 (fun K hK => ?_)
        refine step_pdelete _ (by rfl) _ _ (by rfl) g r N (midM m fr tto left) (strike left p q) cnt2 (by rfl) (HN.out.1.later (w' := (w1.alloc (.cells #[.int .i64 p, .int .i64 q] 76)).drew) (below_alloc _ _).drew) p q (by rfl) HX.out.1.1.1 HX.out.1.1.2 ?_
        intro w3 cnt3 hPR3 hle3 hg3
        have hsam3 := (HN.out.2.later (x' := (w1.alloc (.cells #[.int .i64 p, .int .i64 q] 76)).drew) (below_alloc _ _).drew).step hg3 (fun j e => by simp at e; omega)
        have hS' : DelBox b g w1.heap.size p q w3 := ⟨(World.cell?_of_block (a := ⟨b, 0, none⟩) (hg3.block b (by simp; omega) (by simp; omega))).trans hS.1, (World.cell?_of_block (a := ⟨w1.heap.size, 0, none⟩) (hg3.block w1.heap.size (by simp) (by simp; omega))).trans hS.2.1, (World.cell?_of_block (a := ⟨w1.heap.size, 1, none⟩) (hg3.block w1.heap.size (by simp) (by simp; omega))).trans hS.2.2⟩
        have HRn : Hid ((PR w3 g r N (midM m fr tto (strike (strike left p q) p q)) (strike (strike left p q) p q) cnt3 ∧ Sam w0 w3 (r + 1) g r) ∧ ∀ x y, strike (strike left p q) p q x y = true → (m x y).isSome = true) := ⟨⟨hPR3.congrM (fun x y => midM_drop HIN.out x y) (fun _ _ => rfl), hsam3⟩, fun x y hq => HX.out.2 x y (by unfold strike at hq; simp at hq; exact hq.1)⟩
        have hl3 : cnt3 < wr.rangeLeft g r := Nat.lt_of_le_of_lt hle3 HLT.out
        have HL3 : Hid (cnt3 < wr.rangeLeft g r) := hl3
        go_simp
        refine hK.out _ _ hS' (fun hS => ?_)
        clear hK K hS' hS hPR3 hle3 hg3 hsam3 hl3
        refine wpAnyH_done (by kernel_rfl) ?_ _
        go_simp
        go_wp2
        go_roundw
        case rel => exact ⟨_, _, HRn⟩
        case measure => rw [HRn.out.1.1.left_eq]; exact HL3.out
      · have HI : Hid (decide (p < fr ∨ tto ≤ p) = false) := decide_eq_false hin
        have HRn : Hid ((PR (w1.alloc (.cells #[.int .i64 p, .int .i64 q] 76)) g r N (midM m fr tto (strike left p q)) (strike left p q) cnt2 ∧ Sam w0 (w1.alloc (.cells #[.int .i64 p, .int .i64 q] 76)) (r + 1) g r) ∧ ∀ x y, strike left p q x y = true → (m x y).isSome = true) := ⟨⟨(HN.out.1.congrM (fun x y => midM_keep HX.out.1.2 hin x y) (fun _ _ => rfl)).later (below_alloc _ _), HN.out.2.later (below_alloc _ _)⟩, fun x y hq => HX.out.2 x y (by unfold strike at hq; simp at hq; exact hq.1)⟩
        clear hin
        go_wp2_with fail
        refine (gone_is p fr tto _ _ false HI.out _ HGC.out.1 HGC.out.2).mono ?_
        rintro e w2 ⟨rfl, rfl⟩
        go_wp2
        go_roundw
        case rel => exact ⟨_, _, HRn⟩
        case measure => rw [HRn.out.1.1.left_eq]; exact HLT.out
end Go.Proofs.YtgedodcojalidaaGreat

namespace Go.Proofs.YtgedodcojalidaaGreat
open Go.RowKit

theorem apartD_of {w : World} {B0 B1 z1 z2 : Nat} {S : Sto} {u0 u1 u2 : Value} (hz : z1 ≤ z2) (h0 : 0 < S.nc → ∀ k, u0.ownBlock = some k → k < z1) (h1 : 0 < S.nl → ∀ k, u1.ownBlock = some k → z1 ≤ k ∧ k < z2) (h2 : 0 < S.nw → ∀ k, u2.ownBlock = some k → z2 ≤ k) (r0 : Row w B0 3 S.nc S.c u0) (r1 : Row w B1 5 S.nl S.l u1) : ApartD S u0 u1 u2 := by
  have own : ∀ {B m n : Nat} {F : Nat → Int} {u : Value}, Row w B m n F u → 0 < n → ∃ k, u.ownBlock = some k := fun hr hn => by
    obtain ⟨ao, cp, rfl, hr⟩ := hr
    obtain ⟨g, o, rfl, _⟩ := hr hn
    exact ⟨g, rfl⟩
  refine ⟨fun ha hb e => ?_, fun ha hb e => ?_, fun ha hb e => ?_⟩
  · obtain ⟨k, hk⟩ := own r0 ha
    have := h0 ha k hk; have := h1 hb k (e ▸ hk); omega
  · obtain ⟨k, hk⟩ := own r0 ha
    have := h0 ha k hk; have := h2 hb k (e ▸ hk); omega
  · obtain ⟨k, hk⟩ := own r1 ha
    have := h1 ha k hk; have := h2 hb k (e ▸ hk); omega
set_option maxRecDepth 100000 in
set_option maxHeartbeats 16000000 in
theorem l2Part_anyO (S : Sto) (b oo : Nat) (v0 v1 v2 : Value) (fr tto : Int) (w : World) (h : LiesO w b oo S v0 v1 v2) (hn : S.nc ≤ 200 ∧ S.nl ≤ 200 ∧ S.nw ≤ 200) (ht : 0 ≤ tto ∧ tto ≤ 200) :
    Calls Tryz.prog 20 #[.pointer (some ⟨b, oo, none⟩), .int .i64 fr, .int .i64 tto] w (NewSto w (partS S fr tto)) := by
  obtain ⟨a0, c0, a1, c1, a2, c2, rfl, rfl, rfl⟩ := h.2.form
  have H : Hid (LiesO w b oo S (.slice a0 S.nc c0) (.slice a1 S.nl c1) (.slice a2 S.nw c2)) := h
  obtain ⟨p0, p1, p2⟩ := h.1
  have hb := h.lt
  obtain ⟨hn0, hn1, hn2⟩ := hn
  obtain ⟨ht0, ht1⟩ := ht
  obtain ⟨hi, hhi⟩ : ∃ hi, tto - 1 = hi := ⟨_, rfl⟩
  have hwr : IntKind.i64.wrap (tto - 1) = hi := by
    rw [← hhi]
    simp [IntKind.wrap, IntKind.bits, IntKind.signed]
    omega
  unfold partS NewSto
  rw [hhi]
  clear h hhi
  obtain ⟨i0, hi0, hz00, hz10, hz20⟩ := info_parts info_Cell
  obtain ⟨i1, hi1, hz01, hz11, hz21⟩ := info_parts info_Lock
  obtain ⟨i2, hi2, hz02, hz12, hz22⟩ := info_parts info_Write
  obtain ⟨z0, hz0⟩ : ∃ z, w.heap.size + 2 = z := ⟨_, rfl⟩
  obtain ⟨D0, hD0, hT0⟩ : ∃ D : World → Prop, (∀ x, D x ↔ z0 ≤ x.heap.size) ∧ Stays w z0 D := ⟨fun x => z0 ≤ x.heap.size, fun _ => Iff.rfl, hz0 ▸ Stays.none w⟩
  have HT0 : Hid (Stays w z0 D0) := hT0
  have HZ0 : Hid (∀ x, D0 x → z0 ≤ x.heap.size) := fun x hx => (hD0 x).1 hx
  have E0 : Hid (PartEnv w (.slice none 0 0) (.slice none 0 0) (.slice none 0 0) ((w.alloc (.cells #[.slice none 0 0, .slice none 0 0, .slice none 0 0] 28)).alloc (.cells #[.slice none 0 0, .slice none 0 0, .slice none 0 0] 28))) := ⟨(Blk3.new w _ _ _ _).alloc _, by have := Blk3.new (w.alloc (.cells #[.slice none 0 0, .slice none 0 0, .slice none 0 0] 28)) (.slice none 0 0) (.slice none 0 0) (.slice none 0 0) 28; rw [World.size_alloc] at this; exact this, (below_alloc _ _).alloc (by simp) _⟩
  have MA0 : Hid (Mak w z0 D0 59 3 (.slice none 0 0) (.slice none 0 0) (.slice none 0 0) (.slice none 0 0) 0 [] ((w.alloc (.cells #[.slice none 0 0, .slice none 0 0, .slice none 0 0] 28)).alloc (.cells #[.slice none 0 0, .slice none 0 0, .slice none 0 0] 28))) := ⟨E0.out, (hD0 _).2 (by simp; omega), OwnM.nil _ _ _ _⟩
  clear hT0 hD0 E0
  go_enter Tryz.func20, Tryz.ntmps20
  go_wp2
  go_loopw [8] (fun i wr => ∃ (k : Nat) (ao : Option Addr) (cp : Nat), i = .int .i64 k ∧ k ≤ S.nc ∧ Hid (Mak w z0 D0 59 3 (.slice ao (keepN S.c 3 fr hi k) cp) (.slice none 0 0) (.slice none 0 0) (.slice ao (keepN S.c 3 fr hi k) cp) (keepN S.c 3 fr hi k) (keepL S.c 3 fr hi k) wr)) (fun i _ => S.nc - (intOf i).toNat)
  case atStart => exact ⟨0, none, 0, rfl, Nat.zero_le _, MA0⟩
  case round =>
    clear MA0
    obtain ⟨k, ao, cp, rfl, hk, HS⟩ := hrel
    have hbw := HS.out.1.2.2
    have e0 := (hbw.cell (p := ⟨b, oo, none⟩) hb).trans p0
    have hbr : b < wr.heap.size := Nat.lt_of_lt_of_le hb hbw.size
    by_cases hlt : k < S.nc
    case neg =>
      have en : k = S.nc := by omega
      subst en
      obtain ⟨d0, hd⟩ : ∃ d, d = ao := ⟨_, rfl⟩
      obtain ⟨y0, he⟩ : ∃ e, e = cp := ⟨_, rfl⟩
      subst hd he
      have DD := HS.out.2.2.done (keep_length _ _ _ _ _)
      obtain ⟨z1, hz⟩ : ∃ z, wr.heap.size = z := ⟨_, rfl⟩
      have zle : z0 ≤ z1 := by rw [← hz]; exact HZ0.out wr HS.out.2.1
      rw [hz] at DD
      obtain ⟨D1, hD, hT, hE⟩ : ∃ D : World → Prop, D wr ∧ Stays w z1 D ∧ ∀ x, D x → z1 ≤ x.heap.size ∧ D0 x ∧ Done x z0 z1 3 (keepN S.c 3 fr hi S.nc) (keepF S.c 3 fr hi S.nc) (.slice d0 (keepN S.c 3 fr hi S.nc) y0) := ⟨_, ⟨by omega, HS.out.2.1, DD⟩, HT0.out.more zle, fun _ h => h⟩
      have HT1 : Hid (Stays w z1 D1) := hT
      have HZ1 : Hid (∀ x, D1 x → z1 ≤ x.heap.size) := fun x hx => (hE x hx).1
      have HE1 : Hid (z0 ≤ z1 ∧ ∀ x, D1 x → D0 x ∧ Done x z0 z1 3 (keepN S.c 3 fr hi S.nc) (keepF S.c 3 fr hi S.nc) (.slice d0 (keepN S.c 3 fr hi S.nc) y0)) := ⟨zle, fun x hx => (hE x hx).2⟩
      have MA1 : Hid (Mak w z1 D1 62 5 (.slice d0 (keepN S.c 3 fr hi S.nc) y0) (.slice none 0 0) (.slice none 0 0) (.slice none 0 0) 0 [] wr) := ⟨HS.out.1, hD, OwnM.nil _ _ _ _⟩
      clear DD zle hz hD hT hE HS
      go_wp2
      go_loopw [9] (fun i wr => ∃ (k : Nat) (ao : Option Addr) (cp : Nat), i = .int .i64 k ∧ k ≤ S.nl ∧ Hid (Mak w z1 D1 62 5 (.slice d0 (keepN S.c 3 fr hi S.nc) y0) (.slice ao (keepN S.l 5 fr hi k) cp) (.slice none 0 0) (.slice ao (keepN S.l 5 fr hi k) cp) (keepN S.l 5 fr hi k) (keepL S.l 5 fr hi k) wr)) (fun i _ => S.nl - (intOf i).toNat)
      case atStart => exact ⟨0, none, 0, rfl, Nat.zero_le _, MA1⟩
      case round =>
        clear MA1
        obtain ⟨k, ao, cp, rfl, hk, HS⟩ := hrel
        have hbw := HS.out.1.2.2
        have e0 := (hbw.cell (p := ⟨b, oo + 1, none⟩) hb).trans p1
        have hbr : b < wr.heap.size := Nat.lt_of_lt_of_le hb hbw.size
        by_cases hlt : k < S.nl
        case neg =>
          have en : k = S.nl := by omega
          subst en
          obtain ⟨d1, hd⟩ : ∃ d, d = ao := ⟨_, rfl⟩
          obtain ⟨y1, he⟩ : ∃ e, e = cp := ⟨_, rfl⟩
          subst hd he
          have DD := HS.out.2.2.done (keep_length _ _ _ _ _)
          obtain ⟨z2, hz⟩ : ∃ z, wr.heap.size = z := ⟨_, rfl⟩
          have zle : z1 ≤ z2 := by rw [← hz]; exact HZ1.out wr HS.out.2.1
          rw [hz] at DD
          obtain ⟨D2, hD, hT, hE⟩ : ∃ D : World → Prop, D wr ∧ Stays w z2 D ∧ ∀ x, D x → z2 ≤ x.heap.size ∧ D1 x ∧ Done x z1 z2 5 (keepN S.l 5 fr hi S.nl) (keepF S.l 5 fr hi S.nl) (.slice d1 (keepN S.l 5 fr hi S.nl) y1) := ⟨_, ⟨by omega, HS.out.2.1, DD⟩, HT1.out.more zle, fun _ h => h⟩
          have HT2 : Hid (Stays w z2 D2) := hT
          have HZ2 : Hid (∀ x, D2 x → z2 ≤ x.heap.size) := fun x hx => (hE x hx).1
          have HE2 : Hid (z1 ≤ z2 ∧ ∀ x, D2 x → D1 x ∧ Done x z1 z2 5 (keepN S.l 5 fr hi S.nl) (keepF S.l 5 fr hi S.nl) (.slice d1 (keepN S.l 5 fr hi S.nl) y1)) := ⟨zle, fun x hx => (hE x hx).2⟩
          have MA2 : Hid (Mak w z2 D2 36 4 (.slice d0 (keepN S.c 3 fr hi S.nc) y0) (.slice d1 (keepN S.l 5 fr hi S.nl) y1) (.slice none 0 0) (.slice none 0 0) 0 [] wr) := ⟨HS.out.1, hD, OwnM.nil _ _ _ _⟩
          clear DD zle hz hD hT hE HS
          go_wp2
          go_loopw [10] (fun i wr => ∃ (k : Nat) (ao : Option Addr) (cp : Nat), i = .int .i64 k ∧ k ≤ S.nw ∧ Hid (Mak w z2 D2 36 4 (.slice d0 (keepN S.c 3 fr hi S.nc) y0) (.slice d1 (keepN S.l 5 fr hi S.nl) y1) (.slice ao (keepN S.k 4 fr hi k) cp) (.slice ao (keepN S.k 4 fr hi k) cp) (keepN S.k 4 fr hi k) (keepL S.k 4 fr hi k) wr)) (fun i _ => S.nw - (intOf i).toNat)
          case atStart => exact ⟨0, none, 0, rfl, Nat.zero_le _, MA2⟩
          case round =>
            clear MA2
            obtain ⟨k, ao, cp, rfl, hk, HS⟩ := hrel
            have hbw := HS.out.1.2.2
            have e0 := (hbw.cell (p := ⟨b, oo + 2, none⟩) hb).trans p2
            have hbr : b < wr.heap.size := Nat.lt_of_lt_of_le hb hbw.size
            by_cases hlt : k < S.nw
            case neg =>
              have en : k = S.nw := by omega
              subst en
              obtain ⟨d2, hd⟩ : ∃ d, d = ao := ⟨_, rfl⟩
              obtain ⟨y2, he⟩ : ∃ e, e = cp := ⟨_, rfl⟩
              subst hd he
              obtain ⟨⟨r0, r1, r2⟩, f0, f1, f2⟩ := HS.out.1.1
              obtain ⟨⟨s0, s1, s2⟩, _⟩ := HS.out.1.2.1
              have D2' := HE2.out.2 _ HS.out.2.1
              have D1' := HE1.out.2 _ D2'.1
              have DW := HS.out.2.2.done (keep_length _ _ _ _ _)
              have R : Hid ((St wr z0 ⟨(keepN S.c 3 fr hi S.nc), (keepF S.c 3 fr hi S.nc), (keepN S.l 5 fr hi S.nl), (keepF S.l 5 fr hi S.nl), (keepN S.k 4 fr hi S.nw), (keepF S.k 4 fr hi S.nw)⟩ (.slice d0 (keepN S.c 3 fr hi S.nc) y0) (.slice d1 (keepN S.l 5 fr hi S.nl) y1) (.slice d2 (keepN S.k 4 fr hi S.nw) y2) ∧ FreeS wr ⟨(keepN S.c 3 fr hi S.nc), (keepF S.c 3 fr hi S.nc), (keepN S.l 5 fr hi S.nl), (keepF S.l 5 fr hi S.nl), (keepN S.k 4 fr hi S.nw), (keepF S.k 4 fr hi S.nw)⟩ (.slice d0 (keepN S.c 3 fr hi S.nc) y0) (.slice d1 (keepN S.l 5 fr hi S.nl) y1) (.slice d2 (keepN S.k 4 fr hi S.nw) y2)) ∧ ApartD ⟨(keepN S.c 3 fr hi S.nc), (keepF S.c 3 fr hi S.nc), (keepN S.l 5 fr hi S.nl), (keepF S.l 5 fr hi S.nl), (keepN S.k 4 fr hi S.nw), (keepF S.k 4 fr hi S.nw)⟩ (.slice d0 (keepN S.c 3 fr hi S.nc) y0) (.slice d1 (keepN S.l 5 fr hi S.nl) y1) (.slice d2 (keepN S.k 4 fr hi S.nw) y2)) :=
                ⟨⟨⟨D1'.2.1.1, D2'.2.1.1.mono HE1.out.1, DW.1.1.mono (Nat.le_trans HE1.out.1 HE2.out.1)⟩, D1'.2.1.2, D2'.2.1.2, DW.1.2⟩,
                  apartD_of (z1 := z1) (z2 := z2) HE2.out.1 D1'.2.2 (fun h0 k hk => ⟨(D2'.2.1.1.lt h0 k hk).1, D2'.2.2 h0 k hk⟩) (fun h0 k hk => (DW.1.1.lt h0 k hk).1) D1'.2.1.1 D2'.2.1.1⟩
              have hne : ¬ w.heap.size + 1 = w.heap.size := by omega
              have hlo0 : w.heap.size < z0 := by omega
              have HB : Hid (Below w.heap.size w wr) := HS.out.1.2.2
              clear HS D1' D2' DW
              go_wp2
              exact bodyPost_ret (v := .agg #[.slice d0 (keepN S.c 3 fr hi S.nc) y0, .slice d1 (keepN S.l 5 fr hi S.nl) y1, .slice d2 (keepN S.k 4 fr hi S.nw) y2]) (by simp [results, Tryz.results20, go_sem, r0, r1, r2]) rfl ⟨d0, y0, d1, y1, d2, y2, rfl, ⟨((((R.out.1.1.far hlo0 _).far hlo0 _).far hlo0 _).mono (by omega)), ((R.out.1.2.far _ _).far _ _).far _ _, R.out.2⟩, ((HB.out.setCell (Nat.le_refl _) _).setCell (Nat.le_refl _) _).setCell (Nat.le_refl _) _⟩
            obtain ⟨g, o, rfl, _, hg, x0, x1, x2, x3⟩ := H.out.2.2.2.at4 hlt
            replace x0 := (hbw.cell (p := ⟨g, o + k * 4, none⟩) hg).trans x0
            replace x1 := (hbw.cell (p := ⟨g, o + k * 4 + 1, none⟩) hg).trans x1
            replace x2 := (hbw.cell (p := ⟨g, o + k * 4 + 2, none⟩) hg).trans x2
            replace x3 := (hbw.cell (p := ⟨g, o + k * 4 + 3, none⟩) hg).trans x3
            have hgr : g < wr.heap.size := Nat.lt_of_lt_of_le hg hbw.size
            obtain ⟨n0, N0⟩ : ∃ x, S.k (k * 4) = x := ⟨_, rfl⟩
            rw [N0] at x0
            obtain ⟨n1, N1⟩ : ∃ x, S.k (k * 4 + 1) = x := ⟨_, rfl⟩
            rw [N1] at x1
            obtain ⟨n2, N2⟩ : ∃ x, S.k (k * 4 + 2) = x := ⟨_, rfl⟩
            rw [N2] at x2
            obtain ⟨n3, N3⟩ : ∃ x, S.k (k * 4 + 3) = x := ⟨_, rfl⟩
            rw [N3] at x3
            have NN : Hid (S.k (k * 4) = n0 ∧ S.k (k * 4 + 1) = n1 ∧ S.k (k * 4 + 2) = n2 ∧ S.k (k * 4 + 3) = n3) := ⟨N0, N1, N2, N3⟩
            by_cases hin : fr ≤ n0 ∧ n0 ≤ hi
            case neg =>
              have HI : Hid (decide (fr ≤ n0 ∧ n0 ≤ hi) = false) := decide_eq_false hin
              have M1 : Hid (Mak w z2 D2 36 4 (.slice d0 (keepN S.c 3 fr hi S.nc) y0) (.slice d1 (keepN S.l 5 fr hi S.nl) y1) (.slice ao (keepN S.k 4 fr hi (k + 1)) cp) (.slice ao (keepN S.k 4 fr hi (k + 1)) cp) (keepN S.k 4 fr hi (k + 1)) (keepL S.k 4 fr hi (k + 1)) wr) := by
                have h1 := keep_no (F := S.k) (m := 4) (a := fr) (b := hi) (k := k) (by rw [N0]; exact hin)
                unfold Hid
                rw [h1.1, h1.2]
                exact HS.out
              clear N0 N1 N2 N3 NN hin HS
              go_wp2_with fail
              refine (l1In_is _ _ _ false HI.out _).mono ?_
              rintro e w1 ⟨rfl, rfl⟩
              go_wp2
              go_roundw
              case rel => exact ⟨k + 1, ao, cp, by go_num, by omega, M1⟩
              case measure => simp [intOf]; omega
            have HI : Hid (decide (fr ≤ n0 ∧ n0 ≤ hi) = true) := decide_eq_true hin
            have HL : Hid ((keepL S.k 4 fr hi (k + 1)) = (keepL S.k 4 fr hi k) ++ [n0, n1, n2, n3] ∧ (keepN S.k 4 fr hi (k + 1)) = (keepN S.k 4 fr hi k) + 1) := by
              have h1 := keep_yes (F := S.k) (m := 4) (a := fr) (b := hi) (k := k) (by rw [N0]; exact hin)
              refine ⟨h1.1.trans ?_, h1.2⟩
              rw [show (List.range 4).map (fun q => S.k (k * 4 + q)) = [S.k (k * 4), S.k (k * 4 + 1), S.k (k * 4 + 2), S.k (k * 4 + 3)] from rfl, N0, N1, N2, N3]
            have hnle := keep_le S.k 4 fr hi k
            obtain ⟨nn, hnn⟩ : ∃ nn, (keepN S.k 4 fr hi k) = nn := ⟨_, rfl⟩
            rw [hnn] at hnle HS
            have HNN : Hid ((keepN S.k 4 fr hi k) = nn) := hnn
            have HA : Hid (Mak w z2 D2 36 4 (.slice d0 (keepN S.c 3 fr hi S.nc) y0) (.slice d1 (keepN S.l 5 fr hi S.nl) y1) (.slice ao nn cp) (.slice ao nn cp) nn (keepL S.k 4 fr hi k) (wr.alloc (.cells #[.int .i64 n0, .int .i64 n1, .int .i64 n2, .int .i64 n3] 36)).drew) := HS.out.later HT2.out (below_alloc _ _).drew
            have s2 := HS.out.1.2.1.1.2.2
            have fz2 := HS.out.1.2.1.2.2.2
            have fa2 : (wr.alloc (.cells #[.int .i64 n0, .int .i64 n1, .int .i64 n2, .int .i64 n3] 36)).frozen? ⟨w.heap.size + 1, 2, none⟩ = false := HA.out.1.2.1.2.2.2
            have fb2 : (wr.alloc (.cells #[.int .i64 n0, .int .i64 n1, .int .i64 n2, .int .i64 n3] 36)).drew.frozen? ⟨w.heap.size + 1, 2, none⟩ = false := HA.out.1.2.1.2.2.2
            have zs := HS.out.1.2.1.lt
            have hob := HS.out.2.2.block
            have hlo := HT2.out.lo
            have nq : ∀ q, q < w.heap.size + 2 → some q ≠ (Value.slice ao nn cp).ownBlock := fun q hq e => by have := hob q e.symm; omega
            have hzw : z2 ≤ wr.heap.size := HZ2.out wr HS.out.2.1
            clear N0 N1 N2 N3 NN hin HS hob
            clear hnn
            go_wp2_with fail
            refine (l1In_is _ _ _ true HI.out _).mono ?_
            rintro e w1 ⟨rfl, rfl⟩
            go_wp2_with fail
            go_region_law ((refine step_append_lies _ (by rfl) _ _ 26 (by rfl) z2 36 i2 (.agg #[.int .i64 0, .int .i64 0, .int .i64 0, .int .i64 0]) 4 32 Tryz.underlying26 hi2 hz02 hz12 hz22 rfl (by omega) (.slice ao nn cp) nn _ (by rfl) HA.out.2.2 ⟨w1.heap.size, 0, none⟩ 1 1 [.int .i64 n0, .int .i64 n1, .int .i64 n2, .int .i64 n3] (by rfl) (by rfl) (World.news_of_block (cs := #[.int .i64 n0, .int .i64 n1, .int .i64 n2, .int .i64 n3]) (t := 36) (fr := (0, 0)) (heap_alloc_new w1 _)) (by simp [Value.oneCell']) (by omega) (by unfold maxLen; omega) (by omega) (by simp; omega) (w1.heap.size + 1) (by simp) ?_; intro gg cap w5 ho hgrow hat hlt5; have F2 : OwnM w5 z2 36 4 (.slice (some ⟨gg, 0, none⟩) (keepN S.k 4 fr hi (k + 1)) cap) (keepN S.k 4 fr hi (k + 1)) (keepL S.k 4 fr hi (k + 1)) := (by unfold OwnM; rw [HL.out.1, HL.out.2, HNN.out, List.map_append]; exact ho); have M5 := HA.out.step HT2.out hgrow F2; rw [HL.out.2, HNN.out] at M5; have t2 := M5.1.2.1.1.2.2; have g2 := M5.1.2.1.2.2.2; have M6 : Hid (Mak w z2 D2 36 4 (.slice d0 (keepN S.c 3 fr hi S.nc) y0) (.slice d1 (keepN S.l 5 fr hi S.nl) y1) (.slice (some ⟨gg, 0, none⟩) (nn + 1) cap) (.slice (some ⟨gg, 0, none⟩) (nn + 1) cap) (nn + 1) (keepL S.k 4 fr hi (k + 1)) (w5.setCell ⟨w.heap.size + 1, 2, none⟩ (.slice (some ⟨gg, 0, none⟩) (nn + 1) cap))) := M5.set2 HT2.out; clear M5 F2))
            all_goals
              clear HA s2 zs fz2 fa2 fb2
              go_wp2
              go_roundw
              case rel => exact ⟨k + 1, some ⟨gg, 0, none⟩, cap, by go_num, by omega, by rw [HL.out.2, HNN.out]; exact M6⟩
              case measure => simp [intOf]; omega
        obtain ⟨g, o, rfl, _, hg, x0, x1, x2, x3, x4⟩ := H.out.2.2.1.at5 hlt
        replace x0 := (hbw.cell (p := ⟨g, o + k * 5, none⟩) hg).trans x0
        replace x1 := (hbw.cell (p := ⟨g, o + k * 5 + 1, none⟩) hg).trans x1
        replace x2 := (hbw.cell (p := ⟨g, o + k * 5 + 2, none⟩) hg).trans x2
        replace x3 := (hbw.cell (p := ⟨g, o + k * 5 + 3, none⟩) hg).trans x3
        replace x4 := (hbw.cell (p := ⟨g, o + k * 5 + 4, none⟩) hg).trans x4
        have hgr : g < wr.heap.size := Nat.lt_of_lt_of_le hg hbw.size
        obtain ⟨n0, N0⟩ : ∃ x, S.l (k * 5) = x := ⟨_, rfl⟩
        rw [N0] at x0
        obtain ⟨n1, N1⟩ : ∃ x, S.l (k * 5 + 1) = x := ⟨_, rfl⟩
        rw [N1] at x1
        obtain ⟨n2, N2⟩ : ∃ x, S.l (k * 5 + 2) = x := ⟨_, rfl⟩
        rw [N2] at x2
        obtain ⟨n3, N3⟩ : ∃ x, S.l (k * 5 + 3) = x := ⟨_, rfl⟩
        rw [N3] at x3
        obtain ⟨n4, N4⟩ : ∃ x, S.l (k * 5 + 4) = x := ⟨_, rfl⟩
        rw [N4] at x4
        have NN : Hid (S.l (k * 5) = n0 ∧ S.l (k * 5 + 1) = n1 ∧ S.l (k * 5 + 2) = n2 ∧ S.l (k * 5 + 3) = n3 ∧ S.l (k * 5 + 4) = n4) := ⟨N0, N1, N2, N3, N4⟩
        by_cases hin : fr ≤ n0 ∧ n0 ≤ hi
        case neg =>
          have HI : Hid (decide (fr ≤ n0 ∧ n0 ≤ hi) = false) := decide_eq_false hin
          have M1 : Hid (Mak w z1 D1 62 5 (.slice d0 (keepN S.c 3 fr hi S.nc) y0) (.slice ao (keepN S.l 5 fr hi (k + 1)) cp) (.slice none 0 0) (.slice ao (keepN S.l 5 fr hi (k + 1)) cp) (keepN S.l 5 fr hi (k + 1)) (keepL S.l 5 fr hi (k + 1)) wr) := by
            have h1 := keep_no (F := S.l) (m := 5) (a := fr) (b := hi) (k := k) (by rw [N0]; exact hin)
            unfold Hid
            rw [h1.1, h1.2]
            exact HS.out
          clear N0 N1 N2 N3 N4 NN hin HS
          go_wp2_with fail
          refine (l1In_is _ _ _ false HI.out _).mono ?_
          rintro e w1 ⟨rfl, rfl⟩
          go_wp2
          go_roundw
          case rel => exact ⟨k + 1, ao, cp, by go_num, by omega, M1⟩
          case measure => simp [intOf]; omega
        have HI : Hid (decide (fr ≤ n0 ∧ n0 ≤ hi) = true) := decide_eq_true hin
        have HL : Hid ((keepL S.l 5 fr hi (k + 1)) = (keepL S.l 5 fr hi k) ++ [n0, n1, n2, n3, n4] ∧ (keepN S.l 5 fr hi (k + 1)) = (keepN S.l 5 fr hi k) + 1) := by
          have h1 := keep_yes (F := S.l) (m := 5) (a := fr) (b := hi) (k := k) (by rw [N0]; exact hin)
          refine ⟨h1.1.trans ?_, h1.2⟩
          rw [show (List.range 5).map (fun q => S.l (k * 5 + q)) = [S.l (k * 5), S.l (k * 5 + 1), S.l (k * 5 + 2), S.l (k * 5 + 3), S.l (k * 5 + 4)] from rfl, N0, N1, N2, N3, N4]
        have hnle := keep_le S.l 5 fr hi k
        obtain ⟨nn, hnn⟩ : ∃ nn, (keepN S.l 5 fr hi k) = nn := ⟨_, rfl⟩
        rw [hnn] at hnle HS
        have HNN : Hid ((keepN S.l 5 fr hi k) = nn) := hnn
        have HA : Hid (Mak w z1 D1 62 5 (.slice d0 (keepN S.c 3 fr hi S.nc) y0) (.slice ao nn cp) (.slice none 0 0) (.slice ao nn cp) nn (keepL S.l 5 fr hi k) (wr.alloc (.cells #[.int .i64 n0, .int .i64 n1, .int .i64 n2, .int .i64 n3, .int .i64 n4] 62)).drew) := HS.out.later HT1.out (below_alloc _ _).drew
        have s1 := HS.out.1.2.1.1.2.1
        have fz1 := HS.out.1.2.1.2.2.1
        have fa1 : (wr.alloc (.cells #[.int .i64 n0, .int .i64 n1, .int .i64 n2, .int .i64 n3, .int .i64 n4] 62)).frozen? ⟨w.heap.size + 1, 1, none⟩ = false := HA.out.1.2.1.2.2.1
        have fb1 : (wr.alloc (.cells #[.int .i64 n0, .int .i64 n1, .int .i64 n2, .int .i64 n3, .int .i64 n4] 62)).drew.frozen? ⟨w.heap.size + 1, 1, none⟩ = false := HA.out.1.2.1.2.2.1
        have zs := HS.out.1.2.1.lt
        have hob := HS.out.2.2.block
        have hlo := HT1.out.lo
        have nq : ∀ q, q < w.heap.size + 2 → some q ≠ (Value.slice ao nn cp).ownBlock := fun q hq e => by have := hob q e.symm; omega
        have hzw : z1 ≤ wr.heap.size := HZ1.out wr HS.out.2.1
        clear N0 N1 N2 N3 N4 NN hin HS hob
        clear hnn
        go_wp2_with fail
        refine (l1In_is _ _ _ true HI.out _).mono ?_
        rintro e w1 ⟨rfl, rfl⟩
        go_wp2_with fail
        go_region_law ((refine step_append_lies _ (by rfl) _ _ 25 (by rfl) z1 62 i1 (.agg #[.int .i64 0, .int .i64 0, .int .i64 0, .int .i64 0, .int .i64 0]) 5 40 Tryz.underlying25 hi1 hz01 hz11 hz21 rfl (by omega) (.slice ao nn cp) nn _ (by rfl) HA.out.2.2 ⟨w1.heap.size, 0, none⟩ 1 1 [.int .i64 n0, .int .i64 n1, .int .i64 n2, .int .i64 n3, .int .i64 n4] (by rfl) (by rfl) (World.news_of_block (cs := #[.int .i64 n0, .int .i64 n1, .int .i64 n2, .int .i64 n3, .int .i64 n4]) (t := 62) (fr := (0, 0)) (heap_alloc_new w1 _)) (by simp [Value.oneCell']) (by omega) (by unfold maxLen; omega) (by omega) (by simp; omega) (w1.heap.size + 1) (by simp) ?_; intro gg cap w5 ho hgrow hat hlt5; have F2 : OwnM w5 z1 62 5 (.slice (some ⟨gg, 0, none⟩) (keepN S.l 5 fr hi (k + 1)) cap) (keepN S.l 5 fr hi (k + 1)) (keepL S.l 5 fr hi (k + 1)) := (by unfold OwnM; rw [HL.out.1, HL.out.2, HNN.out, List.map_append]; exact ho); have M5 := HA.out.step HT1.out hgrow F2; rw [HL.out.2, HNN.out] at M5; have t1 := M5.1.2.1.1.2.1; have g1 := M5.1.2.1.2.2.1; have M6 : Hid (Mak w z1 D1 62 5 (.slice d0 (keepN S.c 3 fr hi S.nc) y0) (.slice (some ⟨gg, 0, none⟩) (nn + 1) cap) (.slice none 0 0) (.slice (some ⟨gg, 0, none⟩) (nn + 1) cap) (nn + 1) (keepL S.l 5 fr hi (k + 1)) (w5.setCell ⟨w.heap.size + 1, 1, none⟩ (.slice (some ⟨gg, 0, none⟩) (nn + 1) cap))) := M5.set1 HT1.out; clear M5 F2))
        all_goals
          clear HA s1 zs fz1 fa1 fb1
          go_wp2
          go_roundw
          case rel => exact ⟨k + 1, some ⟨gg, 0, none⟩, cap, by go_num, by omega, by rw [HL.out.2, HNN.out]; exact M6⟩
          case measure => simp [intOf]; omega
    obtain ⟨g, o, rfl, _, hg, x0, x1, x2⟩ := H.out.2.1.at3 hlt
    replace x0 := (hbw.cell (p := ⟨g, o + k * 3, none⟩) hg).trans x0
    replace x1 := (hbw.cell (p := ⟨g, o + k * 3 + 1, none⟩) hg).trans x1
    replace x2 := (hbw.cell (p := ⟨g, o + k * 3 + 2, none⟩) hg).trans x2
    have hgr : g < wr.heap.size := Nat.lt_of_lt_of_le hg hbw.size
    obtain ⟨n0, N0⟩ : ∃ x, S.c (k * 3) = x := ⟨_, rfl⟩
    rw [N0] at x0
    obtain ⟨n1, N1⟩ : ∃ x, S.c (k * 3 + 1) = x := ⟨_, rfl⟩
    rw [N1] at x1
    obtain ⟨n2, N2⟩ : ∃ x, S.c (k * 3 + 2) = x := ⟨_, rfl⟩
    rw [N2] at x2
    have NN : Hid (S.c (k * 3) = n0 ∧ S.c (k * 3 + 1) = n1 ∧ S.c (k * 3 + 2) = n2) := ⟨N0, N1, N2⟩
    by_cases hin : fr ≤ n0 ∧ n0 ≤ hi
    case neg =>
      have HI : Hid (decide (fr ≤ n0 ∧ n0 ≤ hi) = false) := decide_eq_false hin
      have M1 : Hid (Mak w z0 D0 59 3 (.slice ao (keepN S.c 3 fr hi (k + 1)) cp) (.slice none 0 0) (.slice none 0 0) (.slice ao (keepN S.c 3 fr hi (k + 1)) cp) (keepN S.c 3 fr hi (k + 1)) (keepL S.c 3 fr hi (k + 1)) wr) := by
        have h1 := keep_no (F := S.c) (m := 3) (a := fr) (b := hi) (k := k) (by rw [N0]; exact hin)
        unfold Hid
        rw [h1.1, h1.2]
        exact HS.out
      clear N0 N1 N2 NN hin HS
      go_wp2_with fail
      refine (l1In_is _ _ _ false HI.out _).mono ?_
      rintro e w1 ⟨rfl, rfl⟩
      go_wp2
      go_roundw
      case rel => exact ⟨k + 1, ao, cp, by go_num, by omega, M1⟩
      case measure => simp [intOf]; omega
    have HI : Hid (decide (fr ≤ n0 ∧ n0 ≤ hi) = true) := decide_eq_true hin
    have HL : Hid ((keepL S.c 3 fr hi (k + 1)) = (keepL S.c 3 fr hi k) ++ [n0, n1, n2] ∧ (keepN S.c 3 fr hi (k + 1)) = (keepN S.c 3 fr hi k) + 1) := by
      have h1 := keep_yes (F := S.c) (m := 3) (a := fr) (b := hi) (k := k) (by rw [N0]; exact hin)
      refine ⟨h1.1.trans ?_, h1.2⟩
      rw [show (List.range 3).map (fun q => S.c (k * 3 + q)) = [S.c (k * 3), S.c (k * 3 + 1), S.c (k * 3 + 2)] from rfl, N0, N1, N2]
    have hnle := keep_le S.c 3 fr hi k
    obtain ⟨nn, hnn⟩ : ∃ nn, (keepN S.c 3 fr hi k) = nn := ⟨_, rfl⟩
    rw [hnn] at hnle HS
    have HNN : Hid ((keepN S.c 3 fr hi k) = nn) := hnn
    have HA : Hid (Mak w z0 D0 59 3 (.slice ao nn cp) (.slice none 0 0) (.slice none 0 0) (.slice ao nn cp) nn (keepL S.c 3 fr hi k) (wr.alloc (.cells #[.int .i64 n0, .int .i64 n1, .int .i64 n2] 59)).drew) := HS.out.later HT0.out (below_alloc _ _).drew
    have s0 := HS.out.1.2.1.1.1
    have fz0 := HS.out.1.2.1.2.1
    have fa0 : (wr.alloc (.cells #[.int .i64 n0, .int .i64 n1, .int .i64 n2] 59)).frozen? ⟨w.heap.size + 1, 0, none⟩ = false := HA.out.1.2.1.2.1
    have fb0 : (wr.alloc (.cells #[.int .i64 n0, .int .i64 n1, .int .i64 n2] 59)).drew.frozen? ⟨w.heap.size + 1, 0, none⟩ = false := HA.out.1.2.1.2.1
    have zs := HS.out.1.2.1.lt
    have hob := HS.out.2.2.block
    have hlo := HT0.out.lo
    have nq : ∀ q, q < w.heap.size + 2 → some q ≠ (Value.slice ao nn cp).ownBlock := fun q hq e => by have := hob q e.symm; omega
    have hzw : z0 ≤ wr.heap.size := HZ0.out wr HS.out.2.1
    clear N0 N1 N2 NN hin HS hob
    clear hnn
    go_wp2_with fail
    refine (l1In_is _ _ _ true HI.out _).mono ?_
    rintro e w1 ⟨rfl, rfl⟩
    go_wp2_with fail
    go_region_law ((refine step_append_lies _ (by rfl) _ _ 24 (by rfl) z0 59 i0 (.agg #[.int .i64 0, .int .i64 0, .int .i64 0]) 3 24 Tryz.underlying24 hi0 hz00 hz10 hz20 rfl (by omega) (.slice ao nn cp) nn _ (by rfl) HA.out.2.2 ⟨w1.heap.size, 0, none⟩ 1 1 [.int .i64 n0, .int .i64 n1, .int .i64 n2] (by rfl) (by rfl) (World.news_of_block (cs := #[.int .i64 n0, .int .i64 n1, .int .i64 n2]) (t := 59) (fr := (0, 0)) (heap_alloc_new w1 _)) (by simp [Value.oneCell']) (by omega) (by unfold maxLen; omega) (by omega) (by simp; omega) (w1.heap.size + 1) (by simp) ?_; intro gg cap w5 ho hgrow hat hlt5; have F2 : OwnM w5 z0 59 3 (.slice (some ⟨gg, 0, none⟩) (keepN S.c 3 fr hi (k + 1)) cap) (keepN S.c 3 fr hi (k + 1)) (keepL S.c 3 fr hi (k + 1)) := (by unfold OwnM; rw [HL.out.1, HL.out.2, HNN.out, List.map_append]; exact ho); have M5 := HA.out.step HT0.out hgrow F2; rw [HL.out.2, HNN.out] at M5; have t0 := M5.1.2.1.1.1; have g0 := M5.1.2.1.2.1; have M6 : Hid (Mak w z0 D0 59 3 (.slice (some ⟨gg, 0, none⟩) (nn + 1) cap) (.slice none 0 0) (.slice none 0 0) (.slice (some ⟨gg, 0, none⟩) (nn + 1) cap) (nn + 1) (keepL S.c 3 fr hi (k + 1)) (w5.setCell ⟨w.heap.size + 1, 0, none⟩ (.slice (some ⟨gg, 0, none⟩) (nn + 1) cap))) := M5.set0 HT0.out; clear M5 F2))
    all_goals
      clear HA s0 zs fz0 fa0 fb0
      go_wp2
      go_roundw
      case rel => exact ⟨k + 1, some ⟨gg, 0, none⟩, cap, by go_num, by omega, by rw [HL.out.2, HNN.out]; exact M6⟩
      case measure => simp [intOf]; omega
theorem l2Part_any (S : Sto) (b : Nat) (v0 v1 v2 : Value) (fr tto : Int) (w : World) (h : Lies w b S v0 v1 v2) (hn : S.nc ≤ 200 ∧ S.nl ≤ 200 ∧ S.nw ≤ 200) (ht : 0 ≤ tto ∧ tto ≤ 200) :
    Calls Tryz.prog 20 #[.pointer (some ⟨b, 0, none⟩), .int .i64 fr, .int .i64 tto] w (NewSto w (partS S fr tto)) := l2Part_anyO S b 0 v0 v1 v2 fr tto w h.o hn ht
end Go.Proofs.YtgedodcojalidaaGreat

namespace Go.Proofs.YtgedodcojalidaaGreat
open Go.RowKit

def partFits (fr tto : Int) : Prop := (0 ≤ fr ∧ fr ≤ 200) ∧ (0 ≤ tto ∧ tto ≤ 200)
/-- What PartStore answers. -/
def PartAns (S : Sto) (fr tto c : Int) (R : Sto) : Prop := (storeF S ≠ 0 ∧ c = storeF S ∧ R = emptyS) ∨ (storeF S = 0 ∧ ¬ partFits fr tto ∧ c = 3 ∧ R = emptyS) ∨ (storeF S = 0 ∧ partFits fr tto ∧ c = 0 ∧ R = partS S fr tto)
theorem PartAns.get (S : Sto) (fr tto : Int) : ∃ c R, (R.nc ≤ 1048576 ∧ R.nl ≤ 1048576 ∧ R.nw ≤ 1048576) ∧ PartAns S fr tto c R := by
  by_cases hz : storeF S = 0
  · by_cases hf : partFits fr tto
    · have Z := (storeF_zero hz).1
      have h0 := keep_le S.c 3 fr (tto - 1) S.nc
      have h1 := keep_le S.l 5 fr (tto - 1) S.nl
      have h2 := keep_le S.k 4 fr (tto - 1) S.nw
      exact ⟨0, partS S fr tto, ⟨Nat.le_trans h0 (by omega), Nat.le_trans h1 (by omega), Nat.le_trans h2 (by omega)⟩, Or.inr (Or.inr ⟨hz, hf, rfl, rfl⟩)⟩
    · exact ⟨3, emptyS, ⟨Nat.zero_le _, Nat.zero_le _, Nat.zero_le _⟩, Or.inr (Or.inl ⟨hz, hf, rfl, rfl⟩)⟩
  · exact ⟨storeF S, emptyS, ⟨Nat.zero_le _, Nat.zero_le _, Nat.zero_le _⟩, Or.inl ⟨hz, rfl, rfl⟩⟩
set_option maxRecDepth 100000 in
set_option maxHeartbeats 8000000 in
theorem specPartStore_is (S : Sto) (v0 v1 v2 : Value) (fr tto c : Int) (R : Sto) (B : Nat) (w : World) (h : St w B S v0 v1 v2) (hA : PartAns S fr tto c R) :
    Calls Tryz.prog 7 #[.agg #[v0, v1, v2], .int .i64 fr, .int .i64 tto] w (ResSto w c R) := by
  obtain ⟨a0, c0, a1, c1, a2, c2, rfl, rfl, rfl⟩ := h.form
  have HE : Hid (CallSto w B S (.slice a0 S.nc c0) (.slice a1 S.nl c1) (.slice a2 S.nw c2) ((w.alloc (.cells #[.slice a0 S.nc c0, .slice a1 S.nl c1, .slice a2 S.nw c2] 28)).alloc (.cells #[.int .i64 0, .slice none 0 0, .slice none 0 0, .slice none 0 0] 32))) := CallSto.new h _ _
  clear h
  unfold ResSto
  rcases hA with ⟨hz, rfl, rfl⟩ | ⟨hz, hf, rfl, rfl⟩ | ⟨hz, hf, rfl, rfl⟩
  · obtain ⟨f, hf⟩ : ∃ f, storeF S = f := ⟨_, rfl⟩
    have HF : Hid (storeF S = f) := hf
    have hfn : (f == 0) = false := beq_eq_false_iff_ne.2 (by rw [← hf]; exact hz)
    rw [hf]
    clear hz hf
    go_enter Tryz.func7, Tryz.ntmps7
    go_wp2_with fail
    refine (l2Fault_any S w.heap.size _ _ _ _ ⟨HE.out.1.1, HE.out.2.2.1.mono (Nat.zero_le _)⟩).mono ?_
    rw [HF.out]
    rintro e w1 ⟨rfl, q1⟩
    have HE : Hid (CallSto w B S (.slice a0 S.nc c0) (.slice a1 S.nl c1) (.slice a2 S.nw c2) w1) := HE.out.later q1
    obtain ⟨⟨⟨p0, p1, p2⟩, _⟩, ⟨⟨r0, r1, r2, r3⟩, f0, f1, f2, f3⟩, _⟩ := HE.out
    clear q1
    go_wp2
    exact bodyPost_ret (v := .agg #[.int .i64 f, .slice none 0 0, .slice none 0 0, .slice none 0 0]) (by simp [results, Tryz.results7, go_sem, r0, r1, r2, r3]) rfl ⟨none, 0, none, 0, none, 0, rfl, empty_sto _ _, (((HE.out.2.2.2.setCell (Nat.le_succ _) _).setCell (Nat.le_succ _) _).setCell (Nat.le_succ _) _).setCell (Nat.le_succ _) _⟩
  · have HA : Hid (storeF S = 0) := hz
    by_cases h1 : 0 ≤ fr ∧ fr ≤ 200
    case neg =>
      have H1 : Hid (decide (0 ≤ fr ∧ fr ≤ 200) = false) := decide_eq_false h1
      clear hf h1 hz
      go_enter Tryz.func7, Tryz.ntmps7
      go_wp2_with fail
      refine (l2Fault_any S w.heap.size _ _ _ _ ⟨HE.out.1.1, HE.out.2.2.1.mono (Nat.zero_le _)⟩).mono ?_
      rw [HA.out]
      rintro e w1 ⟨rfl, q1⟩
      have HE : Hid (CallSto w B S (.slice a0 S.nc c0) (.slice a1 S.nl c1) (.slice a2 S.nw c2) w1) := HE.out.later q1
      obtain ⟨⟨⟨p0, p1, p2⟩, _⟩, ⟨⟨r0, r1, r2, r3⟩, f0, f1, f2, f3⟩, _⟩ := HE.out
      clear q1
      go_wp2_with fail
      refine (l1In_is _ _ _ false H1.out _).mono ?_
      rintro e w1' ⟨rfl, rfl⟩
      go_wp2
      exact bodyPost_ret (v := .agg #[.int .i64 3, .slice none 0 0, .slice none 0 0, .slice none 0 0]) (by simp [results, Tryz.results7, go_sem, r0, r1, r2, r3]) rfl ⟨none, 0, none, 0, none, 0, rfl, empty_sto _ _, (((HE.out.2.2.2.setCell (Nat.le_succ _) _).setCell (Nat.le_succ _) _).setCell (Nat.le_succ _) _).setCell (Nat.le_succ _) _⟩
    have H1 : Hid (decide (0 ≤ fr ∧ fr ≤ 200) = true) := decide_eq_true h1
    have H2 : Hid (decide (0 ≤ tto ∧ tto ≤ 200) = false) := decide_eq_false (fun q => hf ⟨h1, q⟩)
    clear hf h1 hz
    go_enter Tryz.func7, Tryz.ntmps7
    go_wp2_with fail
    refine (l2Fault_any S w.heap.size _ _ _ _ ⟨HE.out.1.1, HE.out.2.2.1.mono (Nat.zero_le _)⟩).mono ?_
    rw [HA.out]
    rintro e w1 ⟨rfl, q1⟩
    have HE : Hid (CallSto w B S (.slice a0 S.nc c0) (.slice a1 S.nl c1) (.slice a2 S.nw c2) w1) := HE.out.later q1
    obtain ⟨⟨⟨p0, p1, p2⟩, _⟩, ⟨⟨r0, r1, r2, r3⟩, f0, f1, f2, f3⟩, _⟩ := HE.out
    clear q1
    go_wp2_with fail
    refine (l1In_is _ _ _ true H1.out _).mono ?_
    rintro e w1' ⟨rfl, rfl⟩
    go_wp2_with fail
    refine (l1In_is _ _ _ false H2.out _).mono ?_
    rintro e w1' ⟨rfl, rfl⟩
    go_wp2
    exact bodyPost_ret (v := .agg #[.int .i64 3, .slice none 0 0, .slice none 0 0, .slice none 0 0]) (by simp [results, Tryz.results7, go_sem, r0, r1, r2, r3]) rfl ⟨none, 0, none, 0, none, 0, rfl, empty_sto _ _, (((HE.out.2.2.2.setCell (Nat.le_succ _) _).setCell (Nat.le_succ _) _).setCell (Nat.le_succ _) _).setCell (Nat.le_succ _) _⟩
  · have HA : Hid (storeF S = 0) := hz
    have HN : Hid (S.nc ≤ 200 ∧ S.nl ≤ 200 ∧ S.nw ≤ 200) := (storeF_zero hz).1
    have H1 : Hid (decide (0 ≤ fr ∧ fr ≤ 200) = true) := decide_eq_true hf.1
    have H2 : Hid (decide (0 ≤ tto ∧ tto ≤ 200) = true) := decide_eq_true hf.2
    have HP : Hid (∀ (b : Nat) (u0 u1 u2 : Value) (x : World), Lies x b S u0 u1 u2 → Calls Tryz.prog 20 #[.pointer (some ⟨b, 0, none⟩), .int .i64 fr, .int .i64 tto] x (NewSto x (partS S fr tto))) := fun b u0 u1 u2 x hx => l2Part_any S b u0 u1 u2 fr tto x hx HN.out hf.2
    generalize partS S fr tto = R at HP ⊢
    clear hf hz HN
    go_enter Tryz.func7, Tryz.ntmps7
    go_wp2_with fail
    refine (l2Fault_any S w.heap.size _ _ _ _ ⟨HE.out.1.1, HE.out.2.2.1.mono (Nat.zero_le _)⟩).mono ?_
    rw [HA.out]
    rintro e w1 ⟨rfl, q1⟩
    have HE : Hid (CallSto w B S (.slice a0 S.nc c0) (.slice a1 S.nl c1) (.slice a2 S.nw c2) w1) := HE.out.later q1
    obtain ⟨⟨⟨p0, p1, p2⟩, _⟩, ⟨⟨r0, r1, r2, r3⟩, f0, f1, f2, f3⟩, _⟩ := HE.out
    clear q1
    go_wp2_with fail
    refine (l1In_is _ _ _ true H1.out _).mono ?_
    rintro e w1' ⟨rfl, rfl⟩
    go_wp2_with fail
    refine (l1In_is _ _ _ true H2.out _).mono ?_
    rintro e w2 ⟨rfl, rfl⟩
    go_wp2_with fail
    refine (HP.out w.heap.size _ _ _ _ ⟨HE.out.1.1, HE.out.2.2.1.mono (Nat.zero_le _)⟩).mono ?_
    rintro e w3 ⟨d0, e0, d1, e1, d2, e2, rfl, ⟨s3, f3', a3⟩, q1⟩
    have zw : Hid (w.heap.size + 2 ≤ w2.heap.size) := HE.out.2.1.lt
    have S3 : Hid ((St w3 (w.heap.size + 2) R (.slice d0 R.nc e0) (.slice d1 R.nl e1) (.slice d2 R.nw e2) ∧ FreeS w3 R (.slice d0 R.nc e0) (.slice d1 R.nl e1) (.slice d2 R.nw e2)) ∧ ApartD R (.slice d0 R.nc e0) (.slice d1 R.nl e1) (.slice d2 R.nw e2)) := ⟨⟨s3.mono zw.out, f3'⟩, a3⟩
    clear p0 p1 p2 r0 r1 r2 r3 f0 f1 f2 f3 s3 f3' a3
    have HE : Hid (CallSto w B S (.slice a0 S.nc c0) (.slice a1 S.nl c1) (.slice a2 S.nw c2) w3) := HE.out.later q1
    obtain ⟨⟨⟨p0, p1, p2⟩, _⟩, ⟨⟨r0, r1, r2, r3⟩, f0, f1, f2, f3⟩, _⟩ := HE.out
    clear q1
    have hlo : (w.heap.size + 1 : Nat) < w.heap.size + 2 := Nat.lt_succ_self _
    go_wp2
    exact bodyPost_ret (v := .agg #[.int .i64 0, .slice d0 R.nc e0, .slice d1 R.nl e1, .slice d2 R.nw e2]) (by simp [results, Tryz.results7, go_sem, r0, r1, r2, r3]) rfl ⟨d0, e0, d1, e1, d2, e2, rfl, ⟨((((S3.out.1.1.far hlo _).far hlo _).far hlo _).far hlo _).mono (by omega), (((S3.out.1.2.far _ _).far _ _).far _ _).far _ _, S3.out.2⟩, (((HE.out.2.2.2.setCell (Nat.le_succ _) _).setCell (Nat.le_succ _) _).setCell (Nat.le_succ _) _).setCell (Nat.le_succ _) _⟩
end Go.Proofs.YtgedodcojalidaaGreat

