/-
 Own text, merged of DrawE, DrawX.
-/
import Derived.Test.YtiadbiiiikhfaaaGreatDoorPk8
namespace Go.Proofs.YtiadbiiiikhfaaaGreatDoor
open Go.RowKit

def Sz2 (R : Sto) : Prop := R.nc ≤ 202 ∧ R.nl ≤ 202 ∧ R.nw ≤ 202
/-- A drawn store in its box (block bx), its rows its own. -/
structure DrB (w : World) (b : Nat) (o : Option Addr) (len cap bx : Nat) (S : Sto) (v0 v1 v2 : Value) (a : Int) (x : World) : Prop where
 src : Src x b o len cap a
 but : But b w x
 res : Blk3 x w.heap.size (.slice none 0 0) (.slice none 0 0) (.slice none 0 0)
 box : Blk3 x bx v0 v1 v2
 own : OwnS x (w.heap.size + 1) S v0 v1 v2
 ne : ∀ v ∈ [v0, v1, v2], v.ownBlock ≠ some bx
 lo : b < w.heap.size
 bl : w.heap.size < bx
 base : ∃ z, Src w b o len cap z
theorem DrB.step {w : World} {b : Nat} {o : Option Addr} {len cap bx : Nat} {S : Sto} {v0 v1 v2 : Value} {a a' : Int} {x x' : World} (h : DrB w b o len cap bx S v0 v1 v2 a x) (hT : But b x x') (hS : Src x' b o len cap a') : DrB w b o len cap bx S v0 v1 v2 a' x' where
 src := hS
 but := h.but.trans hT
 res := h.res.butS hT (by have := h.lo; omega)
 box := h.box.butS hT (by have := h.lo; have := h.bl; omega)
 own := h.own.keptS (fun k hk hl => hT.block k hl (fun e => by have := Option.some.inj e; have := h.lo; omega))
 ne := h.ne
 lo := h.lo
 bl := h.bl
 base := h.base
theorem DrB.later {w : World} {b : Nat} {o : Option Addr} {len cap bx : Nat} {S : Sto} {v0 v1 v2 : Value} {a : Int} {x x' : World} (h : DrB w b o len cap bx S v0 v1 v2 a x) (hb : Below x.heap.size x x') : DrB w b o len cap bx S v0 v1 v2 a x' :=
 h.step ((But.refl _ _).below hb) (h.src.later hb)
/-- A drawn store in its box, whatever its rows are. -/
structure DrF (w : World) (b : Nat) (o : Option Addr) (len cap bx : Nat) (S : Sto) (v0 v1 v2 : Value) (a : Int) (x : World) : Prop where
 src : Src x b o len cap a
 but : But b w x
 res : Blk3 x w.heap.size (.slice none 0 0) (.slice none 0 0) (.slice none 0 0)
 box : Blk3 x bx v0 v1 v2
 st : St x (w.heap.size + 1) S v0 v1 v2
 sz : Sz2 S
 base : ∃ z, Src w b o len cap z
theorem DrB.f {w : World} {b : Nat} {o : Option Addr} {len cap bx : Nat} {S : Sto} {v0 v1 v2 : Value} {a : Int} {x : World} (h : DrB w b o len cap bx S v0 v1 v2 a x) (hz : Sz S) : DrF w b o len cap bx S v0 v1 v2 a x := ⟨h.src, h.but, h.res, h.box, h.own.st, ⟨by have := hz.1; omega, by have := hz.2.1; omega, by have := hz.2.2; omega⟩, h.base⟩
theorem St.setO {x : World} {B : Nat} {S : Sto} {v0 v1 v2 : Value} (h : St x B S v0 v1 v2) {c : Nat} (hc : ∀ v ∈ [v0, v1, v2], v.ownBlock ≠ some c) (j : Nat) (u : Value) : St (x.setCell ⟨c, j, none⟩ u) B S v0 v1 v2 := by
 have kp : ∀ {m n : Nat} {F : Nat → Int} {v : Value}, Row x B m n F v → v.ownBlock ≠ some c → Row (x.setCell ⟨c, j, none⟩ u) B m n F v := fun {m n F v} hr hv => by
  obtain ⟨ao, cp, rfl, hr⟩ := hr
  refine ⟨ao, cp, rfl, fun hn => ?_⟩
  obtain ⟨g, o, rfl, h1, h2, h3⟩ := hr hn
  refine ⟨g, o, rfl, h1, by simpa [World.setCell] using h2, fun p hp => ?_⟩
  rw [World.cell?_setCell_other _ _ _ _ (by intro e; simp at e; exact hv (by simp [Value.ownBlock, e.1]))]
  exact h3 p hp
 exact ⟨kp h.1 (hc v0 (by simp)), kp h.2.1 (hc v1 (by simp)), kp h.2.2 (hc v2 (by simp))⟩
/-- A drawn store whose rows are laid anew, its box not yet. -/
structure DrW (w : World) (b : Nat) (o : Option Addr) (len cap bx : Nat) (T : Sto) (u0 u1 u2 v0 v1 v2 : Value) (a : Int) (x : World) : Prop where
 src : Src x b o len cap a
 but : But b w x
 res : Blk3 x w.heap.size (.slice none 0 0) (.slice none 0 0) (.slice none 0 0)
 box : Blk3 x bx v0 v1 v2
 st : St x (w.heap.size + 1) T u0 u1 u2
 ne : ∀ u ∈ [u0, u1, u2], u.ownBlock ≠ some bx
 sz : Sz2 T
 bl : w.heap.size < bx
 base : ∃ z, Src w b o len cap z
theorem DrW.store0 {w : World} {b : Nat} {o : Option Addr} {len cap bx : Nat} {T : Sto} {u0 u1 u2 v : Value} {a : Int} {x : World} (h : DrW w b o len cap bx T u0 u1 u2 v u1 u2 a x) : DrF w b o len cap bx T u0 u1 u2 a (x.setCell ⟨bx, 0, none⟩ u0) := by
 obtain ⟨z, h0⟩ := h.base
 have hb := h.bl
 exact {
  src := h.src.setS h0 h.but (by omega) _ _
  but := h.but.setS (by omega) _ _
  res := h.res.kept (Below.heap_setCell _ _ _ _ (by show w.heap.size ≠ bx; omega))
  box := h.box.set0 u0
  st := h.st.setO h.ne _ _
  sz := h.sz
  base := h.base }
theorem DrW.store1 {w : World} {b : Nat} {o : Option Addr} {len cap bx : Nat} {T : Sto} {u0 u1 u2 v : Value} {a : Int} {x : World} (h : DrW w b o len cap bx T u0 u1 u2 u0 v u2 a x) : DrF w b o len cap bx T u0 u1 u2 a (x.setCell ⟨bx, 1, none⟩ u1) := by
 obtain ⟨z, h0⟩ := h.base
 have hb := h.bl
 exact {
  src := h.src.setS h0 h.but (by omega) _ _
  but := h.but.setS (by omega) _ _
  res := h.res.kept (Below.heap_setCell _ _ _ _ (by show w.heap.size ≠ bx; omega))
  box := h.box.set1 u1
  st := h.st.setO h.ne _ _
  sz := h.sz
  base := h.base }
theorem DrW.store2 {w : World} {b : Nat} {o : Option Addr} {len cap bx : Nat} {T : Sto} {u0 u1 u2 v : Value} {a : Int} {x : World} (h : DrW w b o len cap bx T u0 u1 u2 u0 u1 v a x) : DrF w b o len cap bx T u0 u1 u2 a (x.setCell ⟨bx, 2, none⟩ u2) := by
 obtain ⟨z, h0⟩ := h.base
 have hb := h.bl
 exact {
  src := h.src.setS h0 h.but (by omega) _ _
  but := h.but.setS (by omega) _ _
  res := h.res.kept (Below.heap_setCell _ _ _ _ (by show w.heap.size ≠ bx; omega))
  box := h.box.set2 u2
  st := h.st.setO h.ne _ _
  sz := h.sz
  base := h.base }
theorem DrB.app0 {w : World} {b : Nat} {o : Option Addr} {len cap bx : Nat} {S : Sto} {v0 v1 v2 : Value} {a : Int} {y2 y3 : World} (h : DrB w b o len cap bx S v0 v1 v2 a y2) (hz : Sz S) {ao : Option Addr} {cp : Nat} {L : List Int} (O5 : OwnM y3 (w.heap.size + 1) 93 3 (.slice ao (S.nc + 1) cp) (S.nc + 1) L) (hL : L.length = (S.nc + 1) * 3) (G5 : y2.grownBy y3 v0.ownBlock) (hw : (Value.slice ao (S.nc + 1) cp).ownBlock = v0.ownBlock ∨ (Value.slice ao (S.nc + 1) cp).ownBlock = some y2.heap.size) :
  DrW w b o len cap bx ⟨S.nc + 1, fun p => L.getD p 0, S.nl, S.l, S.nw, S.k⟩ (.slice ao (S.nc + 1) cp) v1 v2 v0 v1 v2 a y3 := by
 obtain ⟨z, h0⟩ := h.base
 have lo := h.lo
 have bl := h.bl
 have hsz := h.but.size
 have hbx := h.box.lt
 have kb : ∀ k, k < y2.heap.size → v0.ownBlock ≠ some k → y3.heap[k]? = y2.heap[k]? := fun k hk hne => G5.block k hk (fun e => hne e.symm)
 have nlo : ∀ k, k ≤ w.heap.size → v0.ownBlock ≠ some k := fun k hk e => by have := (own_blk h.own.1.1 k e).1; omega
 have nb : (Value.slice ao (S.nc + 1) cp).ownBlock ≠ some bx := by
  rcases hw with e | e
  ·rw [e]; exact h.ne v0 (by simp)
  ·rw [e]; intro e'; have := Option.some.inj e'; omega
 have hB : But b w y3 := ⟨G5.os.trans h.but.os, G5.tape.trans h.but.tape, G5.output.trans h.but.output, Nat.le_trans hsz G5.size, fun i hi hne => (kb i (by omega) (nlo i (by omega))).trans (h.but.block i hi hne)⟩
 have kbb := kb b (by omega) (nlo b (by omega))
 exact {
  src := ⟨(World.cell?_of_block (w := y2) (a := ⟨b, 0, none⟩) kbb).trans h.src.code, (World.cell?_of_block (w := y2) (a := ⟨b, 1, none⟩) kbb).trans h.src.count, (World.frozen?_of_block (w := y2) (a := ⟨b, 1, none⟩) kbb).trans h.src.live, h.src.pos, fun j hj => by
   obtain ⟨g, off', n, e1, e2, e3, e4⟩ := h0.bytes j hj
   exact ⟨g, off', n, e1, e2, hB.cell e3 e2, e4⟩⟩
  but := hB
  res := h.res.kept (kb _ (by omega) (nlo _ (Nat.le_refl _)))
  box := h.box.kept (kb bx hbx (h.ne v0 (by simp)))
  st := ⟨(O5.own hL).row.1, (own_kept h.own.1.2.1 (fun k hk => kb k (own_blk h.own.1.2.1 k hk).2 (fun e => h.own.2.1 k e hk))).row.1, (own_kept h.own.1.2.2 (fun k hk => kb k (own_blk h.own.1.2.2 k hk).2 (fun e => h.own.2.2.1 k e hk))).row.1⟩
  ne := fun u hu => by
   simp only [List.mem_cons, List.not_mem_nil, or_false] at hu
   rcases hu with rfl | rfl | rfl
   ·exact nb
   ·exact h.ne _ (by simp)
   ·exact h.ne _ (by simp)
  sz := ⟨by have := hz.1; show S.nc + 1 ≤ 202; omega, by have := hz.2.1; show S.nl ≤ 202; omega, by have := hz.2.2; show S.nw ≤ 202; omega⟩
  bl := bl
  base := ⟨z, h0⟩ }
theorem DrB.app1 {w : World} {b : Nat} {o : Option Addr} {len cap bx : Nat} {S : Sto} {v0 v1 v2 : Value} {a : Int} {y2 y3 : World} (h : DrB w b o len cap bx S v0 v1 v2 a y2) (hz : Sz S) {ao : Option Addr} {cp : Nat} {L : List Int} (O5 : OwnM y3 (w.heap.size + 1) 40 5 (.slice ao (S.nl + 1) cp) (S.nl + 1) L) (hL : L.length = (S.nl + 1) * 5) (G5 : y2.grownBy y3 v1.ownBlock) (hw : (Value.slice ao (S.nl + 1) cp).ownBlock = v1.ownBlock ∨ (Value.slice ao (S.nl + 1) cp).ownBlock = some y2.heap.size) :
  DrW w b o len cap bx ⟨S.nc, S.c, S.nl + 1, fun p => L.getD p 0, S.nw, S.k⟩ v0 (.slice ao (S.nl + 1) cp) v2 v0 v1 v2 a y3 := by
 obtain ⟨z, h0⟩ := h.base
 have lo := h.lo
 have bl := h.bl
 have hsz := h.but.size
 have hbx := h.box.lt
 have kb : ∀ k, k < y2.heap.size → v1.ownBlock ≠ some k → y3.heap[k]? = y2.heap[k]? := fun k hk hne => G5.block k hk (fun e => hne e.symm)
 have nlo : ∀ k, k ≤ w.heap.size → v1.ownBlock ≠ some k := fun k hk e => by have := (own_blk h.own.1.2.1 k e).1; omega
 have nb : (Value.slice ao (S.nl + 1) cp).ownBlock ≠ some bx := by
  rcases hw with e | e
  ·rw [e]; exact h.ne v1 (by simp)
  ·rw [e]; intro e'; have := Option.some.inj e'; omega
 have hB : But b w y3 := ⟨G5.os.trans h.but.os, G5.tape.trans h.but.tape, G5.output.trans h.but.output, Nat.le_trans hsz G5.size, fun i hi hne => (kb i (by omega) (nlo i (by omega))).trans (h.but.block i hi hne)⟩
 have kbb := kb b (by omega) (nlo b (by omega))
 exact {
  src := ⟨(World.cell?_of_block (w := y2) (a := ⟨b, 0, none⟩) kbb).trans h.src.code, (World.cell?_of_block (w := y2) (a := ⟨b, 1, none⟩) kbb).trans h.src.count, (World.frozen?_of_block (w := y2) (a := ⟨b, 1, none⟩) kbb).trans h.src.live, h.src.pos, fun j hj => by
   obtain ⟨g, off', n, e1, e2, e3, e4⟩ := h0.bytes j hj
   exact ⟨g, off', n, e1, e2, hB.cell e3 e2, e4⟩⟩
  but := hB
  res := h.res.kept (kb _ (by omega) (nlo _ (Nat.le_refl _)))
  box := h.box.kept (kb bx hbx (h.ne v1 (by simp)))
  st := ⟨(own_kept h.own.1.1 (fun k hk => kb k (own_blk h.own.1.1 k hk).2 (fun e => h.own.2.1 k hk e))).row.1, (O5.own hL).row.1, (own_kept h.own.1.2.2 (fun k hk => kb k (own_blk h.own.1.2.2 k hk).2 (fun e => h.own.2.2.2 k e hk))).row.1⟩
  ne := fun u hu => by
   simp only [List.mem_cons, List.not_mem_nil, or_false] at hu
   rcases hu with rfl | rfl | rfl
   ·exact h.ne _ (by simp)
   ·exact nb
   ·exact h.ne _ (by simp)
  sz := ⟨by have := hz.1; show S.nc ≤ 202; omega, by have := hz.2.1; show S.nl + 1 ≤ 202; omega, by have := hz.2.2; show S.nw ≤ 202; omega⟩
  bl := bl
  base := ⟨z, h0⟩ }
theorem DrB.app2 {w : World} {b : Nat} {o : Option Addr} {len cap bx : Nat} {S : Sto} {v0 v1 v2 : Value} {a : Int} {y2 y3 : World} (h : DrB w b o len cap bx S v0 v1 v2 a y2) (hz : Sz S) {ao : Option Addr} {cp : Nat} {L : List Int} (O5 : OwnM y3 (w.heap.size + 1) 55 4 (.slice ao (S.nw + 1) cp) (S.nw + 1) L) (hL : L.length = (S.nw + 1) * 4) (G5 : y2.grownBy y3 v2.ownBlock) (hw : (Value.slice ao (S.nw + 1) cp).ownBlock = v2.ownBlock ∨ (Value.slice ao (S.nw + 1) cp).ownBlock = some y2.heap.size) :
  DrW w b o len cap bx ⟨S.nc, S.c, S.nl, S.l, S.nw + 1, fun p => L.getD p 0⟩ v0 v1 (.slice ao (S.nw + 1) cp) v0 v1 v2 a y3 := by
 obtain ⟨z, h0⟩ := h.base
 have lo := h.lo
 have bl := h.bl
 have hsz := h.but.size
 have hbx := h.box.lt
 have kb : ∀ k, k < y2.heap.size → v2.ownBlock ≠ some k → y3.heap[k]? = y2.heap[k]? := fun k hk hne => G5.block k hk (fun e => hne e.symm)
 have nlo : ∀ k, k ≤ w.heap.size → v2.ownBlock ≠ some k := fun k hk e => by have := (own_blk h.own.1.2.2 k e).1; omega
 have nb : (Value.slice ao (S.nw + 1) cp).ownBlock ≠ some bx := by
  rcases hw with e | e
  ·rw [e]; exact h.ne v2 (by simp)
  ·rw [e]; intro e'; have := Option.some.inj e'; omega
 have hB : But b w y3 := ⟨G5.os.trans h.but.os, G5.tape.trans h.but.tape, G5.output.trans h.but.output, Nat.le_trans hsz G5.size, fun i hi hne => (kb i (by omega) (nlo i (by omega))).trans (h.but.block i hi hne)⟩
 have kbb := kb b (by omega) (nlo b (by omega))
 exact {
  src := ⟨(World.cell?_of_block (w := y2) (a := ⟨b, 0, none⟩) kbb).trans h.src.code, (World.cell?_of_block (w := y2) (a := ⟨b, 1, none⟩) kbb).trans h.src.count, (World.frozen?_of_block (w := y2) (a := ⟨b, 1, none⟩) kbb).trans h.src.live, h.src.pos, fun j hj => by
   obtain ⟨g, off', n, e1, e2, e3, e4⟩ := h0.bytes j hj
   exact ⟨g, off', n, e1, e2, hB.cell e3 e2, e4⟩⟩
  but := hB
  res := h.res.kept (kb _ (by omega) (nlo _ (Nat.le_refl _)))
  box := h.box.kept (kb bx hbx (h.ne v2 (by simp)))
  st := ⟨(own_kept h.own.1.1 (fun k hk => kb k (own_blk h.own.1.1 k hk).2 (fun e => h.own.2.2.1 k hk e))).row.1, (own_kept h.own.1.2.1 (fun k hk => kb k (own_blk h.own.1.2.1 k hk).2 (fun e => h.own.2.2.2 k hk e))).row.1, (O5.own hL).row.1⟩
  ne := fun u hu => by
   simp only [List.mem_cons, List.not_mem_nil, or_false] at hu
   rcases hu with rfl | rfl | rfl
   ·exact h.ne _ (by simp)
   ·exact h.ne _ (by simp)
   ·exact nb
  sz := ⟨by have := hz.1; show S.nc ≤ 202; omega, by have := hz.2.1; show S.nl ≤ 202; omega, by have := hz.2.2; show S.nw + 1 ≤ 202; omega⟩
  bl := bl
  base := ⟨z, h0⟩ }
theorem own_m {w : World} {B : Nat} {e : TypeId} {m n : Nat} {F : Nat → Int} {v : Value} (h : Own w B e m n F v) : OwnM w B e m v n (nums F (n * m)) := by
 have : vals F (n * m) = (nums F (n * m)).map (Value.int .i64) := by simp [vals, nums, List.map_map, Function.comp_def]
 unfold OwnM
 rw [← this]
 exact h
theorem row_zeros (w : World) (t : TypeId) {B : Nat} (hB : B ≤ w.heap.size) : Row (w.alloc (.cells (madeCells #[.int .i64 0, .int .i64 0, .int .i64 0, .int .i64 0] 804) t)) B 4 201 (fun _ => 0) (.slice (some ⟨w.heap.size, 0, none⟩) 201 201) := by
 refine ⟨_, _, rfl, fun _ => ⟨w.heap.size, 0, rfl, hB, by simp, fun p hp => ?_⟩⟩
 rw [Nat.zero_add, World.cell?_alloc_mark]
 have hs : (madeCells #[Value.int .i64 0, .int .i64 0, .int .i64 0, .int .i64 0] 804).size = 804 := size_madeCells _ _
 rw [Array.getElem?_eq_getElem (by omega)]
 have h4 : p % 4 = 0 ∨ p % 4 = 1 ∨ p % 4 = 2 ∨ p % 4 = 3 := by omega
 simp only [madeCells]
 rcases h4 with e | e | e | e <;> simp [e]
set_option maxRecDepth 100000 in
set_option maxHeartbeats 16000000 in
theorem l3Bent_any (w : World) (b : Nat) (o : Option Addr) (len cap : Nat) (a : Int) (h : Src w b o len cap a) (ha : a ≤ 100000) (hl : len ≤ 1048576) :
  Calls Tryz.prog 68 #[.pointer (some ⟨b, 0, none⟩)] w fun e w' => ∃ (S : Sto) (a0 : Option Addr) (c0 : Nat) (a1 : Option Addr) (c1 : Nat) (a2 : Option Addr) (c2 : Nat) (z : Int), e = .returned (.agg #[.slice a0 S.nc c0, .slice a1 S.nl c1, .slice a2 S.nw c2]) ∧ (Sz2 S ∧ z ≤ a + 800) ∧ St w' w.heap.size S (.slice a0 S.nc c0) (.slice a1 S.nl c1) (.slice a2 S.nw c2) ∧ Src w' b o len cap z ∧ But b w w' := by
 have hbl := h.lt
 have hpos := h.pos
 have H0 : Hid (Src w b o len cap a) := h
 clear h
 go_enter Tryz.func68, Tryz.ntmps68
 go_wp2_with fail
 try dsimp only
 have HH := l3Right_any (w.alloc (.cells #[.slice none 0 0, .slice none 0 0, .slice none 0 0] 28)) b o len cap a (H0.out.alloc _) ha hl
 refine HH.mono ?_
 rintro e w1 ⟨S, a0, c0, a1, c1, a2, c2, c, rfl, ⟨hZ, hc⟩, hO, hS1, hT1⟩
 have hc0 := hS1.pos
 have HZ : Hid (Sz S) := hZ
 have z1 : w.heap.size < w1.heap.size := by have := hT1.size; simp at this; omega
 have HD : Hid (DrB w b o len cap w1.heap.size S (.slice a0 S.nc c0) (.slice a1 S.nl c1) (.slice a2 S.nw c2) c (w1.alloc (.cells #[.slice a0 S.nc c0, .slice a1 S.nl c1, .slice a2 S.nw c2] 28))) := {
  src := hS1.alloc _
  but := (((But.refl _ _).alloc _).trans hT1).alloc _
  res := ((Blk3.new w (.slice none 0 0) (.slice none 0 0) (.slice none 0 0) 28).butS hT1 (by omega)).alloc _
  box := Blk3.new w1 _ _ _ _
  own := (by simpa using hO : OwnS w1 (w.heap.size + 1) S _ _ _).later (below_alloc _ _)
  ne := hO.fresh
  lo := hbl
  bl := z1
  base := ⟨a, H0.out⟩ }
 clear hO hS1 hT1 hZ
 go_wp2_with fail
 generalize w1.alloc (.cells #[.slice a0 S.nc c0, .slice a1 S.nl c1, .slice a2 S.nw c2] 28) = w2 at HD ⊢
 obtain ⟨bx, hbx⟩ : ∃ bx, w1.heap.size = bx := ⟨_, rfl⟩
 rw [hbx] at HD z1 ⊢
 clear hbx
 refine (l1Next_any _ b o len cap c 20 HD.out.src (by omega) hl).mono ?_
 rintro e w3 ⟨sw, rfl, s0, s1, hS3, hT3⟩
 have HD : Hid (DrB w b o len cap bx S (.slice a0 S.nc c0) (.slice a1 S.nl c1) (.slice a2 S.nw c2) (c + 1) w3) := HD.out.step hT3 hS3
 clear hS3 hT3 s1
 go_upto_block 0 with fail
 go_cut [3] (fun s wx => s = .pointer (some ⟨bx, 0, none⟩) ∧ ∃ (T : Sto) (a0 : Option Addr) (c0 : Nat) (a1 : Option Addr) (c1 : Nat) (a2 : Option Addr) (c2 : Nat) (e : Int), (0 ≤ e ∧ e ≤ c + 10) ∧ Hid (DrF w b o len cap bx T (.slice a0 T.nc c0) (.slice a1 T.nl c1) (.slice a2 T.nw c2) e wx))
 case first =>
  have hsw : sw = 0 ∨ sw = 1 ∨ sw = 2 ∨ sw = 3 ∨ sw = 4 ∨ 5 ≤ sw := by omega
  rcases hsw with rfl | rfl | rfl | rfl | rfl | h5
  ·go_wp2_with fail
   refine wp_region_held_drew (S := fun _ => True) (by kernel_rfl) trivial (fun hS => ?_)
   have HD : Hid (DrB w b o len cap bx S (.slice a0 S.nc c0) (.slice a1 S.nl c1) (.slice a2 S.nw c2) (c + 1) w3.drew) := HD.out.later (below_dr (Below.refl _ _) 1)
   generalize w3.drew = y0 at HD ⊢
   refine tkH 0 ?_ hS (fun wx hx => ?_) ?_; rotate_left
   ·go_simp; try with_reducible rfl
   refine tkH 2 ?_ hS (fun wx hx => ?_) ?_; rotate_left
   ·go_simp; try with_reducible rfl
   refine tkH 5 ?_ hS (fun wx hx => ?_) ?_; rotate_left
   ·go_simp; try with_reducible rfl
   refine tkH 8 ?_ hS (fun wx hx => ?_) ?_; rotate_left
   ·go_simp; try with_reducible rfl
   simp only [Act.put, List.getElem_toArray, List.getElem_cons_zero, List.getElem_cons_succ, List.setIfInBounds_toArray, List.set_cons_succ, List.set_cons_zero]
   refine wpAnyH_at (n' := 7 + 5) (L' := mkL [⟨3, 13, 4, 14, 12, [189, 5, 0]⟩, ⟨6, 16, 7, 17, 15, [3, 0]⟩, ⟨9, 19, 10, 20, 18, [3, -1]⟩] ⟨1, 11, .slice a0 S.nc c0⟩ #[true, false, true, false, false, true, false, false, true, false, false, false, false, false, false, false] [false, false, false] false 0) (by kernel_rfl) (by kernel_rfl) ?_
   refine wpAnyH_picks (H := fun x => Blk3 x bx (.slice a0 S.nc c0) (.slice a1 S.nl c1) (.slice a2 S.nw c2)) [⟨3, 13, 4, 14, 12, [189, 5, 0]⟩, ⟨6, 16, 7, 17, 15, [3, 0]⟩, ⟨9, 19, 10, 20, 18, [3, -1]⟩] ⟨1, 11, .slice a0 S.nc c0⟩ #[true, false, true, false, false, true, false, false, true, false, false, false, false, false, false, false] _ y0 b o len cap (c + 1) 5 (by kernel_rfl) (by kernel_rfl) (by kernel_rfl) ?ok ?ld ?sr (fun x x' h hT => h.butS hT (by have := HD.out.lo; have := HD.out.bl; omega)) (fun _ _ => trivial) (by show c + 1 + 3 ≤ 1000000; omega) hl ?cont 7 _ _ 0 _ _ (by kernel_rfl) (Stand.start HD.out.src HD.out.box)
   case ok =>
    intro p hp
    simp only [List.mem_cons, List.not_mem_nil, or_false] at hp
    rcases hp with rfl | rfl | rfl
    ·exact pkOk3 3 13 4 14 12 (189) (5) (0) _ _ rfl rfl rfl rfl rfl rfl rfl _ rfl
    ·exact pkOk2 6 16 7 17 15 (3) (0) _ _ rfl rfl rfl rfl rfl rfl rfl _ rfl
    ·exact pkOk2 9 19 10 20 18 (3) (-1) _ _ rfl rfl rfl rfl rfl rfl rfl _ rfl
   case ld =>
    exact ⟨_, rfl, rfl, rfl, fun a' w' K hag hH hk => wp_loadS 24 (fun _ => by kernel_rfl) 10 rfl rfl bx 0 (by rw [hag 10 (by simp) (by simp)]; rfl) _ hH.1.1 hk⟩
   case sr =>
    intro p hp
    simp only [List.mem_cons, List.not_mem_nil, or_false] at hp
    rcases hp with rfl | rfl | rfl <;> rfl
   case cont =>
    intro e x r y1 hr hsrc hbut hH
    obtain ⟨k0, hk0⟩ : ∃ k, r ⟨3, 13, 4, 14, 12, [189, 5, 0]⟩ = k := ⟨_, rfl⟩
    obtain ⟨x0, hx0⟩ : ∃ k, x ⟨3, 13, 4, 14, 12, [189, 5, 0]⟩ = k := ⟨_, rfl⟩
    obtain ⟨k1, hk1⟩ : ∃ k, r ⟨6, 16, 7, 17, 15, [3, 0]⟩ = k := ⟨_, rfl⟩
    obtain ⟨x1, hx1⟩ : ∃ k, x ⟨6, 16, 7, 17, 15, [3, 0]⟩ = k := ⟨_, rfl⟩
    obtain ⟨k2, hk2⟩ : ∃ k, r ⟨9, 19, 10, 20, 18, [3, -1]⟩ = k := ⟨_, rfl⟩
    obtain ⟨x2, hx2⟩ : ∃ k, x ⟨9, 19, 10, 20, 18, [3, -1]⟩ = k := ⟨_, rfl⟩
    simp only [putAll, hk0, hx0, hk1, hx1, hk2, hx2]
    have HD : Hid (DrB w b o len cap bx S (.slice a0 S.nc c0) (.slice a1 S.nl c1) (.slice a2 S.nw c2) (c + 1 + 3) y1) := HD.out.step hbut hsrc
    clear hr hsrc hbut hH hk0 hx0 hk1 hx1 hk2 hx2
    cases e with
    | true =>
     refine wpAnyH_at (n' := 5) (L' := #[true, true, true, true, true, true, true, true, true, true, true, false, false, false, false, false]) rfl (by kernel_rfl) ?_
     simp only [putE, if_true]
     simp only [Act.put, List.setIfInBounds_toArray, List.set_cons_succ, List.set_cons_zero]
     refine tkH 11 ?_ hS (fun wx hx => ?_) ?_; rotate_left
     ·go_simp; try with_reducible rfl
     refine rdH 12 (fun K hK => ?_)
     go_simp
     have HI : Hid (Row (y1.alloc (.cells #[.int .i64 k0, .int .i64 k1, .int .i64 k2] 93)) 0 3 1 (fun p => [k0, k1, k2].getD p 0) (.slice (some ⟨y1.heap.size, 0, none⟩) 1 1)) := row_lit3 y1 k0 k1 k2 _
     have HD : Hid (DrB w b o len cap bx S (.slice a0 S.nc c0) (.slice a1 S.nl c1) (.slice a2 S.nw c2) (c + 1 + 3) (y1.alloc (.cells #[.int .i64 k0, .int .i64 k1, .int .i64 k2] 93))) := HD.out.later (below_alloc _ _)
     refine hK.out _ _ trivial (fun hS => ?_)
     clear hK K
     generalize y1.alloc (.cells #[.int .i64 k0, .int .i64 k1, .int .i64 k2] 93) = y2 at HD HI ⊢
     obtain ⟨i0, hi, hz0, hz1, hz2⟩ := info_parts info_Cell
     refine rdH 13 (fun K hK => ?_)
     refine step_appL 93 i0 (.agg #[.int .i64 0, .int .i64 0, .int .i64 0]) 3 24 (by rfl) _ _ 24 (by rfl) Tryz.underlying24 hi hz0 hz1 hz2 rfl (by omega) (by omega) _ (w.heap.size + 1) S.nc (nums S.c (S.nc * 3)) (.slice a0 S.nc c0) (by rfl) (own_m HD.out.own.1.1) 0 1 (fun p => [k0, k1, k2].getD p 0) (.slice (some ⟨y1.heap.size, 0, none⟩) 1 1) (by rfl) HI.out (by have := HZ.out; unfold Sz at this; omega) (by have := HD.out.but.size; have := HD.out.box.lt; have := HD.out.bl; omega) ?_
     intro ao5 cp5 y3 O5 G5 W5
     have HW : Hid (DrW w b o len cap bx ⟨S.nc + 1, fun p => (nums S.c (S.nc * 3) ++ nums (fun p => [k0, k1, k2].getD p 0) (1 * 3)).getD p 0, S.nl, S.l, S.nw, S.k⟩ (.slice ao5 (S.nc + 1) cp5) (.slice a1 S.nl c1) (.slice a2 S.nw c2) (.slice a0 S.nc c0) (.slice a1 S.nl c1) (.slice a2 S.nw c2) (c + 1 + 3) y3) := HD.out.app0 HZ.out O5 (by rw [List.length_append, nums_length, nums_length]; omega) G5 W5
     refine hK.out _ _ trivial (fun hS => ?_)
     clear hK K O5 G5 W5 HI HD hi hz0 hz1 hz2
     refine tkH 14 ?_ hS (fun wx hx => ?_) ?_; rotate_left
     ·go_simp; try with_reducible rfl
     obtain ⟨⟨t0, t1, t2⟩, f0, f1, f2⟩ := HW.out.box
     refine rdH 15 (fun K hK => ?_)
     go_simp
     have HF := hid_mk HW.out.store0
     refine hK.out _ _ trivial (fun hS => ?_)
     clear hK K t0 t1 t2 f0 f1 f2
     refine wpAnyH_done (by kernel_rfl) ?_ _
     go_simp
     go_wp2_with fail
     go_meet
     case rel => exact ⟨rfl, ⟨S.nc + 1, fun p => (nums S.c (S.nc * 3) ++ nums (fun p => [k0, k1, k2].getD p 0) (1 * 3)).getD p 0, S.nl, S.l, S.nw, S.k⟩, ao5, cp5, a1, c1, a2, c2, c + 1 + 3, ⟨by omega, by omega⟩, HF⟩
    | false =>
     refine wpAnyH_at (n' := 6) (L' := #[true, false, true, true, true, true, true, true, true, true, true, false, false, false, false, false]) rfl (by kernel_rfl) ?_
     simp only [putE, Bool.false_eq_true, if_false]
     simp only [Act.put, List.setIfInBounds_toArray, List.set_cons_succ, List.set_cons_zero]
     refine tkH 11 ?_ hS (fun wx hx => ?_) ?_; rotate_left
     ·go_simp; try with_reducible rfl
     simp only [Act.put, List.getElem_toArray, List.getElem_cons_zero, List.getElem_cons_succ, List.setIfInBounds_toArray, List.set_cons_succ, List.set_cons_zero]
     refine wpAnyH_ready (rs := [1, 12]) (by kernel_rfl) (by simp) ?_
     refine AllReadyH.cons rfl ?_ (AllReadyH.cons rfl ?_ AllReadyH.nil)
     ·intro K hK
      obtain ⟨⟨t0, t1, t2⟩, _⟩ := HD.out.box
      go_simp
      refine hK.out _ _ trivial (fun hS => ?_)
      clear hK K t0 t1 t2
      refine rdH 12 (fun K hK => ?_)
      go_simp
      have HI : Hid (Row (y1.alloc (.cells #[.int .i64 k0, .int .i64 k1, .int .i64 k2] 93)) 0 3 1 (fun p => [k0, k1, k2].getD p 0) (.slice (some ⟨y1.heap.size, 0, none⟩) 1 1)) := row_lit3 y1 k0 k1 k2 _
      have HD : Hid (DrB w b o len cap bx S (.slice a0 S.nc c0) (.slice a1 S.nl c1) (.slice a2 S.nw c2) (c + 1 + 3) (y1.alloc (.cells #[.int .i64 k0, .int .i64 k1, .int .i64 k2] 93))) := HD.out.later (below_alloc _ _)
      refine hK.out _ _ trivial (fun hS => ?_)
      clear hK K
      generalize y1.alloc (.cells #[.int .i64 k0, .int .i64 k1, .int .i64 k2] 93) = y2 at HD HI ⊢
      obtain ⟨i0, hi, hz0, hz1, hz2⟩ := info_parts info_Cell
      refine rdH 13 (fun K hK => ?_)
      refine step_appL 93 i0 (.agg #[.int .i64 0, .int .i64 0, .int .i64 0]) 3 24 (by rfl) _ _ 24 (by rfl) Tryz.underlying24 hi hz0 hz1 hz2 rfl (by omega) (by omega) _ (w.heap.size + 1) S.nc (nums S.c (S.nc * 3)) (.slice a0 S.nc c0) (by rfl) (own_m HD.out.own.1.1) 0 1 (fun p => [k0, k1, k2].getD p 0) (.slice (some ⟨y1.heap.size, 0, none⟩) 1 1) (by rfl) HI.out (by have := HZ.out; unfold Sz at this; omega) (by have := HD.out.but.size; have := HD.out.box.lt; have := HD.out.bl; omega) ?_
      intro ao5 cp5 y3 O5 G5 W5
      have HW : Hid (DrW w b o len cap bx ⟨S.nc + 1, fun p => (nums S.c (S.nc * 3) ++ nums (fun p => [k0, k1, k2].getD p 0) (1 * 3)).getD p 0, S.nl, S.l, S.nw, S.k⟩ (.slice ao5 (S.nc + 1) cp5) (.slice a1 S.nl c1) (.slice a2 S.nw c2) (.slice a0 S.nc c0) (.slice a1 S.nl c1) (.slice a2 S.nw c2) (c + 1 + 3) y3) := HD.out.app0 HZ.out O5 (by rw [List.length_append, nums_length, nums_length]; omega) G5 W5
      refine hK.out _ _ trivial (fun hS => ?_)
      clear hK K O5 G5 W5 HI HD hi hz0 hz1 hz2
      refine tkH 14 ?_ hS (fun wx hx => ?_) ?_; rotate_left
      ·go_simp; try with_reducible rfl
      obtain ⟨⟨t0, t1, t2⟩, f0, f1, f2⟩ := HW.out.box
      refine rdH 15 (fun K hK => ?_)
      go_simp
      have HF := hid_mk HW.out.store0
      refine hK.out _ _ trivial (fun hS => ?_)
      clear hK K t0 t1 t2 f0 f1 f2
      refine wpAnyH_done (by kernel_rfl) ?_ _
      go_simp
      go_wp2_with fail
      go_meet
      case rel => exact ⟨rfl, ⟨S.nc + 1, fun p => (nums S.c (S.nc * 3) ++ nums (fun p => [k0, k1, k2].getD p 0) (1 * 3)).getD p 0, S.nl, S.l, S.nw, S.k⟩, ao5, cp5, a1, c1, a2, c2, c + 1 + 3, ⟨by omega, by omega⟩, HF⟩
     ·intro K hK
      go_simp
      have HI : Hid (Row (y1.alloc (.cells #[.int .i64 k0, .int .i64 k1, .int .i64 k2] 93)) 0 3 1 (fun p => [k0, k1, k2].getD p 0) (.slice (some ⟨y1.heap.size, 0, none⟩) 1 1)) := row_lit3 y1 k0 k1 k2 _
      have HD : Hid (DrB w b o len cap bx S (.slice a0 S.nc c0) (.slice a1 S.nl c1) (.slice a2 S.nw c2) (c + 1 + 3) (y1.alloc (.cells #[.int .i64 k0, .int .i64 k1, .int .i64 k2] 93))) := HD.out.later (below_alloc _ _)
      refine hK.out _ _ trivial (fun hS => ?_)
      clear hK K
      generalize y1.alloc (.cells #[.int .i64 k0, .int .i64 k1, .int .i64 k2] 93) = y2 at HD HI ⊢
      refine rdH 1 (fun K hK => ?_)
      obtain ⟨⟨t0, t1, t2⟩, _⟩ := HD.out.box
      go_simp
      refine hK.out _ _ trivial (fun hS => ?_)
      clear hK K t0 t1 t2
      obtain ⟨i0, hi, hz0, hz1, hz2⟩ := info_parts info_Cell
      refine rdH 13 (fun K hK => ?_)
      refine step_appL 93 i0 (.agg #[.int .i64 0, .int .i64 0, .int .i64 0]) 3 24 (by rfl) _ _ 24 (by rfl) Tryz.underlying24 hi hz0 hz1 hz2 rfl (by omega) (by omega) _ (w.heap.size + 1) S.nc (nums S.c (S.nc * 3)) (.slice a0 S.nc c0) (by rfl) (own_m HD.out.own.1.1) 0 1 (fun p => [k0, k1, k2].getD p 0) (.slice (some ⟨y1.heap.size, 0, none⟩) 1 1) (by rfl) HI.out (by have := HZ.out; unfold Sz at this; omega) (by have := HD.out.but.size; have := HD.out.box.lt; have := HD.out.bl; omega) ?_
      intro ao5 cp5 y3 O5 G5 W5
      have HW : Hid (DrW w b o len cap bx ⟨S.nc + 1, fun p => (nums S.c (S.nc * 3) ++ nums (fun p => [k0, k1, k2].getD p 0) (1 * 3)).getD p 0, S.nl, S.l, S.nw, S.k⟩ (.slice ao5 (S.nc + 1) cp5) (.slice a1 S.nl c1) (.slice a2 S.nw c2) (.slice a0 S.nc c0) (.slice a1 S.nl c1) (.slice a2 S.nw c2) (c + 1 + 3) y3) := HD.out.app0 HZ.out O5 (by rw [List.length_append, nums_length, nums_length]; omega) G5 W5
      refine hK.out _ _ trivial (fun hS => ?_)
      clear hK K O5 G5 W5 HI HD hi hz0 hz1 hz2
      refine tkH 14 ?_ hS (fun wx hx => ?_) ?_; rotate_left
      ·go_simp; try with_reducible rfl
      obtain ⟨⟨t0, t1, t2⟩, f0, f1, f2⟩ := HW.out.box
      refine rdH 15 (fun K hK => ?_)
      go_simp
      have HF := hid_mk HW.out.store0
      refine hK.out _ _ trivial (fun hS => ?_)
      clear hK K t0 t1 t2 f0 f1 f2
      refine wpAnyH_done (by kernel_rfl) ?_ _
      go_simp
      go_wp2_with fail
      go_meet
      case rel => exact ⟨rfl, ⟨S.nc + 1, fun p => (nums S.c (S.nc * 3) ++ nums (fun p => [k0, k1, k2].getD p 0) (1 * 3)).getD p 0, S.nl, S.l, S.nw, S.k⟩, ao5, cp5, a1, c1, a2, c2, c + 1 + 3, ⟨by omega, by omega⟩, HF⟩
  ·go_wp2_with fail
   refine wp_region_held_drew (S := fun _ => True) (by kernel_rfl) trivial (fun hS => ?_)
   have HD : Hid (DrB w b o len cap bx S (.slice a0 S.nc c0) (.slice a1 S.nl c1) (.slice a2 S.nw c2) (c + 1) w3.drew) := HD.out.later (below_dr (Below.refl _ _) 1)
   generalize w3.drew = y0 at HD ⊢
   refine tkH 0 ?_ hS (fun wx hx => ?_) ?_; rotate_left
   ·go_simp; try with_reducible rfl
   refine tkH 2 ?_ hS (fun wx hx => ?_) ?_; rotate_left
   ·go_simp; try with_reducible rfl
   refine tkH 5 ?_ hS (fun wx hx => ?_) ?_; rotate_left
   ·go_simp; try with_reducible rfl
   refine tkH 8 ?_ hS (fun wx hx => ?_) ?_; rotate_left
   ·go_simp; try with_reducible rfl
   refine tkH 11 ?_ hS (fun wx hx => ?_) ?_; rotate_left
   ·go_simp; try with_reducible rfl
   simp only [Act.put, List.getElem_toArray, List.getElem_cons_zero, List.getElem_cons_succ, List.setIfInBounds_toArray, List.set_cons_succ, List.set_cons_zero]
   refine wpAnyH_at (n' := 9 + 5) (L' := mkL [⟨3, 30, 4, 31, 29, [189, 5, 0]⟩, ⟨6, 33, 7, 34, 32, [3, 0]⟩, ⟨9, 36, 10, 37, 35, [1, 3, 4]⟩, ⟨12, 39, 13, 40, 38, [0, 5]⟩] ⟨1, 28, .slice a1 S.nl c1⟩ #[true, false, true, false, false, true, false, false, true, false, false, true, false, false, false, false, false, false, false] [false, false, false, false] false 0) (by kernel_rfl) (by kernel_rfl) ?_
   refine wpAnyH_picks (H := fun x => Blk3 x bx (.slice a0 S.nc c0) (.slice a1 S.nl c1) (.slice a2 S.nw c2)) [⟨3, 30, 4, 31, 29, [189, 5, 0]⟩, ⟨6, 33, 7, 34, 32, [3, 0]⟩, ⟨9, 36, 10, 37, 35, [1, 3, 4]⟩, ⟨12, 39, 13, 40, 38, [0, 5]⟩] ⟨1, 28, .slice a1 S.nl c1⟩ #[true, false, true, false, false, true, false, false, true, false, false, true, false, false, false, false, false, false, false] _ y0 b o len cap (c + 1) 5 (by kernel_rfl) (by kernel_rfl) (by kernel_rfl) ?ok ?ld ?sr (fun x x' h hT => h.butS hT (by have := HD.out.lo; have := HD.out.bl; omega)) (fun _ _ => trivial) (by show c + 1 + 4 ≤ 1000000; omega) hl ?cont 9 _ _ 0 _ _ (by kernel_rfl) (Stand.start HD.out.src HD.out.box)
   case ok =>
    intro p hp
    simp only [List.mem_cons, List.not_mem_nil, or_false] at hp
    rcases hp with rfl | rfl | rfl | rfl
    ·exact pkOk3 3 30 4 31 29 (189) (5) (0) _ _ rfl rfl rfl rfl rfl rfl rfl _ rfl
    ·exact pkOk2 6 33 7 34 32 (3) (0) _ _ rfl rfl rfl rfl rfl rfl rfl _ rfl
    ·exact pkOk3 9 36 10 37 35 (1) (3) (4) _ _ rfl rfl rfl rfl rfl rfl rfl _ rfl
    ·exact pkOk2 12 39 13 40 38 (0) (5) _ _ rfl rfl rfl rfl rfl rfl rfl _ rfl
   case ld =>
    exact ⟨_, rfl, rfl, rfl, fun a' w' K hag hH hk => wp_loadS 25 (fun _ => by kernel_rfl) 27 rfl rfl bx 1 (by rw [hag 27 (by simp) (by simp)]; rfl) _ hH.1.2.1 hk⟩
   case sr =>
    intro p hp
    simp only [List.mem_cons, List.not_mem_nil, or_false] at hp
    rcases hp with rfl | rfl | rfl | rfl <;> rfl
   case cont =>
    intro e x r y1 hr hsrc hbut hH
    obtain ⟨k0, hk0⟩ : ∃ k, r ⟨3, 30, 4, 31, 29, [189, 5, 0]⟩ = k := ⟨_, rfl⟩
    obtain ⟨x0, hx0⟩ : ∃ k, x ⟨3, 30, 4, 31, 29, [189, 5, 0]⟩ = k := ⟨_, rfl⟩
    obtain ⟨k1, hk1⟩ : ∃ k, r ⟨6, 33, 7, 34, 32, [3, 0]⟩ = k := ⟨_, rfl⟩
    obtain ⟨x1, hx1⟩ : ∃ k, x ⟨6, 33, 7, 34, 32, [3, 0]⟩ = k := ⟨_, rfl⟩
    obtain ⟨k2, hk2⟩ : ∃ k, r ⟨9, 36, 10, 37, 35, [1, 3, 4]⟩ = k := ⟨_, rfl⟩
    obtain ⟨x2, hx2⟩ : ∃ k, x ⟨9, 36, 10, 37, 35, [1, 3, 4]⟩ = k := ⟨_, rfl⟩
    obtain ⟨k3, hk3⟩ : ∃ k, r ⟨12, 39, 13, 40, 38, [0, 5]⟩ = k := ⟨_, rfl⟩
    obtain ⟨x3, hx3⟩ : ∃ k, x ⟨12, 39, 13, 40, 38, [0, 5]⟩ = k := ⟨_, rfl⟩
    simp only [putAll, hk0, hx0, hk1, hx1, hk2, hx2, hk3, hx3]
    have HD : Hid (DrB w b o len cap bx S (.slice a0 S.nc c0) (.slice a1 S.nl c1) (.slice a2 S.nw c2) (c + 1 + 4) y1) := HD.out.step hbut hsrc
    clear hr hsrc hbut hH hk0 hx0 hk1 hx1 hk2 hx2 hk3 hx3
    cases e with
    | true =>
     refine wpAnyH_at (n' := 5) (L' := #[true, true, true, true, true, true, true, true, true, true, true, true, true, true, false, false, false, false, false]) rfl (by kernel_rfl) ?_
     simp only [putE, if_true]
     simp only [Act.put, List.setIfInBounds_toArray, List.set_cons_succ, List.set_cons_zero]
     refine tkH 14 ?_ hS (fun wx hx => ?_) ?_; rotate_left
     ·go_simp; try with_reducible rfl
     refine rdH 15 (fun K hK => ?_)
     go_simp
     have HI : Hid (Row (y1.alloc (.cells #[.int .i64 k0, .int .i64 k1, .int .i64 k2, .int .i64 k3, .int .i64 0] 40)) 0 5 1 (fun p => [k0, k1, k2, k3, 0].getD p 0) (.slice (some ⟨y1.heap.size, 0, none⟩) 1 1)) := row_lit5 y1 k0 k1 k2 k3 0 _
     have HD : Hid (DrB w b o len cap bx S (.slice a0 S.nc c0) (.slice a1 S.nl c1) (.slice a2 S.nw c2) (c + 1 + 4) (y1.alloc (.cells #[.int .i64 k0, .int .i64 k1, .int .i64 k2, .int .i64 k3, .int .i64 0] 40))) := HD.out.later (below_alloc _ _)
     refine hK.out _ _ trivial (fun hS => ?_)
     clear hK K
     generalize y1.alloc (.cells #[.int .i64 k0, .int .i64 k1, .int .i64 k2, .int .i64 k3, .int .i64 0] 40) = y2 at HD HI ⊢
     obtain ⟨i0, hi, hz0, hz1, hz2⟩ := info_parts info_Lock
     refine rdH 16 (fun K hK => ?_)
     refine step_appL 40 i0 (.agg #[.int .i64 0, .int .i64 0, .int .i64 0, .int .i64 0, .int .i64 0]) 5 40 (by rfl) _ _ 25 (by rfl) Tryz.underlying25 hi hz0 hz1 hz2 rfl (by omega) (by omega) _ (w.heap.size + 1) S.nl (nums S.l (S.nl * 5)) (.slice a1 S.nl c1) (by rfl) (own_m HD.out.own.1.2.1) 0 1 (fun p => [k0, k1, k2, k3, 0].getD p 0) (.slice (some ⟨y1.heap.size, 0, none⟩) 1 1) (by rfl) HI.out (by have := HZ.out; unfold Sz at this; omega) (by have := HD.out.but.size; have := HD.out.box.lt; have := HD.out.bl; omega) ?_
     intro ao5 cp5 y3 O5 G5 W5
     have HW : Hid (DrW w b o len cap bx ⟨S.nc, S.c, S.nl + 1, fun p => (nums S.l (S.nl * 5) ++ nums (fun p => [k0, k1, k2, k3, 0].getD p 0) (1 * 5)).getD p 0, S.nw, S.k⟩ (.slice a0 S.nc c0) (.slice ao5 (S.nl + 1) cp5) (.slice a2 S.nw c2) (.slice a0 S.nc c0) (.slice a1 S.nl c1) (.slice a2 S.nw c2) (c + 1 + 4) y3) := HD.out.app1 HZ.out O5 (by rw [List.length_append, nums_length, nums_length]; omega) G5 W5
     refine hK.out _ _ trivial (fun hS => ?_)
     clear hK K O5 G5 W5 HI HD hi hz0 hz1 hz2
     refine tkH 17 ?_ hS (fun wx hx => ?_) ?_; rotate_left
     ·go_simp; try with_reducible rfl
     obtain ⟨⟨t0, t1, t2⟩, f0, f1, f2⟩ := HW.out.box
     refine rdH 18 (fun K hK => ?_)
     go_simp
     have HF := hid_mk HW.out.store1
     refine hK.out _ _ trivial (fun hS => ?_)
     clear hK K t0 t1 t2 f0 f1 f2
     refine wpAnyH_done (by kernel_rfl) ?_ _
     go_simp
     go_wp2_with fail
     go_meet
     case rel => exact ⟨rfl, ⟨S.nc, S.c, S.nl + 1, fun p => (nums S.l (S.nl * 5) ++ nums (fun p => [k0, k1, k2, k3, 0].getD p 0) (1 * 5)).getD p 0, S.nw, S.k⟩, a0, c0, ao5, cp5, a2, c2, c + 1 + 4, ⟨by omega, by omega⟩, HF⟩
    | false =>
     refine wpAnyH_at (n' := 6) (L' := #[true, false, true, true, true, true, true, true, true, true, true, true, true, true, false, false, false, false, false]) rfl (by kernel_rfl) ?_
     simp only [putE, Bool.false_eq_true, if_false]
     simp only [Act.put, List.setIfInBounds_toArray, List.set_cons_succ, List.set_cons_zero]
     refine tkH 14 ?_ hS (fun wx hx => ?_) ?_; rotate_left
     ·go_simp; try with_reducible rfl
     simp only [Act.put, List.getElem_toArray, List.getElem_cons_zero, List.getElem_cons_succ, List.setIfInBounds_toArray, List.set_cons_succ, List.set_cons_zero]
     refine wpAnyH_ready (rs := [1, 15]) (by kernel_rfl) (by simp) ?_
     refine AllReadyH.cons rfl ?_ (AllReadyH.cons rfl ?_ AllReadyH.nil)
     ·intro K hK
      obtain ⟨⟨t0, t1, t2⟩, _⟩ := HD.out.box
      go_simp
      refine hK.out _ _ trivial (fun hS => ?_)
      clear hK K t0 t1 t2
      refine rdH 15 (fun K hK => ?_)
      go_simp
      have HI : Hid (Row (y1.alloc (.cells #[.int .i64 k0, .int .i64 k1, .int .i64 k2, .int .i64 k3, .int .i64 0] 40)) 0 5 1 (fun p => [k0, k1, k2, k3, 0].getD p 0) (.slice (some ⟨y1.heap.size, 0, none⟩) 1 1)) := row_lit5 y1 k0 k1 k2 k3 0 _
      have HD : Hid (DrB w b o len cap bx S (.slice a0 S.nc c0) (.slice a1 S.nl c1) (.slice a2 S.nw c2) (c + 1 + 4) (y1.alloc (.cells #[.int .i64 k0, .int .i64 k1, .int .i64 k2, .int .i64 k3, .int .i64 0] 40))) := HD.out.later (below_alloc _ _)
      refine hK.out _ _ trivial (fun hS => ?_)
      clear hK K
      generalize y1.alloc (.cells #[.int .i64 k0, .int .i64 k1, .int .i64 k2, .int .i64 k3, .int .i64 0] 40) = y2 at HD HI ⊢
      obtain ⟨i0, hi, hz0, hz1, hz2⟩ := info_parts info_Lock
      refine rdH 16 (fun K hK => ?_)
      refine step_appL 40 i0 (.agg #[.int .i64 0, .int .i64 0, .int .i64 0, .int .i64 0, .int .i64 0]) 5 40 (by rfl) _ _ 25 (by rfl) Tryz.underlying25 hi hz0 hz1 hz2 rfl (by omega) (by omega) _ (w.heap.size + 1) S.nl (nums S.l (S.nl * 5)) (.slice a1 S.nl c1) (by rfl) (own_m HD.out.own.1.2.1) 0 1 (fun p => [k0, k1, k2, k3, 0].getD p 0) (.slice (some ⟨y1.heap.size, 0, none⟩) 1 1) (by rfl) HI.out (by have := HZ.out; unfold Sz at this; omega) (by have := HD.out.but.size; have := HD.out.box.lt; have := HD.out.bl; omega) ?_
      intro ao5 cp5 y3 O5 G5 W5
      have HW : Hid (DrW w b o len cap bx ⟨S.nc, S.c, S.nl + 1, fun p => (nums S.l (S.nl * 5) ++ nums (fun p => [k0, k1, k2, k3, 0].getD p 0) (1 * 5)).getD p 0, S.nw, S.k⟩ (.slice a0 S.nc c0) (.slice ao5 (S.nl + 1) cp5) (.slice a2 S.nw c2) (.slice a0 S.nc c0) (.slice a1 S.nl c1) (.slice a2 S.nw c2) (c + 1 + 4) y3) := HD.out.app1 HZ.out O5 (by rw [List.length_append, nums_length, nums_length]; omega) G5 W5
      refine hK.out _ _ trivial (fun hS => ?_)
      clear hK K O5 G5 W5 HI HD hi hz0 hz1 hz2
      refine tkH 17 ?_ hS (fun wx hx => ?_) ?_; rotate_left
      ·go_simp; try with_reducible rfl
      obtain ⟨⟨t0, t1, t2⟩, f0, f1, f2⟩ := HW.out.box
      refine rdH 18 (fun K hK => ?_)
      go_simp
      have HF := hid_mk HW.out.store1
      refine hK.out _ _ trivial (fun hS => ?_)
      clear hK K t0 t1 t2 f0 f1 f2
      refine wpAnyH_done (by kernel_rfl) ?_ _
      go_simp
      go_wp2_with fail
      go_meet
      case rel => exact ⟨rfl, ⟨S.nc, S.c, S.nl + 1, fun p => (nums S.l (S.nl * 5) ++ nums (fun p => [k0, k1, k2, k3, 0].getD p 0) (1 * 5)).getD p 0, S.nw, S.k⟩, a0, c0, ao5, cp5, a2, c2, c + 1 + 4, ⟨by omega, by omega⟩, HF⟩
     ·intro K hK
      go_simp
      have HI : Hid (Row (y1.alloc (.cells #[.int .i64 k0, .int .i64 k1, .int .i64 k2, .int .i64 k3, .int .i64 0] 40)) 0 5 1 (fun p => [k0, k1, k2, k3, 0].getD p 0) (.slice (some ⟨y1.heap.size, 0, none⟩) 1 1)) := row_lit5 y1 k0 k1 k2 k3 0 _
      have HD : Hid (DrB w b o len cap bx S (.slice a0 S.nc c0) (.slice a1 S.nl c1) (.slice a2 S.nw c2) (c + 1 + 4) (y1.alloc (.cells #[.int .i64 k0, .int .i64 k1, .int .i64 k2, .int .i64 k3, .int .i64 0] 40))) := HD.out.later (below_alloc _ _)
      refine hK.out _ _ trivial (fun hS => ?_)
      clear hK K
      generalize y1.alloc (.cells #[.int .i64 k0, .int .i64 k1, .int .i64 k2, .int .i64 k3, .int .i64 0] 40) = y2 at HD HI ⊢
      refine rdH 1 (fun K hK => ?_)
      obtain ⟨⟨t0, t1, t2⟩, _⟩ := HD.out.box
      go_simp
      refine hK.out _ _ trivial (fun hS => ?_)
      clear hK K t0 t1 t2
      obtain ⟨i0, hi, hz0, hz1, hz2⟩ := info_parts info_Lock
      refine rdH 16 (fun K hK => ?_)
      refine step_appL 40 i0 (.agg #[.int .i64 0, .int .i64 0, .int .i64 0, .int .i64 0, .int .i64 0]) 5 40 (by rfl) _ _ 25 (by rfl) Tryz.underlying25 hi hz0 hz1 hz2 rfl (by omega) (by omega) _ (w.heap.size + 1) S.nl (nums S.l (S.nl * 5)) (.slice a1 S.nl c1) (by rfl) (own_m HD.out.own.1.2.1) 0 1 (fun p => [k0, k1, k2, k3, 0].getD p 0) (.slice (some ⟨y1.heap.size, 0, none⟩) 1 1) (by rfl) HI.out (by have := HZ.out; unfold Sz at this; omega) (by have := HD.out.but.size; have := HD.out.box.lt; have := HD.out.bl; omega) ?_
      intro ao5 cp5 y3 O5 G5 W5
      have HW : Hid (DrW w b o len cap bx ⟨S.nc, S.c, S.nl + 1, fun p => (nums S.l (S.nl * 5) ++ nums (fun p => [k0, k1, k2, k3, 0].getD p 0) (1 * 5)).getD p 0, S.nw, S.k⟩ (.slice a0 S.nc c0) (.slice ao5 (S.nl + 1) cp5) (.slice a2 S.nw c2) (.slice a0 S.nc c0) (.slice a1 S.nl c1) (.slice a2 S.nw c2) (c + 1 + 4) y3) := HD.out.app1 HZ.out O5 (by rw [List.length_append, nums_length, nums_length]; omega) G5 W5
      refine hK.out _ _ trivial (fun hS => ?_)
      clear hK K O5 G5 W5 HI HD hi hz0 hz1 hz2
      refine tkH 17 ?_ hS (fun wx hx => ?_) ?_; rotate_left
      ·go_simp; try with_reducible rfl
      obtain ⟨⟨t0, t1, t2⟩, f0, f1, f2⟩ := HW.out.box
      refine rdH 18 (fun K hK => ?_)
      go_simp
      have HF := hid_mk HW.out.store1
      refine hK.out _ _ trivial (fun hS => ?_)
      clear hK K t0 t1 t2 f0 f1 f2
      refine wpAnyH_done (by kernel_rfl) ?_ _
      go_simp
      go_wp2_with fail
      go_meet
      case rel => exact ⟨rfl, ⟨S.nc, S.c, S.nl + 1, fun p => (nums S.l (S.nl * 5) ++ nums (fun p => [k0, k1, k2, k3, 0].getD p 0) (1 * 5)).getD p 0, S.nw, S.k⟩, a0, c0, ao5, cp5, a2, c2, c + 1 + 4, ⟨by omega, by omega⟩, HF⟩
  ·go_wp2_with fail
   refine wp_region_held_drew (S := fun _ => True) (by kernel_rfl) trivial (fun hS => ?_)
   have HD : Hid (DrB w b o len cap bx S (.slice a0 S.nc c0) (.slice a1 S.nl c1) (.slice a2 S.nw c2) (c + 1) w3.drew) := HD.out.later (below_dr (Below.refl _ _) 1)
   generalize w3.drew = y0 at HD ⊢
   refine tkH 0 ?_ hS (fun wx hx => ?_) ?_; rotate_left
   ·go_simp; try with_reducible rfl
   refine tkH 2 ?_ hS (fun wx hx => ?_) ?_; rotate_left
   ·go_simp; try with_reducible rfl
   refine tkH 5 ?_ hS (fun wx hx => ?_) ?_; rotate_left
   ·go_simp; try with_reducible rfl
   refine tkH 8 ?_ hS (fun wx hx => ?_) ?_; rotate_left
   ·go_simp; try with_reducible rfl
   simp only [Act.put, List.getElem_toArray, List.getElem_cons_zero, List.getElem_cons_succ, List.setIfInBounds_toArray, List.set_cons_succ, List.set_cons_zero]
   refine wpAnyH_at (n' := 7 + 5) (L' := mkL [⟨3, 50, 4, 51, 49, [189, 5, 0]⟩, ⟨6, 53, 7, 54, 52, [5, 3]⟩, ⟨9, 56, 10, 57, 55, [1, 2, 4, 5]⟩] ⟨1, 48, .slice a2 S.nw c2⟩ #[true, false, true, false, false, true, false, false, true, false, false, false, false, false, false, false] [false, false, false] false 0) (by kernel_rfl) (by kernel_rfl) ?_
   refine wpAnyH_picks (H := fun x => Blk3 x bx (.slice a0 S.nc c0) (.slice a1 S.nl c1) (.slice a2 S.nw c2)) [⟨3, 50, 4, 51, 49, [189, 5, 0]⟩, ⟨6, 53, 7, 54, 52, [5, 3]⟩, ⟨9, 56, 10, 57, 55, [1, 2, 4, 5]⟩] ⟨1, 48, .slice a2 S.nw c2⟩ #[true, false, true, false, false, true, false, false, true, false, false, false, false, false, false, false] _ y0 b o len cap (c + 1) 5 (by kernel_rfl) (by kernel_rfl) (by kernel_rfl) ?ok ?ld ?sr (fun x x' h hT => h.butS hT (by have := HD.out.lo; have := HD.out.bl; omega)) (fun _ _ => trivial) (by show c + 1 + 3 ≤ 1000000; omega) hl ?cont 7 _ _ 0 _ _ (by kernel_rfl) (Stand.start HD.out.src HD.out.box)
   case ok =>
    intro p hp
    simp only [List.mem_cons, List.not_mem_nil, or_false] at hp
    rcases hp with rfl | rfl | rfl
    ·exact pkOk3 3 50 4 51 49 (189) (5) (0) _ _ rfl rfl rfl rfl rfl rfl rfl _ rfl
    ·exact pkOk2 6 53 7 54 52 (5) (3) _ _ rfl rfl rfl rfl rfl rfl rfl _ rfl
    ·exact pkOk4 9 56 10 57 55 (1) (2) (4) (5) _ _ rfl rfl rfl rfl rfl rfl rfl _ rfl
   case ld =>
    exact ⟨_, rfl, rfl, rfl, fun a' w' K hag hH hk => wp_loadS 26 (fun _ => by kernel_rfl) 47 rfl rfl bx 2 (by rw [hag 47 (by simp) (by simp)]; rfl) _ hH.1.2.2 hk⟩
   case sr =>
    intro p hp
    simp only [List.mem_cons, List.not_mem_nil, or_false] at hp
    rcases hp with rfl | rfl | rfl <;> rfl
   case cont =>
    intro e x r y1 hr hsrc hbut hH
    obtain ⟨k0, hk0⟩ : ∃ k, r ⟨3, 50, 4, 51, 49, [189, 5, 0]⟩ = k := ⟨_, rfl⟩
    obtain ⟨x0, hx0⟩ : ∃ k, x ⟨3, 50, 4, 51, 49, [189, 5, 0]⟩ = k := ⟨_, rfl⟩
    obtain ⟨k1, hk1⟩ : ∃ k, r ⟨6, 53, 7, 54, 52, [5, 3]⟩ = k := ⟨_, rfl⟩
    obtain ⟨x1, hx1⟩ : ∃ k, x ⟨6, 53, 7, 54, 52, [5, 3]⟩ = k := ⟨_, rfl⟩
    obtain ⟨k2, hk2⟩ : ∃ k, r ⟨9, 56, 10, 57, 55, [1, 2, 4, 5]⟩ = k := ⟨_, rfl⟩
    obtain ⟨x2, hx2⟩ : ∃ k, x ⟨9, 56, 10, 57, 55, [1, 2, 4, 5]⟩ = k := ⟨_, rfl⟩
    simp only [putAll, hk0, hx0, hk1, hx1, hk2, hx2]
    have HD : Hid (DrB w b o len cap bx S (.slice a0 S.nc c0) (.slice a1 S.nl c1) (.slice a2 S.nw c2) (c + 1 + 3) y1) := HD.out.step hbut hsrc
    clear hr hsrc hbut hH hk0 hx0 hk1 hx1 hk2 hx2
    cases e with
    | true =>
     refine wpAnyH_at (n' := 5) (L' := #[true, true, true, true, true, true, true, true, true, true, true, false, false, false, false, false]) rfl (by kernel_rfl) ?_
     simp only [putE, if_true]
     simp only [Act.put, List.setIfInBounds_toArray, List.set_cons_succ, List.set_cons_zero]
     refine tkH 11 ?_ hS (fun wx hx => ?_) ?_; rotate_left
     ·go_simp; try with_reducible rfl
     refine rdH 12 (fun K hK => ?_)
     go_simp
     have HI : Hid (Row (y1.alloc (.cells #[.int .i64 k0, .int .i64 k1, .int .i64 3, .int .i64 k2] 55)) 0 4 1 (fun p => [k0, k1, 3, k2].getD p 0) (.slice (some ⟨y1.heap.size, 0, none⟩) 1 1)) := row_lit4 y1 k0 k1 3 k2 _
     have HD : Hid (DrB w b o len cap bx S (.slice a0 S.nc c0) (.slice a1 S.nl c1) (.slice a2 S.nw c2) (c + 1 + 3) (y1.alloc (.cells #[.int .i64 k0, .int .i64 k1, .int .i64 3, .int .i64 k2] 55))) := HD.out.later (below_alloc _ _)
     refine hK.out _ _ trivial (fun hS => ?_)
     clear hK K
     generalize y1.alloc (.cells #[.int .i64 k0, .int .i64 k1, .int .i64 3, .int .i64 k2] 55) = y2 at HD HI ⊢
     obtain ⟨i0, hi, hz0, hz1, hz2⟩ := info_parts info_Write
     refine rdH 13 (fun K hK => ?_)
     refine step_appL 55 i0 (.agg #[.int .i64 0, .int .i64 0, .int .i64 0, .int .i64 0]) 4 32 (by rfl) _ _ 26 (by rfl) Tryz.underlying26 hi hz0 hz1 hz2 rfl (by omega) (by omega) _ (w.heap.size + 1) S.nw (nums S.k (S.nw * 4)) (.slice a2 S.nw c2) (by rfl) (own_m HD.out.own.1.2.2) 0 1 (fun p => [k0, k1, 3, k2].getD p 0) (.slice (some ⟨y1.heap.size, 0, none⟩) 1 1) (by rfl) HI.out (by have := HZ.out; unfold Sz at this; omega) (by have := HD.out.but.size; have := HD.out.box.lt; have := HD.out.bl; omega) ?_
     intro ao5 cp5 y3 O5 G5 W5
     have HW : Hid (DrW w b o len cap bx ⟨S.nc, S.c, S.nl, S.l, S.nw + 1, fun p => (nums S.k (S.nw * 4) ++ nums (fun p => [k0, k1, 3, k2].getD p 0) (1 * 4)).getD p 0⟩ (.slice a0 S.nc c0) (.slice a1 S.nl c1) (.slice ao5 (S.nw + 1) cp5) (.slice a0 S.nc c0) (.slice a1 S.nl c1) (.slice a2 S.nw c2) (c + 1 + 3) y3) := HD.out.app2 HZ.out O5 (by rw [List.length_append, nums_length, nums_length]; omega) G5 W5
     refine hK.out _ _ trivial (fun hS => ?_)
     clear hK K O5 G5 W5 HI HD hi hz0 hz1 hz2
     refine tkH 14 ?_ hS (fun wx hx => ?_) ?_; rotate_left
     ·go_simp; try with_reducible rfl
     obtain ⟨⟨t0, t1, t2⟩, f0, f1, f2⟩ := HW.out.box
     refine rdH 15 (fun K hK => ?_)
     go_simp
     have HF := hid_mk HW.out.store2
     refine hK.out _ _ trivial (fun hS => ?_)
     clear hK K t0 t1 t2 f0 f1 f2
     refine wpAnyH_done (by kernel_rfl) ?_ _
     go_simp
     go_wp2_with fail
     go_meet
     case rel => exact ⟨rfl, ⟨S.nc, S.c, S.nl, S.l, S.nw + 1, fun p => (nums S.k (S.nw * 4) ++ nums (fun p => [k0, k1, 3, k2].getD p 0) (1 * 4)).getD p 0⟩, a0, c0, a1, c1, ao5, cp5, c + 1 + 3, ⟨by omega, by omega⟩, HF⟩
    | false =>
     refine wpAnyH_at (n' := 6) (L' := #[true, false, true, true, true, true, true, true, true, true, true, false, false, false, false, false]) rfl (by kernel_rfl) ?_
     simp only [putE, Bool.false_eq_true, if_false]
     simp only [Act.put, List.setIfInBounds_toArray, List.set_cons_succ, List.set_cons_zero]
     refine tkH 11 ?_ hS (fun wx hx => ?_) ?_; rotate_left
     ·go_simp; try with_reducible rfl
     simp only [Act.put, List.getElem_toArray, List.getElem_cons_zero, List.getElem_cons_succ, List.setIfInBounds_toArray, List.set_cons_succ, List.set_cons_zero]
     refine wpAnyH_ready (rs := [1, 12]) (by kernel_rfl) (by simp) ?_
     refine AllReadyH.cons rfl ?_ (AllReadyH.cons rfl ?_ AllReadyH.nil)
     ·intro K hK
      obtain ⟨⟨t0, t1, t2⟩, _⟩ := HD.out.box
      go_simp
      refine hK.out _ _ trivial (fun hS => ?_)
      clear hK K t0 t1 t2
      refine rdH 12 (fun K hK => ?_)
      go_simp
      have HI : Hid (Row (y1.alloc (.cells #[.int .i64 k0, .int .i64 k1, .int .i64 3, .int .i64 k2] 55)) 0 4 1 (fun p => [k0, k1, 3, k2].getD p 0) (.slice (some ⟨y1.heap.size, 0, none⟩) 1 1)) := row_lit4 y1 k0 k1 3 k2 _
      have HD : Hid (DrB w b o len cap bx S (.slice a0 S.nc c0) (.slice a1 S.nl c1) (.slice a2 S.nw c2) (c + 1 + 3) (y1.alloc (.cells #[.int .i64 k0, .int .i64 k1, .int .i64 3, .int .i64 k2] 55))) := HD.out.later (below_alloc _ _)
      refine hK.out _ _ trivial (fun hS => ?_)
      clear hK K
      generalize y1.alloc (.cells #[.int .i64 k0, .int .i64 k1, .int .i64 3, .int .i64 k2] 55) = y2 at HD HI ⊢
      obtain ⟨i0, hi, hz0, hz1, hz2⟩ := info_parts info_Write
      refine rdH 13 (fun K hK => ?_)
      refine step_appL 55 i0 (.agg #[.int .i64 0, .int .i64 0, .int .i64 0, .int .i64 0]) 4 32 (by rfl) _ _ 26 (by rfl) Tryz.underlying26 hi hz0 hz1 hz2 rfl (by omega) (by omega) _ (w.heap.size + 1) S.nw (nums S.k (S.nw * 4)) (.slice a2 S.nw c2) (by rfl) (own_m HD.out.own.1.2.2) 0 1 (fun p => [k0, k1, 3, k2].getD p 0) (.slice (some ⟨y1.heap.size, 0, none⟩) 1 1) (by rfl) HI.out (by have := HZ.out; unfold Sz at this; omega) (by have := HD.out.but.size; have := HD.out.box.lt; have := HD.out.bl; omega) ?_
      intro ao5 cp5 y3 O5 G5 W5
      have HW : Hid (DrW w b o len cap bx ⟨S.nc, S.c, S.nl, S.l, S.nw + 1, fun p => (nums S.k (S.nw * 4) ++ nums (fun p => [k0, k1, 3, k2].getD p 0) (1 * 4)).getD p 0⟩ (.slice a0 S.nc c0) (.slice a1 S.nl c1) (.slice ao5 (S.nw + 1) cp5) (.slice a0 S.nc c0) (.slice a1 S.nl c1) (.slice a2 S.nw c2) (c + 1 + 3) y3) := HD.out.app2 HZ.out O5 (by rw [List.length_append, nums_length, nums_length]; omega) G5 W5
      refine hK.out _ _ trivial (fun hS => ?_)
      clear hK K O5 G5 W5 HI HD hi hz0 hz1 hz2
      refine tkH 14 ?_ hS (fun wx hx => ?_) ?_; rotate_left
      ·go_simp; try with_reducible rfl
      obtain ⟨⟨t0, t1, t2⟩, f0, f1, f2⟩ := HW.out.box
      refine rdH 15 (fun K hK => ?_)
      go_simp
      have HF := hid_mk HW.out.store2
      refine hK.out _ _ trivial (fun hS => ?_)
      clear hK K t0 t1 t2 f0 f1 f2
      refine wpAnyH_done (by kernel_rfl) ?_ _
      go_simp
      go_wp2_with fail
      go_meet
      case rel => exact ⟨rfl, ⟨S.nc, S.c, S.nl, S.l, S.nw + 1, fun p => (nums S.k (S.nw * 4) ++ nums (fun p => [k0, k1, 3, k2].getD p 0) (1 * 4)).getD p 0⟩, a0, c0, a1, c1, ao5, cp5, c + 1 + 3, ⟨by omega, by omega⟩, HF⟩
     ·intro K hK
      go_simp
      have HI : Hid (Row (y1.alloc (.cells #[.int .i64 k0, .int .i64 k1, .int .i64 3, .int .i64 k2] 55)) 0 4 1 (fun p => [k0, k1, 3, k2].getD p 0) (.slice (some ⟨y1.heap.size, 0, none⟩) 1 1)) := row_lit4 y1 k0 k1 3 k2 _
      have HD : Hid (DrB w b o len cap bx S (.slice a0 S.nc c0) (.slice a1 S.nl c1) (.slice a2 S.nw c2) (c + 1 + 3) (y1.alloc (.cells #[.int .i64 k0, .int .i64 k1, .int .i64 3, .int .i64 k2] 55))) := HD.out.later (below_alloc _ _)
      refine hK.out _ _ trivial (fun hS => ?_)
      clear hK K
      generalize y1.alloc (.cells #[.int .i64 k0, .int .i64 k1, .int .i64 3, .int .i64 k2] 55) = y2 at HD HI ⊢
      refine rdH 1 (fun K hK => ?_)
      obtain ⟨⟨t0, t1, t2⟩, _⟩ := HD.out.box
      go_simp
      refine hK.out _ _ trivial (fun hS => ?_)
      clear hK K t0 t1 t2
      obtain ⟨i0, hi, hz0, hz1, hz2⟩ := info_parts info_Write
      refine rdH 13 (fun K hK => ?_)
      refine step_appL 55 i0 (.agg #[.int .i64 0, .int .i64 0, .int .i64 0, .int .i64 0]) 4 32 (by rfl) _ _ 26 (by rfl) Tryz.underlying26 hi hz0 hz1 hz2 rfl (by omega) (by omega) _ (w.heap.size + 1) S.nw (nums S.k (S.nw * 4)) (.slice a2 S.nw c2) (by rfl) (own_m HD.out.own.1.2.2) 0 1 (fun p => [k0, k1, 3, k2].getD p 0) (.slice (some ⟨y1.heap.size, 0, none⟩) 1 1) (by rfl) HI.out (by have := HZ.out; unfold Sz at this; omega) (by have := HD.out.but.size; have := HD.out.box.lt; have := HD.out.bl; omega) ?_
      intro ao5 cp5 y3 O5 G5 W5
      have HW : Hid (DrW w b o len cap bx ⟨S.nc, S.c, S.nl, S.l, S.nw + 1, fun p => (nums S.k (S.nw * 4) ++ nums (fun p => [k0, k1, 3, k2].getD p 0) (1 * 4)).getD p 0⟩ (.slice a0 S.nc c0) (.slice a1 S.nl c1) (.slice ao5 (S.nw + 1) cp5) (.slice a0 S.nc c0) (.slice a1 S.nl c1) (.slice a2 S.nw c2) (c + 1 + 3) y3) := HD.out.app2 HZ.out O5 (by rw [List.length_append, nums_length, nums_length]; omega) G5 W5
      refine hK.out _ _ trivial (fun hS => ?_)
      clear hK K O5 G5 W5 HI HD hi hz0 hz1 hz2
      refine tkH 14 ?_ hS (fun wx hx => ?_) ?_; rotate_left
      ·go_simp; try with_reducible rfl
      obtain ⟨⟨t0, t1, t2⟩, f0, f1, f2⟩ := HW.out.box
      refine rdH 15 (fun K hK => ?_)
      go_simp
      have HF := hid_mk HW.out.store2
      refine hK.out _ _ trivial (fun hS => ?_)
      clear hK K t0 t1 t2 f0 f1 f2
      refine wpAnyH_done (by kernel_rfl) ?_ _
      go_simp
      go_wp2_with fail
      go_meet
      case rel => exact ⟨rfl, ⟨S.nc, S.c, S.nl, S.l, S.nw + 1, fun p => (nums S.k (S.nw * 4) ++ nums (fun p => [k0, k1, 3, k2].getD p 0) (1 * 4)).getD p 0⟩, a0, c0, a1, c1, ao5, cp5, c + 1 + 3, ⟨by omega, by omega⟩, HF⟩
  ·obtain ⟨⟨t0, t1, t2⟩, f0, f1, f2⟩ := HD.out.box
   by_cases hnc : 0 < S.nc
   ·have dn : decide (0 < S.nc) = true := decide_eq_true hnc
    have hcap : S.nc ≤ c0 := own_cap HD.out.own.1.1
    obtain ⟨g, oo, rfl, _⟩ := HD.out.own.st.1.at hnc
    have HT := HD.out.own.st.1.tailR 1 hcap
    have HF : Hid (DrF w b o len cap bx ⟨S.nc - 1, fun p => S.c (1 * 3 + p), S.nl, S.l, S.nw, S.k⟩ (.slice (if c0 = 1 then some ⟨g, oo, none⟩ else some ⟨g, oo + 1 * 3, none⟩) (S.nc - 1) (c0 - 1)) (.slice a1 S.nl c1) (.slice a2 S.nw c2) (c + 1) (w3.setCell ⟨bx, 0, none⟩ (.slice (if c0 = 1 then some ⟨g, oo, none⟩ else some ⟨g, oo + 1 * 3, none⟩) (S.nc - 1) (c0 - 1)))) := DrW.store0 (v := .slice (some ⟨g, oo, none⟩) S.nc c0) {
     src := HD.out.src
     but := HD.out.but
     res := HD.out.res
     box := HD.out.box
     st := ⟨HT, HD.out.own.st.2.1, HD.out.own.st.2.2⟩
     ne := fun u hu => by
      simp only [List.mem_cons, List.not_mem_nil, or_false] at hu
      rcases hu with rfl | rfl | rfl
      ·have := HD.out.ne (.slice (some ⟨g, oo, none⟩) S.nc c0) (by simp)
       split
       ·exact this
       ·simpa [Value.ownBlock] using this
      ·exact HD.out.ne _ (by simp)
      ·exact HD.out.ne _ (by simp)
     sz := ⟨by have := HZ.out.1; show S.nc - 1 ≤ 202; omega, by have := HZ.out.2.1; show S.nl ≤ 202; omega, by have := HZ.out.2.2; show S.nw ≤ 202; omega⟩
     bl := HD.out.bl
     base := HD.out.base }
    clear HT
    by_cases hc1 : c0 = 1
    ·rw [if_pos hc1] at HF
     rw [show S.nc - 1 = 0 by omega] at HF
     subst hc1
     go_wp2_with fail
     go_meet
     case rel => exact ⟨rfl, ⟨0, fun p => S.c (1 * 3 + p), S.nl, S.l, S.nw, S.k⟩, some ⟨g, oo, none⟩, 0, a1, c1, a2, c2, c + 1, ⟨by omega, by omega⟩, HF⟩
    ·rw [if_neg hc1] at HF
     have dc1 : (c0 == 1) = false := beq_eq_false_iff_ne.2 hc1
     go_wp2_with fail
     go_meet
     case rel => exact ⟨rfl, ⟨S.nc - 1, fun p => S.c (1 * 3 + p), S.nl, S.l, S.nw, S.k⟩, some ⟨g, oo + 3, none⟩, c0 - 1, a1, c1, a2, c2, c + 1, ⟨by omega, by omega⟩, HF⟩
   ·have dn : decide (0 < S.nc) = false := decide_eq_false hnc
    go_wp2_with fail
    go_meet
    case rel => exact ⟨rfl, S, a0, c0, a1, c1, a2, c2, _, ⟨by omega, by omega⟩, HD.out.f HZ.out⟩
  ·obtain ⟨⟨t0, t1, t2⟩, f0, f1, f2⟩ := HD.out.box
   have hmk : ∀ w : World, (Instr.makeSlice 26 (.int .i64 201) (.int .i64 201)).run Tryz.prog w = .ok (.slice (some ⟨w.heap.size, 0, none⟩) 201 201) (w.alloc (.cells (madeCells #[.int .i64 0, .int .i64 0, .int .i64 0, .int .i64 0] 804) 55)) := make_row Tryz.underlying26 info_Write 201 (by omega) (by omega)
   have hlb : bx < w3.heap.size := HD.out.box.lt
   have HB := HD.out.later (below_alloc w3 (.cells (madeCells #[.int .i64 0, .int .i64 0, .int .i64 0, .int .i64 0] 804) 55))
   have HF : Hid (DrF w b o len cap bx ⟨S.nc, S.c, S.nl, S.l, 201, fun _ => 0⟩ (.slice a0 S.nc c0) (.slice a1 S.nl c1) (.slice (some ⟨w3.heap.size, 0, none⟩) 201 201) (c + 1) ((w3.alloc (.cells (madeCells #[.int .i64 0, .int .i64 0, .int .i64 0, .int .i64 0] 804) 55)).setCell ⟨bx, 2, none⟩ (.slice (some ⟨w3.heap.size, 0, none⟩) 201 201))) := DrW.store2 (v := .slice a2 S.nw c2) {
     src := HB.src
     but := HB.but
     res := HB.res
     box := HB.box
     st := ⟨HB.own.st.1, HB.own.st.2.1, row_zeros w3 _ (by have := HD.out.bl; omega)⟩
     ne := fun u hu => by
      simp only [List.mem_cons, List.not_mem_nil, or_false] at hu
      rcases hu with rfl | rfl | rfl
      ·exact HD.out.ne _ (by simp)
      ·exact HD.out.ne _ (by simp)
      ·simp [Value.ownBlock]; omega
     sz := ⟨by have := HZ.out.1; show S.nc ≤ 202; omega, by have := HZ.out.2.1; show S.nl ≤ 202; omega, by show 201 ≤ 202; omega⟩
     bl := HD.out.bl
     base := HD.out.base }
   clear HB
   rw [World.setCell_alloc_past _ _ _ _ hlb] at HF
   go_wp2_with fail
   go_meet
   case rel => exact ⟨rfl, ⟨S.nc, S.c, S.nl, S.l, 201, fun _ => 0⟩, a0, c0, a1, c1, some ⟨w3.heap.size, 0, none⟩, 201, c + 1, ⟨by omega, by omega⟩, HF⟩
  ·have d0 : (sw == 0) = false := beq_eq_false_iff_ne.2 (by omega)
   have d1 : (sw == 1) = false := beq_eq_false_iff_ne.2 (by omega)
   have d2 : (sw == 2) = false := beq_eq_false_iff_ne.2 (by omega)
   have d3 : (sw == 3) = false := beq_eq_false_iff_ne.2 (by omega)
   have d4 : (sw == 4) = false := beq_eq_false_iff_ne.2 (by omega)
   go_wp2_with fail
   go_meet
   case rel => exact ⟨rfl, S, a0, c0, a1, c1, a2, c2, _, ⟨by omega, by omega⟩, HD.out.f HZ.out⟩
 case rest =>
  clear HD HZ
  obtain ⟨rfl, T, a0, c0, a1, c1, a2, c2, e, he, HF⟩ := hcut
  obtain ⟨⟨r0, r1, r2⟩, f0, f1, f2⟩ := HF.out.res
  obtain ⟨⟨t0, t1, t2⟩, _⟩ := HF.out.box
  go_wp2
  have hlo : (w.heap.size : Nat) < w.heap.size + 1 := by omega
  refine bodyPost_ret (v := .agg #[.slice a0 T.nc c0, .slice a1 T.nl c1, .slice a2 T.nw c2]) (by simp [results, Tryz.results68, go_sem, r0, r1, r2]) rfl ⟨T, a0, c0, a1, c1, a2, c2, e, rfl, ⟨HF.out.sz, by omega⟩, (((HF.out.st.far hlo _).far hlo _).far hlo _).mono (by omega), ?_, ?_⟩
  ·exact ((HF.out.src.setS H0.out HF.out.but (Nat.le_refl _) _ _).setS H0.out (HF.out.but.setS (Nat.le_refl _) _ _) (Nat.le_refl _) _ _).setS H0.out ((HF.out.but.setS (Nat.le_refl _) _ _).setS (Nat.le_refl _) _ _) (Nat.le_refl _) _ _
  ·exact ((HF.out.but.setS (Nat.le_refl _) _ _).setS (Nat.le_refl _) _ _).setS (Nat.le_refl _) _ _
end Go.Proofs.YtiadbiiiikhfaaaGreatDoor

namespace Go.Proofs.YtiadbiiiikhfaaaGreatDoor
open Go.RowKit

theorem wf_drawn {ts pt : Int} (h : 1 ≤ ts ∧ ts ≤ 40) (hp : pt ∈ [ts, ts, ts, 0]) : Wf pt := by
 have : pt = ts ∨ pt = 0 := by simpa using hp
 exact wf_small (by omega) (by omega)
theorem wf_lockS {S : Sto} (hz : storeF S = 0) {k : Nat} (hk : k < S.nl) : Wf (S.l (k * 5 + 1)) := by
 have := lockF_zero (scan_zero (storeF_zero hz).2.2.1 k hk)
 exact wf_small (by omega) (by omega)
theorem wf_writeS {S : Sto} (hz : storeF S = 0) {k : Nat} (hk : k < S.nw) {cm pt : Int} (hc : Wf cm) (hp : pt ∈ [S.k (k * 4 + 2), S.k (k * 4 + 1), cm]) : Wf pt := by
 have z := writeF_zero (scan_zero (storeF_zero hz).2.2.2.1 k hk)
 have : pt = S.k (k * 4 + 2) ∨ pt = S.k (k * 4 + 1) ∨ pt = cm := by simpa using hp
 rcases this with rfl | rfl | rfl
 ·exact wf_small (by omega) (by omega)
 ·exact wf_small (by omega) (by omega)
 ·exact hc
theorem Row.butX {w w' : World} {b B m n : Nat} {F : Nat → Int} {v : Value} (h : Row w B m n F v) (hT : But b w w') (hb : b < B) : Row w' B m n F v :=
 h.turned hT (fun hn k hk e => by have := (h.lt hn k hk).1; have := Option.some.inj e; omega)
/-- A drawn store in its box, the answer's block still empty. -/
structure DrX (w : World) (b : Nat) (o : Option Addr) (len cap bx : Nat) (S : Sto) (v0 v1 v2 : Value) (a : Int) (x : World) : Prop where
 src : Src x b o len cap a
 bel : Below w.heap.size w x
 res : Blk3 x w.heap.size (.slice none 0 0) (.slice none 0 0) (.slice none 0 0)
 box : Blk3 x bx v0 v1 v2
 st : St x (b + 1) S v0 v1 v2
 sz : Sz2 S
 lo : w.heap.size < b
 bl : b < bx
 base : ∃ (w0 : World) (z : Int), Src w0 b o len cap z ∧ But b w0 x ∧ w0.heap.size ≤ bx
theorem DrX.step {w : World} {b : Nat} {o : Option Addr} {len cap bx : Nat} {S : Sto} {v0 v1 v2 : Value} {a a' : Int} {x x' : World} (h : DrX w b o len cap bx S v0 v1 v2 a x) (hT : But b x x') (hS : Src x' b o len cap a') : DrX w b o len cap bx S v0 v1 v2 a' x' where
 src := hS
 bel := Below.but h.bel hT h.bel.size (Nat.le_of_lt h.lo)
 res := h.res.butS hT (by have := h.lo; omega)
 box := h.box.butS hT (by have := h.bl; omega)
 st := ⟨h.st.1.butX hT (Nat.lt_succ_self _), h.st.2.1.butX hT (Nat.lt_succ_self _), h.st.2.2.butX hT (Nat.lt_succ_self _)⟩
 sz := h.sz
 lo := h.lo
 bl := h.bl
 base := by
  obtain ⟨w0, z0, s0, t0, l0⟩ := h.base
  exact ⟨w0, z0, s0, t0.trans hT, l0⟩
theorem DrX.later {w : World} {b : Nat} {o : Option Addr} {len cap bx : Nat} {S : Sto} {v0 v1 v2 : Value} {a : Int} {x x' : World} (h : DrX w b o len cap bx S v0 v1 v2 a x) (hb : Below x.heap.size x x') : DrX w b o len cap bx S v0 v1 v2 a x' :=
 h.step ((But.refl _ _).below hb) (h.src.later hb)
/-- A block of five cells, none frozen. -/
def Blk5 (x : World) (b : Nat) (a0 a1 a2 a3 a4 : Value) : Prop := (x.cell? ⟨b, 0, none⟩ = some a0 ∧ x.cell? ⟨b, 1, none⟩ = some a1 ∧ x.cell? ⟨b, 2, none⟩ = some a2 ∧ x.cell? ⟨b, 3, none⟩ = some a3 ∧ x.cell? ⟨b, 4, none⟩ = some a4) ∧ x.frozen? ⟨b, 0, none⟩ = false ∧ x.frozen? ⟨b, 1, none⟩ = false ∧ x.frozen? ⟨b, 2, none⟩ = false ∧ x.frozen? ⟨b, 3, none⟩ = false ∧ x.frozen? ⟨b, 4, none⟩ = false
theorem Blk5.lt {x : World} {b : Nat} {a0 a1 a2 a3 a4 : Value} (h : Blk5 x b a0 a1 a2 a3 a4) : b < x.heap.size := World.block_lt_of_cell? x _ h.1.1
theorem Blk5.kept {x x' : World} {b : Nat} {a0 a1 a2 a3 a4 : Value} (h : Blk5 x b a0 a1 a2 a3 a4) (hb : x'.heap[b]? = x.heap[b]?) : Blk5 x' b a0 a1 a2 a3 a4 := by
 obtain ⟨⟨h0, h1, h2, h3, h4⟩, f0, f1, f2, f3, f4⟩ := h
 exact ⟨⟨(World.cell?_of_block (w := x) (a := ⟨b, 0, none⟩) hb).trans h0, (World.cell?_of_block (w := x) (a := ⟨b, 1, none⟩) hb).trans h1, (World.cell?_of_block (w := x) (a := ⟨b, 2, none⟩) hb).trans h2, (World.cell?_of_block (w := x) (a := ⟨b, 3, none⟩) hb).trans h3, (World.cell?_of_block (w := x) (a := ⟨b, 4, none⟩) hb).trans h4⟩,
  (World.frozen?_of_block (w := x) (a := ⟨b, 0, none⟩) hb).trans f0, (World.frozen?_of_block (w := x) (a := ⟨b, 1, none⟩) hb).trans f1, (World.frozen?_of_block (w := x) (a := ⟨b, 2, none⟩) hb).trans f2, (World.frozen?_of_block (w := x) (a := ⟨b, 3, none⟩) hb).trans f3, (World.frozen?_of_block (w := x) (a := ⟨b, 4, none⟩) hb).trans f4⟩
theorem Blk5.new (w : World) (a0 a1 a2 a3 a4 : Value) (t : TypeId) : Blk5 (w.alloc (.cells #[a0, a1, a2, a3, a4] t)) w.heap.size a0 a1 a2 a3 a4 := by
 refine ⟨⟨World.cell?_alloc_mark w _ _ _ 0, World.cell?_alloc_mark w _ _ _ 1, World.cell?_alloc_mark w _ _ _ 2, World.cell?_alloc_mark w _ _ _ 3, World.cell?_alloc_mark w _ _ _ 4⟩, ?_, ?_, ?_, ?_, ?_⟩ <;> simp
theorem Blk5.put {x : World} {b : Nat} {a0 a1 a2 a3 a4 : Value} (h : Blk5 x b a0 a1 a2 a3 a4) (c0 c1 c2 c3 c4 : Value) : Blk5 (((((x.setCell ⟨b, 0, none⟩ c0).setCell ⟨b, 1, none⟩ c1).setCell ⟨b, 2, none⟩ c2).setCell ⟨b, 3, none⟩ c3).setCell ⟨b, 4, none⟩ c4) b c0 c1 c2 c3 c4 := by
 obtain ⟨⟨h0, h1, h2, h3, h4⟩, f0, f1, f2, f3, f4⟩ := h
 have o : ∀ {y : World} {i j : Nat} {u v : Value}, i ≠ j → y.cell? ⟨b, i, none⟩ = some u → (y.setCell ⟨b, j, none⟩ v).cell? ⟨b, i, none⟩ = some u := fun hn hu => (World.cell?_setCell_other _ _ _ _ (fun e => hn (congrArg Addr.off e).symm)).trans hu
 refine ⟨⟨?_, ?_, ?_, ?_, ?_⟩, by simpa using f0, by simpa using f1, by simpa using f2, by simpa using f3, by simpa using f4⟩
 ·exact o (by decide) (o (by decide) (o (by decide) (o (by decide) (World.cell?_setCell_same _ _ _ h0))))
 ·exact o (by decide) (o (by decide) (o (by decide) (World.cell?_setCell_same _ _ _ (o (by decide) h1))))
 ·exact o (by decide) (o (by decide) (World.cell?_setCell_same _ _ _ (o (by decide) (o (by decide) h2))))
 ·exact o (by decide) (World.cell?_setCell_same _ _ _ (o (by decide) (o (by decide) (o (by decide) h3))))
 ·exact World.cell?_setCell_same _ _ _ (o (by decide) (o (by decide) (o (by decide) (o (by decide) h4))))
theorem within_setX (x : World) (b j : Nat) (u : Value) : Within b (b + 1) x (x.setCell ⟨b, j, none⟩ u) := ⟨rfl, rfl, rfl, by simp [World.setCell], fun q _ ho => Below.heap_setCell x ⟨b, j, none⟩ u q (by show q ≠ b; omega)⟩
/-- A cell is set in a block behind the store's box and rows. -/
theorem DrX.setK {w : World} {b : Nat} {o : Option Addr} {len cap bx : Nat} {S : Sto} {v0 v1 v2 : Value} {a : Int} {x : World} (h : DrX w b o len cap bx S v0 v1 v2 a x) {c : Nat} (hn : OwnIn S v0 v1 v2 (fun k => k < c)) (hc : bx < c) (j : Nat) (u : Value) : DrX w b o len cap bx S v0 v1 v2 a (x.setCell ⟨c, j, none⟩ u) := by
 have lo := h.lo
 have bl := h.bl
 obtain ⟨w0, z0, s0, t0, l0⟩ := h.base
 exact {
  src := h.src.setS s0 t0 (by omega) j u
  bel := h.bel.setCell (by show w.heap.size ≤ c; omega) _
  res := h.res.kept (Below.heap_setCell _ _ _ _ (by show w.heap.size ≠ c; omega))
  box := h.box.kept (Below.heap_setCell _ _ _ _ (by show bx ≠ c; omega))
  st := h.st.within (within_setX x c j u) (hn.mono (fun k hk => Or.inl hk))
  sz := h.sz
  lo := lo
  bl := bl
  base := ⟨w0, z0, s0, t0.setS (by omega) j u, l0⟩ }
/-- The answer's block is laid: the store stands. -/
theorem DrX.out {w : World} {b : Nat} {o : Option Addr} {len cap bx : Nat} {S : Sto} {v0 v1 v2 : Value} {a : Int} {x : World} (h : DrX w b o len cap bx S v0 v1 v2 a x) (u0 u1 u2 : Value) :
  BoxS bx v0 v1 v2 (((x.setCell ⟨w.heap.size, 0, none⟩ u0).setCell ⟨w.heap.size, 1, none⟩ u1).setCell ⟨w.heap.size, 2, none⟩ u2) ∧ Blk3 (((x.setCell ⟨w.heap.size, 0, none⟩ u0).setCell ⟨w.heap.size, 1, none⟩ u1).setCell ⟨w.heap.size, 2, none⟩ u2) w.heap.size u0 u1 u2 ∧ St (((x.setCell ⟨w.heap.size, 0, none⟩ u0).setCell ⟨w.heap.size, 1, none⟩ u1).setCell ⟨w.heap.size, 2, none⟩ u2) w.heap.size S v0 v1 v2 ∧ Below w.heap.size w (((x.setCell ⟨w.heap.size, 0, none⟩ u0).setCell ⟨w.heap.size, 1, none⟩ u1).setCell ⟨w.heap.size, 2, none⟩ u2) := by
 have lo := h.lo
 have bl := h.bl
 have hf : ∀ j, (⟨w.heap.size, j, none⟩ : Addr).block < b + 1 := fun j => by show w.heap.size < b + 1; omega
 refine ⟨((h.box.setFar (by show bx ≠ w.heap.size; omega) _).setFar (by show bx ≠ w.heap.size; omega) _).setFar (by show bx ≠ w.heap.size; omega) _, ((h.res.set0 u0).set1 u1).set2 u2, (((h.st.far (hf 0) _).far (hf 1) _).far (hf 2) _).mono (by omega), ?_⟩
 exact ((h.bel.setCell (Nat.le_refl _) _).setCell (Nat.le_refl _) _).setCell (Nat.le_refl _) _
end Go.Proofs.YtiadbiiiikhfaaaGreatDoor

