/-
  Own text. Chapter 5: the program's iterator over grants: for every loop body that writes into no oracle and no grant, it tells the plain list of the grants.
-/
import Derived.Test.YtbljhkhpfhphgaaOrcD
import Derived.Test.YtbljhkhpfhphgaaLoopO
namespace Go.Proofs.Ytbljhkhpfhphgaa
open Go.RowKit Go.Shelf
attribute [local go_sem] Oper.semAt_some

/-- A block of cells of a type. -/
def Blok (W : World) (g : Nat) (t : TypeId) (cs : Array Value) : Prop := W.heap[g]? = some (.cells cs t (0, 0))
theorem Blok.lt {W : World} {g : Nat} {t : TypeId} {cs : Array Value} (h : Blok W g t cs) : g < W.heap.size := (Array.getElem?_eq_some_iff.1 h).1
theorem Blok.cell {W : World} {g : Nat} {t : TypeId} {cs : Array Value} (h : Blok W g t cs) {k : Nat} {v : Value} (hv : cs[k]? = some v) : W.cell? ⟨g, k, none⟩ = some v := by simp [World.cell?, show W.heap[g]? = _ from h, hv]
theorem Blok.frozen {W : World} {g : Nat} {t : TypeId} {cs : Array Value} (h : Blok W g t cs) (k : Nat) : W.frozen? ⟨g, k, none⟩ = false := by simp [World.frozen?, show W.heap[g]? = _ from h]
theorem Blok.new (W : World) (t : TypeId) (cs : Array Value) : Blok (W.alloc (.cells cs t)) W.heap.size t cs := World.alloc_heap_new W _
theorem Blok.kept {W W' : World} {row : Option Nat} {g : Nat} {t : TypeId} {cs : Array Value} (h : Blok W g t cs) (hg : W.grownBy W' row) (hne : some g ≠ row) : Blok W' g t cs := (hg.block g h.lt hne).trans h
theorem Blok.later {W W' : World} {B g : Nat} {t : TypeId} {cs : Array Value} (h : Blok W g t cs) (hb : Below B W W') (hg : g < B) : Blok W' g t cs := (hb.block g hg).trans h
theorem Blok.alloc {W : World} {g : Nat} {t : TypeId} {cs : Array Value} (h : Blok W g t cs) (o : Obj) : Blok (W.alloc o) g t cs := h.kept (World.grownBy_alloc W o none) (by simp)
theorem Blok.set {W : World} {g : Nat} {t : TypeId} {cs : Array Value} (h : Blok W g t cs) (k : Nat) (v : Value) : Blok (W.setCell ⟨g, k, none⟩ v) g t (cs.setIfInBounds k v) := by
  obtain ⟨hlt, hk⟩ := Array.getElem?_eq_some_iff.1 h
  show (W.heap.modify g _)[g]? = _
  rw [Array.getElem?_eq_getElem (by rw [Array.size_modify]; exact hlt), Array.getElem_modify_self, hk]
  rfl
theorem grown_set (W : World) (g k : Nat) (v : Value) : W.grownBy (W.setCell ⟨g, k, none⟩ v) (some g) :=
  ⟨rfl, rfl, rfl, (KeepsWalks.setCell W _ v).size, fun j _ hj => Below.heap_setCell _ _ _ j (fun e => hj (by rw [e]))⟩
theorem Blok.other {W : World} {g g' : Nat} {t : TypeId} {cs : Array Value} (h : Blok W g t cs) (hne : g ≠ g') (k : Nat) (v : Value) : Blok (W.setCell ⟨g', k, none⟩ v) g t cs := h.kept (grown_set W g' k v) (fun e => hne (by cases e; rfl))
theorem grown_of_below {W W' : World} (h : Below W.heap.size W W') : W.grownBy W' none := ⟨h.os, h.tape, h.output, h.size, fun k hk _ => h.block k hk⟩

/-- What the iterator asks of a loop's body: oracles and grants lie as they lay. -/
def Keep (W W' : World) : Prop := ∀ (k : Nat) (cs : Array Value) (t : TypeId), t = 25 ∨ t = 33 → Blok W k t cs → Blok W' k t cs
theorem Keep.trans {A B C : World} (h : Keep A B) (k : Keep B C) : Keep A C := fun i cs t ht hb => k i cs t ht (h i cs t ht hb)
theorem Keep.put (W : World) (l : Nat) (o o' : Obj) (hl : W.heap[l]? = some o) (ho : o.isCells = false) : Keep W (W.putObj l o') := fun i cs t _ hb =>
  (World.putObj_heap_other (fun e => by subst e; rw [show W.heap[i]? = _ from hb] at hl; cases hl; cases ho)).trans hb

def encQ (q : Q4) : Value := .agg #[.int .i64 q.1, .int .i64 q.2.1, .int .i64 q.2.2.1, .int .i64 q.2.2.2]
theorem enc_gq (x y : Int) : encQ (gq x y) = .agg #[.int .i64 (grantC x y), .int .i64 (grantT x y), .int .i64 (grantN x y), .int .i64 (grantB x y)] := rfl

set_option maxHeartbeats 1000000 in
theorem grants_any (a b m : Int) (n : Nat) (w : World) :
    CallsIn Fence.wide n Try.prog 30 #[.agg #[.int .i64 a, .int .i64 b], .int .i64 m] w fun e w' => e = .returned (.func (.func 41) #[] #[.pointer (some ⟨w.heap.size, 0, none⟩), .pointer (some ⟨w.heap.size + 1, 0, none⟩)]) ∧ w' = (w.alloc (.cells #[.int .i64 a, .int .i64 b] 25)).alloc (.cells #[.int .i64 m] 2) := by
  refine callsIn_wide.2 ?_
  go_enter Try.func30, Try.ntmps30
  go_wp2
  go_ret
  exact ⟨rfl, rfl⟩

set_option maxRecDepth 100000 in
set_option maxHeartbeats 2000000 in
theorem grants1_tells (a b : Int) (N n : Nat) (bo bn : Nat) (w : World) (hn : 1 ≤ n) (h : oFault a b = 0) (hN : N ≤ 100) (ho : bo < w.heap.size) (hbn : bn < w.heap.size)
    (c0 : w.cell? ⟨bo, 0, none⟩ = some (.int .i64 a)) (c1 : w.cell? ⟨bo, 1, none⟩ = some (.int .i64 b)) (c2 : w.cell? ⟨bn, 0, none⟩ = some (.int .i64 N)) :
    Tells Try.prog 41 #[.pointer (some ⟨bo, 0, none⟩), .pointer (some ⟨bn, 0, none⟩)] encQ 25 Keep (fun xs => xs = gl N a b) (fun pre => pre <+: gl N a b) N n w := by
  intro l J Jx W hW hJ hY h0
  have d0 : W.cell? ⟨bo, 0, none⟩ = some (.int .i64 a) := (hW.cell (p := ⟨bo, 0, none⟩) ho).trans c0
  have d1 : W.cell? ⟨bo, 1, none⟩ = some (.int .i64 b) := (hW.cell (p := ⟨bo, 1, none⟩) ho).trans c1
  have d2 : W.cell? ⟨bn, 0, none⟩ = some (.int .i64 N) := (hW.cell (p := ⟨bn, 0, none⟩) hbn).trans c2
  have hbo : bo < W.heap.size := Nat.lt_of_lt_of_le ho hW.size
  have hbnn : bn < W.heap.size := Nat.lt_of_lt_of_le hbn hW.size
  clear c0 c1 c2 hW ho hbn
  show CallsIn Fence.wide n Try.prog 41 #[.func (.yield l) #[] #[], .pointer (some ⟨bo, 0, none⟩), .pointer (some ⟨bn, 0, none⟩)] W _
  refine callsIn_of_wp Try.func41 rfl trivial ?_ rfl
  simp only [Try.ntmps41, List.size_toArray, List.length_cons, List.length_nil, Nat.reduceAdd, Nat.reduceSub, Array.replicate_succ, Array.replicate_zero, List.push_toArray, List.append_toArray, List.nil_append, List.cons_append]
  gi_wp2
  gi_loopw [8] (fun i wr => ∃ (pre : List Q4) (x y : Int) (m : Nat), i = .int .i64 (N - m : Int) ∧ m ≤ N ∧ Hid (gl N a b = pre ++ gl m x y ∧ oFault x y = 0) ∧ Hid (Blok wr W.heap.size 25 #[.int .i64 x, .int .i64 y]) ∧ Hid (J pre wr)) (fun i _ => (N - intOf i : Int).toNat)
  case atStart =>
    refine ⟨[], a, b, N, by go_num, Nat.le_refl _, ⟨rfl, h⟩, Blok.new W _ _, hJ.alloc _ h0⟩
  case round =>
    obtain ⟨pre, x, y, m, rfl, hm, hG, hL, hJs⟩ := hrel
    have b0 : wr.cell? ⟨W.heap.size, 0, none⟩ = some (.int .i64 x) := hL.out.cell (k := 0) rfl
    have b1 : wr.cell? ⟨W.heap.size, 1, none⟩ = some (.int .i64 y) := hL.out.cell (k := 1) rfl
    have hz := hL.out.lt
    match m, hm, hG with
    | 0, _, hG =>
      gi_wp2
      go_end0
      exact ⟨⟨_, rfl⟩, .inl ⟨pre, by have := hG.out.1; simpa [gl] using this.symm, hJs.out⟩⟩
    | m + 1, hm, hG =>
      have HT : Hid (∀ w, Calls Try.prog 14 #[.agg #[.int .i64 x, .int .i64 y]] w fun e w' => e = .returned (.agg #[.int .i64 (grantC x y), .int .i64 (grantT x y), .int .i64 (grantN x y), .int .i64 (grantB x y)]) ∧ Below w.heap.size w w') := fun w => implGrantTs_ok x y w hG.out.2
      have hpl : pre.length < N := by
        have k1 := gl_le N a b
        rw [hG.out.1, gl] at k1
        simp at k1
        omega
      obtain ⟨q, hq⟩ : ∃ q, gq x y = q := ⟨_, rfl⟩
      have e0 : grantC x y = q.1 := by rw [← hq]; rfl
      have e1 : grantT x y = q.2.1 := by rw [← hq]; rfl
      have e2 : grantN x y = q.2.2.1 := by rw [← hq]; rfl
      have e3 : grantB x y = q.2.2.2 := by rw [← hq]; rfl
      have HG : Hid ((q.1 = 0 → gl N a b = (pre ++ [q]) ++ gl m q.2.2.1 q.2.2.2 ∧ oFault q.2.2.1 q.2.2.2 = 0) ∧ (q.1 ≠ 0 → gl N a b = pre ++ [q]) ∧ pre ++ [q] <+: gl N a b) := by
        obtain ⟨g0, g1⟩ := hG.out
        refine ⟨fun hc => ?_, fun hc => ?_, ?_⟩
        · rw [← e0] at hc
          rw [gl_good hc, hq, e2, e3] at g0
          exact ⟨by rw [g0]; simp, by rw [← e2, ← e3]; exact grant_next g1 hc⟩
        · rw [← e0] at hc
          rw [gl_bad hc, hq] at g0
          exact g0
        · rw [gl, hq] at g0
          rw [g0]
          exact ⟨_, by rw [List.append_assoc]; rfl⟩
      rw [e0, e1, e2, e3] at HT
      clear e0 e1 e2 e3 hq hG
      obtain ⟨q0, q1, q2, q3⟩ := q
      gi_wp2_with fail
      refine ⟨trivial, (callsIn_wide.2 (HT.out _)).mono ?_⟩
      rintro e w2 ⟨rfl, r2⟩
      have hL2 : Hid (Blok w2 W.heap.size 25 #[.int .i64 x, .int .i64 y]) := hL.out.later r2 hz
      have hJ2 : J pre (w2.alloc (.cells #[.int .i64 q0, .int .i64 q1, .int .i64 q2, .int .i64 q3] 33)) := hJ.alloc _ (hJ pre wr w2 none hJs.out (grown_of_below r2) (fun r e => by cases e))
      have hz2 : W.heap.size < w2.heap.size := hL2.out.lt
      clear r2 b0 b1 hL hJs
      obtain ⟨fn, tmps, assign, body, hy, hR⟩ := hY pre (q0, q1, q2, q3) _ hJ2 hpl
      dsimp only [encQ] at hy
      clear hJ2
      gi_wp2
      refine hR.mono ?_
      rintro e W3 (⟨rfl, hJ3, hk3⟩ | ⟨rfl, hJx3⟩)
      · have hL3 : Blok W3 W.heap.size 25 #[.int .i64 x, .int .i64 y] := hk3 _ _ _ (Or.inl rfl) (hL2.out.alloc _)
        have hQ3 : Blok W3 w2.heap.size 33 #[.int .i64 q0, .int .i64 q1, .int .i64 q2, .int .i64 q3] := hk3 _ _ _ (Or.inr rfl) (Blok.new _ _ _)
        have l0 : W3.cell? ⟨W.heap.size, 0, none⟩ = some (.int .i64 x) := hL3.cell (k := 0) rfl
        have l1 : W3.cell? ⟨W.heap.size, 1, none⟩ = some (.int .i64 y) := hL3.cell (k := 1) rfl
        have lf0 := hL3.frozen 0
        have lf1 := hL3.frozen 1
        have t0 : W3.cell? ⟨w2.heap.size, 0, none⟩ = some (.int .i64 q0) := hQ3.cell (k := 0) rfl
        have t2 : W3.cell? ⟨w2.heap.size, 2, none⟩ = some (.int .i64 q2) := hQ3.cell (k := 2) rfl
        have t3 : W3.cell? ⟨w2.heap.size, 3, none⟩ = some (.int .i64 q3) := hQ3.cell (k := 3) rfl
        have HL3 : Hid (Blok W3 W.heap.size 25 #[.int .i64 x, .int .i64 y]) := hL3
        have HJ3 : Hid (J (pre ++ [(q0, q1, q2, q3)]) W3) := hJ3
        clear hk3 hL3 hQ3 hJ3 hL2 hy hR
        by_cases hc : q0 = 0
        · have G2 := HG.out.1 hc
          have HG2 : Hid (gl N a b = (pre ++ [(q0, q1, q2, q3)]) ++ gl m q2 q3 ∧ oFault q2 q3 = 0) := G2
          clear G2 HG
          subst hc
          gi_wp2
          go_roundw
          case rel =>
            refine ⟨pre ++ [(0, q1, q2, q3)], q2, q3, m, by go_num, by omega, HG2, ?_, ?_⟩
            · exact (HL3.out.set 0 (.int .i64 q2)).set 1 (.int .i64 q3)
            · have k1 := hJ _ _ _ (some W.heap.size) HJ3.out (grown_set W3 W.heap.size 0 (.int .i64 q2)) (fun r e => by cases e; exact ⟨Nat.le_refl _, _, HL3.out, _, _, rfl⟩)
              exact hJ _ _ _ (some W.heap.size) k1 (grown_set _ W.heap.size 1 (.int .i64 q3)) (fun r e => by cases e; exact ⟨Nat.le_refl _, _, HL3.out.set 0 (.int .i64 q2), _, _, rfl⟩)
          case measure => simp [intOf]; omega
        · have G2 := HG.out.2.1 hc
          have HG2 : Hid (gl N a b = pre ++ [(q0, q1, q2, q3)]) := G2
          have d0 : (q0 != 0) = true := by rw [bne_iff_ne]; exact hc
          clear G2 HG hc
          gi_wp2
          refine bodyPost_ret (results_none rfl _ _ _) rfl ?_
          exact ⟨⟨_, rfl⟩, .inl ⟨_, HG2.out.symm, HJ3.out⟩⟩
      · gi_wp2
        refine bodyPost_ret (results_none rfl _ _ _) rfl ?_
        exact ⟨⟨_, rfl⟩, .inr ⟨_, HG.out.2.2, hJx3⟩⟩
end Go.Proofs.Ytbljhkhpfhphgaa
