/-
  Own text. The laws' helpers over a transaction: to lays an equal one in new memory, sz tells how much room is left, eq that two equal ones are equal.
-/
import Derived.Test.YtjimckfkbkfggaaTxnA
import Derived.Test.YtjimckfkbkfggaaTxnC
namespace Go.Proofs.Ytjimckfkbkfggaa
open Go.RowKit

set_option maxRecDepth 100000 in
set_option maxHeartbeats 2000000 in
theorem toTxn_any (s c u st a : Int) (n : Nat) (F : Nat → Int) (y : Value) (B : Nat) (w : World) (h : Row w B 3 n F y) (hn : n ≤ 1048576) :
    Calls Try.prog 20 #[.agg #[.int .i64 s, .int .i64 c, .int .i64 u, .int .i64 st, .int .i64 a, y]] w fun e w' => ∃ jo, e = .returned (.agg #[.int .i64 s, .int .i64 c, .int .i64 u, .int .i64 st, .int .i64 a, .slice jo n n]) ∧ Row w' w.heap.size 3 n F (.slice jo n n) ∧ Free w' (n * 3) (.slice jo n n) ∧ Below w.heap.size w w' := by
  obtain ⟨ao, cp, rfl⟩ := h.form
  have H : Hid (Row w B 3 n F (.slice ao n cp)) := h
  clear h
  go_enter Try.func20, Try.ntmps20
  go_wp2_with fail
  refine (toItemS_cap _ B n F _ ?_ hn).mono ?_
  · exact ((H.out.alloc _).alloc _).alloc _
  rintro e w1 ⟨jo, rfl, r1, f1, q1⟩
  have k2 := ((Blk6.new (w.alloc (.cells #[.int .i64 s, .int .i64 c, .int .i64 u, .int .i64 st, .int .i64 a, .slice ao n cp] 43)) (.int .i64 0) (.int .i64 0) (.int .i64 0) (.int .i64 0) (.int .i64 0) (.slice none 0 0) 29).alloc (.cells #[.int .i64 s, .int .i64 c, .int .i64 u, .int .i64 st, .int .i64 a, .slice none 0 0] 29)).later q1
  have k3 := (Blk6.new ((w.alloc (.cells #[.int .i64 s, .int .i64 c, .int .i64 u, .int .i64 st, .int .i64 a, .slice ao n cp] 43)).alloc (.cells #[.int .i64 0, .int .i64 0, .int .i64 0, .int .i64 0, .int .i64 0, .slice none 0 0] 29)) (.int .i64 s) (.int .i64 c) (.int .i64 u) (.int .i64 st) (.int .i64 a) (.slice none 0 0) 29).later q1
  simp only [World.size_alloc] at k2 k3 r1 q1
  have B1 : Hid (Below w.heap.size w w1) := (((below_alloc w _).alloc (by simp) _).alloc (by simp; omega) _).trans (q1.mono (by omega))
  have R1 : Hid (Row w1 (w.heap.size + 3) 3 n F (.slice jo n n) ∧ Free w1 (n * 3) (.slice jo n n)) := ⟨r1, f1⟩
  obtain ⟨⟨x0, x1, x2, x3, x4, x5⟩, y0, y1, y2, y3, y4, y5⟩ := k2
  obtain ⟨⟨p0, p1, p2, p3, p4, p5⟩, z0, z1, z2, z3, z4, z5⟩ := k3
  clear q1 r1 f1
  go_wp2
  refine bodyPost_ret (v := .agg #[.int .i64 s, .int .i64 c, .int .i64 u, .int .i64 st, .int .i64 a, .slice jo n n]) (by simp [results, Try.results20, go_sem, x0, x1, x2, x3, x4, x5]) rfl ⟨jo, rfl, ?_, ?_, ?_⟩
  · exact (((((((R1.out.1.far (Or.inl (by simp)) _).far (Or.inl (by simp)) _).far (Or.inl (by simp)) _).far (Or.inl (by simp)) _).far (Or.inl (by simp)) _).far (Or.inl (by simp)) _).far (Or.inl (by simp)) _).mono (by omega)
  · exact ((((((R1.out.2.far _ _).far _ _).far _ _).far _ _).far _ _).far _ _).far _ _
  · exact ((((((B1.out.setCell (by simp; omega) _).setCell (by simp) _).setCell (by simp) _).setCell (by simp) _).setCell (by simp) _).setCell (by simp) _).setCell (by simp) _
set_option maxHeartbeats 1000000 in
theorem szTxn_ok (s c u st a : Int) (ao : Option Addr) (n cp : Nat) (left : Int) (w : World) (h : (n : Int) ≤ left) (h2 : left ≤ 1048576) :
    Calls Try.prog 18 #[.agg #[.int .i64 s, .int .i64 c, .int .i64 u, .int .i64 st, .int .i64 a, .slice ao n cp], .int .i64 left] w fun e w' => e = .returned (.int .i64 (left - n)) ∧ Below w.heap.size w w' := by
  have d : decide (left - n < 0) = false := decide_eq_false (by omega)
  go_enter Try.func18, Try.ntmps18
  go_wp2_with fail
  refine (szItemS_ok _ _ _ _ _ h h2).mono ?_
  rintro e w1 ⟨rfl, rfl⟩
  go_wp2
  go_ret
  exact ⟨rfl, below_alloc _ _⟩
set_option maxHeartbeats 1000000 in
theorem szTxn_no (s c u st a : Int) (ao : Option Addr) (n cp : Nat) (left : Int) (w : World) (h : left < n) (h0 : 0 ≤ left) (h2 : left ≤ 1048576) (hn : n ≤ 9223372036854775807) :
    Calls Try.prog 18 #[.agg #[.int .i64 s, .int .i64 c, .int .i64 u, .int .i64 st, .int .i64 a, .slice ao n cp], .int .i64 left] w fun e w' => e = .returned (.int .i64 (-1)) ∧ Below w.heap.size w w' := by
  go_enter Try.func18, Try.ntmps18
  go_wp2_with fail
  refine (szItemS_no _ _ _ _ _ h h0 h2 hn).mono ?_
  rintro e w1 ⟨rfl, rfl⟩
  go_wp2
  go_ret
  exact ⟨rfl, below_alloc _ _⟩
set_option maxHeartbeats 1000000 in
theorem eqTxn_same (s c u st a : Int) (n : Nat) (F : Nat → Int) (y y' : Value) (B B' : Nat) (w : World) (h : Row w B 3 n F y) (h' : Row w B' 3 n F y') (hn : n ≤ 1048576) :
    Calls Try.prog 21 #[.agg #[.int .i64 s, .int .i64 c, .int .i64 u, .int .i64 st, .int .i64 a, y], .agg #[.int .i64 s, .int .i64 c, .int .i64 u, .int .i64 st, .int .i64 a, y']] w fun e w' => e = .returned (.bool true) ∧ Below w.heap.size w w' := by
  obtain ⟨ao, cp, rfl⟩ := h.form
  obtain ⟨bo, cq, rfl⟩ := h'.form
  have H : Hid (Row w B 3 n F (.slice ao n cp) ∧ Row w B' 3 n F (.slice bo n cq)) := ⟨h, h'⟩
  clear h h'
  go_enter Try.func21, Try.ntmps21
  go_wp2_with fail
  refine (eqItemS_same _ _ B B' n F _ ((H.out.1.alloc _).alloc _) ((H.out.2.alloc _).alloc _) hn).mono ?_
  rintro e w1 ⟨rfl, q1⟩
  have Q : Hid (Below w.heap.size w w1) := ((below_alloc _ _).alloc (by simp) _).trans (q1.mono (by simp; omega))
  clear q1
  go_wp2
  go_ret
  exact ⟨rfl, Q.out⟩
/-- The box of the law's transaction, and that nothing old has turned; and one box more. -/
def OneT (w : World) (v0 v1 v2 v3 v4 v5 : Value) (x : World) : Prop := Below w.heap.size w x ∧ Blk6 x w.heap.size v0 v1 v2 v3 v4 v5
theorem OneT.later {w x x' : World} {v0 v1 v2 v3 v4 v5 : Value} (h : OneT w v0 v1 v2 v3 v4 v5 x) (hb : Below x.heap.size x x') : OneT w v0 v1 v2 v3 v4 v5 x' := ⟨h.1.trans (hb.mono h.1.size), h.2.later hb⟩
theorem OneT.new (w : World) (v0 v1 v2 v3 v4 v5 : Value) : OneT w v0 v1 v2 v3 v4 v5 (w.alloc (.cells #[v0, v1, v2, v3, v4, v5] 43)) := ⟨below_alloc _ _, Blk6.new w _ _ _ _ _ _ _⟩
def TwoT (w : World) (v0 v1 v2 v3 v4 v5 : Value) (g : Nat) (x0 x1 x2 x3 x4 x5 : Value) (x : World) : Prop := OneT w v0 v1 v2 v3 v4 v5 x ∧ Blk6 x g x0 x1 x2 x3 x4 x5
theorem TwoT.later {w x x' : World} {v0 v1 v2 v3 v4 v5 : Value} {g : Nat} {x0 x1 x2 x3 x4 x5 : Value} (h : TwoT w v0 v1 v2 v3 v4 v5 g x0 x1 x2 x3 x4 x5 x) (hb : Below x.heap.size x x') : TwoT w v0 v1 v2 v3 v4 v5 g x0 x1 x2 x3 x4 x5 x' := ⟨h.1.later hb, h.2.later hb⟩
theorem capOk_nn (jo : Option Addr) (n : Nat) : CapOk (.slice jo n n) := fun _ _ _ h => by
  simp only [Value.slice.injEq] at h
  omega
end Go.Proofs.Ytjimckfkbkfggaa
