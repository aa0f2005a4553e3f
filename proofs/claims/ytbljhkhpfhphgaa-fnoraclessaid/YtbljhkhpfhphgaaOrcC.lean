/-
  Own text. Chapter 5: the walks of the exact laws over an oracle whose answers own no memory.
-/
import Derived.Test.YtbljhkhpfhphgaaOrcB
namespace Go.Proofs.Ytbljhkhpfhphgaa
open Go.RowKit

/-- A block that holds two numbers. -/
def Duo (w : World) (g : Nat) (a b : Int) : Prop := w.cell? ⟨g, 0, none⟩ = some (.int .i64 a) ∧ w.cell? ⟨g, 1, none⟩ = some (.int .i64 b) ∧ g < w.heap.size
theorem Duo.later {w w' : World} {g B : Nat} {a b : Int} (h : Duo w g a b) (hb : Below B w w') (hg : g < B) : Duo w' g a b :=
  ⟨(hb.cell (p := ⟨g, 0, none⟩) hg).trans h.1, (hb.cell (p := ⟨g, 1, none⟩) hg).trans h.2.1, Nat.lt_of_lt_of_le h.2.2 hb.size⟩
theorem Duo.new (w : World) (a b : Int) (t : TypeId) : Duo (w.alloc (.cells #[.int .i64 a, .int .i64 b] t)) w.heap.size a b := ⟨by simp, by simp, by simp⟩
/-- A block that holds a result. -/
def Quad (w : World) (g : Nat) (c t a b : Int) : Prop := w.cell? ⟨g, 0, none⟩ = some (.int .i64 c) ∧ w.cell? ⟨g, 1, none⟩ = some (.int .i64 t) ∧ w.cell? ⟨g, 2, none⟩ = some (.int .i64 a) ∧ w.cell? ⟨g, 3, none⟩ = some (.int .i64 b) ∧ g < w.heap.size
theorem Quad.later {w w' : World} {g B : Nat} {c t a b : Int} (h : Quad w g c t a b) (hb : Below B w w') (hg : g < B) : Quad w' g c t a b :=
  ⟨(hb.cell (p := ⟨g, 0, none⟩) hg).trans h.1, (hb.cell (p := ⟨g, 1, none⟩) hg).trans h.2.1, (hb.cell (p := ⟨g, 2, none⟩) hg).trans h.2.2.1, (hb.cell (p := ⟨g, 3, none⟩) hg).trans h.2.2.2.1, Nat.lt_of_lt_of_le h.2.2.2.2 hb.size⟩
theorem Quad.new (w : World) (c t a b : Int) (y : TypeId) : Quad (w.alloc (.cells #[.int .i64 c, .int .i64 t, .int .i64 a, .int .i64 b] y)) w.heap.size c t a b := ⟨by simp, by simp, by simp, by simp, by simp⟩

set_option maxHeartbeats 1000000 in
theorem exactOracleFault_walk (a b : Int) (w : World) :
    Calls Try.prog 4 #[.agg #[.int .i64 a, .int .i64 b]] w fun e w' => e = .returned (.bool true) ∧ Below w.heap.size w w' := by
  obtain ⟨c, HS, HI⟩ : ∃ c, Hid (∀ w, Calls Try.prog 16 #[.agg #[.int .i64 a, .int .i64 b]] w fun e w' => e = .returned (.int .i64 c) ∧ Below w.heap.size w w') ∧ Hid (∀ w, Calls Try.prog 15 #[.agg #[.int .i64 a, .int .i64 b]] w fun e w' => e = .returned (.int .i64 c) ∧ w' = w.alloc (.cells #[.int .i64 a, .int .i64 b] 25)) :=
    ⟨_, fun w => specOracleFault_any a b w, fun w => implOracleFault_any a b w⟩
  have HT : Hid (∀ w, Calls Try.prog 17 #[.agg #[.int .i64 a, .int .i64 b]] w fun e w' => e = .returned (.agg #[.int .i64 a, .int .i64 b]) ∧ Below w.heap.size w w') := fun w => toOracle_any a b w
  go_enter Try.func4, Try.ntmps4
  go_wp2_with fail
  refine (HT.out _).mono ?_
  rintro e w1 ⟨rfl, b1⟩
  have D : Hid (Duo w1 w.heap.size a b) := (Duo.new w a b _).later b1 (by simp)
  have B1 : Hid (Below w.heap.size w w1) := ((Below.refl _ _).alloc (Nat.le_refl _) _).trans (b1.mono (by simp))
  clear b1
  go_wp2_with fail
  refine (HS.out _).mono ?_
  rintro e w2 ⟨rfl, b2⟩
  replace D : Hid (Duo w2 w.heap.size a b) := D.out.later b2 D.out.2.2
  replace B1 : Hid (Below w.heap.size w w2) := B1.out.trans (b2.mono B1.out.size)
  clear b2
  obtain ⟨t0, t1, t2⟩ := D.out
  go_wp2_with fail
  refine (HT.out _).mono ?_
  rintro e w3 ⟨rfl, b3⟩
  replace B1 : Hid (Below w.heap.size w w3) := B1.out.trans (b3.mono B1.out.size)
  clear b3
  go_wp2_with fail
  refine (HI.out _).mono ?_
  rintro e w4 ⟨rfl, rfl⟩
  go_wp2
  go_ret
  exact ⟨rfl, B1.out.alloc B1.out.size _⟩

/-- Both answer one and the same: what the walk of a law over one oracle needs. -/
def OneAns (f g : FuncId) (a b : Int) : Prop := ∃ c t x y, Hid (∀ w, Calls Try.prog f #[.agg #[.int .i64 a, .int .i64 b]] w fun e w' => e = .returned (.agg #[.int .i64 c, .int .i64 t, .int .i64 x, .int .i64 y]) ∧ Below w.heap.size w w') ∧ Hid (∀ w, Calls Try.prog g #[.agg #[.int .i64 a, .int .i64 b]] w fun e w' => e = .returned (.agg #[.int .i64 c, .int .i64 t, .int .i64 x, .int .i64 y]) ∧ Below w.heap.size w w')

set_option maxHeartbeats 1000000 in
theorem exactGrantTs_walk (a b : Int) (w : World) (ans : OneAns 21 14 a b) :
    Calls Try.prog 6 #[.agg #[.int .i64 a, .int .i64 b]] w fun e w' => e = .returned (.bool true) ∧ Below w.heap.size w w' := by
  obtain ⟨c, t, x, y, HS, HI⟩ := ans
  have HT : Hid (∀ w, Calls Try.prog 17 #[.agg #[.int .i64 a, .int .i64 b]] w fun e w' => e = .returned (.agg #[.int .i64 a, .int .i64 b]) ∧ Below w.heap.size w w') := fun w => toOracle_any a b w
  have HE : Hid (∀ w, Calls Try.prog 20 #[.agg #[.int .i64 c, .int .i64 t, .int .i64 x, .int .i64 y], .agg #[.int .i64 c, .int .i64 t, .int .i64 x, .int .i64 y]] w fun e w' => e = .returned (.bool true) ∧ Below w.heap.size w w') := fun w => eqOracleResult_same c t x y w
  go_enter Try.func6, Try.ntmps6
  go_wp2_with fail
  refine (HT.out _).mono ?_
  rintro e w1 ⟨rfl, b1⟩
  have D : Hid (Duo w1 w.heap.size a b) := (Duo.new w a b _).later b1 (by simp)
  have B1 : Hid (Below w.heap.size w w1) := ((Below.refl _ _).alloc (Nat.le_refl _) _).trans (b1.mono (by simp))
  clear b1
  go_wp2_with fail
  refine (HS.out _).mono ?_
  rintro e w2 ⟨rfl, b2⟩
  replace D : Hid (Duo w2 w.heap.size a b) := D.out.later b2 D.out.2.2
  replace B1 : Hid (Below w.heap.size w w2) := B1.out.trans (b2.mono B1.out.size)
  clear b2
  obtain ⟨t0, t1, t2⟩ := D.out
  go_wp2_with fail
  refine (HT.out _).mono ?_
  rintro e w3 ⟨rfl, b3⟩
  have Q : Hid (Quad w3 w2.heap.size c t x y) := (Quad.new w2 c t x y _).later b3 (by simp)
  replace B1 : Hid (Below w.heap.size w w3) := (B1.out.alloc B1.out.size _).trans (b3.mono (Nat.le_trans B1.out.size (by simp)))
  clear b3 D t0 t1 t2
  go_wp2_with fail
  refine (HI.out _).mono ?_
  rintro e w4 ⟨rfl, b4⟩
  replace Q : Hid (Quad w4 w2.heap.size c t x y) := Q.out.later b4 Q.out.2.2.2.2
  replace B1 : Hid (Below w.heap.size w w4) := B1.out.trans (b4.mono B1.out.size)
  clear b4
  obtain ⟨q0, q1, q2, q3, q4⟩ := Q.out
  go_wp2_with fail
  refine (HE.out _).mono ?_
  rintro e w5 ⟨rfl, b5⟩
  replace B1 : Hid (Below w.heap.size w w5) := (B1.out.alloc B1.out.size _).trans (b5.mono (Nat.le_trans B1.out.size (by simp)))
  clear b5 Q q0 q1 q2 q3 q4
  go_wp2
  go_ret
  exact ⟨rfl, B1.out⟩
set_option maxHeartbeats 1000000 in
theorem exactCrash_walk (a b : Int) (w : World) (ans : OneAns 22 13 a b) :
    Calls Try.prog 7 #[.agg #[.int .i64 a, .int .i64 b]] w fun e w' => e = .returned (.bool true) ∧ Below w.heap.size w w' := by
  obtain ⟨c, t, x, y, HS, HI⟩ := ans
  have HT : Hid (∀ w, Calls Try.prog 17 #[.agg #[.int .i64 a, .int .i64 b]] w fun e w' => e = .returned (.agg #[.int .i64 a, .int .i64 b]) ∧ Below w.heap.size w w') := fun w => toOracle_any a b w
  have HE : Hid (∀ w, Calls Try.prog 20 #[.agg #[.int .i64 c, .int .i64 t, .int .i64 x, .int .i64 y], .agg #[.int .i64 c, .int .i64 t, .int .i64 x, .int .i64 y]] w fun e w' => e = .returned (.bool true) ∧ Below w.heap.size w w') := fun w => eqOracleResult_same c t x y w
  go_enter Try.func7, Try.ntmps7
  go_wp2_with fail
  refine (HT.out _).mono ?_
  rintro e w1 ⟨rfl, b1⟩
  have D : Hid (Duo w1 w.heap.size a b) := (Duo.new w a b _).later b1 (by simp)
  have B1 : Hid (Below w.heap.size w w1) := ((Below.refl _ _).alloc (Nat.le_refl _) _).trans (b1.mono (by simp))
  clear b1
  go_wp2_with fail
  refine (HS.out _).mono ?_
  rintro e w2 ⟨rfl, b2⟩
  replace D : Hid (Duo w2 w.heap.size a b) := D.out.later b2 D.out.2.2
  replace B1 : Hid (Below w.heap.size w w2) := B1.out.trans (b2.mono B1.out.size)
  clear b2
  obtain ⟨t0, t1, t2⟩ := D.out
  go_wp2_with fail
  refine (HT.out _).mono ?_
  rintro e w3 ⟨rfl, b3⟩
  have Q : Hid (Quad w3 w2.heap.size c t x y) := (Quad.new w2 c t x y _).later b3 (by simp)
  replace B1 : Hid (Below w.heap.size w w3) := (B1.out.alloc B1.out.size _).trans (b3.mono (Nat.le_trans B1.out.size (by simp)))
  clear b3 D t0 t1 t2
  go_wp2_with fail
  refine (HI.out _).mono ?_
  rintro e w4 ⟨rfl, b4⟩
  replace Q : Hid (Quad w4 w2.heap.size c t x y) := Q.out.later b4 Q.out.2.2.2.2
  replace B1 : Hid (Below w.heap.size w w4) := B1.out.trans (b4.mono B1.out.size)
  clear b4
  obtain ⟨q0, q1, q2, q3, q4⟩ := Q.out
  go_wp2_with fail
  refine (HE.out _).mono ?_
  rintro e w5 ⟨rfl, b5⟩
  replace B1 : Hid (Below w.heap.size w w5) := (B1.out.alloc B1.out.size _).trans (b5.mono (Nat.le_trans B1.out.size (by simp)))
  clear b5 Q q0 q1 q2 q3 q4
  go_wp2
  go_ret
  exact ⟨rfl, B1.out⟩
theorem grantTs_ans (a b : Int) : OneAns 21 14 a b := by
  by_cases h : oFault a b = 0
  · exact ⟨_, _, _, _, fun w => specGrantTs_ok a b w h, fun w => implGrantTs_ok a b w h⟩
  · exact ⟨_, _, _, _, fun w => specGrantTs_bad a b w h, fun w => implGrantTs_bad a b w h⟩
theorem crash_ans (a b : Int) : OneAns 22 13 a b := by
  by_cases h : oFault a b = 0
  · exact ⟨_, _, _, _, fun w => specCrash_ok a b w h, fun w => implCrash_ok a b w h⟩
  · exact ⟨_, _, _, _, fun w => specCrash_bad a b w h, fun w => implCrash_bad a b w h⟩

set_option maxHeartbeats 1000000 in
theorem exactNewOracle_walk (f : Int) (w : World) :
    Calls Try.prog 5 #[.int .i64 f] w fun e w' => e = .returned (.bool true) ∧ Below w.heap.size w w' := by
  obtain ⟨c, t, x, y, HS, HI⟩ : ∃ c t x y, Hid (∀ w, Calls Try.prog 18 #[.int .i64 f] w fun e w' => e = .returned (.agg #[.int .i64 c, .int .i64 t, .int .i64 x, .int .i64 y]) ∧ Below w.heap.size w w') ∧ Hid (∀ w, Calls Try.prog 19 #[.int .i64 f] w fun e w' => e = .returned (.agg #[.int .i64 c, .int .i64 t, .int .i64 x, .int .i64 y]) ∧ Below w.heap.size w w') :=
    ⟨_, _, _, _, fun w => specNewOracle_any f w, fun w => implNewOracle_any f w⟩
  have HE : Hid (∀ w, Calls Try.prog 20 #[.agg #[.int .i64 c, .int .i64 t, .int .i64 x, .int .i64 y], .agg #[.int .i64 c, .int .i64 t, .int .i64 x, .int .i64 y]] w fun e w' => e = .returned (.bool true) ∧ Below w.heap.size w w') := fun w => eqOracleResult_same c t x y w
  go_enter Try.func5, Try.ntmps5
  go_wp2_with fail
  refine (HS.out _).mono ?_
  rintro e w2 ⟨rfl, b2⟩
  have B1 : Hid (Below w.heap.size w w2) := b2
  clear b2
  go_wp2_with fail
  refine (HI.out _).mono ?_
  rintro e w4 ⟨rfl, b4⟩
  have Q : Hid (Quad w4 w2.heap.size c t x y) := (Quad.new w2 c t x y _).later b4 (by simp)
  replace B1 : Hid (Below w.heap.size w w4) := (B1.out.alloc B1.out.size _).trans (b4.mono (Nat.le_trans B1.out.size (by simp)))
  clear b4
  obtain ⟨q0, q1, q2, q3, q4⟩ := Q.out
  go_wp2_with fail
  refine (HE.out _).mono ?_
  rintro e w5 ⟨rfl, b5⟩
  replace B1 : Hid (Below w.heap.size w w5) := (B1.out.alloc B1.out.size _).trans (b5.mono (Nat.le_trans B1.out.size (by simp)))
  clear b5 Q q0 q1 q2 q3 q4
  go_wp2
  go_ret
  exact ⟨rfl, B1.out⟩

end Go.Proofs.Ytbljhkhpfhphgaa
